/-
  MERGED: my texts MatchMost, MatchImpl, MatchImplB, AnyOf, MatchImplC, Big, LawT, WFnGeneral, one behind the other, as they are. By an AI agent.
-/
import Derived.Test.YthbhiihhanochaaMFnGeneral5
import Derived.Deep.WholeRow
import Derived.Shelf.Abstract
import Derived.Deep.QuietTactic
import Derived.BigQuiet
section
/-
  CONTRACTS: spec.MostGeneral. Conditions: the slices read as lists ('Seg', 'Segs'), at most 1048576 numbers. (The regions' walks by wip/tools/reg.py.) By an AI agent.
-/
namespace Go.Proofs.Ythbhiihhanochaa.matchMost
open Go.RowKit Go.Proofs.Ythbhiihhanochaa.base Go.Proofs.Ythbhiihhanochaa.ints Go.Proofs.Ythbhiihhanochaa.sig Go.Proofs.Ythbhiihhanochaa.term Go.Proofs.Ythbhiihhanochaa.termOk Go.Proofs.Ythbhiihhanochaa.endAt Go.Proofs.Ythbhiihhanochaa.inside Go.Proofs.Ythbhiihhanochaa.marks Go.Proofs.Ythbhiihhanochaa.app Go.Proofs.Ythbhiihhanochaa.sym Go.Proofs.Ythbhiihhanochaa.segs Go.Proofs.Ythbhiihhanochaa.segsHelp Go.Proofs.Ythbhiihhanochaa.termFacts Go.Proofs.Ythbhiihhanochaa.renMath Go.Proofs.Ythbhiihhanochaa.varsOf Go.Proofs.Ythbhiihhanochaa.variant Go.Proofs.Ythbhiihhanochaa.pathSpec Go.Proofs.Ythbhiihhanochaa.matchMath Go.Proofs.Ythbhiihhanochaa.matchSpec Go.Proofs.Ythbhiihhanochaa.matchList
set_option maxRecDepth 100000

/-- what speaks against i at k -/
def hitB (sg : List Int) (ps : List (List Int)) (i k : Nat) : Bool := moreB sg (ps.getD k []) (ps.getD i []) || (decide (k < i) && variantB sg (ps.getD k []) (ps.getD i []))
def bestK (sg : List Int) (ps : List (List Int)) (i : Nat) : Nat → Bool
  | 0 => true
  | k + 1 => bestK sg ps i k && !hitB sg ps i k
theorem bestK_all {sg : List Int} {ps : List (List Int)} {i : Nat} : ∀ k, bestK sg ps i k = (List.range k).all fun j => !hitB sg ps i j
  | 0 => rfl
  | k + 1 => by
    rw [List.range_succ, List.all_append, ← bestK_all k]
    simp [bestK]
theorem bestK_best {sg : List Int} {ps : List (List Int)} {i : Nat} : bestK sg ps i ps.length = bestB sg ps i := by rw [bestK_all]; rfl
def mgN (sg : List Int) (ps : List (List Int)) : Nat → List Int
  | 0 => []
  | i + 1 => mgN sg ps i ++ (if bestB sg ps i = true then [(i : Int)] else [])
theorem mg_len {sg : List Int} {ps : List (List Int)} : ∀ k, (mgN sg ps k).length ≤ k
  | 0 => by simp [mgN]
  | k + 1 => by
    have := mg_len (sg := sg) (ps := ps) k
    simp only [mgN, List.length_append]
    split <;> simp <;> omega
def mgI (sg : List Int) (ps : List (List Int)) : List Int := if allB sg ps = true then mgN sg ps ps.length else []

def HeadMg (w : World) (A : Option Addr) (n c : Nat) (sg : List Int) (P : Option Addr) (pn : Nat) (ps : List (List Int)) (g : Nat) (out k : Value) (wr : World) : Prop :=
  ∃ (i : Nat) (O : Option Addr) (on oc : Nat), k = .int .i64 i ∧ i + g = pn ∧ out = .slice O on oc ∧ Own wr (w.heap.size + 1) (.slice O on oc) (mgN sg ps i) ∧ Fs w wr A n c sg P pn ps
def InMg (w : World) (A : Option Addr) (n c : Nat) (sg : List Int) (P : Option Addr) (pn : Nat) (ps : List (List Int)) (i : Nat) (O : Option Addr) (on oc : Nat) (g : Nat) (best k : Value) (wr : World) : Prop :=
  ∃ j : Nat, k = .int .i64 j ∧ j + g = pn ∧ best = .bool (bestK sg ps i j) ∧ Own wr (w.heap.size + 1) (.slice O on oc) (mgN sg ps i) ∧ Fs w wr A n c sg P pn ps

set_option maxHeartbeats 4000000 in
theorem specMostGeneral (A P : Option Addr) (n c pn pc : Nat) (sg : List Int) (ps : List (List Int)) (w : World) (h : Seg w w.heap.size A n sg) (hp : Segs w w.heap.size P pn ps) (hn : n ≤ 1048576) (htot : tot ps ≤ 1048576) :
    Calls Try.prog 30 #[.agg #[.slice A n c], .slice P pn pc] w (AnsList w (mgI sg ps)) := by
  obtain ⟨W, hW⟩ : ∃ W, W = (w.alloc (.cells #[.slice A n c] 26)).alloc (.cells #[] 2) := ⟨_, rfl⟩
  have f : Fs w W A n c sg P pn ps := by rw [hW]; exact (Fs.start h hp).alloc _
  have ow : Own W (w.heap.size + 1) (.slice (some ⟨w.heap.size + 1, 0, none⟩) 0 0) [] := by
    rw [hW]
    have := own_empty (w.alloc (.cells #[.slice A n c] 26)) (w.heap.size + 1) (by simp)
    simpa using this
  have HW := Lib.hid hW
  have HL := Lib.hid hp.1
  have HE := Lib.hid (tot_each htot)
  have cA := f.cell
  have cA0 : ((w.alloc (.cells #[.slice A n c] 26)).alloc (.cells #[] 2)).cell? ⟨w.heap.size, 0, none⟩ = some (.slice A n c) := by rw [← hW]; exact cA
  have LP := Lib.hid (l4All A P n c pn pc sg ps W f.s1 (f.s'.more (Nat.le_of_lt f.size)) hn htot)
  clear hW h hp htot
  cases hall : allB sg ps with
  | false =>
    have HS := Lib.hid hall
    have HF := Lib.hid (show mgI sg ps = [] by unfold mgI; rw [if_neg (by rw [hall]; simp)])
    clear hall
    go_enter Try.func30, Try.ntmps30
    go_wp2_with fail
    rw [← HW.out]
    refine LP.out.mono ?_
    rintro e w1 ⟨he, bb⟩
    rw [HS.out] at he
    subst he
    have F := Lib.hid (list_of (w := w) HF.out (Own.next ow bb) (Nat.le_succ _) (f.next bb).b)
    clear f ow bb LP cA cA0
    go_wp2
    go_ret
    exact F.out
  | true =>
    have HSP := Lib.hid hall
    have hp12 : pn ≤ 12 := by have h1 := (all_parts hall).2.1; rw [HL.out] at h1; exact h1
    have HF := Lib.hid (show mgI sg ps = mgN sg ps pn by unfold mgI; rw [if_pos hall, HL.out])
    clear hall
    go_enter Try.func30, Try.ntmps30
    go_wp2_with fail
    rw [← HW.out]
    refine LP.out.mono ?_
    rintro e w1 ⟨he, bb⟩
    rw [HSP.out] at he
    subst he
    have S0 : HeadMg w A n c sg P pn ps pn (.slice (some ⟨w.heap.size + 1, 0, none⟩) 0 0) (.int .i64 0) w1 := ⟨0, _, 0, 0, rfl, by omega, rfl, Own.next ow bb, f.next bb⟩
    have HS0 := Lib.hid S0
    clear S0 f ow bb cA cA0 LP
    go_wp2_with fail
    go_loopg [5, 6] pn (fun g out k wr => HeadMg w A n c sg P pn ps g out k wr)
    case atStart => exact HS0.out
    case round =>
      obtain ⟨i, O, on, oc, rfl, hi, rfl, ho, f⟩ := hrel
      obtain ⟨G, hG⟩ : ∃ G, G = gk := ⟨_, rfl⟩
      subst hG
      clear HS0
      have HI := Lib.hid hi
      clear hi
      have hon : on ≤ 12 := by have h1 := Own.len ho; have h2 := mg_len (sg := sg) (ps := ps) i; have := HI.out; omega
      by_cases hip : i < pn
      · have hGk := Lib.hid (show G - 1 < G ∧ i + 1 + (G - 1) = pn by have := HI.out; omega)
        have HS1 := Lib.hid (show InMg w A n c sg P pn ps i O on oc pn (.bool true) (.int .i64 0) wr from ⟨0, rfl, by omega, rfl, ho, f⟩)
        clear ho f
        go_wp2_with fail
        go_loopg [7, 8] pn (fun g best k wr => InMg w A n c sg P pn ps i O on oc g best k wr)
        case atStart => exact HS1.out
        case round =>
          obtain ⟨k, rfl, hk, rfl, ho, f⟩ := hrel
          clear HS1
          have HK := Lib.hid hk
          clear hk
          by_cases hkp : k < pn
          · have hgk := Lib.hid (show gk - 1 < gk ∧ k + 1 + (gk - 1) = pn by have := HK.out; omega)
            obtain ⟨b, off, D, dn, dc, rfl, hbb, hck, hsk, hcapk⟩ := f.s'.spot hkp
            obtain ⟨b', off', E, en, ec, e', -, hci, hsi, hcapi⟩ := f.s'.spot hip
            injection e' with e'
            injection e' with e1 e2
            subst e1 e2
            have hdn : dn ≤ 1048576 := by have := HE.out k; rw [hsk.1] at this; exact this
            have hen : en ≤ 1048576 := by have := HE.out i; rw [hsi.1] at this; exact this
            have sk : Seg wr.drew wr.drew.heap.size D dn (ps.getD k []) := (hsk.more (Nat.le_of_lt f.size)).drew
            have si : Seg wr.drew wr.drew.heap.size E en (ps.getD i []) := (hsi.more (Nat.le_of_lt f.size)).drew
            obtain ⟨yk, hyk⟩ : ∃ ys, ps.getD k [] = ys := ⟨_, rfl⟩
            obtain ⟨yi, hyi⟩ : ∃ ys, ps.getD i [] = ys := ⟨_, rfl⟩
            rw [hyk] at sk
            rw [hyi] at si
            obtain ⟨bm, hbm⟩ : ∃ b, moreB sg yk yi = b := ⟨_, rfl⟩
            obtain ⟨bv, hbv⟩ : ∃ b, variantB sg yk yi = b := ⟨_, rfl⟩
            have HM := Lib.hid hbm
            have HV := Lib.hid hbv
            have HH := Lib.hid (show bestK sg ps i (k + 1) = (bestK sg ps i k && !(bm || (decide (k < i) && bv))) by simp only [bestK, hitB]; rw [hyk, hyi, hbm, hbv])
            obtain ⟨bb, hbk⟩ : ∃ b, bestK sg ps i k = b := ⟨_, rfl⟩
            rw [hbk] at HH ⊢
            have z0 := f.size
            have HZ := Lib.hid (show b < wr.heap.size by omega)
            have k1 := hcapk.1
            have k2 := hcapk.2.1
            have l1 := hcapi.1
            have l2 := hcapi.2.1
            have cA := f.cell
            have fd := f.drew
            replace ho := Own.drew ho
            have hk60 : k ≤ 12 := by omega
            have i0 : (0 : Int) ≤ (k : Int) := by omega
            have i1 : (k : Int) < (pn : Int) := by omega
            have i2 : (0 : Int) ≤ (i : Int) := by omega
            have i3 : (i : Int) < (pn : Int) := by omega
            clear hsk hsi hcapk hcapi hyk hyi hbm hbv hbk f
            cases bm with
            | true =>
              go_wp2_with fail
              refine wp_region_held_drew (S := (fun w' => w'.cell? ⟨w.heap.size, 0, none⟩ = some (.slice A n c) ∧ w'.cell? ⟨b, off + k, none⟩ = some (.slice D dn dc) ∧ w'.cell? ⟨b, off + i, none⟩ = some (.slice E en ec))) (by kernel_rfl) ⟨cA, hck, hci⟩ (fun hHeld => ?_)
              refine wpAnyH_take (i := 0) (v := ?_) rfl (by kernel_rfl) (by kernel_rfl) (by kernel_rfl) (fun _ _ _ h => h) (Or.inl ⟨by rfl, ?_⟩) (by assumption) ?_
              rotate_left 1
              · (intro w0 hSw; (try dsimp only at hSw); go_simp; try with_reducible rfl)
              try simp only [Act.put, List.setIfInBounds_toArray, List.set_cons_zero, List.set_cons_succ, List.getElem_toArray, List.getElem_cons_zero, List.getElem_cons_succ]
              refine wpAnyH_take (i := 1) (v := ?_) rfl (by kernel_rfl) (by kernel_rfl) (by kernel_rfl) (fun _ _ _ h => h) (Or.inl ⟨by rfl, ?_⟩) (by assumption) ?_
              rotate_left 1
              · (intro w0 hSw; (try dsimp only at hSw); go_simp; try with_reducible rfl)
              try simp only [Act.put, List.setIfInBounds_toArray, List.set_cons_zero, List.set_cons_succ, List.getElem_toArray, List.getElem_cons_zero, List.getElem_cons_succ]
              refine wpAnyH_take (i := 2) (v := ?_) rfl (by kernel_rfl) (by kernel_rfl) (by kernel_rfl) (fun _ _ _ h => h) (Or.inl ⟨by rfl, ?_⟩) (by assumption) ?_
              rotate_left 1
              · (intro w0 hSw; (try dsimp only at hSw); go_simp; try with_reducible rfl)
              try simp only [Act.put, List.setIfInBounds_toArray, List.set_cons_zero, List.set_cons_succ, List.getElem_toArray, List.getElem_cons_zero, List.getElem_cons_succ]
              refine wpAnyH_take (i := 3) (v := ?_) rfl (by kernel_rfl) (by kernel_rfl) (by kernel_rfl) (fun _ _ _ h => h) (Or.inl ⟨by rfl, ?_⟩) (by assumption) ?_
              rotate_left 1
              · (intro w0 hSw; (try dsimp only at hSw); go_simp; try with_reducible rfl)
              try simp only [Act.put, List.setIfInBounds_toArray, List.set_cons_zero, List.set_cons_succ, List.getElem_toArray, List.getElem_cons_zero, List.getElem_cons_succ]
              refine wpAnyH_take (i := 4) (v := ?_) rfl (by kernel_rfl) (by kernel_rfl) (by kernel_rfl) (fun _ _ _ h => h) (Or.inl ⟨by rfl, ?_⟩) (by assumption) ?_
              rotate_left 1
              · (intro w0 hSw; (try dsimp only at hSw); go_simp; try with_reducible rfl)
              try simp only [Act.put, List.setIfInBounds_toArray, List.set_cons_zero, List.set_cons_succ, List.getElem_toArray, List.getElem_cons_zero, List.getElem_cons_succ]
              refine wpAnyH_take (i := 5) (v := ?_) rfl (by kernel_rfl) (by kernel_rfl) (by kernel_rfl) (fun _ _ _ h => h) (Or.inl ⟨by rfl, ?_⟩) (by assumption) ?_
              rotate_left 1
              · (intro w0 hSw; (try dsimp only at hSw); go_simp; try with_reducible rfl)
              try simp only [Act.put, List.setIfInBounds_toArray, List.set_cons_zero, List.set_cons_succ, List.getElem_toArray, List.getElem_cons_zero, List.getElem_cons_succ]
              refine wpAnyH_take (i := 6) (v := ?_) rfl (by kernel_rfl) (by kernel_rfl) (by kernel_rfl) (fun _ _ _ h => h) (Or.inl ⟨by rfl, ?_⟩) (by assumption) ?_
              rotate_left 1
              · (intro w0 hSw; (try dsimp only at hSw); go_simp; try with_reducible rfl)
              try simp only [Act.put, List.setIfInBounds_toArray, List.set_cons_zero, List.set_cons_succ, List.getElem_toArray, List.getElem_cons_zero, List.getElem_cons_succ]
              refine wpAnyH_take (i := 7) (v := ?_) rfl (by kernel_rfl) (by kernel_rfl) (by kernel_rfl) (fun _ _ _ h => h) (Or.inl ⟨by rfl, ?_⟩) (by assumption) ?_
              rotate_left 1
              · (intro w0 hSw; (try dsimp only at hSw); go_simp; try with_reducible rfl)
              try simp only [Act.put, List.setIfInBounds_toArray, List.set_cons_zero, List.set_cons_succ, List.getElem_toArray, List.getElem_cons_zero, List.getElem_cons_succ]
              refine wpAnyH_take (i := 8) (v := ?_) rfl (by kernel_rfl) (by kernel_rfl) (by kernel_rfl) (fun _ _ _ h => h) (Or.inl ⟨by rfl, ?_⟩) (by assumption) ?_
              rotate_left 1
              · (intro w0 hSw; (try dsimp only at hSw); go_simp; try with_reducible rfl)
              try simp only [Act.put, List.setIfInBounds_toArray, List.set_cons_zero, List.set_cons_succ, List.getElem_toArray, List.getElem_cons_zero, List.getElem_cons_succ]
              refine wpAnyH_ready (rs := [9]) (by kernel_rfl) (by simp) (AllReadyH.cons rfl (fun K hK => ?_) AllReadyH.nil)
              try simp only [Act.put, List.setIfInBounds_toArray, List.set_cons_zero, List.set_cons_succ, List.getElem_toArray, List.getElem_cons_zero, List.getElem_cons_succ]
              rw [if_pos (by rfl)]
              go_simp
              refine (specMoreGeneral A D E n c dn dc en ec sg yk yi _ fd.s1 sk si hn hdn hen k1 k2 l1 l2).mono ?_; rintro e w3 ⟨he, b1⟩; rw [HM.out] at he; subst he; have f3 := fd.next b1; have x1 := f3.cell; have x2 : w3.cell? ⟨b, off + k, none⟩ = some (.slice D dn dc) := (b1.cell (p := ⟨b, off + k, none⟩) HZ.out).trans hck; have x3 : w3.cell? ⟨b, off + i, none⟩ = some (.slice E en ec) := (b1.cell (p := ⟨b, off + i, none⟩) HZ.out).trans hci; go_wp2_with fail
              refine hK.out _ _ ?_ (fun hHeld => ?_)
              · first | assumption | (dsimp only; assumption) | exact ⟨by assumption, by assumption⟩ | exact ⟨by assumption, by assumption, by assumption⟩
              clear hK K
              try simp only [Act.put, List.setIfInBounds_toArray, List.set_cons_zero, List.set_cons_succ, List.getElem_toArray, List.getElem_cons_zero, List.getElem_cons_succ]
              refine wpAnyH_take (i := 10) (v := ?_) rfl (by kernel_rfl) (by kernel_rfl) (by kernel_rfl) (fun _ _ _ h => h) (Or.inl ⟨by rfl, ?_⟩) (by assumption) ?_
              rotate_left 1
              · (intro w0 hSw; (try dsimp only at hSw); go_simp; try with_reducible rfl)
              try simp only [Act.put, List.setIfInBounds_toArray, List.set_cons_zero, List.set_cons_succ, List.getElem_toArray, List.getElem_cons_zero, List.getElem_cons_succ]
              refine wpAnyH_take (i := 11) (v := undef) rfl (by kernel_rfl) (by kernel_rfl) (by kernel_rfl) (fun _ _ _ h => h) (Or.inr ⟨by rfl, rfl⟩) (by assumption) ?_
              try simp only [Act.put, List.setIfInBounds_toArray, List.set_cons_zero, List.set_cons_succ, List.getElem_toArray, List.getElem_cons_zero, List.getElem_cons_succ]
              refine wpAnyH_take (i := 12) (v := undef) rfl (by kernel_rfl) (by kernel_rfl) (by kernel_rfl) (fun _ _ _ h => h) (Or.inr ⟨by rfl, rfl⟩) (by assumption) ?_
              try simp only [Act.put, List.setIfInBounds_toArray, List.set_cons_zero, List.set_cons_succ, List.getElem_toArray, List.getElem_cons_zero, List.getElem_cons_succ]
              refine wpAnyH_take (i := 13) (v := undef) rfl (by kernel_rfl) (by kernel_rfl) (by kernel_rfl) (fun _ _ _ h => h) (Or.inr ⟨by rfl, rfl⟩) (by assumption) ?_
              try simp only [Act.put, List.setIfInBounds_toArray, List.set_cons_zero, List.set_cons_succ, List.getElem_toArray, List.getElem_cons_zero, List.getElem_cons_succ]
              refine wpAnyH_take (i := 14) (v := undef) rfl (by kernel_rfl) (by kernel_rfl) (by kernel_rfl) (fun _ _ _ h => h) (Or.inr ⟨by rfl, rfl⟩) (by assumption) ?_
              try simp only [Act.put, List.setIfInBounds_toArray, List.set_cons_zero, List.set_cons_succ, List.getElem_toArray, List.getElem_cons_zero, List.getElem_cons_succ]
              refine wpAnyH_take (i := 15) (v := undef) rfl (by kernel_rfl) (by kernel_rfl) (by kernel_rfl) (fun _ _ _ h => h) (Or.inr ⟨by rfl, rfl⟩) (by assumption) ?_
              try simp only [Act.put, List.setIfInBounds_toArray, List.set_cons_zero, List.set_cons_succ, List.getElem_toArray, List.getElem_cons_zero, List.getElem_cons_succ]
              refine wpAnyH_take (i := 16) (v := undef) rfl (by kernel_rfl) (by kernel_rfl) (by kernel_rfl) (fun _ _ _ h => h) (Or.inr ⟨by rfl, rfl⟩) (by assumption) ?_
              try simp only [Act.put, List.setIfInBounds_toArray, List.set_cons_zero, List.set_cons_succ, List.getElem_toArray, List.getElem_cons_zero, List.getElem_cons_succ]
              refine wpAnyH_take (i := 17) (v := undef) rfl (by kernel_rfl) (by kernel_rfl) (by kernel_rfl) (fun _ _ _ h => h) (Or.inr ⟨by rfl, rfl⟩) (by assumption) ?_
              try simp only [Act.put, List.setIfInBounds_toArray, List.set_cons_zero, List.set_cons_succ, List.getElem_toArray, List.getElem_cons_zero, List.getElem_cons_succ]
              refine wpAnyH_take (i := 18) (v := undef) rfl (by kernel_rfl) (by kernel_rfl) (by kernel_rfl) (fun _ _ _ h => h) (Or.inr ⟨by rfl, rfl⟩) (by assumption) ?_
              try simp only [Act.put, List.setIfInBounds_toArray, List.set_cons_zero, List.set_cons_succ, List.getElem_toArray, List.getElem_cons_zero, List.getElem_cons_succ]
              refine wpAnyH_take (i := 19) (v := undef) rfl (by kernel_rfl) (by kernel_rfl) (by kernel_rfl) (fun _ _ _ h => h) (Or.inr ⟨by rfl, rfl⟩) (by assumption) ?_
              try simp only [Act.put, List.setIfInBounds_toArray, List.set_cons_zero, List.set_cons_succ, List.getElem_toArray, List.getElem_cons_zero, List.getElem_cons_succ]
              refine wpAnyH_take (i := 20) (v := undef) rfl (by kernel_rfl) (by kernel_rfl) (by kernel_rfl) (fun _ _ _ h => h) (Or.inr ⟨by rfl, rfl⟩) (by assumption) ?_
              try simp only [Act.put, List.setIfInBounds_toArray, List.set_cons_zero, List.set_cons_succ, List.getElem_toArray, List.getElem_cons_zero, List.getElem_cons_succ]
              refine wpAnyH_take (i := 21) (v := undef) rfl (by kernel_rfl) (by kernel_rfl) (by kernel_rfl) (fun _ _ _ h => h) (Or.inr ⟨by rfl, rfl⟩) (by assumption) ?_
              try simp only [Act.put, List.setIfInBounds_toArray, List.set_cons_zero, List.set_cons_succ, List.getElem_toArray, List.getElem_cons_zero, List.getElem_cons_succ]
              refine wpAnyH_take (i := 22) (v := undef) rfl (by kernel_rfl) (by kernel_rfl) (by kernel_rfl) (fun _ _ _ h => h) (Or.inr ⟨by rfl, rfl⟩) (by assumption) ?_
              try simp only [Act.put, List.setIfInBounds_toArray, List.set_cons_zero, List.set_cons_succ, List.getElem_toArray, List.getElem_cons_zero, List.getElem_cons_succ]
              refine wpAnyH_take (i := 23) (v := undef) rfl (by kernel_rfl) (by kernel_rfl) (by kernel_rfl) (fun _ _ _ h => h) (Or.inr ⟨by rfl, rfl⟩) (by assumption) ?_
              try simp only [Act.put, List.setIfInBounds_toArray, List.set_cons_zero, List.set_cons_succ, List.getElem_toArray, List.getElem_cons_zero, List.getElem_cons_succ]
              refine wpAnyH_take (i := 24) (v := undef) rfl (by kernel_rfl) (by kernel_rfl) (by kernel_rfl) (fun _ _ _ h => h) (Or.inr ⟨by rfl, rfl⟩) (by assumption) ?_
              try simp only [Act.put, List.setIfInBounds_toArray, List.set_cons_zero, List.set_cons_succ, List.getElem_toArray, List.getElem_cons_zero, List.getElem_cons_succ]
              refine wpAnyH_take (i := 25) (v := undef) rfl (by kernel_rfl) (by kernel_rfl) (by kernel_rfl) (fun _ _ _ h => h) (Or.inr ⟨by rfl, rfl⟩) (by assumption) ?_
              try simp only [Act.put, List.setIfInBounds_toArray, List.set_cons_zero, List.set_cons_succ, List.getElem_toArray, List.getElem_cons_zero, List.getElem_cons_succ]
              refine wpAnyH_take (i := 26) (v := ?_) rfl (by kernel_rfl) (by kernel_rfl) (by kernel_rfl) (fun _ _ _ h => h) (Or.inl ⟨by rfl, ?_⟩) (by assumption) ?_
              rotate_left 1
              · (intro w0 hSw; (try dsimp only at hSw); go_simp; try with_reducible rfl)
              try simp only [Act.put, List.setIfInBounds_toArray, List.set_cons_zero, List.set_cons_succ, List.getElem_toArray, List.getElem_cons_zero, List.getElem_cons_succ]
              refine wpAnyH_done (by kernel_rfl) ?_ _
              have HS2 := Lib.hid (show InMg w A n c sg (some ⟨b, off, none⟩) pn ps i O on oc (gk - 1) (.bool false) (.int .i64 ((k : Int) + 1)) w3 from ⟨k + 1, by simp, hgk.out.2, by rw [HH.out]; simp, Own.next ho b1, f3⟩)
              clear ho fd f3 sk si cA hck hci
              go_wp2
              go_roundg (gk - 1)
              case measure => exact hgk.out.1
              case rel => exact HS2.out
            | false =>
              by_cases hki : k < i
              · have hdk : decide ((k : Int) < (i : Int)) = true := decide_eq_true (by omega)
                have hdi : (k : Int) < (i : Int) := by omega
                have hdn2 : decide (k < i) = true := decide_eq_true hki
                rw [hdn2] at HH
                go_wp2_with fail
                go_region_held3 (fun w' => w'.cell? ⟨w.heap.size, 0, none⟩ = some (.slice A n c) ∧ w'.cell? ⟨b, off + k, none⟩ = some (.slice D dn dc) ∧ w'.cell? ⟨b, off + i, none⟩ = some (.slice E en ec))
                  (first | exact ⟨by assumption, by assumption, by assumption⟩ | go_keep)
                  (first
                    | (go_at_call 49; refine (specMoreGeneral A D E n c dn dc en ec sg yk yi _ fd.s1 sk si hn hdn hen k1 k2 l1 l2).mono ?_; rintro e w3 ⟨he, b1⟩; rw [HM.out] at he; subst he; have f3 := fd.next b1; have x1 := f3.cell; have x2 : w3.cell? ⟨b, off + k, none⟩ = some (.slice D dn dc) := (b1.cell (p := ⟨b, off + k, none⟩) HZ.out).trans hck; have x3 : w3.cell? ⟨b, off + i, none⟩ = some (.slice E en ec) := (b1.cell (p := ⟨b, off + i, none⟩) HZ.out).trans hci)
                    | (go_at_call 85; refine (specVariantIn A D E n c dn dc en ec sg yk yi _ f3.s1 (sk.next b1) (si.next b1) hn hdn hen).mono ?_; rintro e w4 ⟨he, b2⟩; rw [HV.out] at he; subst he; have y1 := (f3.next b2).cell; have y2 : w4.cell? ⟨b, off + k, none⟩ = some (.slice D dn dc) := (b2.cell (p := ⟨b, off + k, none⟩) (Nat.lt_of_lt_of_le HZ.out b1.size)).trans x2; have y3 : w4.cell? ⟨b, off + i, none⟩ = some (.slice E en ec) := (b2.cell (p := ⟨b, off + i, none⟩) (Nat.lt_of_lt_of_le HZ.out b1.size)).trans x3))
                have f4 := f3.next b2
                replace ho := Own.next (Own.next ho b1) b2
                clear x1 x2 x3 y1 y2 y3
                cases bv with
                | true =>
                  have HS2 := Lib.hid (show InMg w A n c sg (some ⟨b, off, none⟩) pn ps i O on oc (gk - 1) (.bool false) (.int .i64 ((k : Int) + 1)) w4 from ⟨k + 1, by simp, hgk.out.2, by rw [HH.out]; simp, ho, f4⟩)
                  clear ho fd f3 sk si cA hck hci
                  go_wp2
                  go_roundg (gk - 1)
                  case measure => exact hgk.out.1
                  case rel => exact HS2.out
                | false =>
                  have HS2 := Lib.hid (show InMg w A n c sg (some ⟨b, off, none⟩) pn ps i O on oc (gk - 1) (.bool bb) (.int .i64 ((k : Int) + 1)) w4 from ⟨k + 1, by simp, hgk.out.2, by rw [HH.out]; simp, ho, f4⟩)
                  clear ho fd f3 sk si cA hck hci
                  go_wp2
                  go_roundg (gk - 1)
                  case measure => exact hgk.out.1
                  case rel => exact HS2.out
              · have hdk : decide ((k : Int) < (i : Int)) = false := decide_eq_false (by omega)
                have hdn2 : decide (k < i) = false := decide_eq_false hki
                rw [hdn2] at HH
                go_wp2_with fail
                refine wp_region_held_drew (S := (fun w' => w'.cell? ⟨w.heap.size, 0, none⟩ = some (.slice A n c) ∧ w'.cell? ⟨b, off + k, none⟩ = some (.slice D dn dc) ∧ w'.cell? ⟨b, off + i, none⟩ = some (.slice E en ec))) (by kernel_rfl) ⟨cA, hck, hci⟩ (fun hHeld => ?_)
                refine wpAnyH_take (i := 0) (v := ?_) rfl (by kernel_rfl) (by kernel_rfl) (by kernel_rfl) (fun _ _ _ h => h) (Or.inl ⟨by rfl, ?_⟩) (by assumption) ?_
                rotate_left 1
                · (intro w0 hSw; (try dsimp only at hSw); go_simp; try with_reducible rfl)
                try simp only [Act.put, List.setIfInBounds_toArray, List.set_cons_zero, List.set_cons_succ, List.getElem_toArray, List.getElem_cons_zero, List.getElem_cons_succ]
                refine wpAnyH_take (i := 1) (v := ?_) rfl (by kernel_rfl) (by kernel_rfl) (by kernel_rfl) (fun _ _ _ h => h) (Or.inl ⟨by rfl, ?_⟩) (by assumption) ?_
                rotate_left 1
                · (intro w0 hSw; (try dsimp only at hSw); go_simp; try with_reducible rfl)
                try simp only [Act.put, List.setIfInBounds_toArray, List.set_cons_zero, List.set_cons_succ, List.getElem_toArray, List.getElem_cons_zero, List.getElem_cons_succ]
                refine wpAnyH_take (i := 2) (v := ?_) rfl (by kernel_rfl) (by kernel_rfl) (by kernel_rfl) (fun _ _ _ h => h) (Or.inl ⟨by rfl, ?_⟩) (by assumption) ?_
                rotate_left 1
                · (intro w0 hSw; (try dsimp only at hSw); go_simp; try with_reducible rfl)
                try simp only [Act.put, List.setIfInBounds_toArray, List.set_cons_zero, List.set_cons_succ, List.getElem_toArray, List.getElem_cons_zero, List.getElem_cons_succ]
                refine wpAnyH_take (i := 3) (v := ?_) rfl (by kernel_rfl) (by kernel_rfl) (by kernel_rfl) (fun _ _ _ h => h) (Or.inl ⟨by rfl, ?_⟩) (by assumption) ?_
                rotate_left 1
                · (intro w0 hSw; (try dsimp only at hSw); go_simp; try with_reducible rfl)
                try simp only [Act.put, List.setIfInBounds_toArray, List.set_cons_zero, List.set_cons_succ, List.getElem_toArray, List.getElem_cons_zero, List.getElem_cons_succ]
                refine wpAnyH_take (i := 4) (v := ?_) rfl (by kernel_rfl) (by kernel_rfl) (by kernel_rfl) (fun _ _ _ h => h) (Or.inl ⟨by rfl, ?_⟩) (by assumption) ?_
                rotate_left 1
                · (intro w0 hSw; (try dsimp only at hSw); go_simp; try with_reducible rfl)
                try simp only [Act.put, List.setIfInBounds_toArray, List.set_cons_zero, List.set_cons_succ, List.getElem_toArray, List.getElem_cons_zero, List.getElem_cons_succ]
                refine wpAnyH_take (i := 5) (v := ?_) rfl (by kernel_rfl) (by kernel_rfl) (by kernel_rfl) (fun _ _ _ h => h) (Or.inl ⟨by rfl, ?_⟩) (by assumption) ?_
                rotate_left 1
                · (intro w0 hSw; (try dsimp only at hSw); go_simp; try with_reducible rfl)
                try simp only [Act.put, List.setIfInBounds_toArray, List.set_cons_zero, List.set_cons_succ, List.getElem_toArray, List.getElem_cons_zero, List.getElem_cons_succ]
                refine wpAnyH_take (i := 6) (v := ?_) rfl (by kernel_rfl) (by kernel_rfl) (by kernel_rfl) (fun _ _ _ h => h) (Or.inl ⟨by rfl, ?_⟩) (by assumption) ?_
                rotate_left 1
                · (intro w0 hSw; (try dsimp only at hSw); go_simp; try with_reducible rfl)
                try simp only [Act.put, List.setIfInBounds_toArray, List.set_cons_zero, List.set_cons_succ, List.getElem_toArray, List.getElem_cons_zero, List.getElem_cons_succ]
                refine wpAnyH_take (i := 7) (v := ?_) rfl (by kernel_rfl) (by kernel_rfl) (by kernel_rfl) (fun _ _ _ h => h) (Or.inl ⟨by rfl, ?_⟩) (by assumption) ?_
                rotate_left 1
                · (intro w0 hSw; (try dsimp only at hSw); go_simp; try with_reducible rfl)
                try simp only [Act.put, List.setIfInBounds_toArray, List.set_cons_zero, List.set_cons_succ, List.getElem_toArray, List.getElem_cons_zero, List.getElem_cons_succ]
                refine wpAnyH_take (i := 8) (v := ?_) rfl (by kernel_rfl) (by kernel_rfl) (by kernel_rfl) (fun _ _ _ h => h) (Or.inl ⟨by rfl, ?_⟩) (by assumption) ?_
                rotate_left 1
                · (intro w0 hSw; (try dsimp only at hSw); go_simp; try with_reducible rfl)
                try simp only [Act.put, List.setIfInBounds_toArray, List.set_cons_zero, List.set_cons_succ, List.getElem_toArray, List.getElem_cons_zero, List.getElem_cons_succ]
                refine wpAnyH_ready (rs := [9]) (by kernel_rfl) (by simp) (AllReadyH.cons rfl (fun K hK => ?_) AllReadyH.nil)
                try simp only [Act.put, List.setIfInBounds_toArray, List.set_cons_zero, List.set_cons_succ, List.getElem_toArray, List.getElem_cons_zero, List.getElem_cons_succ]
                rw [if_pos (by rfl)]
                go_simp
                refine (specMoreGeneral A D E n c dn dc en ec sg yk yi _ fd.s1 sk si hn hdn hen k1 k2 l1 l2).mono ?_; rintro e w3 ⟨he, b1⟩; rw [HM.out] at he; subst he; have f3 := fd.next b1; have x1 := f3.cell; have x2 : w3.cell? ⟨b, off + k, none⟩ = some (.slice D dn dc) := (b1.cell (p := ⟨b, off + k, none⟩) HZ.out).trans hck; have x3 : w3.cell? ⟨b, off + i, none⟩ = some (.slice E en ec) := (b1.cell (p := ⟨b, off + i, none⟩) HZ.out).trans hci; go_wp2_with fail
                refine hK.out _ _ ?_ (fun hHeld => ?_)
                · first | assumption | (dsimp only; assumption) | exact ⟨by assumption, by assumption⟩ | exact ⟨by assumption, by assumption, by assumption⟩
                clear hK K
                try simp only [Act.put, List.setIfInBounds_toArray, List.set_cons_zero, List.set_cons_succ, List.getElem_toArray, List.getElem_cons_zero, List.getElem_cons_succ]
                refine wpAnyH_take (i := 10) (v := ?_) rfl (by kernel_rfl) (by kernel_rfl) (by kernel_rfl) (fun _ _ _ h => h) (Or.inl ⟨by rfl, ?_⟩) (by assumption) ?_
                rotate_left 1
                · (intro w0 hSw; (try dsimp only at hSw); go_simp; try with_reducible rfl)
                try simp only [Act.put, List.setIfInBounds_toArray, List.set_cons_zero, List.set_cons_succ, List.getElem_toArray, List.getElem_cons_zero, List.getElem_cons_succ]
                refine wpAnyH_take (i := 11) (v := ?_) rfl (by kernel_rfl) (by kernel_rfl) (by kernel_rfl) (fun _ _ _ h => h) (Or.inl ⟨by rfl, ?_⟩) (by assumption) ?_
                rotate_left 1
                · (intro w0 hSw; (try dsimp only at hSw); go_simp; try with_reducible rfl)
                try simp only [Act.put, List.setIfInBounds_toArray, List.set_cons_zero, List.set_cons_succ, List.getElem_toArray, List.getElem_cons_zero, List.getElem_cons_succ]
                refine wpAnyH_take (i := 12) (v := ?_) rfl (by kernel_rfl) (by kernel_rfl) (by kernel_rfl) (fun _ _ _ h => h) (Or.inl ⟨by rfl, ?_⟩) (by assumption) ?_
                rotate_left 1
                · (intro w0 hSw; (try dsimp only at hSw); go_simp; try with_reducible rfl)
                try simp only [Act.put, List.setIfInBounds_toArray, List.set_cons_zero, List.set_cons_succ, List.getElem_toArray, List.getElem_cons_zero, List.getElem_cons_succ]
                refine wpAnyH_take (i := 13) (v := ?_) rfl (by kernel_rfl) (by kernel_rfl) (by kernel_rfl) (fun _ _ _ h => h) (Or.inl ⟨by rfl, ?_⟩) (by assumption) ?_
                rotate_left 1
                · (intro w0 hSw; (try dsimp only at hSw); go_simp; try with_reducible rfl)
                try simp only [Act.put, List.setIfInBounds_toArray, List.set_cons_zero, List.set_cons_succ, List.getElem_toArray, List.getElem_cons_zero, List.getElem_cons_succ]
                refine wpAnyH_take (i := 14) (v := ?_) rfl (by kernel_rfl) (by kernel_rfl) (by kernel_rfl) (fun _ _ _ h => h) (Or.inl ⟨by rfl, ?_⟩) (by assumption) ?_
                rotate_left 1
                · (intro w0 hSw; (try dsimp only at hSw); go_simp; try with_reducible rfl)
                try simp only [Act.put, List.setIfInBounds_toArray, List.set_cons_zero, List.set_cons_succ, List.getElem_toArray, List.getElem_cons_zero, List.getElem_cons_succ]
                refine wpAnyH_take (i := 15) (v := undef) rfl (by kernel_rfl) (by kernel_rfl) (by kernel_rfl) (fun _ _ _ h => h) (Or.inr ⟨by rfl, rfl⟩) (by assumption) ?_
                try simp only [Act.put, List.setIfInBounds_toArray, List.set_cons_zero, List.set_cons_succ, List.getElem_toArray, List.getElem_cons_zero, List.getElem_cons_succ]
                refine wpAnyH_take (i := 16) (v := undef) rfl (by kernel_rfl) (by kernel_rfl) (by kernel_rfl) (fun _ _ _ h => h) (Or.inr ⟨by rfl, rfl⟩) (by assumption) ?_
                try simp only [Act.put, List.setIfInBounds_toArray, List.set_cons_zero, List.set_cons_succ, List.getElem_toArray, List.getElem_cons_zero, List.getElem_cons_succ]
                refine wpAnyH_take (i := 17) (v := undef) rfl (by kernel_rfl) (by kernel_rfl) (by kernel_rfl) (fun _ _ _ h => h) (Or.inr ⟨by rfl, rfl⟩) (by assumption) ?_
                try simp only [Act.put, List.setIfInBounds_toArray, List.set_cons_zero, List.set_cons_succ, List.getElem_toArray, List.getElem_cons_zero, List.getElem_cons_succ]
                refine wpAnyH_take (i := 18) (v := undef) rfl (by kernel_rfl) (by kernel_rfl) (by kernel_rfl) (fun _ _ _ h => h) (Or.inr ⟨by rfl, rfl⟩) (by assumption) ?_
                try simp only [Act.put, List.setIfInBounds_toArray, List.set_cons_zero, List.set_cons_succ, List.getElem_toArray, List.getElem_cons_zero, List.getElem_cons_succ]
                refine wpAnyH_take (i := 19) (v := undef) rfl (by kernel_rfl) (by kernel_rfl) (by kernel_rfl) (fun _ _ _ h => h) (Or.inr ⟨by rfl, rfl⟩) (by assumption) ?_
                try simp only [Act.put, List.setIfInBounds_toArray, List.set_cons_zero, List.set_cons_succ, List.getElem_toArray, List.getElem_cons_zero, List.getElem_cons_succ]
                refine wpAnyH_take (i := 20) (v := undef) rfl (by kernel_rfl) (by kernel_rfl) (by kernel_rfl) (fun _ _ _ h => h) (Or.inr ⟨by rfl, rfl⟩) (by assumption) ?_
                try simp only [Act.put, List.setIfInBounds_toArray, List.set_cons_zero, List.set_cons_succ, List.getElem_toArray, List.getElem_cons_zero, List.getElem_cons_succ]
                refine wpAnyH_take (i := 21) (v := undef) rfl (by kernel_rfl) (by kernel_rfl) (by kernel_rfl) (fun _ _ _ h => h) (Or.inr ⟨by rfl, rfl⟩) (by assumption) ?_
                try simp only [Act.put, List.setIfInBounds_toArray, List.set_cons_zero, List.set_cons_succ, List.getElem_toArray, List.getElem_cons_zero, List.getElem_cons_succ]
                refine wpAnyH_take (i := 22) (v := undef) rfl (by kernel_rfl) (by kernel_rfl) (by kernel_rfl) (fun _ _ _ h => h) (Or.inr ⟨by rfl, rfl⟩) (by assumption) ?_
                try simp only [Act.put, List.setIfInBounds_toArray, List.set_cons_zero, List.set_cons_succ, List.getElem_toArray, List.getElem_cons_zero, List.getElem_cons_succ]
                refine wpAnyH_take (i := 23) (v := undef) rfl (by kernel_rfl) (by kernel_rfl) (by kernel_rfl) (fun _ _ _ h => h) (Or.inr ⟨by rfl, rfl⟩) (by assumption) ?_
                try simp only [Act.put, List.setIfInBounds_toArray, List.set_cons_zero, List.set_cons_succ, List.getElem_toArray, List.getElem_cons_zero, List.getElem_cons_succ]
                refine wpAnyH_take (i := 24) (v := undef) rfl (by kernel_rfl) (by kernel_rfl) (by kernel_rfl) (fun _ _ _ h => h) (Or.inr ⟨by rfl, rfl⟩) (by assumption) ?_
                try simp only [Act.put, List.setIfInBounds_toArray, List.set_cons_zero, List.set_cons_succ, List.getElem_toArray, List.getElem_cons_zero, List.getElem_cons_succ]
                refine wpAnyH_take (i := 25) (v := ?_) rfl (by kernel_rfl) (by kernel_rfl) (by kernel_rfl) (fun _ _ _ h => h) (Or.inl ⟨by rfl, ?_⟩) (by assumption) ?_
                rotate_left 1
                · (intro w0 hSw; (try dsimp only at hSw); go_simp; try with_reducible rfl)
                try simp only [Act.put, List.setIfInBounds_toArray, List.set_cons_zero, List.set_cons_succ, List.getElem_toArray, List.getElem_cons_zero, List.getElem_cons_succ]
                refine wpAnyH_take (i := 26) (v := ?_) rfl (by kernel_rfl) (by kernel_rfl) (by kernel_rfl) (fun _ _ _ h => h) (Or.inl ⟨by rfl, ?_⟩) (by assumption) ?_
                rotate_left 1
                · (intro w0 hSw; (try dsimp only at hSw); go_simp; try with_reducible rfl)
                try simp only [Act.put, List.setIfInBounds_toArray, List.set_cons_zero, List.set_cons_succ, List.getElem_toArray, List.getElem_cons_zero, List.getElem_cons_succ]
                refine wpAnyH_done (by kernel_rfl) ?_ _
                have HS2 := Lib.hid (show InMg w A n c sg (some ⟨b, off, none⟩) pn ps i O on oc (gk - 1) (.bool bb) (.int .i64 ((k : Int) + 1)) w3 from ⟨k + 1, by simp, hgk.out.2, by rw [HH.out]; simp, Own.next ho b1, f3⟩)
                clear ho fd f3 sk si cA hck hci
                go_wp2
                go_roundg (gk - 1)
                case measure => exact hgk.out.1
                case rel => exact HS2.out
          · have hkp2 : k = ps.length := by have := HK.out; have := HL.out; omega
            obtain ⟨z, hz⟩ : ∃ z, bestB sg ps i = z := ⟨_, rfl⟩
            have HZ := Lib.hid (show bestK sg ps i k = z by rw [hkp2, bestK_best, hz])
            have HE2 := Lib.hid (show mgN sg ps (i + 1) = mgN sg ps i ++ (if z = true then [(i : Int)] else []) by simp only [mgN]; rw [hz])
            clear hz hkp2
            rw [HZ.out]
            have z1 : w.heap.size + 1 ≤ wr.heap.size := f.size
            cases z with
            | false =>
              have S : HeadMg w A n c sg P pn ps (G - 1) (.slice O on oc) (.int .i64 ((i : Int) + 1)) wr := ⟨i + 1, O, on, oc, by simp, hGk.out.2, rfl, by rw [HE2.out]; simpa using ho, f⟩
              have HSS := Lib.hid S
              clear S ho f
              go_wp2
              go_roundg (G - 1)
              case measure => exact hGk.out.1
              case rel => exact HSS.out
            | true =>
              go_wp2_with (at_builtin; refine app1 rfl _ _ rfl (w.heap.size + 1) O on oc _ rfl (Own.alloc ho _) wr.heap.size 1 (i : Int) rfl ((Row.new _ _ _).cell 0) (by omega) (by simp; omega) ?_; intro O' oc' w7 ho7 b7)
              have S : HeadMg w A n c sg P pn ps (G - 1) (.slice O' (on + 1) oc') (.int .i64 ((i : Int) + 1)) w7 := ⟨i + 1, O', on + 1, oc', by simp, hGk.out.2, rfl, by rw [HE2.out]; exact ho7, (f.alloc _).over b7⟩
              have HSS := Lib.hid S
              clear S ho ho7 f b7
              go_wp2
              go_roundg (G - 1)
              case measure => exact hGk.out.1
              case rel => exact HSS.out
      · have hip2 : i = pn := by have := HI.out; omega
        have F := Lib.hid (list_of (w := w) (show mgI sg ps = mgN sg ps i by rw [HF.out, hip2]) ho (Nat.le_succ _) f.b)
        clear ho f hip2
        go_wp2
        go_ret
        exact F.out
end Go.Proofs.Ythbhiihhanochaa.matchMost
end

section
/-
  CONTRACTS: impl.Matched, InstanceIn, MoreGeneral, termsOk. Conditions: the slices read as lists ('Seg', 'Segs'), at most 1048576 numbers. By an AI agent.
-/
namespace Go.Proofs.Ythbhiihhanochaa.matchImpl
open Go.RowKit Go.Proofs.Ythbhiihhanochaa.base Go.Proofs.Ythbhiihhanochaa.ints Go.Proofs.Ythbhiihhanochaa.sig Go.Proofs.Ythbhiihhanochaa.same Go.Proofs.Ythbhiihhanochaa.term Go.Proofs.Ythbhiihhanochaa.termOk Go.Proofs.Ythbhiihhanochaa.endAt Go.Proofs.Ythbhiihhanochaa.inside Go.Proofs.Ythbhiihhanochaa.marks Go.Proofs.Ythbhiihhanochaa.app Go.Proofs.Ythbhiihhanochaa.sym Go.Proofs.Ythbhiihhanochaa.sub Go.Proofs.Ythbhiihhanochaa.segs Go.Proofs.Ythbhiihhanochaa.segsHelp Go.Proofs.Ythbhiihhanochaa.kinds Go.Proofs.Ythbhiihhanochaa.termFacts Go.Proofs.Ythbhiihhanochaa.termMath Go.Proofs.Ythbhiihhanochaa.posMath Go.Proofs.Ythbhiihhanochaa.plainMath Go.Proofs.Ythbhiihhanochaa.plain Go.Proofs.Ythbhiihhanochaa.plainOf Go.Proofs.Ythbhiihhanochaa.gives Go.Proofs.Ythbhiihhanochaa.cursor Go.Proofs.Ythbhiihhanochaa.fillMath Go.Proofs.Ythbhiihhanochaa.matchMath Go.Proofs.Ythbhiihhanochaa.matchSpec Go.Proofs.Ythbhiihhanochaa.matchList Go.Proofs.Ythbhiihhanochaa.matchMost Go.Proofs.Ythbhiihhanochaa.whole Go.Proofs.Ythbhiihhanochaa.takeMath Go.Proofs.Ythbhiihhanochaa.take Go.Proofs.Ythbhiihhanochaa.extended
set_option maxRecDepth 100000

theorem plain_s0 : plainL (givesL s0) 24 = [] := by
  have h : ∀ i, 0 ≤ i → givesL s0 i = vt i := fun i _ => gives_var (by rw [s0_get]; rfl)
  rw [plain_24 (m := 0) (by omega) h]
  rfl
theorem res_get (R : Option (List (List Int))) : plainL (givesL (R.getD s0)) 24 = resL R := by
  cases R with
  | none => exact plain_s0
  | some s => rfl

set_option maxHeartbeats 1000000 in
theorem implMatched (A P Q : Option Addr) (n c pn pc m mc : Nat) (sg p t : List Int) (w : World) (h : Seg w w.heap.size A n sg) (hp : Seg w w.heap.size P pn p) (ht : Seg w w.heap.size Q m t) (hn : n ≤ 1048576) (hpn : pn ≤ 1048576) (hm : m ≤ 1048576) (hmc : m ≤ mc) (hmc2 : mc ≤ 9223372036854775807) :
    Calls Try.prog 14 #[.agg #[.slice A n c], .slice P pn pc, .slice Q m mc] w (AnsM w (resL (matchO sg p t)) (instB sg p t)) := by
  obtain ⟨W, hW⟩ : ∃ W, W = (w.alloc (.cells #[.slice A n c] 26)).alloc (.cells #[.slice none 0 0] 31) := ⟨_, rfl⟩
  have M : Mr w W A n c sg P pn p Q m t := by rw [hW]; exact Mr.start h hp ht
  have HW := Lib.hid hW
  have L := Lib.hid (implTermOk A P n c pn pc sg p W M.ss M.sp hn hpn)
  have c0 : W.cell? ⟨w.heap.size, 0, none⟩ = some (.slice A n c) := M.r0.cell 0
  have c00 : ((w.alloc (.cells #[.slice A n c] 26)).alloc (.cells #[.slice none 0 0] 31)).cell? ⟨w.heap.size, 0, none⟩ = some (.slice A n c) := by rw [← hW]; exact c0
  clear hW h hp ht
  cases hokp : termOkB sg p with
  | false =>
    have HS := Lib.hid hokp
    clear hokp
    go_enter Try.func14, Try.ntmps14
    go_wp2_with fail
    rw [← HW.out]
    refine L.out.mono ?_
    rintro e w1 ⟨he, bb⟩
    rw [HS.out] at he
    subst he
    replace M := M.next bb
    have cR : w1.cell? ⟨w.heap.size + 1, 0, none⟩ = some (.slice none 0 0) := M.r1.cell 0
    have fR : w1.frozen? ⟨w.heap.size + 1, 0, none⟩ = false := M.r1.free 0
    have F1 := Lib.hid (ansM_off (w := w) (t := t) (.inl HS.out) M.b)
    have F2 := Lib.hid (ansM_off (w := w) (t := t) (.inl HS.out) ((M.b).setCell (p := ⟨w.heap.size + 1, 0, none⟩) (show w.heap.size ≤ w.heap.size + 1 by omega) (.slice none 0 0)))
    clear M L bb c0 c00
    go_wp2
    first
      | exact bodyPost_ret (v := .tuple #[.agg #[.slice none 0 0], .bool false]) (by simp [results, Try.results14, go_sem, cR]) rfl F1.out
      | exact bodyPost_ret (v := .tuple #[.agg #[.slice none 0 0], .bool false]) (by simp [results, Try.results14, go_sem, cR]) rfl F2.out
  | true =>
    have HSP := Lib.hid hokp
    have hp60 : pn ≤ 60 := by have h1 := (termOk_parts hokp).2.1; rw [M.sp.1] at h1; exact h1
    clear hokp
    cases hokt : termOkB sg t with
    | false =>
      have HS := Lib.hid hokt
      clear hokt
      go_enter Try.func14, Try.ntmps14
      go_wp2_with fail
      rw [← HW.out]
      refine L.out.mono ?_
      rintro e w1 ⟨he, bb⟩
      rw [HSP.out] at he
      subst he
      replace M := M.next bb
      clear bb L c0 c00
      have c0 : w1.cell? ⟨w.heap.size, 0, none⟩ = some (.slice A n c) := M.r0.cell 0
      go_wp2_with fail
      refine (implTermOk A Q n c m mc sg t _ M.ss M.st hn hm).mono ?_
      rintro e w2 ⟨he, bb⟩
      rw [HS.out] at he
      subst he
      replace M := M.next bb
      have cR : w2.cell? ⟨w.heap.size + 1, 0, none⟩ = some (.slice none 0 0) := M.r1.cell 0
      have fR : w2.frozen? ⟨w.heap.size + 1, 0, none⟩ = false := M.r1.free 0
      have F1 := Lib.hid (ansM_off (w := w) (p := p) (.inr HS.out) M.b)
      have F2 := Lib.hid (ansM_off (w := w) (p := p) (.inr HS.out) ((M.b).setCell (p := ⟨w.heap.size + 1, 0, none⟩) (show w.heap.size ≤ w.heap.size + 1 by omega) (.slice none 0 0)))
      clear M bb c0
      go_wp2
      first
        | exact bodyPost_ret (v := .tuple #[.agg #[.slice none 0 0], .bool false]) (by simp [results, Try.results14, go_sem, cR]) rfl F1.out
        | exact bodyPost_ret (v := .tuple #[.agg #[.slice none 0 0], .bool false]) (by simp [results, Try.results14, go_sem, cR]) rfl F2.out
    | true =>
      have HST := Lib.hid hokt
      have hm60 : m ≤ 60 := by have h1 := (termOk_parts hokt).2.1; rw [M.st.1] at h1; exact h1
      have HMO := Lib.hid (match_yes HSP.out hokt)
      have HIO := Lib.hid (show instB sg p t = (mst sg t p 0 s0).isSome by unfold instB; rw [HMO.out])
      clear hokt
      go_enter Try.func14, Try.ntmps14
      go_wp2_with fail
      rw [← HW.out]
      refine L.out.mono ?_
      rintro e w1 ⟨he, bb⟩
      rw [HSP.out] at he
      subst he
      replace M := M.next bb
      clear bb L c0 c00
      have c0 : w1.cell? ⟨w.heap.size, 0, none⟩ = some (.slice A n c) := M.r0.cell 0
      go_wp2_with fail
      refine (implTermOk A Q n c m mc sg t _ M.ss M.st hn hm).mono ?_
      rintro e w2 ⟨he, bb⟩
      rw [HST.out] at he
      subst he
      replace M := M.next bb
      clear bb c0
      have c0 : w2.cell? ⟨w.heap.size, 0, none⟩ = some (.slice A n c) := M.r0.cell 0
      have LX : Calls Try.prog 54 #[.agg z24, .slice P pn pc, .agg #[.slice A n c, .slice Q m mc, .int .i64 0]] w2 (AnsExt w2 (mst sg t p 0 s0)) :=
        extended A P Q n c pn pc m mc sg p t 0 z24 s0 w2 M.ss M.sp M.st hn hp60 hm60 hmc hmc2 (by rw [← M.st.1]; exact (term_len HST.out).1) HSP.out HST.out (TabR.new _ _) (fun j => by rw [s0_get]; simp)
      obtain ⟨R, hR⟩ : ∃ R, mst sg t p 0 s0 = R := ⟨_, rfl⟩
      rw [hR] at LX
      have HR := Lib.hid hR
      have HLX := Lib.hid LX
      clear LX hR
      have zw := M.r1.lt
      go_wp2_with (first
        | (refine rowBuild rfl 67 rfl z24 built_b ?_)
        | (go_at_call 54; refine HLX.out.mono ?_; rintro e w3 ⟨cs, rfl, tab, hsz, bb⟩; have one := Lib.hid tab.one; have h24 := Lib.hid tab.1; have bb3 := bb)
        | (refine rowAlloc rfl 67 rfl z24 zero_b ?_)
        | (refine rowStore rfl 67 _ _ rfl w3.heap.size cs z24 67 rfl rfl (heap_alloc_new w3 _) (by rw [h24.out]; exact size_b) (by rw [h24.out]; rfl) one.out ?_; rw [World.setRow_alloc_new])
        | (refine wpList_load_row rfl 67 _ rfl w3.heap.size rfl 67 cs (0, 0) _ (heap_alloc_new w3 _) Try.underlying67 rfl (by rw [h24.out]; exact size_b) ?_))
      have M3 := M.next bb
      have B4 : Below w3.heap.size w3 (w3.alloc (.cells cs 67)) := (Below.refl _ _).alloc (Nat.le_refl _) _
      have tab4 : TabR (w3.alloc (.cells cs 67)) (w3.alloc (.cells cs 67)).heap.size cs (R.getD s0) := (tab.below (B4.mono bb.size)).more (by have := bb.size; simp; omega)
      have LP := Lib.hid (plainB cs (R.getD s0) _ tab4 hsz)
      have M4 := M3.next B4
      have HI2 := Lib.hid (show instB sg p t = R.isSome by rw [HIO.out, HR.out])
      have HM2 := Lib.hid (show resL (matchO sg p t) = resL R by rw [HMO.out, HR.out])
      rw [res_get] at LP
      clear M M3 tab4 tab hsz bb bb3 one h24 HLX B4 c0
      refine LP.out.mono ?_
      rintro e w5 ⟨D, dn, dc, rfl, od, bb⟩
      have M5 := M4.next bb
      have z4 := M4.b.size
      have z5 := M4.r1.lt
      have cR : w5.cell? ⟨w.heap.size + 1, 0, none⟩ = some (.slice none 0 0) := M5.r1.cell 0
      have fR : w5.frozen? ⟨w.heap.size + 1, 0, none⟩ = false := M5.r1.free 0
      obtain ⟨b, hb⟩ : ∃ b, R.isSome = b := ⟨_, rfl⟩
      rw [hb]
      have F : AnsM w (resL (matchO sg p t)) (instB sg p t) (.returned (.tuple #[.agg #[.slice D dn dc], .bool b])) (w5.setCell ⟨w.heap.size + 1, 0, none⟩ (.slice D dn dc)) := by
        rw [HI2.out, HM2.out, hb]
        have hbt : Btw (w.heap.size + 1) (w.heap.size + 2) w5 (w5.setCell ⟨w.heap.size + 1, 0, none⟩ (.slice D dn dc)) := Btw.of_grown (grown_put (World.grownBy.refl _ _) _ _) (fun k hk => by injection hk; omega)
        have o2 := od.btw hbt (.inr (by simp at z5 ⊢; omega))
        exact ⟨D, dn, dc, rfl, o2.wider (by simp at z4 ⊢; omega) (by simp), (M5.b).setCell (p := ⟨w.heap.size + 1, 0, none⟩) (show w.heap.size ≤ w.heap.size + 1 by omega) _⟩
      have HF := Lib.hid F
      clear F od bb M4 M5 HIO hb LP
      go_wp2
      exact bodyPost_ret (v := .tuple #[.agg #[.slice D dn dc], .bool b]) (by simp [results, Try.results14, go_sem, cR]) rfl HF.out

set_option maxHeartbeats 1000000 in
theorem implInstanceIn (A P Q : Option Addr) (n c pn pc m mc : Nat) (sg p t : List Int) (w : World) (h : Seg w w.heap.size A n sg) (hp : Seg w w.heap.size P pn p) (ht : Seg w w.heap.size Q m t) (hn : n ≤ 1048576) (hpn : pn ≤ 1048576) (hm : m ≤ 1048576) (hmc : m ≤ mc) (hmc2 : mc ≤ 9223372036854775807) :
    Calls Try.prog 19 #[.agg #[.slice A n c], .slice P pn pc, .slice Q m mc] w (Tells w (instB sg p t)) := by
  obtain ⟨W, hW⟩ : ∃ W, W = w.alloc (.cells #[.slice A n c] 26) := ⟨_, rfl⟩
  have bW : Below w.heap.size w W := by rw [hW]; exact (Below.refl _ _).alloc (Nat.le_refl _) _
  have HW := Lib.hid hW
  have L := Lib.hid (implMatched A P Q n c pn pc m mc sg p t W (h.next bW) (hp.next bW) (ht.next bW) hn hpn hm hmc hmc2)
  clear hW h hp ht
  generalize instB sg p t = b at *
  go_enter Try.func19, Try.ntmps19
  go_wp2_with fail
  rw [← HW.out]
  refine L.out.mono ?_
  rintro e w1 ⟨D, dn, dc, rfl, od, bb⟩
  have F := Lib.hid (fun o => (show Tells w b (.returned (.bool b)) (w1.alloc o) from ⟨rfl, (next_trans bW bb).alloc (next_trans bW bb).size _⟩))
  clear od bb L bW
  go_wp2
  go_ret
  exact F.out _
set_option maxHeartbeats 1000000 in
theorem implMoreGeneral (A P Q : Option Addr) (n c pn pc m mc : Nat) (sg p t : List Int) (w : World) (h : Seg w w.heap.size A n sg) (hp : Seg w w.heap.size P pn p) (ht : Seg w w.heap.size Q m t) (hn : n ≤ 1048576) (hpn : pn ≤ 1048576) (hm : m ≤ 1048576) (hpc : pn ≤ pc) (hpc2 : pc ≤ 9223372036854775807) (hmc : m ≤ mc) (hmc2 : mc ≤ 9223372036854775807) :
    Calls Try.prog 50 #[.agg #[.slice A n c], .slice P pn pc, .slice Q m mc] w (Tells w (moreB sg p t)) := by
  obtain ⟨W, hW⟩ : ∃ W, W = w.alloc (.cells #[.slice A n c] 26) := ⟨_, rfl⟩
  have f : Fr w W A n c sg Q m t := by rw [hW]; exact Fr.start h ht
  have sp : Seg W W.heap.size P pn p := (hp.below f.b).more (Nat.le_of_lt f.size)
  have HW := Lib.hid hW
  have L := Lib.hid (implInstanceIn A P Q n c pn pc m mc sg p t W f.s1 sp f.t1 hn hpn hm hmc hmc2)
  clear hW h hp ht
  obtain ⟨b1, e1⟩ : ∃ b, instB sg p t = b := ⟨_, rfl⟩
  obtain ⟨b2, e2⟩ : ∃ b, instB sg t p = b := ⟨_, rfl⟩
  have HF := Lib.hid (show moreB sg p t = (b1 && !b2) by unfold moreB; rw [e1, e2])
  rw [e1] at L
  have E2 := Lib.hid e2
  clear e1 e2
  go_enter Try.func50, Try.ntmps50
  go_wp2_with fail
  rw [← HW.out]
  refine L.out.mono ?_
  rintro e w1 ⟨rfl, bb⟩
  replace f := f.next bb
  replace sp := sp.next bb
  have cA := f.cell
  clear bb L
  cases b1 with
  | false =>
    have F := Lib.hid (show Tells w (moreB sg p t) (.returned (.bool false)) w1 from ⟨by rw [HF.out]; rfl, f.b⟩)
    clear f sp cA
    go_wp2
    go_ret
    exact F.out
  | true =>
    go_wp2_with fail
    refine (implInstanceIn A Q P n c m mc pn pc sg t p _ f.s1 f.t1 sp hn hm hpn hpc hpc2).mono ?_
    rintro e w2 ⟨he, bb⟩
    rw [E2.out] at he
    subst he
    have F := Lib.hid (show Tells w (moreB sg p t) (.returned (.bool (!b2))) w2 from ⟨by rw [HF.out]; rfl, (f.next bb).b⟩)
    clear f sp cA bb
    go_wp2
    go_ret
    exact F.out


/-- so many are terms -/
def HeadTo (w : World) (A : Option Addr) (n c : Nat) (sg : List Int) (P : Option Addr) (pn : Nat) (ps : List (List Int)) (i : Value) (wr : World) : Prop :=
  ∃ k : Nat, i = .int .i64 k ∧ k ≤ pn ∧ (∀ j, j < k → termOkB sg (ps.getD j []) = true) ∧ Fs w wr A n c sg P pn ps
set_option maxHeartbeats 1000000 in
theorem implTermsOk (A P : Option Addr) (n c pn pc : Nat) (sg : List Int) (ps : List (List Int)) (w : World) (h : Seg w w.heap.size A n sg) (hp : Segs w w.heap.size P pn ps) (hn : n ≤ 1048576) (ht : tot ps ≤ 1048576) :
    Calls Try.prog 79 #[.agg #[.slice A n c], .slice P pn pc] w (Tells w (termsB sg ps)) := by
  obtain ⟨W, hW⟩ : ∃ W, W = w.alloc (.cells #[.slice A n c] 26) := ⟨_, rfl⟩
  have f : Fs w W A n c sg P pn ps := by rw [hW]; exact Fs.start h hp
  have HW := Lib.hid hW
  have HL := Lib.hid hp.1
  have HE := Lib.hid (tot_each ht)
  have hpn : pn ≤ 1048576 := tot_len hp.1 ht
  clear hW h hp ht
  by_cases hlong : 12 < pn
  · have F := Lib.hid (show Tells w (termsB sg ps) (.returned (.bool false)) W from ⟨by rw [terms_long (by rw [HL.out]; exact hlong)], f.b⟩)
    clear f
    go_enter Try.func79, Try.ntmps79
    go_wp2_with fail
    rw [← HW.out]
    go_ret
    exact F.out
  · have S0 : HeadTo w A n c sg P pn ps (.int .i64 0) W := ⟨0, rfl, Nat.zero_le _, fun j hj => absurd hj (Nat.not_lt_zero _), f⟩
    have HS0 := Lib.hid S0
    clear S0 f
    go_enter Try.func79, Try.ntmps79
    go_wp2_with fail
    rw [← HW.out]
    go_loopw [12] (fun i wr => HeadTo w A n c sg P pn ps i wr) (fun i _ => pn - (intOf i).toNat)
    case atStart => exact HS0.out
    case round =>
      obtain ⟨k, rfl, hk, hlow, f⟩ := hrel
      have HLOW := Lib.hid hlow
      clear hlow HS0
      by_cases hlt : k < pn
      · obtain ⟨b, off, D, dn, dc, rfl, hbb, hc, hsg, hcap⟩ := f.s'.spot hlt
        have hdn : dn ≤ 1048576 := by have := HE.out k; rw [hsg.1] at this; exact this
        have cA := f.cell
        have LT := Lib.hid (implTermOk A D n c dn dc sg (ps.getD k []) wr f.s1 (hsg.more (Nat.le_of_lt f.size)) hn hdn)
        clear hsg hcap
        cases hok : termOkB sg (ps.getD k []) with
        | false =>
          have HS := Lib.hid hok
          clear hok
          go_wp2_with fail
          refine LT.out.mono ?_
          rintro e w1 ⟨he, bb⟩
          rw [HS.out] at he
          subst he
          have F := Lib.hid (show Tells w (termsB sg ps) (.returned (.bool false)) w1 from ⟨by rw [terms_bad (by rw [HL.out]; exact hlt) HS.out], (f.next bb).b⟩)
          clear f bb cA LT hc
          go_wp2
          go_ret
          exact F.out
        | true =>
          have HS := Lib.hid hok
          clear hok
          go_wp2_with fail
          refine LT.out.mono ?_
          rintro e w1 ⟨he, bb⟩
          rw [HS.out] at he
          subst he
          have S : HeadTo w A n c sg (some ⟨b, off, none⟩) pn ps (.int .i64 ((k : Int) + 1)) w1 := ⟨k + 1, by simp, hlt, fun j hj => by
            by_cases e : j = k
            · rw [e]; exact HS.out
            · exact HLOW.out j (by omega), f.next bb⟩
          have HSS := Lib.hid S
          clear S f bb cA LT hc
          go_wp2
          go_roundw
          case rel => exact HSS.out
          case measure => simp [intOf]; omega
      · have F := Lib.hid (show Tells w (termsB sg ps) (.returned (.bool true)) wr from ⟨by rw [terms_good (by rw [HL.out]; omega) (fun i hi => HLOW.out i (by rw [HL.out] at hi; omega))], f.b⟩)
        clear f
        go_wp2
        go_ret
        exact F.out
end Go.Proofs.Ythbhiihhanochaa.matchImpl
end

section
/-
  CONTRACTS: impl.EmbedsIn, MatchedAll. Conditions: the slices read as lists ('Seg', 'Segs'), at most 1048576 numbers. By an AI agent.
-/
namespace Go.Proofs.Ythbhiihhanochaa.matchImplB
open Go.RowKit Go.Proofs.Ythbhiihhanochaa.base Go.Proofs.Ythbhiihhanochaa.ints Go.Proofs.Ythbhiihhanochaa.sig Go.Proofs.Ythbhiihhanochaa.same Go.Proofs.Ythbhiihhanochaa.term Go.Proofs.Ythbhiihhanochaa.termOk Go.Proofs.Ythbhiihhanochaa.endAt Go.Proofs.Ythbhiihhanochaa.inside Go.Proofs.Ythbhiihhanochaa.marks Go.Proofs.Ythbhiihhanochaa.app Go.Proofs.Ythbhiihhanochaa.sym Go.Proofs.Ythbhiihhanochaa.sub Go.Proofs.Ythbhiihhanochaa.segs Go.Proofs.Ythbhiihhanochaa.segsHelp Go.Proofs.Ythbhiihhanochaa.kinds Go.Proofs.Ythbhiihhanochaa.termFacts Go.Proofs.Ythbhiihhanochaa.termMath Go.Proofs.Ythbhiihhanochaa.posMath Go.Proofs.Ythbhiihhanochaa.plainMath Go.Proofs.Ythbhiihhanochaa.plain Go.Proofs.Ythbhiihhanochaa.plainOf Go.Proofs.Ythbhiihhanochaa.gives Go.Proofs.Ythbhiihhanochaa.cursor Go.Proofs.Ythbhiihhanochaa.fillMath Go.Proofs.Ythbhiihhanochaa.matchMath Go.Proofs.Ythbhiihhanochaa.matchSpec Go.Proofs.Ythbhiihhanochaa.matchList Go.Proofs.Ythbhiihhanochaa.matchMost Go.Proofs.Ythbhiihhanochaa.whole Go.Proofs.Ythbhiihhanochaa.takeMath Go.Proofs.Ythbhiihhanochaa.take Go.Proofs.Ythbhiihhanochaa.extended Go.Proofs.Ythbhiihhanochaa.pathSpec Go.Proofs.Ythbhiihhanochaa.matchImpl
set_option maxRecDepth 100000

def HeadEi (w : World) (N : Nat) (A : Option Addr) (n c : Nat) (sg : List Int) (P : Option Addr) (pn : Nat) (p : List Int) (Q : Option Addr) (m : Nat) (t : List Int) (out k : Value) (wr : World) : Prop :=
  ∃ (i : Nat) (O : Option Addr) (on oc : Nat), k = .int .i64 i ∧ i ≤ m ∧ out = .slice O on oc ∧ Own wr (N + 1) (.slice O on oc) (embN sg p t i) ∧ Fr w wr A n c sg Q m t ∧ Seg wr w.heap.size P pn p ∧ Row wr N 67 z24

set_option maxHeartbeats 1000000 in
theorem implEmbedsIn (A P Q : Option Addr) (n c pn pc m mc : Nat) (sg p t : List Int) (w : World) (h : Seg w w.heap.size A n sg) (hp : Seg w w.heap.size P pn p) (ht : Seg w w.heap.size Q m t) (hn : n ≤ 1048576) (hpn : pn ≤ 1048576) (hm : m ≤ 1048576) (hmc : m ≤ mc) (hmc2 : mc ≤ 9223372036854775807) :
    Calls Try.prog 23 #[.agg #[.slice A n c], .slice P pn pc, .slice Q m mc] w (AnsList w (embI sg p t)) := by
  obtain ⟨W, hW⟩ : ∃ W, W = w.alloc (.cells #[.slice A n c] 26) := ⟨_, rfl⟩
  have f : Fr w W A n c sg Q m t := by rw [hW]; exact Fr.start h ht
  have sp : Seg W w.heap.size P pn p := hp.below f.b
  have HW := Lib.hid hW
  have HL := Lib.hid ht.1
  have cA := f.cell
  have cA0 : (w.alloc (.cells #[.slice A n c] 26)).cell? ⟨w.heap.size, 0, none⟩ = some (.slice A n c) := by rw [← hW]; exact cA
  have LP := Lib.hid (implTermOk A P n c pn pc sg p W f.s1 (sp.more (Nat.le_of_lt f.size)) hn hpn)
  clear hW h hp ht
  cases hokp : termOkB sg p with
  | false =>
    have HS := Lib.hid hokp
    have HF := Lib.hid (emb_no (t := t) (.inl hokp))
    clear hokp
    go_enter Try.func23, Try.ntmps23
    go_wp2_with fail
    rw [← HW.out]
    refine LP.out.mono ?_
    rintro e w1 ⟨he, bb⟩
    rw [HS.out] at he
    subst he
    have F := Lib.hid (list_of (w := w) HF.out (Own.nil w1 w.heap.size) (Nat.le_refl _) (f.next bb).b)
    clear f sp bb LP cA cA0
    go_wp2
    go_ret
    exact F.out
  | true =>
    have HSP := Lib.hid hokp
    have hp60 : pn ≤ 60 := by have h1 := (termOk_parts hokp).2.1; rw [sp.1] at h1; exact h1
    cases hokt : termOkB sg t with
    | false =>
      have HS := Lib.hid hokt
      have HF := Lib.hid (emb_no (p := p) (.inr hokt))
      clear hokp hokt
      go_enter Try.func23, Try.ntmps23
      go_wp2_with fail
      rw [← HW.out]
      refine LP.out.mono ?_
      rintro e w1 ⟨he, bb⟩
      rw [HSP.out] at he
      subst he
      replace f := f.next bb
      clear bb LP cA cA0 sp
      have cA := f.cell
      go_wp2_with fail
      refine (implTermOk A Q n c m mc sg t _ f.s1 f.t1 hn hm).mono ?_
      rintro e w2 ⟨he, bb⟩
      rw [HS.out] at he
      subst he
      have F := Lib.hid (list_of (w := w) HF.out (Own.nil w2 w.heap.size) (Nat.le_refl _) (f.next bb).b)
      clear f bb cA
      go_wp2
      go_ret
      exact F.out
    | true =>
      have HST := Lib.hid hokt
      have hm60 : m ≤ 60 := by have h1 := (termOk_parts hokt).2.1; rw [HL.out] at h1; exact h1
      have HF := Lib.hid (show embI sg p t = embN sg p t m by rw [emb_yes hokp hokt, HL.out])
      clear hokp hokt
      go_enter Try.func23, Try.ntmps23
      go_wp2_with fail
      rw [← HW.out]
      refine LP.out.mono ?_
      rintro e w1 ⟨he, bb⟩
      rw [HSP.out] at he
      subst he
      have bz : Below w.heap.size W w1 := bb.mono (Nat.le_of_lt f.size)
      replace f := f.next bb
      replace sp := sp.below bz
      clear bb bz LP cA cA0
      have cA := f.cell
      go_wp2_with fail
      refine (implTermOk A Q n c m mc sg t _ f.s1 f.t1 hn hm).mono ?_
      rintro e w2 ⟨he, bb⟩
      rw [HST.out] at he
      subst he
      have bz : Below w.heap.size w1 w2 := bb.mono (Nat.le_of_lt f.size)
      replace f := f.next bb
      replace sp := sp.below bz
      have zN := f.size
      have S0 : HeadEi w w2.heap.size A n c sg P pn p Q m t (.slice none 0 0) (.int .i64 0) (w2.alloc (.cells z24 67)) := ⟨0, none, 0, 0, rfl, Nat.zero_le _, rfl, Own.nil _ _, f.alloc _, sp.alloc (Nat.le_of_lt f.size) _, Row.new _ _ _⟩
      have HS0 := Lib.hid S0
      clear S0 f sp bb bz cA
      go_wp2_with (first | (refine rowAlloc rfl 67 rfl z24 zero_b ?_))
      go_loopw [8, 24] (fun out k wr => HeadEi w w2.heap.size A n c sg P pn p Q m t out k wr) (fun _ k _ => m - (intOf k).toNat)
      case atStart => exact HS0.out
      case round =>
        obtain ⟨i, O, on, oc, rfl, hi, rfl, ho, f, sp, rN⟩ := hrel
        clear HS0
        have hon : on ≤ 60 := by have h1 := Own.len ho; have h2 := emb_len (sg := sg) (p := p) (t := t) i; omega
        by_cases him : i < m
        · obtain ⟨R, hR⟩ : ∃ R, mst sg t p i s0 = R := ⟨_, rfl⟩
          have HB := Lib.hid (show R.isSome = instB sg p (subL sg t i) by rw [← hR]; exact mst_at HSP.out HST.out (by rw [HL.out]; exact him))
          have LX := extended A P Q n c pn pc m mc sg p t i z24 s0 wr f.s1 (sp.more (Nat.le_of_lt f.size)) f.t1 hn hp60 hm60 hmc hmc2 him HSP.out HST.out (TabR.new _ _) (fun j => by rw [s0_get]; simp)
          rw [hR] at LX
          have HLX := Lib.hid LX
          have hrN := rN
          unfold Row at hrN
          have HRN := Lib.hid hrN
          have cA := f.cell
          have HO := Lib.hid ho
          have HFr := Lib.hid f
          have HP := Lib.hid sp
          have HN := Lib.hid rN
          have HE := Lib.hid (show embN sg p t (i + 1) = embN sg p t i ++ (if R.isSome = true then [(i : Int)] else []) by simp only [embN]; rw [HB.out])
          have zr : w2.heap.size < wr.heap.size := rN.lt
          clear LX hR f sp ho rN hrN HB
          obtain ⟨b, hb⟩ : ∃ b, R.isSome = b := ⟨_, rfl⟩
          have HBB := Lib.hid hb
          clear hb
          cases b with
          | false =>
            go_wp2_with (first
              | (refine wpList_load_row rfl 67 _ rfl w2.heap.size rfl 67 z24 (0, 0) _ HRN.out Try.underlying67 rfl (by rw [z24_size]; exact size_b) ?_)
              | (go_at_call 54; refine HLX.out.mono ?_; rintro e w3 ⟨cs, rfl, tab, hsz, bb⟩; rw [HBB.out]; have one := Lib.hid tab.one; have h24 := Lib.hid tab.1; have B4 := bb.alloc bb.size (.cells cs 67); clear tab hsz)
              | (refine rowAlloc rfl 67 rfl z24 zero_b ?_)
              | (refine rowStore rfl 67 _ _ rfl w3.heap.size cs z24 67 rfl rfl (heap_alloc_new w3 _) (by rw [h24.out]; exact size_b) (by rw [h24.out]; rfl) one.out ?_; rw [World.setRow_alloc_new]))
            have S : HeadEi w w2.heap.size A n c sg P pn p Q m t (.slice O on oc) (.int .i64 ((i : Int) + 1)) (w3.alloc (.cells cs 67)) :=
              ⟨i + 1, O, on, oc, by simp, him, rfl, by rw [HE.out, HBB.out]; simpa using Own.next HO.out B4, HFr.out.next B4, HP.out.below (B4.mono (Nat.le_of_lt HFr.out.size)), HN.out.next B4⟩
            have HSS := Lib.hid S
            clear S B4 bb one h24 HLX HO HFr HP HN HRN cA
            go_wp2
            go_roundw
            case rel => exact HSS.out
            case measure => simp [intOf]; omega
          | true =>
            go_wp2_with (first
              | (refine wpList_load_row rfl 67 _ rfl w2.heap.size rfl 67 z24 (0, 0) _ HRN.out Try.underlying67 rfl (by rw [z24_size]; exact size_b) ?_)
              | (go_at_call 54; refine HLX.out.mono ?_; rintro e w3 ⟨cs, rfl, tab, hsz, bb⟩; rw [HBB.out]; have one := Lib.hid tab.one; have h24 := Lib.hid tab.1; have B4 := bb.alloc bb.size (.cells cs 67); clear tab hsz)
              | (refine rowAlloc rfl 67 rfl z24 zero_b ?_)
              | (refine rowStore rfl 67 _ _ rfl w3.heap.size cs z24 67 rfl rfl (heap_alloc_new w3 _) (by rw [h24.out]; exact size_b) (by rw [h24.out]; rfl) one.out ?_; rw [World.setRow_alloc_new])
              | (at_builtin; refine app1 rfl _ _ rfl (w2.heap.size + 1) O on oc _ rfl (Own.alloc (Own.next HO.out B4) _) (w3.alloc (.cells cs 67)).heap.size 1 (i : Int) (by simp [Act.eval]) ((Row.new _ _ _).cell 0) (by omega) (by have := B4.size; simp at this ⊢; omega) ?_; intro O' oc' w7 ho7 b7))
            have S : HeadEi w w2.heap.size A n c sg P pn p Q m t (.slice O' (on + 1) oc') (.int .i64 ((i : Int) + 1)) w7 := by
              have f4 := HFr.out.next B4
              have p4 := HP.out.below (B4.mono (Nat.le_of_lt HFr.out.size))
              have n4 := HN.out.next B4
              refine ⟨i + 1, O', on + 1, oc', by simp, him, rfl, by rw [HE.out, HBB.out]; exact ho7, (f4.alloc _).over (b7.mono (by omega)), (p4.alloc (Nat.le_of_lt f4.size) _).below (b7.mono (by omega)), (n4.alloc _).below b7 (Nat.lt_succ_self _)⟩
            have HSS := Lib.hid S
            clear S ho7 b7 B4 bb one h24 HLX HO HFr HP HN HRN cA
            go_wp2
            go_roundw
            case rel => exact HSS.out
            case measure => simp [intOf]; omega
        · have him2 : i = m := by omega
          have F := Lib.hid (list_of (w := w) (show embI sg p t = embN sg p t i by rw [HF.out, him2]) ho (by omega) f.b)
          clear ho f sp rN him2
          go_wp2
          go_ret
          exact F.out

theorem all_terms {sg : List Int} {ps : List (List Int)} (h : sigOkB sg = true) : allB sg ps = termsB sg ps := by unfold allB termsB; rw [h]; rfl

set_option maxHeartbeats 1000000 in
theorem implMatchedAll (A P Q : Option Addr) (n c pn pc m mc : Nat) (sg : List Int) (ps : List (List Int)) (t : List Int) (w : World) (h : Seg w w.heap.size A n sg) (hp : Segs w w.heap.size P pn ps) (ht : Seg w w.heap.size Q m t) (hn : n ≤ 1048576) (htot : tot ps ≤ 1048576) (hm : m ≤ 1048576) (hmc : m ≤ mc) (hmc2 : mc ≤ 9223372036854775807) :
    Calls Try.prog 31 #[.agg #[.slice A n c], .slice P pn pc, .slice Q m mc] w (AnsList w (maI sg ps t)) := by
  obtain ⟨W, hW⟩ : ∃ W, W = w.alloc (.cells #[.slice A n c] 26) := ⟨_, rfl⟩
  have f : Fs w W A n c sg P pn ps := by rw [hW]; exact Fs.start h hp
  have st : Seg W w.heap.size Q m t := ht.below f.b
  have HW := Lib.hid hW
  have HL := Lib.hid hp.1
  have HE := Lib.hid (tot_each htot)
  have HTOT := Lib.hid htot
  have cA := f.cell
  have cA0 : (w.alloc (.cells #[.slice A n c] 26)).cell? ⟨w.heap.size, 0, none⟩ = some (.slice A n c) := by rw [← hW]; exact cA
  have LP := Lib.hid (implTermOk A Q n c m mc sg t W f.s1 (st.more (Nat.le_of_lt f.size)) hn hm)
  clear hW h hp ht htot
  cases hokt : termOkB sg t with
  | false =>
    have HS := Lib.hid hokt
    have HF := Lib.hid (ma_no (ps := ps) (.inr hokt))
    clear hokt
    go_enter Try.func31, Try.ntmps31
    go_wp2_with fail
    rw [← HW.out]
    refine LP.out.mono ?_
    rintro e w1 ⟨he, bb⟩
    rw [HS.out] at he
    subst he
    have F := Lib.hid (list_of (w := w) HF.out (Own.nil w1 w.heap.size) (Nat.le_refl _) (f.next bb).b)
    clear f st bb LP cA cA0
    go_wp2
    go_ret
    exact F.out
  | true =>
    have HST := Lib.hid hokt
    have HAT := Lib.hid (all_terms (ps := ps) (termOk_parts hokt).1)
    cases hall : termsB sg ps with
    | false =>
      have HS := Lib.hid hall
      have HF := Lib.hid (ma_no (t := t) (.inl (HAT.out.trans hall)))
      clear hall hokt
      go_enter Try.func31, Try.ntmps31
      go_wp2_with fail
      rw [← HW.out]
      refine LP.out.mono ?_
      rintro e w1 ⟨he, bb⟩
      rw [HST.out] at he
      subst he
      have bz : Below w.heap.size W w1 := bb.mono (Nat.le_of_lt f.size)
      replace f := f.next bb
      replace st := st.below bz
      clear bb bz LP cA cA0
      have cA := f.cell
      go_wp2_with fail
      refine (implTermsOk A P n c pn pc sg ps _ f.s1 (f.s'.more (Nat.le_of_lt f.size)) hn HTOT.out).mono ?_
      rintro e w2 ⟨he, bb⟩
      rw [HS.out] at he
      subst he
      have F := Lib.hid (list_of (w := w) HF.out (Own.nil w2 w.heap.size) (Nat.le_refl _) (f.next bb).b)
      clear f st bb cA
      go_wp2
      go_ret
      exact F.out
    | true =>
      have HS := Lib.hid hall
      have hp12 : pn ≤ 12 := by have h1 := (terms_parts hall).1; rw [HL.out] at h1; exact h1
      have HF := Lib.hid (show maI sg ps t = maN sg ps t pn by rw [ma_yes (HAT.out.trans hall) hokt, HL.out])
      clear hall hokt
      go_enter Try.func31, Try.ntmps31
      go_wp2_with fail
      rw [← HW.out]
      refine LP.out.mono ?_
      rintro e w1 ⟨he, bb⟩
      rw [HST.out] at he
      subst he
      have bz : Below w.heap.size W w1 := bb.mono (Nat.le_of_lt f.size)
      replace f := f.next bb
      replace st := st.below bz
      clear bb bz LP cA cA0
      have cA := f.cell
      go_wp2_with fail
      refine (implTermsOk A P n c pn pc sg ps _ f.s1 (f.s'.more (Nat.le_of_lt f.size)) hn HTOT.out).mono ?_
      rintro e w2 ⟨he, bb⟩
      rw [HS.out] at he
      subst he
      have bz : Below w.heap.size w1 w2 := bb.mono (Nat.le_of_lt f.size)
      have S0 : HeadMa w A n c sg P pn ps Q m t pn (.slice none 0 0) (.int .i64 0) w2 := ⟨0, none, 0, 0, rfl, by omega, rfl, Own.nil _ _, f.next bb, st.below bz⟩
      have HS0 := Lib.hid S0
      clear S0 f st bb bz cA
      go_wp2_with fail
      go_loopg [7, 22] pn (fun g out k wr => HeadMa w A n c sg P pn ps Q m t g out k wr)
      case atStart => exact HS0.out
      case round =>
        obtain ⟨i, O, on, oc, rfl, hi, rfl, ho, f, st⟩ := hrel
        clear HS0
        have HI := Lib.hid hi
        clear hi
        have hon : on ≤ 12 := by have h1 := Own.len ho; have h2 := ma_len (sg := sg) (ps := ps) (t := t) i; have := HI.out; omega
        by_cases hip : i < pn
        · obtain ⟨b, off, D, dn, dc, rfl, hbb, hc, hsg, hcap⟩ := f.s'.spot hip
          have hdn : dn ≤ 1048576 := by have := HE.out i; rw [hsg.1] at this; exact this
          have hgk := Lib.hid (show gk - 1 < gk ∧ i + 1 + (gk - 1) = pn by have := HI.out; omega)
          have sd : Seg wr wr.heap.size D dn (ps.getD i []) := hsg.more (Nat.le_of_lt f.size)
          obtain ⟨ys, hys⟩ : ∃ ys, ps.getD i [] = ys := ⟨_, rfl⟩
          rw [hys] at sd
          obtain ⟨bi, hbi⟩ : ∃ b, instB sg ys t = b := ⟨_, rfl⟩
          have HB := Lib.hid hbi
          have HE2 := Lib.hid (show maN sg ps t (i + 1) = maN sg ps t i ++ (if bi = true then [(i : Int)] else []) by simp only [maN]; rw [hys, hbi])
          have z0 := f.size
          have LI := Lib.hid (implInstanceIn A D Q n c dn dc m mc sg ys t wr f.s1 sd (st.more (Nat.le_of_lt f.size)) hn hdn hm hmc hmc2)
          have cA := f.cell
          clear hsg hcap hbi hys sd
          cases bi with
          | false =>
            go_wp2_with fail
            refine LI.out.mono ?_
            rintro e w3 ⟨he, bb⟩
            rw [HB.out] at he
            subst he
            have f2 := f.next bb
            have S : HeadMa w A n c sg (some ⟨b, off, none⟩) pn ps Q m t (gk - 1) (.slice O on oc) (.int .i64 ((i : Int) + 1)) w3 := ⟨i + 1, O, on, oc, by simp, hgk.out.2, rfl, by rw [HE2.out]; simpa using Own.next ho bb, f2, st.below (bb.mono (Nat.le_of_lt f.size))⟩
            have HSS := Lib.hid S
            clear S ho f f2 st bb LI cA hc
            go_wp2
            go_roundg (gk - 1)
            case measure => exact hgk.out.1
            case rel => exact HSS.out
          | true =>
            go_wp2_with fail
            refine LI.out.mono ?_
            rintro e w3 ⟨he, bb⟩
            rw [HB.out] at he
            subst he
            have f2 := f.next bb
            replace ho := Own.next ho bb
            replace st := st.below (bb.mono (Nat.le_of_lt f.size))
            have z1 : w.heap.size + 1 ≤ w3.heap.size := f2.size
            clear bb LI cA hc f
            go_wp2_with (at_builtin; refine app1 rfl _ _ rfl (w.heap.size + 1) O on oc _ rfl (Own.alloc ho _) w3.heap.size 1 (i : Int) rfl ((Row.new _ _ _).cell 0) (by omega) (by simp; omega) ?_; intro O' oc' w7 ho7 b7)
            have S : HeadMa w A n c sg (some ⟨b, off, none⟩) pn ps Q m t (gk - 1) (.slice O' (on + 1) oc') (.int .i64 ((i : Int) + 1)) w7 := ⟨i + 1, O', on + 1, oc', by simp, hgk.out.2, rfl, by rw [HE2.out]; exact ho7, (f2.alloc _).over b7, (st.alloc (Nat.le_of_lt f2.size) _).below (b7.mono (Nat.le_succ _))⟩
            have HSS := Lib.hid S
            clear S ho ho7 f2 st b7
            go_wp2
            go_roundg (gk - 1)
            case measure => exact hgk.out.1
            case rel => exact HSS.out
        · have hip2 : i = pn := by have := HI.out; omega
          have F := Lib.hid (list_of (w := w) (show maI sg ps t = maN sg ps t i by rw [HF.out, hip2]) ho (Nat.le_succ _) f.b)
          clear ho f st hip2
          go_wp2
          go_ret
          exact F.out
end Go.Proofs.Ythbhiihhanochaa.matchImplB
end

section
/-
  CONTRACTS: slices.IndexFunc, slices.ContainsFunc of a [][]int64, over whatever test ('Tests'). Conditions: the slices read as lists ('Segs'), at most 1048576 values. By an AI agent.
-/
namespace Go.Proofs.Ythbhiihhanochaa.anyOf
open Go.RowKit Go.Proofs.Ythbhiihhanochaa.base Go.Proofs.Ythbhiihhanochaa.ints Go.Proofs.Ythbhiihhanochaa.sig Go.Proofs.Ythbhiihhanochaa.segs Go.Proofs.Ythbhiihhanochaa.segsHelp Go.Proofs.Ythbhiihhanochaa.inside
set_option maxRecDepth 100000

/-- function g with what it has captured tests f, as long as what lies in w lies -/
def Tests (g : Nat) (lb : Array Value) (w : World) (f : List Int → Bool) : Prop :=
  ∀ (W : World) (D : Option Addr) (dn dc : Nat) (ys : List Int), Below w.heap.size w W → Seg W W.heap.size D dn ys → dn ≤ 1048576 → Cap D dn dc → Calls Try.prog g (#[.slice D dn dc] ++ lb) W (Tells W (f ys))
theorem Tests.next {g : Nat} {lb : Array Value} {w w' : World} {f : List Int → Bool} (h : Tests g lb w f) (hb : Below w.heap.size w w') : Tests g lb w' f :=
  fun W D dn dc ys hW hs hn hc => h W D dn dc ys (next_trans hb hW) hs hn hc

def AnsIx (w : World) (f : List Int → Bool) (xss : List (List Int)) (e : Ending) (w' : World) : Prop := ∃ z : Int, e = .returned (.int .i64 z) ∧ -1 ≤ z ∧ z ≤ 1048576 ∧ decide (0 ≤ z) = xss.any f ∧ Below w.heap.size w w'
def HeadIx (w : World) (n : Nat) (f : List Int → Bool) (xss : List (List Int)) (i : Value) (wr : World) : Prop := ∃ k : Nat, k ≤ n ∧ i = .int .i64 k ∧ (∀ j, j < k → f (xss.getD j []) = false) ∧ Below w.heap.size w wr
theorem any_at {f : List Int → Bool} {xss : List (List Int)} {k : Nat} (hk : k < xss.length) (h : f (xss.getD k []) = true) : xss.any f = true := by
  rw [List.any_eq_true]
  exact ⟨xss[k], List.getElem_mem hk, by simpa [List.getD, hk] using h⟩
theorem any_none {f : List Int → Bool} {xss : List (List Int)} (h : ∀ j, j < xss.length → f (xss.getD j []) = false) : xss.any f = false := by
  rw [List.any_eq_false]
  intro x hx
  obtain ⟨i, hi, rfl⟩ := List.getElem_of_mem hx
  have := h i hi
  simpa [List.getD, hi] using this

set_option maxHeartbeats 2000000 in
theorem indexFunc (g : Nat) (lb : Array Value) (eg : ∀ args w, (callFunc g args).run Try.prog w = .ok (.enter g args) w) (f : List Int → Bool) (A : Option Addr) (n c : Nat) (xss : List (List Int)) (w : World) (hT : Tests g lb w f)
    (h : Segs w w.heap.size A n xss) (hn : n ≤ 1048576) (hE : ∀ j, (xss.getD j []).length ≤ 1048576) :
    Calls Try.prog 105 #[.slice A n c, .func (.func g) #[] lb] w (AnsIx w f xss) := by
  have HE := Lib.hid hE
  have HL := Lib.hid h.1
  have HK := Lib.hid hT
  have HH : Hid (HeadIx w n f xss (.int .i64 0) w) := Lib.hid ⟨0, Nat.zero_le _, rfl, fun j hj => absurd hj (Nat.not_lt_zero _), Below.refl _ _⟩
  clear hE hT
  go_enter Try.func105, Try.ntmps105
  go_wp2_with fail
  go_loopw [8] (fun i wr => HeadIx w n f xss i wr) (fun i _ => n - (intOf i).toNat)
  case atStart => exact HH.out
  case round =>
    obtain ⟨k, hk, rfl, hlow, hb⟩ := hrel
    have HLOW := Lib.hid hlow
    clear hlow HH
    by_cases hlt : k < n
    · obtain ⟨b, off, A', n', cc, rfl, hbB, hx0, hseg, hcap⟩ := h.spot hlt
      have hx : wr.cell? ⟨b, off + k, none⟩ = some (.slice A' n' cc) := (hb.cell (p := ⟨b, off + k, none⟩) hbB).trans hx0
      have hn' : n' ≤ 1048576 := by rw [← hseg.1]; exact HE.out k
      obtain ⟨ys, hys⟩ : ∃ ys, xss.getD k [] = ys := ⟨_, rfl⟩
      rw [hys] at hseg
      have HY := Lib.hid hys
      have hcall := HK.out wr A' n' cc ys hb (hseg.below hb |>.more hb.size) hn' hcap
      obtain ⟨v, hv⟩ : ∃ v, f ys = v := ⟨_, rfl⟩
      rw [hv] at hcall
      have HV := Lib.hid hv
      have HC := Lib.hid hcall
      have i0 : (0 : Int) ≤ (k : Int) := by omega
      have i1 : (k : Int) < (n : Int) := by omega
      clear hseg hcap h hx0 hys hv hcall
      cases v with
      | true =>
        go_wp2_with (first
          | (go_at_fn g; refine HC.out.mono ?_; rintro e w1 ⟨rfl, bb⟩))
        have F : AnsIx w f xss (.returned (.int .i64 (k : Int))) w1 := ⟨k, rfl, by omega, by omega, by rw [decide_eq_true (by omega)]; exact (any_at (by rw [HL.out]; exact hlt) (by rw [HY.out]; exact HV.out)).symm, next_trans hb bb⟩
        have HF := Lib.hid F
        clear F hx bb hb HC
        go_wp2
        go_ret
        exact HF.out
      | false =>
        go_wp2_with (first
          | (go_at_fn g; refine HC.out.mono ?_; rintro e w1 ⟨rfl, bb⟩))
        have S1 : HeadIx w n f xss (.int .i64 ((k : Int) + 1)) w1 := ⟨k + 1, hlt, by simp, fun j hj => by
          by_cases e : j = k
          · rw [e, HY.out]; exact HV.out
          · exact HLOW.out j (by omega), next_trans hb bb⟩
        have HS1 := Lib.hid S1
        clear S1 hx bb hb HC
        go_wp2
        go_roundw
        case rel => exact HS1.out
        case measure => simp [intOf]; omega
    · have F : AnsIx w f xss (.returned (.int .i64 (-1))) wr := ⟨-1, rfl, by omega, by omega, (any_none (fun j hj => HLOW.out j (by rw [HL.out] at hj; omega))).symm, hb⟩
      have HF := Lib.hid F
      clear F h hb
      go_wp2
      go_ret
      exact HF.out
theorem containsFunc (g : Nat) (lb : Array Value) (eg : ∀ args w, (callFunc g args).run Try.prog w = .ok (.enter g args) w) (f : List Int → Bool) (A : Option Addr) (n c : Nat) (xss : List (List Int)) (w : World) (hT : Tests g lb w f)
    (h : Segs w w.heap.size A n xss) (hn : n ≤ 1048576) (hE : ∀ j, (xss.getD j []).length ≤ 1048576) :
    Calls Try.prog 83 #[.slice A n c, .func (.func g) #[] lb] w (Tells w (xss.any f)) := by
  have L := Lib.hid (indexFunc g lb eg f A n c xss w hT h hn hE)
  clear h hE hT
  go_enter Try.func83, Try.ntmps83
  go_wp2_with fail
  refine L.out.mono ?_
  rintro e w' ⟨z, rfl, h1, h2, hz, bb⟩
  have HZ := Lib.hid hz
  have HB := Lib.hid bb
  clear hz L bb
  go_wp2
  go_ret
  exact ⟨by rw [← HZ.out]; rfl, HB.out⟩
end Go.Proofs.Ythbhiihhanochaa.anyOf
end

section
/-
  CONTRACTS: the two tests of impl.MostGeneral, impl.MostGeneral. Conditions: the slices read as lists ('Seg', 'Segs'), at most 1048576 numbers. By an AI agent.
-/
namespace Go.Proofs.Ythbhiihhanochaa.matchImplC
open Go.RowKit Go.Proofs.Ythbhiihhanochaa.base Go.Proofs.Ythbhiihhanochaa.ints Go.Proofs.Ythbhiihhanochaa.sig Go.Proofs.Ythbhiihhanochaa.same Go.Proofs.Ythbhiihhanochaa.term Go.Proofs.Ythbhiihhanochaa.termOk Go.Proofs.Ythbhiihhanochaa.endAt Go.Proofs.Ythbhiihhanochaa.inside Go.Proofs.Ythbhiihhanochaa.marks Go.Proofs.Ythbhiihhanochaa.app Go.Proofs.Ythbhiihhanochaa.sym Go.Proofs.Ythbhiihhanochaa.sub Go.Proofs.Ythbhiihhanochaa.segs Go.Proofs.Ythbhiihhanochaa.segsHelp Go.Proofs.Ythbhiihhanochaa.kinds Go.Proofs.Ythbhiihhanochaa.termFacts Go.Proofs.Ythbhiihhanochaa.termMath Go.Proofs.Ythbhiihhanochaa.posMath Go.Proofs.Ythbhiihhanochaa.plainMath Go.Proofs.Ythbhiihhanochaa.plain Go.Proofs.Ythbhiihhanochaa.plainOf Go.Proofs.Ythbhiihhanochaa.gives Go.Proofs.Ythbhiihhanochaa.cursor Go.Proofs.Ythbhiihhanochaa.fillMath Go.Proofs.Ythbhiihhanochaa.matchMath Go.Proofs.Ythbhiihhanochaa.matchSpec Go.Proofs.Ythbhiihhanochaa.matchList Go.Proofs.Ythbhiihhanochaa.matchMost Go.Proofs.Ythbhiihhanochaa.whole Go.Proofs.Ythbhiihhanochaa.takeMath Go.Proofs.Ythbhiihhanochaa.take Go.Proofs.Ythbhiihhanochaa.extended Go.Proofs.Ythbhiihhanochaa.pathSpec Go.Proofs.Ythbhiihhanochaa.matchImpl Go.Proofs.Ythbhiihhanochaa.renMath Go.Proofs.Ythbhiihhanochaa.varsOf Go.Proofs.Ythbhiihhanochaa.variant Go.Proofs.Ythbhiihhanochaa.anyOf Go.Proofs.Ythbhiihhanochaa.matchImplB
set_option maxRecDepth 100000

theorem any_range {f : List Int → Bool} {ps : List (List Int)} : ∀ n, n ≤ ps.length → ((List.range n).any fun k => f (ps.getD k [])) = (ps.take n).any f
  | 0, _ => rfl
  | n + 1, h => by
    rw [List.range_succ, List.any_append, any_range n (by omega), List.take_succ_eq_append_getElem h, List.any_append]
    simp [List.getD, show n < ps.length by omega]
theorem best_any {sg : List Int} {ps : List (List Int)} {i : Nat} (hi : i ≤ ps.length) : bestB sg ps i = (!(ps.any fun q => moreB sg q (ps.getD i [])) && !((ps.take i).any fun q => variantB sg q (ps.getD i []))) := by
  have h1 := any_range (f := fun q => moreB sg q (ps.getD i [])) (ps := ps) ps.length (Nat.le_refl _)
  have h2 := any_range (f := fun q => variantB sg q (ps.getD i [])) (ps := ps) i hi
  rw [List.take_length] at h1
  rw [← h1, ← h2, Bool.eq_iff_iff]
  unfold bestB
  rw [List.all_eq_true, Bool.and_eq_true, Bool.not_eq_true', Bool.not_eq_true', List.any_eq_false, List.any_eq_false]
  constructor
  · intro h
    refine ⟨fun k hk => ?_, fun k hk => ?_⟩
    · have := h k hk
      rw [Bool.not_eq_true', Bool.or_eq_false_iff] at this
      rw [this.1]; simp
    · rw [List.mem_range] at hk
      have := h k (List.mem_range.2 (by omega))
      rw [Bool.not_eq_true', Bool.or_eq_false_iff, decide_eq_true hk, Bool.true_and] at this
      unfold variantB
      rw [this.2]; simp
  · rintro ⟨g1, g2⟩ k hk
    have a := g1 k hk
    rw [Bool.not_eq_true] at a
    rw [a, Bool.false_or]
    by_cases hki : k < i
    · have b := g2 k (List.mem_range.2 hki)
      unfold variantB at b
      rw [Bool.not_eq_true] at b
      rw [b, Bool.and_false]; rfl
    · rw [decide_eq_false hki]; rfl

theorem testMore (bs bp : Nat) (A D : Option Addr) (n c dn dc : Nat) (sg p : List Int) (w : World) (hcs : w.cell? ⟨bs, 0, none⟩ = some (.slice A n c)) (hcp : w.cell? ⟨bp, 0, none⟩ = some (.slice D dn dc)) (hs : Seg w w.heap.size A n sg) (hp : Seg w w.heap.size D dn p)
    (hn : n ≤ 1048576) (hdn : dn ≤ 1048576) (hcap : Cap D dn dc) : Tests 80 #[.pointer (some ⟨bs, 0, none⟩), .pointer (some ⟨bp, 0, none⟩)] w (fun q => moreB sg q p) := by
  intro W E en ec q hW hq hen hec
  have d1 : W.cell? ⟨bs, 0, none⟩ = some (.slice A n c) := (hW.cell (p := ⟨bs, 0, none⟩) (World.block_lt_of_cell? _ _ hcs)).trans hcs
  have d2 : W.cell? ⟨bp, 0, none⟩ = some (.slice D dn dc) := (hW.cell (p := ⟨bp, 0, none⟩) (World.block_lt_of_cell? _ _ hcp)).trans hcp
  have L := Lib.hid (implMoreGeneral A E D n c en ec dn dc sg q p W (hs.next hW) hq (hp.next hW) hn hen hdn hec.1 hec.2.1 hcap.1 hcap.2.1)
  clear hcs hcp hs hp hW hq hec hcap
  show Calls Try.prog 80 #[.slice E en ec, .pointer (some ⟨bs, 0, none⟩), .pointer (some ⟨bp, 0, none⟩)] W (Tells W (moreB sg q p))
  generalize moreB sg q p = v at *
  go_enter Try.func80, Try.ntmps80
  go_wp2_with fail
  refine L.out.mono ?_
  rintro e w1 ⟨rfl, bb⟩
  have B := Lib.hid bb
  clear L bb
  go_wp2
  go_ret
  exact ⟨rfl, B.out⟩
theorem testVariant (bs bp : Nat) (A D : Option Addr) (n c dn dc : Nat) (sg p : List Int) (w : World) (hcs : w.cell? ⟨bs, 0, none⟩ = some (.slice A n c)) (hcp : w.cell? ⟨bp, 0, none⟩ = some (.slice D dn dc)) (hs : Seg w w.heap.size A n sg) (hp : Seg w w.heap.size D dn p)
    (hn : n ≤ 1048576) (hdn : dn ≤ 1048576) : Tests 81 #[.pointer (some ⟨bs, 0, none⟩), .pointer (some ⟨bp, 0, none⟩)] w (fun q => variantB sg q p) := by
  intro W E en ec q hW hq hen hec
  have d1 : W.cell? ⟨bs, 0, none⟩ = some (.slice A n c) := (hW.cell (p := ⟨bs, 0, none⟩) (World.block_lt_of_cell? _ _ hcs)).trans hcs
  have d2 : W.cell? ⟨bp, 0, none⟩ = some (.slice D dn dc) := (hW.cell (p := ⟨bp, 0, none⟩) (World.block_lt_of_cell? _ _ hcp)).trans hcp
  have L := Lib.hid (implVariantIn A E D n c en ec dn dc sg q p W (hs.next hW) hq (hp.next hW) hn hen hdn)
  clear hcs hcp hs hp hW hq hec
  show Calls Try.prog 81 #[.slice E en ec, .pointer (some ⟨bs, 0, none⟩), .pointer (some ⟨bp, 0, none⟩)] W (Tells W (variantB sg q p))
  generalize variantB sg q p = v at *
  go_enter Try.func81, Try.ntmps81
  go_wp2_with fail
  refine L.out.mono ?_
  rintro e w1 ⟨rfl, bb⟩
  have B := Lib.hid bb
  clear L bb
  go_wp2
  go_ret
  exact ⟨rfl, B.out⟩
theorem segs_take {w : World} {B b off n i : Nat} {xss : List (List Int)} (h : Segs w B (some ⟨b, off, none⟩) n xss) (hi : i ≤ n) : Segs w B (some ⟨b, off, none⟩) i (xss.take i) := by
  refine ⟨by rw [List.length_take, h.1]; omega, fun h0 => ?_⟩
  obtain ⟨b', off', e, hb, hc⟩ := h.2 (by omega)
  refine ⟨b', off', e, hb, fun j hj => ?_⟩
  obtain ⟨A', n', c', h1, h2, h3⟩ := hc j (by omega)
  exact ⟨A', n', c', h1, by simpa [List.getD, List.getElem?_take, hj] using h2, h3⟩
theorem take_each {xss : List (List Int)} {M i : Nat} (h : ∀ j, (xss.getD j []).length ≤ M) (j : Nat) : ((xss.take i).getD j []).length ≤ M := by
  by_cases hj : j < i
  · have := h j
    simpa [List.getD, List.getElem?_take, hj] using this
  · simp [List.getD, List.getElem?_take, hj]

set_option maxHeartbeats 4000000 in
theorem implMostGeneral (A P : Option Addr) (n c pn pc : Nat) (sg : List Int) (ps : List (List Int)) (w : World) (h : Seg w w.heap.size A n sg) (hp : Segs w w.heap.size P pn ps) (hn : n ≤ 1048576) (htot : tot ps ≤ 1048576) (hpc : pn ≤ pc) (hpc2 : pc ≤ 9223372036854775807) :
    Calls Try.prog 29 #[.agg #[.slice A n c], .slice P pn pc] w (AnsList w (mgI sg ps)) := by
  obtain ⟨W, hW⟩ : ∃ W, W = w.alloc (.cells #[.slice A n c] 26) := ⟨_, rfl⟩
  have f : Fs w W A n c sg P pn ps := by rw [hW]; exact Fs.start h hp
  have HW := Lib.hid hW
  have HL := Lib.hid hp.1
  have HE := Lib.hid (tot_each htot)
  have cA := f.cell
  have cA0 : (w.alloc (.cells #[.slice A n c] 26)).cell? ⟨w.heap.size, 0, none⟩ = some (.slice A n c) := by rw [← hW]; exact cA
  have LP := Lib.hid (implTermsOk A P n c pn pc sg ps W f.s1 (f.s'.more (Nat.le_of_lt f.size)) hn htot)
  have HPOS : Hid (0 < pn → termsB sg ps = true → allB sg ps = true) := Lib.hid (fun h0 ht => by
    have h1 := (terms_parts ht).2 0 (by rw [hp.1]; exact h0)
    rw [all_terms (termOk_parts h1).1]; exact ht)
  clear hW h hp htot
  cases hall : termsB sg ps with
  | false =>
    have HS := Lib.hid hall
    have HF := Lib.hid (show mgI sg ps = [] by unfold mgI; rw [if_neg]; unfold allB; rw [show (decide (ps.length ≤ 12) && ps.all (termOkB sg)) = false from hall, Bool.and_false]; simp)
    clear hall
    go_enter Try.func29, Try.ntmps29
    go_wp2_with fail
    rw [← HW.out]
    refine LP.out.mono ?_
    rintro e w1 ⟨he, bb⟩
    rw [HS.out] at he
    subst he
    have F := Lib.hid (list_of (w := w) HF.out (Own.nil w1 w.heap.size) (Nat.le_refl _) (f.next bb).b)
    clear f bb LP cA cA0
    go_wp2
    go_ret
    exact F.out
  | true =>
    have HS := Lib.hid hall
    have hp12 : pn ≤ 12 := by have h1 := (terms_parts hall).1; rw [HL.out] at h1; exact h1
    have HF := Lib.hid (show mgI sg ps = mgN sg ps pn by
      by_cases h0 : 0 < pn
      · unfold mgI; rw [if_pos (HPOS.out h0 hall), HL.out]
      · have e : pn = 0 := by omega
        unfold mgI
        rw [HL.out, e]
        split <;> rfl)
    have hmf : ∀ (fn : Fn) (first cap : Array Value) (w : World), (Instr.makeFunc fn first cap).run Try.prog w = .ok (.func fn first cap) w := fun _ _ _ _ => rfl
    clear hall
    go_enter Try.func29, Try.ntmps29
    go_wp2_with fail
    rw [← HW.out]
    refine LP.out.mono ?_
    rintro e w2 ⟨he, bb⟩
    rw [HS.out] at he
    subst he
    have S0 : HeadMg w A n c sg P pn ps pn (.slice none 0 0) (.int .i64 0) w2 := ⟨0, none, 0, 0, rfl, by omega, rfl, Own.nil _ _, f.next bb⟩
    have HS0 := Lib.hid S0
    clear S0 f bb cA cA0 LP
    go_wp2_with fail
    go_loopg [5, 16] pn (fun g out k wr => HeadMg w A n c sg P pn ps g out k wr)
    case atStart => exact HS0.out
    case round =>
      obtain ⟨i, O, on, oc, rfl, hi, rfl, ho, f⟩ := hrel
      clear HS0
      have HI := Lib.hid hi
      clear hi
      have hon : on ≤ 12 := by have h1 := Own.len ho; have h2 := mg_len (sg := sg) (ps := ps) i; have := HI.out; omega
      by_cases hip : i < pn
      · obtain ⟨b, off, D, dn, dc, rfl, hbb, hc, hsg, hcap⟩ := f.s'.spot hip
        have hdn : dn ≤ 1048576 := by have := HE.out i; rw [hsg.1] at this; exact this
        have hgk := Lib.hid (show gk - 1 < gk ∧ i + 1 + (gk - 1) = pn by have := HI.out; omega)
        obtain ⟨W5, hW5⟩ : ∃ W, W = wr.alloc (.cells #[.slice D dn dc] 24) := ⟨_, rfl⟩
        have B5 : Below wr.heap.size wr W5 := by rw [hW5]; exact (Below.refl _ _).alloc (Nat.le_refl _) _
        have f5 := f.next B5
        have ho5 := Own.next ho B5
        have cp : W5.cell? ⟨wr.heap.size, 0, none⟩ = some (.slice D dn dc) := by rw [hW5]; exact (Row.new _ _ _).cell 0
        have sp : Seg W5 W5.heap.size D dn (ps.getD i []) := (hsg.more (Nat.le_of_lt f.size)).next B5
        have s5 := f5.s'.more (Nat.le_of_lt f5.size)
        have LM := Lib.hid (containsFunc 80 #[.pointer (some ⟨w.heap.size, 0, none⟩), .pointer (some ⟨wr.heap.size, 0, none⟩)] (enters_of Try.func80 (by kernel_rfl) rfl) _ (some ⟨b, off, none⟩) pn pc ps W5 (testMore w.heap.size wr.heap.size A D n c dn dc sg (ps.getD i []) W5 f5.cell cp f5.s1 sp hn hdn hcap) s5 (by omega) HE.out)
        have TV := Lib.hid (testVariant w.heap.size wr.heap.size A D n c dn dc sg (ps.getD i []) W5 f5.cell cp f5.s1 sp hn hdn)
        have ST := Lib.hid (segs_take (i := i) s5 (by omega))
        have HB := Lib.hid (best_any (sg := sg) (ps := ps) (i := i) (by rw [HL.out]; omega))
        have HE2 := Lib.hid (show mgN sg ps (i + 1) = mgN sg ps i ++ (if bestB sg ps i = true then [(i : Int)] else []) from rfl)
        have HW5 := Lib.hid hW5
        have z0 := f.size
        clear hW5 f ho sp s5 cp hsg hcap B5
        obtain ⟨v1, hv1⟩ : ∃ v, (ps.any fun q => moreB sg q (ps.getD i [])) = v := ⟨_, rfl⟩
        have HV1 := Lib.hid hv1
        rw [hv1] at LM
        clear hv1
        cases v1 with
        | true =>
          have HN := Lib.hid (show bestB sg ps i = false by rw [HB.out, HV1.out]; rfl)
          go_wp2_with fail
          rw [← HW5.out]
          refine LM.out.mono ?_
          rintro e w6 ⟨rfl, bb⟩
          have S : HeadMg w A n c sg (some ⟨b, off, none⟩) pn ps (gk - 1) (.slice O on oc) (.int .i64 ((i : Int) + 1)) w6 := ⟨i + 1, O, on, oc, by simp, hgk.out.2, rfl, by rw [HE2.out, HN.out]; simpa using Own.next ho5 bb, f5.next bb⟩
          have HSS := Lib.hid S
          clear S ho5 f5 bb LM hc
          go_wp2
          go_roundg (gk - 1)
          case measure => exact hgk.out.1
          case rel => exact HSS.out
        | false =>
          have i0 : (0 : Int) ≤ (i : Int) := by omega
          have i1 : (i : Int) ≤ (pc : Int) := by omega
          have i3 : ¬ pc = 0 := by omega
          obtain ⟨v2, hv2⟩ : ∃ v, ((ps.take i).any fun q => variantB sg q (ps.getD i [])) = v := ⟨_, rfl⟩
          have HV2 := Lib.hid hv2
          clear hv2
          have HN := Lib.hid (show bestB sg ps i = !v2 by rw [HB.out, HV1.out, HV2.out]; rfl)
          go_wp2_with fail
          rw [← HW5.out]
          refine LM.out.mono ?_
          rintro e w6 ⟨rfl, bb⟩
          have LV := Lib.hid (containsFunc 81 #[.pointer (some ⟨w.heap.size, 0, none⟩), .pointer (some ⟨wr.heap.size, 0, none⟩)] (enters_of Try.func81 (by kernel_rfl) rfl) _ (some ⟨b, off, none⟩) i pc (ps.take i) w6 (TV.out.next bb) (ST.out.next bb) (by omega) (take_each HE.out))
          have f6 := f5.next bb
          have ho6 := Own.next ho5 bb
          rw [HV2.out] at LV
          clear bb f5 ho5 LM TV ST hc
          cases v2 with
          | true =>
            go_wp2_with fail
            refine LV.mono ?_
            rintro e w7 ⟨rfl, bb⟩
            have S : HeadMg w A n c sg (some ⟨b, off, none⟩) pn ps (gk - 1) (.slice O on oc) (.int .i64 ((i : Int) + 1)) w7 := ⟨i + 1, O, on, oc, by simp, hgk.out.2, rfl, by rw [HE2.out, HN.out]; simpa using Own.next ho6 bb, f6.next bb⟩
            have HSS := Lib.hid S
            clear S ho6 f6 bb LV
            go_wp2
            go_roundg (gk - 1)
            case measure => exact hgk.out.1
            case rel => exact HSS.out
          | false =>
            go_wp2_with fail
            refine LV.mono ?_
            rintro e w7 ⟨rfl, bb⟩
            have f7 := f6.next bb
            have ho7 := Own.next ho6 bb
            have z1 : w.heap.size + 1 ≤ w7.heap.size := f7.size
            clear bb LV f6 ho6
            go_wp2_with (at_builtin; refine app1 rfl _ _ rfl (w.heap.size + 1) O on oc _ rfl (Own.alloc ho7 _) w7.heap.size 1 (i : Int) rfl ((Row.new _ _ _).cell 0) (by omega) (by simp; omega) ?_; intro O' oc' w8 ho8 b8)
            have S : HeadMg w A n c sg (some ⟨b, off, none⟩) pn ps (gk - 1) (.slice O' (on + 1) oc') (.int .i64 ((i : Int) + 1)) w8 := ⟨i + 1, O', on + 1, oc', by simp, hgk.out.2, rfl, by rw [HE2.out, HN.out]; exact ho8, (f7.alloc _).over b8⟩
            have HSS := Lib.hid S
            clear S ho7 ho8 f7 b8
            go_wp2
            go_roundg (gk - 1)
            case measure => exact hgk.out.1
            case rel => exact HSS.out
      · have hip2 : i = pn := by have := HI.out; omega
        have F := Lib.hid (list_of (w := w) (show mgI sg ps = mgN sg ps i by rw [HF.out, hip2]) ho (Nat.le_succ _) f.b)
        clear ho f hip2
        go_wp2
        go_ret
        exact F.out
/-- the specification's contract with two bounds more, which it does not need -/
theorem specMostGeneralX (A P : Option Addr) (n c pn pc : Nat) (sg : List Int) (ps : List (List Int)) (w : World) (h : Seg w w.heap.size A n sg) (hp : Segs w w.heap.size P pn ps) (hn : n ≤ 1048576) (htot : tot ps ≤ 1048576) (_ : pn ≤ pc) (_ : pc ≤ 9223372036854775807) :
    Calls Try.prog 30 #[.agg #[.slice A n c], .slice P pn pc] w (AnsList w (mgI sg ps)) := specMostGeneral A P n c pn pc sg ps w h hp hn htot
end Go.Proofs.Ythbhiihhanochaa.matchImplC
end

section
/-
  CONTRACT: laws.big: more than 4096 bytes. Conditions: none. By an AI agent.
-/
namespace Go.Proofs.Ythbhiihhanochaa.bigs
open Go.RowKit Go.Proofs.Ythbhiihhanochaa.base Go.Proofs.Ythbhiihhanochaa.ints

theorem bigAns (A : Option Addr) (n c : Nat) (b : Bool) (w : World) (hb : decide (4096 < n) = b) (hn : n ≤ 9223372036854775807) : Calls Try.prog 12 #[.slice A n c] w fun e w' => w = w' ∧ e = .returned (.bool b) := by
  cases b with
  | true =>
    have h : (4096 : Int) < (n : Int) := by have := of_decide_eq_true hb; omega
    clear hb
    go_enter Try.func12, Try.ntmps12
    go_wp2
    go_ret
    exact ⟨rfl, rfl⟩
  | false =>
    have h : ¬ (4096 : Int) < (n : Int) := by have := of_decide_eq_false hb; omega
    have h2 : decide (4096 < n) = false := hb
    clear hb
    go_enter Try.func12, Try.ntmps12
    go_wp2
    go_ret
    exact ⟨rfl, rfl⟩
end Go.Proofs.Ythbhiihhanochaa.bigs
end

section
/-
  WORDS of the laws' walks: what stands behind a draw of a signature and two terms ('T1'), a variable that holds a substitution ('Sv'); laws.likeInts of two lists that read the same. Conditions: none; plain lemmas. By an AI agent.
-/
namespace Go.Proofs.Ythbhiihhanochaa.lawT
open Go.RowKit Go.Proofs.Ythbhiihhanochaa.base Go.Proofs.Ythbhiihhanochaa.ints Go.Proofs.Ythbhiihhanochaa.segs
set_option maxRecDepth 100000

/-- what stands after the first draw: the signature's variable at v3 -/
structure T1 (w : World) (v3 : Nat) (S : Option Addr) (sn sc : Nat) (sg : List Int) (O : Option Addr) (on : Nat) (p : List Int) (Q : Option Addr) (qn : Nat) (t : List Int) (wr : World) : Prop where
  s : Seg wr wr.heap.size S sn sg
  o : Seg wr wr.heap.size O on p
  q : Seg wr wr.heap.size Q qn t
  r3 : Row wr v3 26 #[.slice S sn sc]
  bel : Below w.heap.size w wr
section
variable {w : World} {v3 : Nat} {S : Option Addr} {sn sc : Nat} {sg : List Int} {O : Option Addr} {on : Nat} {p : List Int} {Q : Option Addr} {qn : Nat} {t : List Int} {wr w' : World}
theorem T1.next (f : T1 w v3 S sn sc sg O on p Q qn t wr) (hb : Below wr.heap.size wr w') : T1 w v3 S sn sc sg O on p Q qn t w' :=
  ⟨f.s.next hb, f.o.next hb, f.q.next hb, f.r3.next hb, next_trans f.bel hb⟩
theorem T1.drew (f : T1 w v3 S sn sc sg O on p Q qn t wr) : T1 w v3 S sn sc sg O on p Q qn t wr.drew := ⟨f.s, f.o, f.q, f.r3, f.bel.drew⟩
theorem T1.cell (f : T1 w v3 S sn sc sg O on p Q qn t wr) : wr.cell? ⟨v3, 0, none⟩ = some (.slice S sn sc) := f.r3.cell 0
end
/-- a variable that holds a substitution -/
structure Sv (wr : World) (v : Nat) (D : Option Addr) (dn dc : Nat) (xss : List (List Int)) : Prop where
  r : Row wr v 31 #[.slice D dn dc]
  s : Segs wr wr.heap.size D dn xss
section
variable {v : Nat} {D : Option Addr} {dn dc : Nat} {xss : List (List Int)} {wr w' : World}
theorem Sv.next (f : Sv wr v D dn dc xss) (hb : Below wr.heap.size wr w') : Sv w' v D dn dc xss := ⟨f.r.next hb, f.s.next hb⟩
theorem Sv.cell (f : Sv wr v D dn dc xss) : wr.cell? ⟨v, 0, none⟩ = some (.slice D dn dc) := f.r.cell 0
end
theorem below_alloc (w : World) (x : Obj) : Below w.heap.size w (w.alloc x) := (Below.refl _ _).alloc (Nat.le_refl _) _
theorem below_drewN (w : World) (d : Nat) : Below w.heap.size w (w.drewN d) := ⟨rfl, rfl, rfl, Nat.le_refl _, fun _ _ => rfl⟩

/-- two lists that read the same are told so -/
theorem like (A A' : Option Addr) (n c c' : Nat) (xs : List Int) (w : World) (h : Seg w w.heap.size A n xs) (h' : Seg w w.heap.size A' n xs) (hn : n ≤ 1048576) :
    Calls Try.prog 24 #[.slice A n c, .slice A' n c'] w fun e w' => e = .returned (.bool true) ∧ ∃ d, w' = w.drewN d := by
  go_enter Try.func24, Try.ntmps24
  go_wp2
  go_loopw [5] (fun i wr => ∃ k d : Nat, k ≤ n ∧ i = .int .i64 k ∧ wr = w.drewN d) (fun i _ => n - (intOf i).toNat)
  case atStart => exact ⟨0, 0, Nat.zero_le _, rfl, rfl⟩
  case round =>
    obtain ⟨k, d, hk, rfl, rfl⟩ := hrel
    by_cases hlt : k < n
    · obtain ⟨b, off, x, rfl, -, hx, ex⟩ := h.spot hlt
      obtain ⟨b', off', y, rfl, -, hy, ey⟩ := h'.spot hlt
      obtain rfl : x = y := by rw [← ex.out, ← ey.out]
      clear h h' ex ey
      go_wp2
      go_quiet (fail)
      go_wp2
      go_roundw
      case rel => exact ⟨k + 1, _, hlt, by simp, rfl⟩
      case measure => simp [intOf]; omega
    · clear h h'
      go_wp2
      go_ret
      exact ⟨rfl, _, rfl⟩
end Go.Proofs.Ythbhiihhanochaa.lawT
end

section
/-
  THE WALK of laws.FnGeneral: it returns true, whatever the bytes, and writes nothing that was there. Conditions: the slice holds bytes. By an AI agent.
-/
namespace Go.Proofs.Ythbhiihhanochaa.wFnGeneral
open Go.RowKit Go.Proofs.Ythbhiihhanochaa.base Go.Proofs.Ythbhiihhanochaa.ints Go.Proofs.Ythbhiihhanochaa.sig Go.Proofs.Ythbhiihhanochaa.same Go.Proofs.Ythbhiihhanochaa.term Go.Proofs.Ythbhiihhanochaa.cursor Go.Proofs.Ythbhiihhanochaa.termOk Go.Proofs.Ythbhiihhanochaa.endAt Go.Proofs.Ythbhiihhanochaa.sub Go.Proofs.Ythbhiihhanochaa.marks Go.Proofs.Ythbhiihhanochaa.app Go.Proofs.Ythbhiihhanochaa.sym Go.Proofs.Ythbhiihhanochaa.segs Go.Proofs.Ythbhiihhanochaa.segsHelp Go.Proofs.Ythbhiihhanochaa.dice Go.Proofs.Ythbhiihhanochaa.inside Go.Proofs.Ythbhiihhanochaa.look Go.Proofs.Ythbhiihhanochaa.drawSub Go.Proofs.Ythbhiihhanochaa.drawVar Go.Proofs.Ythbhiihhanochaa.drawGeneral Go.Proofs.Ythbhiihhanochaa.matchMath Go.Proofs.Ythbhiihhanochaa.matchSpec Go.Proofs.Ythbhiihhanochaa.matchList Go.Proofs.Ythbhiihhanochaa.matchMost Go.Proofs.Ythbhiihhanochaa.matchImpl Go.Proofs.Ythbhiihhanochaa.matchImplB Go.Proofs.Ythbhiihhanochaa.matchImplC Go.Proofs.Ythbhiihhanochaa.bigs Go.Proofs.Ythbhiihhanochaa.lawT Go.Proofs.Ythbhiihhanochaa.plainOf
set_option maxRecDepth 100000

theorem mg_mem {sg : List Int} {ps : List (List Int)} : ∀ {m : Nat} {x : Int}, x ∈ mgN sg ps m → ∃ j : Nat, j < m ∧ x = (j : Int)
  | 0, x, h => absurd h (List.not_mem_nil)
  | m + 1, x, h => by
    simp only [mgN] at h
    rcases List.mem_append.1 h with h | h
    · obtain ⟨j, h1, h2⟩ := mg_mem h
      exact ⟨j, by omega, h2⟩
    · split at h
      · rw [List.mem_singleton] at h; exact ⟨m, by omega, h⟩
      · exact absurd h (List.not_mem_nil)
theorem mg_in {sg : List Int} {ps : List (List Int)} {j : Nat} (hb : bestB sg ps j = true) : ∀ {m : Nat}, j < m → (j : Int) ∈ mgN sg ps m
  | 0, h => absurd h (Nat.not_lt_zero _)
  | m + 1, h => by
    simp only [mgN]
    by_cases e : j = m
    · subst e
      rw [if_pos hb]
      exact List.mem_append_right _ (List.mem_singleton.2 rfl)
    · exact List.mem_append_left _ (mg_in hb (by omega))
/-- is pattern i an instance of what stands at place x? -/
def hits (sg : List Int) (ps : List (List Int)) (i : Nat) (x : Int) : Bool := instB sg (ps.getD x.toNat []) (ps.getD i [])
theorem mg_any {sg : List Int} {ps : List (List Int)} {i : Nat} (hok : allB sg ps = true) (hi : i < ps.length) : (mgN sg ps ps.length).any (hits sg ps i) = true := by
  obtain ⟨k, h1, h2, h3⟩ := best_ex (all_parts hok).2.2 _ i (Nat.le_refl _) hi
  rw [List.any_eq_true]
  exact ⟨(k : Int), mg_in h2 h1, by unfold hits; rw [Int.toNat_natCast]; exact h3⟩
theorem any_succ {f : Int → Bool} {ls : List Int} {k : Nat} (hk : k < ls.length) : (ls.take (k + 1)).any f = ((ls.take k).any f || f (ls.getD k 0)) := by
  rw [List.take_succ_eq_append_getElem hk, List.any_append]
  simp [List.getD, hk]
theorem mg_all {sg : List Int} {ps : List (List Int)} (h : mgI sg ps ≠ []) : allB sg ps = true ∧ mgI sg ps = mgN sg ps ps.length := by
  unfold mgI at h ⊢
  by_cases e : allB sg ps = true
  · rw [if_pos e] at h ⊢; exact ⟨e, rfl⟩
  · rw [if_neg e] at h; exact absurd rfl h
/-- at a most general pattern itself something is told -/
theorem ma_some {sg : List Int} {ps : List (List Int)} {j : Nat} (hok : allB sg ps = true) (hj : j < ps.length) : 0 < (maI sg ps (ps.getD j [])).length := by
  have ht := (all_parts hok).2.2 j hj
  rw [ma_yes hok ht]
  have key : ∀ m, j < m → 0 < (maN sg ps (ps.getD j []) m).length := by
    intro m
    induction m with
    | zero => intro h; omega
    | succ m ih =>
      intro h
      simp only [maN, List.length_append]
      by_cases e : j = m
      · subst e
        rw [inst_refl ht]; simp
      · have := ih (by omega); omega
  exact key _ hj

/-- what stands after the draw -/
structure T2 (w : World) (v3 : Nat) (S : Option Addr) (sn sc : Nat) (sg : List Int) (B : Option Addr) (m : Nat) (ps : List (List Int)) (L : Option Addr) (ln : Nat) (ls : List Int) (wr : World) : Prop where
  s : Seg wr wr.heap.size S sn sg
  b : Segs wr wr.heap.size B m ps
  l : Seg wr wr.heap.size L ln ls
  r3 : Row wr v3 26 #[.slice S sn sc]
  bel : Below w.heap.size w wr
section
variable {w : World} {v3 : Nat} {S : Option Addr} {sn sc : Nat} {sg : List Int} {B : Option Addr} {m : Nat} {ps : List (List Int)} {L : Option Addr} {ln : Nat} {ls : List Int} {wr w' : World}
theorem T2.next (f : T2 w v3 S sn sc sg B m ps L ln ls wr) (hb : Below wr.heap.size wr w') : T2 w v3 S sn sc sg B m ps L ln ls w' :=
  ⟨f.s.next hb, f.b.next hb, f.l.next hb, f.r3.next hb, next_trans f.bel hb⟩
theorem T2.drew (f : T2 w v3 S sn sc sg B m ps L ln ls wr) : T2 w v3 S sn sc sg B m ps L ln ls wr.drew := ⟨f.s, f.b, f.l, f.r3, f.bel.drew⟩
theorem T2.cell (f : T2 w v3 S sn sc sg B m ps L ln ls wr) : wr.cell? ⟨v3, 0, none⟩ = some (.slice S sn sc) := f.r3.cell 0
end
def HeadO (w : World) (v3 : Nat) (S : Option Addr) (sn sc : Nat) (sg : List Int) (B : Option Addr) (m : Nat) (ps : List (List Int)) (L : Option Addr) (ln : Nat) (ls : List Int) (g : Nat) (i_ : Value) (wr : World) : Prop :=
  ∃ i : Nat, i_ = .int .i64 i ∧ i + g = m ∧ T2 w v3 S sn sc sg B m ps L ln ls wr
def HeadI (w : World) (v3 : Nat) (S : Option Addr) (sn sc : Nat) (sg : List Int) (B : Option Addr) (m : Nat) (ps : List (List Int)) (L : Option Addr) (ln : Nat) (ls : List Int) (i : Nat) (g : Nat) (some_ k_ : Value) (wr : World) : Prop :=
  ∃ k : Nat, k_ = .int .i64 k ∧ k + g = ln ∧ some_ = .bool ((ls.take k).any (hits sg ps i)) ∧ T2 w v3 S sn sc sg B m ps L ln ls wr

set_option maxHeartbeats 8000000 in
theorem law (A : Option Addr) (n c : Nat) (_ : List Int) (w : World) (h : SegB w w.heap.size A n) (hN : n ≤ 9223372036854775807) :
    Calls Try.prog 5 #[.slice A n c] w (Fine w) := by
  by_cases hbig : n ≤ 4096
  · have LB := Lib.hid (bigAns A n c false w (by simp; omega) hN)
    go_enter Try.func5, Try.ntmps5
    go_wp2_with fail
    refine LB.out.mono ?_
    rintro e w' ⟨rfl, rfl⟩
    clear LB
    go_wp2_with fail
    refine (drawMostGeneral A n c w h hbig).mono ?_
    rintro e w2 ⟨S, sn, sc, sg, B, m, cB, ps, rfl, s1, s2, hcB, hsn, hsm, b2⟩
    obtain ⟨v3, h3⟩ : ∃ v, w2.heap.size = v := ⟨_, rfl⟩
    obtain ⟨W, hW⟩ : ∃ W, W = w2.alloc (.cells #[.slice S sn sc] 26) := ⟨_, rfl⟩
    have T : T2 w v3 S sn sc sg B m ps none 0 [] W := by
      have bb : Below w2.heap.size w2 W := by rw [hW]; exact below_alloc _ _
      exact ⟨s1.next bb, s2.next bb, Seg.empty, by rw [hW, ← h3]; exact Row.new _ _ _, next_trans b2 bb⟩
    have HW := Lib.hid hW
    have H3 := Lib.hid h3
    have HM := Lib.hid s2.1
    have HE := Lib.hid hsm.2
    have hm := hsm.1
    have ht : tot ps ≤ 1048576 := by have h1 := tot_le (M := 65) hsm.2; rw [s2.1] at h1; have h2 : m * 65 ≤ 13 * 65 := Nat.mul_le_mul_right _ hm; omega
    have HTT := Lib.hid ht
    have c30 : (w2.alloc (.cells #[.slice S sn sc] 26)).cell? ⟨v3, 0, none⟩ = some (.slice S sn sc) := by rw [← hW]; exact T.cell
    have hc1 := hcB.1
    have hc2 := hcB.2.1
    clear h hW h3 b2 s1 s2 hcB hsm ht
    have c3 := T.cell
    obtain ⟨ls, hls⟩ : ∃ x, mgI sg ps = x := ⟨_, rfl⟩
    have HX := Lib.hid hls
    have hll : ls.length ≤ 13 := by
      rw [← hls]
      unfold mgI
      split
      · exact Nat.le_trans (mg_len _) (by rw [HM.out]; exact hm)
      · simp
    clear hls
    go_wp2_with fail
    rw [← HW.out, H3.out]
    refine (implMostGeneral S B sn sc m cB sg ps W T.s T.b (by omega) HTT.out hc1 hc2).mono ?_
    rintro e w4 ⟨L, ln, lc, rfl, ol, bb⟩
    rw [HX.out] at ol
    have sl := Own.seg ol
    have hln : ln ≤ 13 := by rw [Own.len ol]; exact hll
    replace T : T2 w v3 S sn sc sg B m ps L ln ls w4 := ⟨T.s.next bb, T.b.next bb, sl, T.r3.next bb, next_trans T.bel bb⟩
    clear bb ol c30 sl
    replace c3 := T.cell
    go_wp2_with fail
    refine (specMostGeneral S B sn sc m cB sg ps w4 T.s T.b (by omega) HTT.out).mono ?_
    rintro e w5 ⟨M, mn, mc, rfl, om, bb⟩
    rw [HX.out] at om
    have sm := Own.seg om
    obtain rfl : ln = mn := by rw [Own.len om, ← T.l.1]
    replace T := T.next bb
    clear bb om
    replace c3 := T.cell
    go_wp2_with fail
    refine (like L M ln lc mc ls w5 T.l sm (by omega)).mono ?_
    rintro e w6 ⟨rfl, d, rfl⟩
    have bb := below_drewN w5 d
    replace T := T.next bb
    clear bb sm
    generalize w5.drewN d = w6 at *
    replace c3 := T.cell
    by_cases hl0 : ln = 0
    · subst hl0
      have hls0 : ls = [] := List.eq_nil_of_length_eq_zero T.l.1
      have HX0 := Lib.hid (HX.out.trans hls0)
      clear hls0
      by_cases hm0 : m = 0
      · subst hm0
        have TB := Lib.hid T.bel
        clear T c3
        go_wp2_with fail
        go_ret
        exact ⟨rfl, TB.out⟩
      · by_cases hm12 : 12 < m
        · have TB := Lib.hid T.bel
          have hz : ((m : Int) == 0) = false := by simp; omega
          clear T c3
          go_wp2_with fail
          go_ret
          exact ⟨rfl, TB.out⟩
        · have hz : ((m : Int) == 0) = false := by simp; omega
          go_wp2_with fail
          refine (specMostGeneral S B sn sc m cB sg ps _ T.s T.b (by omega) HTT.out).mono ?_
          rintro e w7 ⟨M', mn', mc', rfl, om, bb⟩
          rw [HX0.out] at om
          obtain rfl : mn' = 0 := Own.len om
          have TB := Lib.hid (T.next bb).bel
          clear T c3 om bb
          go_wp2_with fail
          go_ret
          exact ⟨rfl, TB.out⟩
    · have hlz : ((ln : Int) == 0) = false := by simp; omega
      have hne : mgI sg ps ≠ [] := fun e => hl0 (by rw [← T.l.1, ← HX.out, e]; rfl)
      have HALL := Lib.hid (mg_all hne).1
      have HMG := Lib.hid (show ls = mgN sg ps m by rw [← HX.out, (mg_all hne).2, HM.out])
      have HLN := Lib.hid T.l.1
      have HEACH : Hid (∀ k, k < ln → ∃ j : Nat, j < m ∧ ls.getD k 0 = (j : Int)) := Lib.hid (fun k hk => by
        have hmem : ls.getD k 0 ∈ mgN sg ps m := by
          rw [← HMG.out]
          have : k < ls.length := by rw [HLN.out]; exact hk
          simp [List.getD, this]
        exact mg_mem hmem)
      have S0 : HeadO w v3 S sn sc sg B m ps L ln ls m (.int .i64 0) w6 := ⟨0, rfl, by omega, T⟩
      have HS0 := Lib.hid S0
      clear hne S0 T c3
      go_wp2_with fail
      go_loopg [6] m (fun g i wr => HeadO w v3 S sn sc sg B m ps L ln ls g i wr)
      case atStart => exact HS0.out
      case round =>
        obtain ⟨i, rfl, hi, T⟩ := hrel
        obtain ⟨G, hG⟩ : ∃ G, G = gk := ⟨_, rfl⟩
        subst hG
        clear HS0
        have HI := Lib.hid hi
        clear hi
        by_cases him : i < m
        · have hGk := Lib.hid (show G - 1 < G ∧ i + 1 + (G - 1) = m by have := HI.out; omega)
          have S1 : HeadI w v3 S sn sc sg B m ps L ln ls i ln (.bool false) (.int .i64 0) wr := ⟨0, rfl, by omega, by rw [List.take_zero]; rfl, T⟩
          have HS1 := Lib.hid S1
          clear S1 T
          go_wp2_with fail
          go_loopg [7, 8] ln (fun g s k wr => HeadI w v3 S sn sc sg B m ps L ln ls i g s k wr)
          case atStart => exact HS1.out
          case round =>
            obtain ⟨k, rfl, hk, rfl, T⟩ := hrel
            clear HS1
            have HK := Lib.hid hk
            clear hk
            by_cases hkl : k < ln
            · have hgk := Lib.hid (show gk - 1 < gk ∧ k + 1 + (gk - 1) = ln by have := HK.out; omega)
              obtain ⟨sv, hsv⟩ : ∃ b, (ls.take k).any (hits sg ps i) = b := ⟨_, rfl⟩
              have HAS := Lib.hid (show (ls.take (k + 1)).any (hits sg ps i) = (sv || hits sg ps i (ls.getD k 0)) by rw [any_succ (by rw [HLN.out]; exact hkl), hsv])
              rw [hsv]
              clear hsv
              cases sv with
              | true =>
                have HN := Lib.hid (fun d => (show T2 w v3 S sn sc sg B m ps L ln ls (wr.drewN d) from T.next (below_drewN wr d)))
                clear T
                go_wp2_with fail
                go_quiet (fail)
                have S2 : HeadI w v3 S sn sc sg B m ps L ln ls i (gk - 1) (.bool true) (.int .i64 ((k : Int) + 1)) (wr.drewN nq) := ⟨k + 1, by simp, hgk.out.2, by rw [HAS.out]; rfl, HN.out nq⟩
                have HS2 := Lib.hid S2
                clear S2 HN
                go_wp2
                go_roundg (gk - 1)
                case measure => exact hgk.out.1
                case rel => exact HS2.out
              | false =>
                obtain ⟨j, hj, hjx⟩ := HEACH.out k hkl
                obtain ⟨bl, ol, x, rfl, hbl, hx, ex⟩ := T.l.spot hkl
                obtain rfl : x = (j : Int) := by rw [← ex.out, hjx]
                obtain ⟨b, off, D, dn, dc, rfl, hbb, hcj, hsj, hcapj⟩ := T.b.spot hj
                obtain ⟨b', off', E, en, ec, e', -, hci, hsi, hcapi⟩ := T.b.spot him
                injection e' with e'
                injection e' with e1 e2
                subst e1 e2
                obtain ⟨yj, hyj⟩ : ∃ ys, ps.getD j [] = ys := ⟨_, rfl⟩
                obtain ⟨yi, hyi⟩ : ∃ ys, ps.getD i [] = ys := ⟨_, rfl⟩
                rw [hyj] at hsj
                rw [hyi] at hsi
                have hdn : dn ≤ 65 := by rw [← hsj.1, ← hyj]; exact HE.out j
                have hen : en ≤ 65 := by rw [← hsi.1, ← hyi]; exact HE.out i
                obtain ⟨bi, hbi⟩ : ∃ b, instB sg yj yi = b := ⟨_, rfl⟩
                have HBI := Lib.hid hbi
                have HA2 := Lib.hid (show (ls.take (k + 1)).any (hits sg ps i) = bi by rw [HAS.out, ex.out]; unfold hits; rw [Int.toNat_natCast, hyj, hyi, hbi]; rfl)
                have hci1 := hcapi.1
                have hci2 := hcapi.2.1
                have c3 := T.drew.cell
                have d1 : wr.drew.cell? ⟨bl, ol + k, none⟩ = some (.int .i64 (j : Int)) := hx
                have d2 : wr.drew.cell? ⟨b, off + j, none⟩ = some (.slice D dn dc) := hcj
                have d3 : wr.drew.cell? ⟨b, off + i, none⟩ = some (.slice E en ec) := hci
                have LI := Lib.hid (implInstanceIn S D E sn sc dn dc en ec sg yj yi wr.drew T.drew.s hsj.drew hsi.drew (by omega) (by omega) (by omega) hci1 hci2)
                have HT := Lib.hid T.drew
                have i0 : (0 : Int) ≤ (k : Int) := by omega
                have i1 : (k : Int) < (ln : Int) := by omega
                have i2 : (0 : Int) ≤ (j : Int) := by omega
                have i3 : (j : Int) < (m : Int) := by omega
                have i4 : (0 : Int) ≤ (i : Int) := by omega
                have i5 : (i : Int) < (m : Int) := by omega
                clear hsj hsi hcapj hcapi hx hcj hci hjx hyj hyi hbi T ex HAS
                go_wp2_with fail
                go_region_held3 (fun w' => w'.cell? ⟨v3, 0, none⟩ = some (.slice S sn sc) ∧ w'.cell? ⟨bl, ol + k, none⟩ = some (.int .i64 (j : Int)) ∧ w'.cell? ⟨b, off + j, none⟩ = some (.slice D dn dc) ∧ w'.cell? ⟨b, off + i, none⟩ = some (.slice E en ec))
                  (first | exact ⟨by assumption, by assumption, by assumption, by assumption⟩ | go_keep)
                  (first
                    | (go_at_call 19; refine LI.out.mono ?_; rintro e w9 ⟨he, b9⟩; rw [HBI.out] at he; subst he; have T9 := HT.out.next b9; have c9 := T9.cell; have e1 : w9.cell? ⟨bl, ol + k, none⟩ = some (.int .i64 (j : Int)) := (b9.cell (p := ⟨bl, ol + k, none⟩) hbl).trans d1; have e2 : w9.cell? ⟨b, off + j, none⟩ = some (.slice D dn dc) := (b9.cell (p := ⟨b, off + j, none⟩) hbb).trans d2; have e3 : w9.cell? ⟨b, off + i, none⟩ = some (.slice E en ec) := (b9.cell (p := ⟨b, off + i, none⟩) hbb).trans d3))
                have S2 : HeadI w v3 S sn sc sg (some ⟨b, off, none⟩) m ps (some ⟨bl, ol, none⟩) ln ls i (gk - 1) (.bool bi) (.int .i64 ((k : Int) + 1)) w9 := ⟨k + 1, by simp, hgk.out.2, by rw [HA2.out], T9⟩
                have HS2 := Lib.hid S2
                clear S2 T9 HT LI b9 c9 e1 e2 e3 c3 d1 d2 d3
                go_wp2
                go_roundg (gk - 1)
                case measure => exact hgk.out.1
                case rel => exact HS2.out
            · have hkn : k = ln := by have := HK.out; omega
              have HTR := Lib.hid (show (ls.take k).any (hits sg ps i) = true by
                rw [hkn, List.take_of_length_le (by rw [HLN.out]; exact Nat.le_refl _), HMG.out, ← HM.out]
                exact mg_any HALL.out (by rw [HM.out]; exact him))
              rw [HTR.out]
              have S3 : HeadO w v3 S sn sc sg B m ps L ln ls (G - 1) (.int .i64 ((i : Int) + 1)) wr := ⟨i + 1, by simp, hGk.out.2, T⟩
              have HS3 := Lib.hid S3
              clear S3 T hkn
              go_wp2
              go_roundg (G - 1)
              case measure => exact hGk.out.1
              case rel => exact HS3.out
        · obtain ⟨j, hj, hjx⟩ := HEACH.out 0 (by omega)
          obtain ⟨bl, ol, x, rfl, hbl, hx, ex⟩ := T.l.spot (k := 0) (by omega)
          obtain rfl : x = (j : Int) := by rw [← ex.out, hjx]
          obtain ⟨b, off, D, dn, dc, rfl, hbb, hcj, hsj, hcapj⟩ := T.b.spot hj
          have hdn : dn ≤ 65 := by rw [← hsj.1]; exact HE.out j
          have HPOS := Lib.hid (ma_some (ps := ps) (j := j) HALL.out (by rw [HM.out]; exact hj))
          have hcj1 := hcapj.1
          have hcj2 := hcapj.2.1
          have c3 := T.drew.cell
          have d1 : wr.drew.cell? ⟨bl, ol, none⟩ = some (.int .i64 (j : Int)) := hx
          have d2 : wr.drew.cell? ⟨b, off + j, none⟩ = some (.slice D dn dc) := hcj
          have LI := Lib.hid (implMatchedAll S (some ⟨b, off, none⟩) D sn sc m cB dn dc sg ps (ps.getD j []) wr.drew T.drew.s T.drew.b hsj.drew (by omega) HTT.out (by omega) hcj1 hcj2)
          have HT := Lib.hid T.drew
          have i1 : (0 : Int) < (ln : Int) := by omega
          have i4 : 0 < ln := by omega
          have i2 : (0 : Int) ≤ (j : Int) := by omega
          have i3 : (j : Int) < (m : Int) := by omega
          clear hsj hcapj hx hcj hjx T ex
          go_wp2_with fail
          go_region_held3 (fun w' => w'.cell? ⟨v3, 0, none⟩ = some (.slice S sn sc) ∧ w'.cell? ⟨bl, ol, none⟩ = some (.int .i64 (j : Int)) ∧ w'.cell? ⟨b, off + j, none⟩ = some (.slice D dn dc))
            (first | exact ⟨by assumption, by assumption, by assumption⟩ | go_keep)
            (first
              | (go_at_call 31; refine LI.out.mono ?_; rintro e w9 ⟨X, xn, xc, rfl, ox, b9⟩; have T9 := HT.out.next b9; have c9 := T9.cell; have e1 : w9.cell? ⟨bl, ol, none⟩ = some (.int .i64 (j : Int)) := (b9.cell (p := ⟨bl, ol, none⟩) hbl).trans d1; have e2 : w9.cell? ⟨b, off + j, none⟩ = some (.slice D dn dc) := (b9.cell (p := ⟨b, off + j, none⟩) hbb).trans d2))
          have hx1 : (0 : Int) < (xn : Int) := by have := HPOS.out; rw [← Own.len ox] at this; omega
          have TB := Lib.hid T9.bel
          clear T9 HT LI b9 c9 e1 e2 c3 d1 d2 ox
          go_wp2
          go_ret
          exact ⟨by simp; omega, TB.out⟩
  · have LB := Lib.hid (bigAns A n c true w (by simp; omega) hN)
    clear h
    go_enter Try.func5, Try.ntmps5
    go_wp2_with fail
    refine LB.out.mono ?_
    rintro e w' ⟨rfl, rfl⟩
    clear LB
    go_wp2
    go_ret
    exact ⟨rfl, Below.refl _ _⟩
end Go.Proofs.Ythbhiihhanochaa.wFnGeneral
end
