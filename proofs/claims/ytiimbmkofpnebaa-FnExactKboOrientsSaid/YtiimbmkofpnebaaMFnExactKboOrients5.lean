/-
  MERGED: my texts KboWhyI, Shape3, KindsK, KboX, KboAll, RuleSpecB, KboOr, KboOrS, Shelf, Sorted, VarsSort, VarsImpl, RuleImplB, RuleImplC, RuleImplD, RuleSpecC, one behind the other, as they are. By an AI agent.
-/
import Derived.Test.YtiimbmkofpnebaaMFnExactKboOrients4
import Derived.Deep.RegionHeld3
import Derived.Shelf.SlGeneric
import Derived.Ground.SlgnProg
import Derived.Shelf.SortG.Plain
import Derived.Shelf.SortG.SortNone
import Derived.Shelf.SlicesG.CompactI
import Derived.Test.YtiimbmkofpnebaaProg
namespace Go.Proofs.Ytiimbmkofpnebaa
section
open Go.Lib (hid)
open List (setIfInBounds_toArray set_cons_zero set_cons_succ getElem_toArray getElem_cons_zero getElem_cons_succ)
namespace kboWhyI
open Go.RowKit base ints sig term termOk termFacts marks sym varsOf ruleSpec forest rankMath rankSpec lpoLink lpoPrec kboMath kboLink kboOft kboWt kboOk kboScale whole kboFun shape drawX stk partsSpec lpoMath kboWhyS kboArgs kboGrade
set_option maxRecDepth 100000
theorem kw_grade {sg sy rk t s : List Int} {v : Int} (ok : wB sg v sy rk = true) (ft : Fo sg 1 t) (fs : Fo sg 1 s) : kwhy sg v sy rk t s =
  if oft s t = false ∨ wt v sy t < wt v sy s then 0 else if wt v sy s < wt v sy t then 1 else if gr rk s < gr rk t ∧ gr rk s = -1 then 2 else if gr rk s < gr rk t then 3 else
  if gr rk t = gr rk s ∧ lexB (kg sg v sy rk) (ptsC sg t) (ptsC sg s) = true then 4 else 0 := by
 have hmt : hd t ∈ t := by obtain ⟨a, r, e⟩ := fo_hd ft; rw [e]; exact List.mem_cons_self ..
 have hms : hd s ∈ s := by obtain ⟨a, r, e⟩ := fo_hd fs; rw [e]; exact List.mem_cons_self ..
 have hr : ∀ x, 0 ≤ x → 0 ≤ ar sg x → 0 ≤ rkL rk x := fun x h0 ha => by
  have hl := rank_parts (prec_parts (w_parts ok).1).2
  have hx := (ar_in h0 ha).1
  have hk : x.toNat < rk.length := by omega
  show 0 ≤ rk.getD x.toNat 0
  rw [getD_get hk]
  exact ((all_there.2 hl.2).1 _ (List.getElem_mem hk)).1
 have inj := (adm_of ok).inj
 unfold kwhy stepK
 by_cases h0 : oft s t = false ∨ wt v sy t < wt v sy s
 ·rw [if_pos h0, if_pos h0]
 rw [if_neg h0, if_neg h0]
 by_cases h1 : wt v sy s < wt v sy t
 ·rw [if_pos h1, if_pos h1]
 rw [if_neg h1, if_neg h1]
 by_cases hs : hd s < 0
 ·have gs : gr rk s = -1 := by unfold gr; rw [if_pos hs]
  rw [if_pos hs, gs]
  by_cases ht : hd t < 0
  ·have gt : gr rk t = -1 := by unfold gr; rw [if_pos ht]
   rw [gt, if_neg (by omega), if_neg (by omega), if_neg (by omega), if_neg (fun h => by rw [pts_var ht, pts_var hs] at h; simp [lexB] at h)]
  ·have ht' : 0 ≤ hd t := by omega
   have gt : gr rk t = rkL rk (hd t) := by unfold gr; rw [if_neg ht]
   have := hr _ ht' (ft.sym _ hmt ht')
   rw [gt, if_pos ht', if_pos ⟨by omega, rfl⟩]
 ·have hs' : 0 ≤ hd s := by omega
  have gs : gr rk s = rkL rk (hd s) := by unfold gr; rw [if_neg hs]
  have r1 := hr _ hs' (fs.sym _ hms hs')
  rw [if_neg hs, gs]
  by_cases ht : hd t < 0
  ·have gt : gr rk t = -1 := by unfold gr; rw [if_pos ht]
   rw [if_pos ht, gt, if_neg (by omega), if_neg (by omega), if_neg (by omega)]
  ·have ht' : 0 ≤ hd t := by omega
   have gt : gr rk t = rkL rk (hd t) := by unfold gr; rw [if_neg ht]
   rw [if_neg ht, gt]
   by_cases he : hd t = hd s
   ·have e : rkL rk (hd t) = rkL rk (hd s) := by rw [he]
    rw [if_neg (show ¬ hd t ≠ hd s by simpa using he), if_neg (show ¬ (rkL rk (hd s) < rkL rk (hd t) ∧ rkL rk (hd s) = -1) by omega), if_neg (show ¬ rkL rk (hd s) < rkL rk (hd t) by omega)]
    by_cases hl : lexB (kg sg v sy rk) (ptsC sg t) (ptsC sg s) = true
    ·rw [if_pos hl, if_pos ⟨e, hl⟩]
    ·rw [if_neg hl, if_neg (fun h => hl h.2)]
   ·have hne : rkL rk (hd t) ≠ rkL rk (hd s) := fun h => he (inj _ _ ht' (ft.sym _ hmt ht') hs' (fs.sym _ hms hs') h)
    rw [if_pos he, if_neg (show ¬ (rkL rk (hd s) < rkL rk (hd t) ∧ rkL rk (hd s) = -1) by omega)]
    by_cases hl : rkL rk (hd s) < rkL rk (hd t)
    ·rw [if_pos hl, if_pos hl]
    ·rw [if_neg hl, if_neg hl, if_neg (fun h => hne h.1)]
theorem exceeds (A Y R T U : Option Addr) (n ac yn yc rn rc m k mc kc : Nat) (v z : Int) (w : World)
  (LW : ∀ (w1 : World), Below w.heap.size w w1 → Calls Try.prog 73 #[.agg #[.slice A n ac, .slice R rn rc, .int .i64 v, .slice Y yn yc], .slice T m mc, .slice U k kc] w1 (AnsI w1 z)) :
  Calls Try.prog 144 #[.agg #[.slice A n ac, .slice R rn rc, .int .i64 v, .slice Y yn yc], .slice T m mc, .slice U k kc] w (AnsB w (decide (0 < z))) := by
 obtain ⟨W, hW, rA, bel⟩ := box1 w 96 #[.slice A n ac, .slice R rn rc, .int .i64 v, .slice Y yn yc]
 have k0 : W.cell? ⟨w.heap.size, 0, none⟩ = some (.slice A n ac) := rA.cell 0
 have k1 : W.cell? ⟨w.heap.size, 1, none⟩ = some (.slice R rn rc) := rA.cell 1
 have k2 : W.cell? ⟨w.heap.size, 2, none⟩ = some (.int .i64 v) := rA.cell 2
 have k3 : W.cell? ⟨w.heap.size, 3, none⟩ = some (.slice Y yn yc) := rA.cell 3
 rw [hW] at k0 k1 k2 k3
 have HW := hid hW
 have L := hid (LW W bel)
 clear hW LW rA
 go_enter Try.func144, Try.ntmps144
 go_wp2_with fail
 rw [← HW.out]
 clear k0 k1 k2 k3
 refine L.out.mono ?_
 rintro e w1 ⟨rfl, bb⟩
 have F := hid (show AnsB w (decide (0 < z)) (.returned (.bool (decide (0 < z)))) w1 from ⟨rfl, next_trans bel bb⟩)
 clear bb bel
 go_wp2
 go_ret
 exact F.out
theorem two_g {U : World} {p q : Nat} (hp : Row U p 135 #[.int .i64 0, .int .i64 0]) (hq : Row U q 135 #[.int .i64 0, .int .i64 0]) (hpq : p ≠ q) (a b c d : Value) :
  (U.cell? ⟨p, 0, none⟩ = some (.int .i64 0) ∧ U.frozen? ⟨p, 0, none⟩ = false ∧ U.cell? ⟨p, 1, none⟩ = some (.int .i64 0) ∧ U.frozen? ⟨p, 1, none⟩ = false ∧
  (U.setCell ⟨p, 0, none⟩ a).cell? ⟨p, 1, none⟩ = some (.int .i64 0) ∧ (U.setCell ⟨p, 0, none⟩ a).frozen? ⟨p, 1, none⟩ = false ∧
  ((U.setCell ⟨p, 0, none⟩ a).setCell ⟨p, 1, none⟩ b).cell? ⟨q, 0, none⟩ = some (.int .i64 0) ∧ ((U.setCell ⟨p, 0, none⟩ a).setCell ⟨p, 1, none⟩ b).frozen? ⟨q, 0, none⟩ = false) ∧
  (((U.setCell ⟨p, 0, none⟩ a).setCell ⟨p, 1, none⟩ b).setCell ⟨q, 0, none⟩ c).cell? ⟨q, 1, none⟩ = some (.int .i64 0) ∧ (((U.setCell ⟨p, 0, none⟩ a).setCell ⟨p, 1, none⟩ b).setCell ⟨q, 0, none⟩ c).frozen? ⟨q, 1, none⟩ = false := by
 have p1 := hp.put 0 a
 have q1 := (hq.far (p := ⟨p, 0, none⟩) (Ne.symm hpq) a).far (p := ⟨p, 1, none⟩) (Ne.symm hpq) b
 have q2 := q1.put 0 c
 exact ⟨⟨hp.cell 0, hp.free 0, hp.cell 1, hp.free 1, p1.cell 1, p1.free 1, q1.cell 0, q1.free 0⟩, q2.cell 1, q2.free 1⟩
structure GG (w : World) (cs : Array Value) (p1 p2 : Nat) (a b c d : Int) (wr : World) : Prop where
 r : Row wr w.heap.size 96 cs
 a : Row wr p1 135 #[.int .i64 a, .int .i64 b]
 b : Row wr p2 135 #[.int .i64 c, .int .i64 d]
 l : Below w.heap.size w wr
theorem GG.next {w wr w' : World} {cs : Array Value} {p1 p2 : Nat} {a b c d : Int} (h : GG w cs p1 p2 a b c d wr) (bb : Below wr.heap.size wr w') : GG w cs p1 p2 a b c d w' := ⟨h.r.next bb, h.a.next bb, h.b.next bb, next_trans h.l bb⟩
theorem row4 {wr : World} {g : Nat} {T : TypeId} {a b c d : Value} (r : Row wr g T #[a, b, c, d]) : wr.cell? ⟨g, 0, none⟩ = some a ∧ wr.cell? ⟨g, 1, none⟩ = some b ∧ wr.cell? ⟨g, 2, none⟩ = some c ∧ wr.cell? ⟨g, 3, none⟩ = some d := ⟨r.cell 0, r.cell 1, r.cell 2, r.cell 3⟩
theorem gg_put {w wr : World} {cs : Array Value} {p q : Nat} (hr : Row wr w.heap.size 96 cs) (hp : Row wr p 135 #[.int .i64 0, .int .i64 0]) (hq : Row wr q 135 #[.int .i64 0, .int .i64 0]) (hpq : p ≠ q) (np : w.heap.size < p) (nq : w.heap.size < q) (hb : Below w.heap.size w wr) (a b c d : Int) :
  GG w cs p q a b c d ((((wr.setCell ⟨p, 0, none⟩ (.int .i64 a)).setCell ⟨p, 1, none⟩ (.int .i64 b)).setCell ⟨q, 0, none⟩ (.int .i64 c)).setCell ⟨q, 1, none⟩ (.int .i64 d)) := by
 have p1 := (hp.put 0 (.int .i64 a)).put 1 (.int .i64 b)
 have q1 := (hq.far (p := ⟨p, 0, none⟩) (Ne.symm hpq) (.int .i64 a)).far (p := ⟨p, 1, none⟩) (Ne.symm hpq) (.int .i64 b)
 refine ⟨?_, ?_, (q1.put 0 (.int .i64 c)).put 1 (.int .i64 d), ?_⟩
 ·exact (((hr.far (by show ¬ _ = p; omega) _).far (by show ¬ _ = p; omega) _).far (by show ¬ _ = q; omega) _).far (by show ¬ _ = q; omega) _
 ·exact (p1.far (by show ¬ _ = q; omega) _).far (by show ¬ _ = q; omega) _
 ·exact (((hb.setCell (by show _ ≤ p; omega) _).setCell (by show _ ≤ p; omega) _).setCell (by show _ ≤ q; omega) _).setCell (by show _ ≤ q; omega) _
set_option maxHeartbeats 8000000 in
theorem why (A Y R : Option Addr) (n ac yn yc rn rc : Nat) (v : Int) (sg sy rk : List Int) (Q : Nat → Prop) (hs : Arities sg) (hok : wB sg v sy rk = true) (hn : n ≤ 1048576) : ∀ (f : Nat) (T U : Option Addr) (m mc k kc : Nat) (t s : List Int) (w : World), t.length < f → Seg w w.heap.size A n sg → Seg w w.heap.size Y yn sy → Seg w w.heap.size R rn rk → RdQ w Q sI [.slice T m mc] t → RdQ w Q sI [.slice U k kc] s → (∀ b, Q b → b < w.heap.size) → m ≤ 1048576 → k ≤ 1048576 → Fo sg 1 t → Fo sg 1 s → (∀ x ∈ t, -24 ≤ x) → (∀ x ∈ s, -24 ≤ x) →
  Calls Try.prog 73 #[.agg #[.slice A n ac, .slice R rn rc, .int .i64 v, .slice Y yn yc], .slice T m mc, .slice U k kc] w (AnsI w (kwhy sg v sy rk t s))
 | 0, _, _, _, _, _, _, _, _, _, hf, _, _, _, _, _, _, _, _, _, _, _, _ => absurd hf (Nat.not_lt_zero _)
 | f + 1, T, U, m, mc, k, kc, t, s, w, hf, hA, hY, hR, gT, gS, hQ, hm, hk, ft, fs, vt, vs => by
  obtain ⟨W, hW, rA, bel⟩ := box1 w 96 #[.slice A n ac, .slice R rn rc, .int .i64 v, .slice Y yn yc]
  have hQ' : ∀ (w1 : World), Below w.heap.size w w1 → ∀ b, Q b → b < w1.heap.size := fun w1 bb b hb => Nat.lt_of_lt_of_le (hQ b hb) bb.size
  have LA := hid (fun (w1 : World) (bb : Below w.heap.size w w1) hh => exceedsByArgs A Y R n ac yn yc rn rc v sg sy rk Q hs hn T U m k mc kc t s w1 (hA.next bb)
   (fun w2 b2 T' U' m' mc' k' kc' p q hpl h1 h2 hm' hk' f1 f2 v1 v2 => by
    have hB : Below w.heap.size w w2 := next_trans bb b2
    have := exceeds A Y R T' U' n ac yn yc rn rc m' k' mc' kc' v (kwhy sg v sy rk p q) w2 (fun w3 b3 => why A Y R n ac yn yc rn rc v sg sy rk Q hs hok hn f T' U' m' mc' k' kc' p q w3 (by omega) (hA.next (next_trans hB b3)) (hY.next (next_trans hB b3)) (hR.next (next_trans hB b3)) (h1.keep (Keep.below b3 (hQ' w2 hB))) (h2.keep (Keep.below b3 (hQ' w2 hB))) (hQ' w3 (next_trans hB b3)) hm' hk' f1 f2 v1 v2)
    rw [← kg_why] at this
    exact this)
   (gT.keep (Keep.below bb hQ)) (gS.keep (Keep.below bb hQ)) (hQ' w1 bb) hm hk ft fs vt vs hh)
  have sT : Seg w w.heap.size T m t := shape.Rd.seg (gT.rd hQ)
  have sU : Seg w w.heap.size U k s := shape.Rd.seg (gS.rd hQ)
  have LT := hid (fun (w1 : World) (bb : Below w.heap.size w w1) => gradeOf A R Y T n ac rn rc yn yc m mc v sg rk sy t w1 (hA.next bb) (hR.next bb) (hY.next bb) (sT.next bb) hm hok ft)
  have LS := hid (fun (w1 : World) (bb : Below w.heap.size w w1) => gradeOf A R Y U n ac rn rc yn yc k kc v sg rk sy s w1 (hA.next bb) (hR.next bb) (hY.next bb) (sU.next bb) hk hok fs)
  have LO := hid (fun (w1 : World) (bb : Below w.heap.size w w1) => hasAsOften T U m mc k kc t s w1 (sT.next bb) (sU.next bb) hm hk vt vs)
  have HK := hid (kw_grade hok ft fs)
  have HH := hid (show gr rk t = gr rk s → ((hd t < 0 ∧ hd s < 0) ∨ (0 ≤ hd t ∧ hd t = hd s)) from fun he => by
   have hmt : hd t ∈ t := by obtain ⟨a, r, e⟩ := fo_hd ft; rw [e]; exact List.mem_cons_self ..
   have hms : hd s ∈ s := by obtain ⟨a, r, e⟩ := fo_hd fs; rw [e]; exact List.mem_cons_self ..
   have hr : ∀ x, 0 ≤ x → 0 ≤ ar sg x → 0 ≤ rkL rk x := fun x h0 ha => by
    have hl := rank_parts (prec_parts (w_parts hok).1).2
    have hx := (ar_in h0 ha).1
    have hk : x.toNat < rk.length := by omega
    show 0 ≤ rk.getD x.toNat 0
    rw [getD_get hk]
    exact ((all_there.2 hl.2).1 _ (List.getElem_mem hk)).1
   unfold gr at he
   by_cases h1 : hd t < 0
   ·rw [if_pos h1] at he
    by_cases h2 : hd s < 0
    ·exact .inl ⟨h1, h2⟩
    ·rw [if_neg h2] at he
     have := hr _ (by omega) (fs.sym _ hms (by omega))
     omega
   ·rw [if_neg h1] at he
    by_cases h2 : hd s < 0
    ·rw [if_pos h2] at he
     have := hr _ (by omega) (ft.sym _ hmt (by omega))
     omega
    ·rw [if_neg h2] at he
     exact .inr ⟨by omega, (adm_of hok).inj _ _ (by omega) (ft.sym _ hmt (by omega)) (by omega) (fs.sym _ hms (by omega)) he⟩)
  have GR := hid (show ∀ u : List Int, Fo sg 1 u → -1 ≤ gr rk u from fun u fu => by
   unfold gr
   split
   ·omega
   ·rename_i h
    have hmu : hd u ∈ u := by obtain ⟨a, r, e⟩ := fo_hd fu; rw [e]; exact List.mem_cons_self ..
    have hl := rank_parts (prec_parts (w_parts hok).1).2
    have hx := (ar_in (by omega) (fu.sym _ hmu (by omega))).1
    have hk : (hd u).toNat < rk.length := by omega
    show -1 ≤ rk.getD (hd u).toNat 0
    rw [getD_get hk]
    have := ((all_there.2 hl.2).1 _ (List.getElem_mem hk)).1
    omega)
  obtain ⟨wa, hwa⟩ : ∃ z, wt v sy t = z := ⟨_, rfl⟩
  obtain ⟨wb, hwb⟩ : ∃ z, wt v sy s = z := ⟨_, rfl⟩
  obtain ⟨ga, hga⟩ : ∃ z, gr rk t = z := ⟨_, rfl⟩
  obtain ⟨gb, hgb⟩ : ∃ z, gr rk s = z := ⟨_, rfl⟩
  rw [hwa, hwb, hga, hgb] at HK
  rw [hga, hgb] at HH
  rw [hwa, hga] at LT
  rw [hwb, hgb] at LS
  have HW := hid hW
  have k0 : W.cell? ⟨w.heap.size, 0, none⟩ = some (.slice A n ac) := rA.cell 0
  have k1 : W.cell? ⟨w.heap.size, 1, none⟩ = some (.slice R rn rc) := rA.cell 1
  have k2 : W.cell? ⟨w.heap.size, 2, none⟩ = some (.int .i64 v) := rA.cell 2
  have k3 : W.cell? ⟨w.heap.size, 3, none⟩ = some (.slice Y yn yc) := rA.cell 3
  clear hW hA hY hR gT gS hQ hQ' ft fs vt vs hok hs hn sT sU hf hwa hwb hga hgb GR
  go_enter Try.func73, Try.ntmps73
  go_wp2_with fail
  rw [← HW.out]
  clear k0 k1 k2 k3
  go_upto_region 1 with (fail)
  go_cut [7, 8] (fun a b wx => ∃ p1 p2, a = .pointer (some ⟨p1, 0, none⟩) ∧ b = .pointer (some ⟨p2, 0, none⟩) ∧ GG w #[.slice A n ac, .slice R rn rc, .int .i64 v, .slice Y yn yc] p1 p2 wa ga wb gb wx)
  case first =>
   have rV := rA.drew
   have bw := bel.drew
   have bs := Below.refl W.drew.heap.size W.drew
   have zS := rV.lt
   clear rA bel
   refine wp_region_held_drew (S := (fun w' => w'.cell? ⟨w.heap.size, 0, none⟩ = some (.slice A n ac) ∧ w'.cell? ⟨w.heap.size, 1, none⟩ = some (.slice R rn rc) ∧ w'.cell? ⟨w.heap.size, 2, none⟩ = some (.int .i64 v) ∧ w'.cell? ⟨w.heap.size, 3, none⟩ = some (.slice Y yn yc))) (by kernel_rfl) (row4 rV) (fun hHeld => ?_)
   refine wpAnyH_take (i := 0) (v := ?_) rfl (by kernel_rfl) (by kernel_rfl) (by kernel_rfl) (fun _ _ _ h => h) (Or.inl ⟨by rfl, ?_⟩) (by assumption) ?_
   rotate_left 1
   ·(intro w0 hSw; (try dsimp only at hSw); go_simp; try with_reducible rfl)
   try simp only [Act.put, setIfInBounds_toArray, set_cons_zero, set_cons_succ, getElem_toArray, getElem_cons_zero, getElem_cons_succ]
   refine wpAnyH_take (i := 1) (v := ?_) rfl (by kernel_rfl) (by kernel_rfl) (by kernel_rfl) (fun _ _ _ h => h) (Or.inl ⟨by rfl, ?_⟩) (by assumption) ?_
   rotate_left 1
   ·(intro w0 hSw; (try dsimp only at hSw); go_simp; try with_reducible rfl)
   try simp only [Act.put, setIfInBounds_toArray, set_cons_zero, set_cons_succ, getElem_toArray, getElem_cons_zero, getElem_cons_succ]
   refine wpAnyH_take (i := 3) (v := ?_) rfl (by kernel_rfl) (by kernel_rfl) (by kernel_rfl) (fun _ _ _ h => h) (Or.inl ⟨by rfl, ?_⟩) (by assumption) ?_
   rotate_left 1
   ·(intro w0 hSw; (try dsimp only at hSw); go_simp; try with_reducible rfl)
   try simp only [Act.put, setIfInBounds_toArray, set_cons_zero, set_cons_succ, getElem_toArray, getElem_cons_zero, getElem_cons_succ]
   refine wpAnyH_take (i := 4) (v := ?_) rfl (by kernel_rfl) (by kernel_rfl) (by kernel_rfl) (fun _ _ _ h => h) (Or.inl ⟨by rfl, ?_⟩) (by assumption) ?_
   rotate_left 1
   ·(intro w0 hSw; (try dsimp only at hSw); go_simp; try with_reducible rfl)
   try simp only [Act.put, setIfInBounds_toArray, set_cons_zero, set_cons_succ, getElem_toArray, getElem_cons_zero, getElem_cons_succ]
   have bw0 := bw
   have bs0 := bs
   have rV0 := rV
   have zS0 := zS
   clear bw bs rV zS
   generalize W.drew = D at *
   have bw := bw0
   have bs := bs0
   have rV := rV0
   have zS := zS0
   clear bw0 bs0 rV0 zS0
   refine wpAnyH_ready (rs := [2, 6, 7]) (by kernel_rfl) (by simp) (AllReadyH.cons rfl (fun K hK => ?_) (AllReadyH.cons rfl (fun K hK => ?_) (AllReadyH.cons rfl (fun K hK => ?_) AllReadyH.nil)))
   ·skip
    try simp only [Act.put, setIfInBounds_toArray, set_cons_zero, set_cons_succ, getElem_toArray, getElem_cons_zero, getElem_cons_succ]
    rw [if_pos (by rfl)]
    go_simp
    refine (LT.out _ (next_trans bw bs)).mono ?_
    rintro e v1 ⟨rfl, bb⟩
    replace bs := next_trans bs bb
    have zv1 := bb.size
    clear bb
    refine hK.out _ _ ?_ (fun hHeld => ?_)
    ·exact row4 (rV.next bs)
    clear hK K
    try simp only [Act.put, setIfInBounds_toArray, set_cons_zero, set_cons_succ, getElem_toArray, getElem_cons_zero, getElem_cons_succ]
    refine wpAnyH_ready (rs := [5, 6, 7]) (by kernel_rfl) (by simp) (AllReadyH.cons rfl (fun K hK => ?_) (AllReadyH.cons rfl (fun K hK => ?_) (AllReadyH.cons rfl (fun K hK => ?_) AllReadyH.nil)))
    ·skip
     try simp only [Act.put, setIfInBounds_toArray, set_cons_zero, set_cons_succ, getElem_toArray, getElem_cons_zero, getElem_cons_succ]
     rw [if_pos (by rfl)]
     go_simp
     refine (LS.out _ (next_trans bw bs)).mono ?_
     rintro e v2 ⟨rfl, bb⟩
     replace bs := next_trans bs bb
     have zv2 := bb.size
     clear bb
     refine hK.out _ _ ?_ (fun hHeld => ?_)
     ·exact row4 (rV.next bs)
     clear hK K
     try simp only [Act.put, setIfInBounds_toArray, set_cons_zero, set_cons_succ, getElem_toArray, getElem_cons_zero, getElem_cons_succ]
     refine wpAnyH_ready (rs := [6, 7]) (by kernel_rfl) (by simp) (AllReadyH.cons rfl (fun K hK => ?_) (AllReadyH.cons rfl (fun K hK => ?_) AllReadyH.nil))
     ·skip
      try simp only [Act.put, setIfInBounds_toArray, set_cons_zero, set_cons_succ, getElem_toArray, getElem_cons_zero, getElem_cons_succ]
      rw [if_pos (by rfl)]
      go_simp
      obtain ⟨v3, hw⟩ : ∃ W, W = v2.alloc (.cells #[.int .i64 0, .int .i64 0] 135) := ⟨_, rfl⟩
      rw [← hw]
      have r6 : Row v3 v2.heap.size 135 #[.int .i64 0, .int .i64 0] := by rw [hw]; exact Row.new _ _ _
      have bb : Below v2.heap.size v2 v3 := by rw [hw]; exact (Below.refl _ _).alloc (Nat.le_refl _) _
      clear hw
      have y6 := r6.lt
      replace bs := next_trans bs bb
      have zv3 := bb.size
      clear bb
      refine hK.out _ _ ?_ (fun hHeld => ?_)
      ·exact row4 (rV.next bs)
      clear hK K
      try simp only [Act.put, setIfInBounds_toArray, set_cons_zero, set_cons_succ, getElem_toArray, getElem_cons_zero, getElem_cons_succ]
      refine wpAnyH_ready (rs := [7]) (by kernel_rfl) (by simp) (AllReadyH.cons rfl (fun K hK => ?_) AllReadyH.nil)
      try simp only [Act.put, setIfInBounds_toArray, set_cons_zero, set_cons_succ, getElem_toArray, getElem_cons_zero, getElem_cons_succ]
      rw [if_pos (by rfl)]
      go_simp
      obtain ⟨v4, hw⟩ : ∃ W, W = v3.alloc (.cells #[.int .i64 0, .int .i64 0] 135) := ⟨_, rfl⟩
      rw [← hw]
      have r7 : Row v4 v3.heap.size 135 #[.int .i64 0, .int .i64 0] := by rw [hw]; exact Row.new _ _ _
      have bb : Below v3.heap.size v3 v4 := by rw [hw]; exact (Below.refl _ _).alloc (Nat.le_refl _) _
      clear hw
      replace r6 := r6.next bb
      have y7 := r7.lt
      replace bs := next_trans bs bb
      have zv4 := bb.size
      clear bb
      refine hK.out _ _ ?_ (fun hHeld => ?_)
      ·exact row4 (rV.next bs)
      clear hK K
      try simp only [Act.put, setIfInBounds_toArray, set_cons_zero, set_cons_succ, getElem_toArray, getElem_cons_zero, getElem_cons_succ]
      have zbs := bs.size
      obtain ⟨⟨e0, e1, e2, e3, e4, e5, e6, e7⟩, f0, f1⟩ := two_g r6 r7 (by omega) (.int .i64 wa) (.int .i64 ga) (.int .i64 wb) (.int .i64 gb)
      have rS := rV.next bs
      have hsp : w.heap.size ≠ v2.heap.size := by omega
      have hsq : w.heap.size ≠ v3.heap.size := by omega
      have F := hid (⟨_, _, rfl, rfl, gg_put rS r6 r7 (by omega) (by omega) (by omega) (next_trans bw bs) wa ga wb gb⟩ : ∃ p1 p2, Value.pointer (some ⟨v2.heap.size, 0, none⟩) = .pointer (some ⟨p1, 0, none⟩) ∧ Value.pointer (some ⟨v3.heap.size, 0, none⟩) = .pointer (some ⟨p2, 0, none⟩) ∧ GG w #[.slice A n ac, .slice R rn rc, .int .i64 v, .slice Y yn yc] p1 p2 wa ga wb gb _)
      have rS1 := (Row.far (Row.far rS (p := ⟨v2.heap.size, 0, none⟩) hsp (.int .i64 wa)) (p := ⟨v2.heap.size, 1, none⟩) hsp (.int .i64 ga))
      have rS2 := (Row.far (Row.far rS1 (p := ⟨v3.heap.size, 0, none⟩) hsq (.int .i64 wb)) (p := ⟨v3.heap.size, 1, none⟩) hsq (.int .i64 gb))
      have HS := hid (And.intro rS1 rS2)
      clear rS rS1 rS2 r6 r7 bs
      refine wpAnyH_ready (rs := [8]) (by kernel_rfl) (by simp) (AllReadyH.cons rfl (fun K hK => ?_) AllReadyH.nil)
      try simp only [Act.put, setIfInBounds_toArray, set_cons_zero, set_cons_succ, getElem_toArray, getElem_cons_zero, getElem_cons_succ]
      rw [if_pos (by rfl)]
      go_simp
      refine hK.out _ _ ?_ (fun hHeld => ?_)
      ·exact row4 HS.out.1
      clear hK K
      try simp only [Act.put, setIfInBounds_toArray, set_cons_zero, set_cons_succ, getElem_toArray, getElem_cons_zero, getElem_cons_succ]
      refine wpAnyH_ready (rs := [9]) (by kernel_rfl) (by simp) (AllReadyH.cons rfl (fun K hK => ?_) AllReadyH.nil)
      try simp only [Act.put, setIfInBounds_toArray, set_cons_zero, set_cons_succ, getElem_toArray, getElem_cons_zero, getElem_cons_succ]
      rw [if_pos (by rfl)]
      go_simp
      refine hK.out _ _ ?_ (fun hHeld => ?_)
      ·exact row4 HS.out.2
      clear hK K
      try simp only [Act.put, setIfInBounds_toArray, set_cons_zero, set_cons_succ, getElem_toArray, getElem_cons_zero, getElem_cons_succ]
      refine wpAnyH_done (by kernel_rfl) ?_ _
      clear e0 e1 e2 e3 e4 e5 e6 e7 f0 f1 HS
      go_wp2_with fail
      go_meet
      exact F.out
     ·skip
      try simp only [Act.put, setIfInBounds_toArray, set_cons_zero, set_cons_succ, getElem_toArray, getElem_cons_zero, getElem_cons_succ]
      rw [if_pos (by rfl)]
      go_simp
      obtain ⟨v5, hw⟩ : ∃ W, W = v2.alloc (.cells #[.int .i64 0, .int .i64 0] 135) := ⟨_, rfl⟩
      rw [← hw]
      have r7 : Row v5 v2.heap.size 135 #[.int .i64 0, .int .i64 0] := by rw [hw]; exact Row.new _ _ _
      have bb : Below v2.heap.size v2 v5 := by rw [hw]; exact (Below.refl _ _).alloc (Nat.le_refl _) _
      clear hw
      have y7 := r7.lt
      replace bs := next_trans bs bb
      have zv5 := bb.size
      clear bb
      refine hK.out _ _ ?_ (fun hHeld => ?_)
      ·exact row4 (rV.next bs)
      clear hK K
      try simp only [Act.put, setIfInBounds_toArray, set_cons_zero, set_cons_succ, getElem_toArray, getElem_cons_zero, getElem_cons_succ]
      refine wpAnyH_ready (rs := [6]) (by kernel_rfl) (by simp) (AllReadyH.cons rfl (fun K hK => ?_) AllReadyH.nil)
      try simp only [Act.put, setIfInBounds_toArray, set_cons_zero, set_cons_succ, getElem_toArray, getElem_cons_zero, getElem_cons_succ]
      rw [if_pos (by rfl)]
      go_simp
      obtain ⟨v6, hw⟩ : ∃ W, W = v5.alloc (.cells #[.int .i64 0, .int .i64 0] 135) := ⟨_, rfl⟩
      rw [← hw]
      have r6 : Row v6 v5.heap.size 135 #[.int .i64 0, .int .i64 0] := by rw [hw]; exact Row.new _ _ _
      have bb : Below v5.heap.size v5 v6 := by rw [hw]; exact (Below.refl _ _).alloc (Nat.le_refl _) _
      clear hw
      replace r7 := r7.next bb
      have y6 := r6.lt
      replace bs := next_trans bs bb
      have zv6 := bb.size
      clear bb
      refine hK.out _ _ ?_ (fun hHeld => ?_)
      ·exact row4 (rV.next bs)
      clear hK K
      try simp only [Act.put, setIfInBounds_toArray, set_cons_zero, set_cons_succ, getElem_toArray, getElem_cons_zero, getElem_cons_succ]
      have zbs := bs.size
      obtain ⟨⟨e0, e1, e2, e3, e4, e5, e6, e7⟩, f0, f1⟩ := two_g r6 r7 (by omega) (.int .i64 wa) (.int .i64 ga) (.int .i64 wb) (.int .i64 gb)
      have rS := rV.next bs
      have hsp : w.heap.size ≠ v5.heap.size := by omega
      have hsq : w.heap.size ≠ v2.heap.size := by omega
      have F := hid (⟨_, _, rfl, rfl, gg_put rS r6 r7 (by omega) (by omega) (by omega) (next_trans bw bs) wa ga wb gb⟩ : ∃ p1 p2, Value.pointer (some ⟨v5.heap.size, 0, none⟩) = .pointer (some ⟨p1, 0, none⟩) ∧ Value.pointer (some ⟨v2.heap.size, 0, none⟩) = .pointer (some ⟨p2, 0, none⟩) ∧ GG w #[.slice A n ac, .slice R rn rc, .int .i64 v, .slice Y yn yc] p1 p2 wa ga wb gb _)
      have rS1 := (Row.far (Row.far rS (p := ⟨v5.heap.size, 0, none⟩) hsp (.int .i64 wa)) (p := ⟨v5.heap.size, 1, none⟩) hsp (.int .i64 ga))
      have rS2 := (Row.far (Row.far rS1 (p := ⟨v2.heap.size, 0, none⟩) hsq (.int .i64 wb)) (p := ⟨v2.heap.size, 1, none⟩) hsq (.int .i64 gb))
      have HS := hid (And.intro rS1 rS2)
      clear rS rS1 rS2 r6 r7 bs
      refine wpAnyH_ready (rs := [8]) (by kernel_rfl) (by simp) (AllReadyH.cons rfl (fun K hK => ?_) AllReadyH.nil)
      try simp only [Act.put, setIfInBounds_toArray, set_cons_zero, set_cons_succ, getElem_toArray, getElem_cons_zero, getElem_cons_succ]
      rw [if_pos (by rfl)]
      go_simp
      refine hK.out _ _ ?_ (fun hHeld => ?_)
      ·exact row4 HS.out.1
      clear hK K
      try simp only [Act.put, setIfInBounds_toArray, set_cons_zero, set_cons_succ, getElem_toArray, getElem_cons_zero, getElem_cons_succ]
      refine wpAnyH_ready (rs := [9]) (by kernel_rfl) (by simp) (AllReadyH.cons rfl (fun K hK => ?_) AllReadyH.nil)
      try simp only [Act.put, setIfInBounds_toArray, set_cons_zero, set_cons_succ, getElem_toArray, getElem_cons_zero, getElem_cons_succ]
      rw [if_pos (by rfl)]
      go_simp
      refine hK.out _ _ ?_ (fun hHeld => ?_)
      ·exact row4 HS.out.2
      clear hK K
      try simp only [Act.put, setIfInBounds_toArray, set_cons_zero, set_cons_succ, getElem_toArray, getElem_cons_zero, getElem_cons_succ]
      refine wpAnyH_done (by kernel_rfl) ?_ _
      clear e0 e1 e2 e3 e4 e5 e6 e7 f0 f1 HS
      go_wp2_with fail
      go_meet
      exact F.out
    ·skip
     try simp only [Act.put, setIfInBounds_toArray, set_cons_zero, set_cons_succ, getElem_toArray, getElem_cons_zero, getElem_cons_succ]
     rw [if_pos (by rfl)]
     go_simp
     obtain ⟨v7, hw⟩ : ∃ W, W = v1.alloc (.cells #[.int .i64 0, .int .i64 0] 135) := ⟨_, rfl⟩
     rw [← hw]
     have r6 : Row v7 v1.heap.size 135 #[.int .i64 0, .int .i64 0] := by rw [hw]; exact Row.new _ _ _
     have bb : Below v1.heap.size v1 v7 := by rw [hw]; exact (Below.refl _ _).alloc (Nat.le_refl _) _
     clear hw
     have y6 := r6.lt
     replace bs := next_trans bs bb
     have zv7 := bb.size
     clear bb
     refine hK.out _ _ ?_ (fun hHeld => ?_)
     ·exact row4 (rV.next bs)
     clear hK K
     try simp only [Act.put, setIfInBounds_toArray, set_cons_zero, set_cons_succ, getElem_toArray, getElem_cons_zero, getElem_cons_succ]
     refine wpAnyH_ready (rs := [5, 7]) (by kernel_rfl) (by simp) (AllReadyH.cons rfl (fun K hK => ?_) (AllReadyH.cons rfl (fun K hK => ?_) AllReadyH.nil))
     ·skip
      try simp only [Act.put, setIfInBounds_toArray, set_cons_zero, set_cons_succ, getElem_toArray, getElem_cons_zero, getElem_cons_succ]
      rw [if_pos (by rfl)]
      go_simp
      refine (LS.out _ (next_trans bw bs)).mono ?_
      rintro e v8 ⟨rfl, bb⟩
      replace r6 := r6.next bb
      replace bs := next_trans bs bb
      have zv8 := bb.size
      clear bb
      refine hK.out _ _ ?_ (fun hHeld => ?_)
      ·exact row4 (rV.next bs)
      clear hK K
      try simp only [Act.put, setIfInBounds_toArray, set_cons_zero, set_cons_succ, getElem_toArray, getElem_cons_zero, getElem_cons_succ]
      refine wpAnyH_ready (rs := [7]) (by kernel_rfl) (by simp) (AllReadyH.cons rfl (fun K hK => ?_) AllReadyH.nil)
      try simp only [Act.put, setIfInBounds_toArray, set_cons_zero, set_cons_succ, getElem_toArray, getElem_cons_zero, getElem_cons_succ]
      rw [if_pos (by rfl)]
      go_simp
      obtain ⟨v9, hw⟩ : ∃ W, W = v8.alloc (.cells #[.int .i64 0, .int .i64 0] 135) := ⟨_, rfl⟩
      rw [← hw]
      have r7 : Row v9 v8.heap.size 135 #[.int .i64 0, .int .i64 0] := by rw [hw]; exact Row.new _ _ _
      have bb : Below v8.heap.size v8 v9 := by rw [hw]; exact (Below.refl _ _).alloc (Nat.le_refl _) _
      clear hw
      replace r6 := r6.next bb
      have y7 := r7.lt
      replace bs := next_trans bs bb
      have zv9 := bb.size
      clear bb
      refine hK.out _ _ ?_ (fun hHeld => ?_)
      ·exact row4 (rV.next bs)
      clear hK K
      try simp only [Act.put, setIfInBounds_toArray, set_cons_zero, set_cons_succ, getElem_toArray, getElem_cons_zero, getElem_cons_succ]
      have zbs := bs.size
      obtain ⟨⟨e0, e1, e2, e3, e4, e5, e6, e7⟩, f0, f1⟩ := two_g r6 r7 (by omega) (.int .i64 wa) (.int .i64 ga) (.int .i64 wb) (.int .i64 gb)
      have rS := rV.next bs
      have hsp : w.heap.size ≠ v1.heap.size := by omega
      have hsq : w.heap.size ≠ v8.heap.size := by omega
      have F := hid (⟨_, _, rfl, rfl, gg_put rS r6 r7 (by omega) (by omega) (by omega) (next_trans bw bs) wa ga wb gb⟩ : ∃ p1 p2, Value.pointer (some ⟨v1.heap.size, 0, none⟩) = .pointer (some ⟨p1, 0, none⟩) ∧ Value.pointer (some ⟨v8.heap.size, 0, none⟩) = .pointer (some ⟨p2, 0, none⟩) ∧ GG w #[.slice A n ac, .slice R rn rc, .int .i64 v, .slice Y yn yc] p1 p2 wa ga wb gb _)
      have rS1 := (Row.far (Row.far rS (p := ⟨v1.heap.size, 0, none⟩) hsp (.int .i64 wa)) (p := ⟨v1.heap.size, 1, none⟩) hsp (.int .i64 ga))
      have rS2 := (Row.far (Row.far rS1 (p := ⟨v8.heap.size, 0, none⟩) hsq (.int .i64 wb)) (p := ⟨v8.heap.size, 1, none⟩) hsq (.int .i64 gb))
      have HS := hid (And.intro rS1 rS2)
      clear rS rS1 rS2 r6 r7 bs
      refine wpAnyH_ready (rs := [8]) (by kernel_rfl) (by simp) (AllReadyH.cons rfl (fun K hK => ?_) AllReadyH.nil)
      try simp only [Act.put, setIfInBounds_toArray, set_cons_zero, set_cons_succ, getElem_toArray, getElem_cons_zero, getElem_cons_succ]
      rw [if_pos (by rfl)]
      go_simp
      refine hK.out _ _ ?_ (fun hHeld => ?_)
      ·exact row4 HS.out.1
      clear hK K
      try simp only [Act.put, setIfInBounds_toArray, set_cons_zero, set_cons_succ, getElem_toArray, getElem_cons_zero, getElem_cons_succ]
      refine wpAnyH_ready (rs := [9]) (by kernel_rfl) (by simp) (AllReadyH.cons rfl (fun K hK => ?_) AllReadyH.nil)
      try simp only [Act.put, setIfInBounds_toArray, set_cons_zero, set_cons_succ, getElem_toArray, getElem_cons_zero, getElem_cons_succ]
      rw [if_pos (by rfl)]
      go_simp
      refine hK.out _ _ ?_ (fun hHeld => ?_)
      ·exact row4 HS.out.2
      clear hK K
      try simp only [Act.put, setIfInBounds_toArray, set_cons_zero, set_cons_succ, getElem_toArray, getElem_cons_zero, getElem_cons_succ]
      refine wpAnyH_done (by kernel_rfl) ?_ _
      clear e0 e1 e2 e3 e4 e5 e6 e7 f0 f1 HS
      go_wp2_with fail
      go_meet
      exact F.out
     ·skip
      try simp only [Act.put, setIfInBounds_toArray, set_cons_zero, set_cons_succ, getElem_toArray, getElem_cons_zero, getElem_cons_succ]
      rw [if_pos (by rfl)]
      go_simp
      obtain ⟨v10, hw⟩ : ∃ W, W = v7.alloc (.cells #[.int .i64 0, .int .i64 0] 135) := ⟨_, rfl⟩
      rw [← hw]
      have r7 : Row v10 v7.heap.size 135 #[.int .i64 0, .int .i64 0] := by rw [hw]; exact Row.new _ _ _
      have bb : Below v7.heap.size v7 v10 := by rw [hw]; exact (Below.refl _ _).alloc (Nat.le_refl _) _
      clear hw
      replace r6 := r6.next bb
      have y7 := r7.lt
      replace bs := next_trans bs bb
      have zv10 := bb.size
      clear bb
      refine hK.out _ _ ?_ (fun hHeld => ?_)
      ·exact row4 (rV.next bs)
      clear hK K
      try simp only [Act.put, setIfInBounds_toArray, set_cons_zero, set_cons_succ, getElem_toArray, getElem_cons_zero, getElem_cons_succ]
      refine wpAnyH_ready (rs := [5]) (by kernel_rfl) (by simp) (AllReadyH.cons rfl (fun K hK => ?_) AllReadyH.nil)
      try simp only [Act.put, setIfInBounds_toArray, set_cons_zero, set_cons_succ, getElem_toArray, getElem_cons_zero, getElem_cons_succ]
      rw [if_pos (by rfl)]
      go_simp
      refine (LS.out _ (next_trans bw bs)).mono ?_
      rintro e v11 ⟨rfl, bb⟩
      replace r6 := r6.next bb
      replace r7 := r7.next bb
      replace bs := next_trans bs bb
      have zv11 := bb.size
      clear bb
      refine hK.out _ _ ?_ (fun hHeld => ?_)
      ·exact row4 (rV.next bs)
      clear hK K
      try simp only [Act.put, setIfInBounds_toArray, set_cons_zero, set_cons_succ, getElem_toArray, getElem_cons_zero, getElem_cons_succ]
      have zbs := bs.size
      obtain ⟨⟨e0, e1, e2, e3, e4, e5, e6, e7⟩, f0, f1⟩ := two_g r6 r7 (by omega) (.int .i64 wa) (.int .i64 ga) (.int .i64 wb) (.int .i64 gb)
      have rS := rV.next bs
      have hsp : w.heap.size ≠ v1.heap.size := by omega
      have hsq : w.heap.size ≠ v7.heap.size := by omega
      have F := hid (⟨_, _, rfl, rfl, gg_put rS r6 r7 (by omega) (by omega) (by omega) (next_trans bw bs) wa ga wb gb⟩ : ∃ p1 p2, Value.pointer (some ⟨v1.heap.size, 0, none⟩) = .pointer (some ⟨p1, 0, none⟩) ∧ Value.pointer (some ⟨v7.heap.size, 0, none⟩) = .pointer (some ⟨p2, 0, none⟩) ∧ GG w #[.slice A n ac, .slice R rn rc, .int .i64 v, .slice Y yn yc] p1 p2 wa ga wb gb _)
      have rS1 := (Row.far (Row.far rS (p := ⟨v1.heap.size, 0, none⟩) hsp (.int .i64 wa)) (p := ⟨v1.heap.size, 1, none⟩) hsp (.int .i64 ga))
      have rS2 := (Row.far (Row.far rS1 (p := ⟨v7.heap.size, 0, none⟩) hsq (.int .i64 wb)) (p := ⟨v7.heap.size, 1, none⟩) hsq (.int .i64 gb))
      have HS := hid (And.intro rS1 rS2)
      clear rS rS1 rS2 r6 r7 bs
      refine wpAnyH_ready (rs := [8]) (by kernel_rfl) (by simp) (AllReadyH.cons rfl (fun K hK => ?_) AllReadyH.nil)
      try simp only [Act.put, setIfInBounds_toArray, set_cons_zero, set_cons_succ, getElem_toArray, getElem_cons_zero, getElem_cons_succ]
      rw [if_pos (by rfl)]
      go_simp
      refine hK.out _ _ ?_ (fun hHeld => ?_)
      ·exact row4 HS.out.1
      clear hK K
      try simp only [Act.put, setIfInBounds_toArray, set_cons_zero, set_cons_succ, getElem_toArray, getElem_cons_zero, getElem_cons_succ]
      refine wpAnyH_ready (rs := [9]) (by kernel_rfl) (by simp) (AllReadyH.cons rfl (fun K hK => ?_) AllReadyH.nil)
      try simp only [Act.put, setIfInBounds_toArray, set_cons_zero, set_cons_succ, getElem_toArray, getElem_cons_zero, getElem_cons_succ]
      rw [if_pos (by rfl)]
      go_simp
      refine hK.out _ _ ?_ (fun hHeld => ?_)
      ·exact row4 HS.out.2
      clear hK K
      try simp only [Act.put, setIfInBounds_toArray, set_cons_zero, set_cons_succ, getElem_toArray, getElem_cons_zero, getElem_cons_succ]
      refine wpAnyH_done (by kernel_rfl) ?_ _
      clear e0 e1 e2 e3 e4 e5 e6 e7 f0 f1 HS
      go_wp2_with fail
      go_meet
      exact F.out
    ·skip
     try simp only [Act.put, setIfInBounds_toArray, set_cons_zero, set_cons_succ, getElem_toArray, getElem_cons_zero, getElem_cons_succ]
     rw [if_pos (by rfl)]
     go_simp
     obtain ⟨v12, hw⟩ : ∃ W, W = v1.alloc (.cells #[.int .i64 0, .int .i64 0] 135) := ⟨_, rfl⟩
     rw [← hw]
     have r7 : Row v12 v1.heap.size 135 #[.int .i64 0, .int .i64 0] := by rw [hw]; exact Row.new _ _ _
     have bb : Below v1.heap.size v1 v12 := by rw [hw]; exact (Below.refl _ _).alloc (Nat.le_refl _) _
     clear hw
     have y7 := r7.lt
     replace bs := next_trans bs bb
     have zv12 := bb.size
     clear bb
     refine hK.out _ _ ?_ (fun hHeld => ?_)
     ·exact row4 (rV.next bs)
     clear hK K
     try simp only [Act.put, setIfInBounds_toArray, set_cons_zero, set_cons_succ, getElem_toArray, getElem_cons_zero, getElem_cons_succ]
     refine wpAnyH_ready (rs := [5, 6]) (by kernel_rfl) (by simp) (AllReadyH.cons rfl (fun K hK => ?_) (AllReadyH.cons rfl (fun K hK => ?_) AllReadyH.nil))
     ·skip
      try simp only [Act.put, setIfInBounds_toArray, set_cons_zero, set_cons_succ, getElem_toArray, getElem_cons_zero, getElem_cons_succ]
      rw [if_pos (by rfl)]
      go_simp
      refine (LS.out _ (next_trans bw bs)).mono ?_
      rintro e v13 ⟨rfl, bb⟩
      replace r7 := r7.next bb
      replace bs := next_trans bs bb
      have zv13 := bb.size
      clear bb
      refine hK.out _ _ ?_ (fun hHeld => ?_)
      ·exact row4 (rV.next bs)
      clear hK K
      try simp only [Act.put, setIfInBounds_toArray, set_cons_zero, set_cons_succ, getElem_toArray, getElem_cons_zero, getElem_cons_succ]
      refine wpAnyH_ready (rs := [6]) (by kernel_rfl) (by simp) (AllReadyH.cons rfl (fun K hK => ?_) AllReadyH.nil)
      try simp only [Act.put, setIfInBounds_toArray, set_cons_zero, set_cons_succ, getElem_toArray, getElem_cons_zero, getElem_cons_succ]
      rw [if_pos (by rfl)]
      go_simp
      obtain ⟨v14, hw⟩ : ∃ W, W = v13.alloc (.cells #[.int .i64 0, .int .i64 0] 135) := ⟨_, rfl⟩
      rw [← hw]
      have r6 : Row v14 v13.heap.size 135 #[.int .i64 0, .int .i64 0] := by rw [hw]; exact Row.new _ _ _
      have bb : Below v13.heap.size v13 v14 := by rw [hw]; exact (Below.refl _ _).alloc (Nat.le_refl _) _
      clear hw
      replace r7 := r7.next bb
      have y6 := r6.lt
      replace bs := next_trans bs bb
      have zv14 := bb.size
      clear bb
      refine hK.out _ _ ?_ (fun hHeld => ?_)
      ·exact row4 (rV.next bs)
      clear hK K
      try simp only [Act.put, setIfInBounds_toArray, set_cons_zero, set_cons_succ, getElem_toArray, getElem_cons_zero, getElem_cons_succ]
      have zbs := bs.size
      obtain ⟨⟨e0, e1, e2, e3, e4, e5, e6, e7⟩, f0, f1⟩ := two_g r6 r7 (by omega) (.int .i64 wa) (.int .i64 ga) (.int .i64 wb) (.int .i64 gb)
      have rS := rV.next bs
      have hsp : w.heap.size ≠ v13.heap.size := by omega
      have hsq : w.heap.size ≠ v1.heap.size := by omega
      have F := hid (⟨_, _, rfl, rfl, gg_put rS r6 r7 (by omega) (by omega) (by omega) (next_trans bw bs) wa ga wb gb⟩ : ∃ p1 p2, Value.pointer (some ⟨v13.heap.size, 0, none⟩) = .pointer (some ⟨p1, 0, none⟩) ∧ Value.pointer (some ⟨v1.heap.size, 0, none⟩) = .pointer (some ⟨p2, 0, none⟩) ∧ GG w #[.slice A n ac, .slice R rn rc, .int .i64 v, .slice Y yn yc] p1 p2 wa ga wb gb _)
      have rS1 := (Row.far (Row.far rS (p := ⟨v13.heap.size, 0, none⟩) hsp (.int .i64 wa)) (p := ⟨v13.heap.size, 1, none⟩) hsp (.int .i64 ga))
      have rS2 := (Row.far (Row.far rS1 (p := ⟨v1.heap.size, 0, none⟩) hsq (.int .i64 wb)) (p := ⟨v1.heap.size, 1, none⟩) hsq (.int .i64 gb))
      have HS := hid (And.intro rS1 rS2)
      clear rS rS1 rS2 r6 r7 bs
      refine wpAnyH_ready (rs := [8]) (by kernel_rfl) (by simp) (AllReadyH.cons rfl (fun K hK => ?_) AllReadyH.nil)
      try simp only [Act.put, setIfInBounds_toArray, set_cons_zero, set_cons_succ, getElem_toArray, getElem_cons_zero, getElem_cons_succ]
      rw [if_pos (by rfl)]
      go_simp
      refine hK.out _ _ ?_ (fun hHeld => ?_)
      ·exact row4 HS.out.1
      clear hK K
      try simp only [Act.put, setIfInBounds_toArray, set_cons_zero, set_cons_succ, getElem_toArray, getElem_cons_zero, getElem_cons_succ]
      refine wpAnyH_ready (rs := [9]) (by kernel_rfl) (by simp) (AllReadyH.cons rfl (fun K hK => ?_) AllReadyH.nil)
      try simp only [Act.put, setIfInBounds_toArray, set_cons_zero, set_cons_succ, getElem_toArray, getElem_cons_zero, getElem_cons_succ]
      rw [if_pos (by rfl)]
      go_simp
      refine hK.out _ _ ?_ (fun hHeld => ?_)
      ·exact row4 HS.out.2
      clear hK K
      try simp only [Act.put, setIfInBounds_toArray, set_cons_zero, set_cons_succ, getElem_toArray, getElem_cons_zero, getElem_cons_succ]
      refine wpAnyH_done (by kernel_rfl) ?_ _
      clear e0 e1 e2 e3 e4 e5 e6 e7 f0 f1 HS
      go_wp2_with fail
      go_meet
      exact F.out
     ·skip
      try simp only [Act.put, setIfInBounds_toArray, set_cons_zero, set_cons_succ, getElem_toArray, getElem_cons_zero, getElem_cons_succ]
      rw [if_pos (by rfl)]
      go_simp
      obtain ⟨v15, hw⟩ : ∃ W, W = v12.alloc (.cells #[.int .i64 0, .int .i64 0] 135) := ⟨_, rfl⟩
      rw [← hw]
      have r6 : Row v15 v12.heap.size 135 #[.int .i64 0, .int .i64 0] := by rw [hw]; exact Row.new _ _ _
      have bb : Below v12.heap.size v12 v15 := by rw [hw]; exact (Below.refl _ _).alloc (Nat.le_refl _) _
      clear hw
      replace r7 := r7.next bb
      have y6 := r6.lt
      replace bs := next_trans bs bb
      have zv15 := bb.size
      clear bb
      refine hK.out _ _ ?_ (fun hHeld => ?_)
      ·exact row4 (rV.next bs)
      clear hK K
      try simp only [Act.put, setIfInBounds_toArray, set_cons_zero, set_cons_succ, getElem_toArray, getElem_cons_zero, getElem_cons_succ]
      refine wpAnyH_ready (rs := [5]) (by kernel_rfl) (by simp) (AllReadyH.cons rfl (fun K hK => ?_) AllReadyH.nil)
      try simp only [Act.put, setIfInBounds_toArray, set_cons_zero, set_cons_succ, getElem_toArray, getElem_cons_zero, getElem_cons_succ]
      rw [if_pos (by rfl)]
      go_simp
      refine (LS.out _ (next_trans bw bs)).mono ?_
      rintro e v16 ⟨rfl, bb⟩
      replace r7 := r7.next bb
      replace r6 := r6.next bb
      replace bs := next_trans bs bb
      have zv16 := bb.size
      clear bb
      refine hK.out _ _ ?_ (fun hHeld => ?_)
      ·exact row4 (rV.next bs)
      clear hK K
      try simp only [Act.put, setIfInBounds_toArray, set_cons_zero, set_cons_succ, getElem_toArray, getElem_cons_zero, getElem_cons_succ]
      have zbs := bs.size
      obtain ⟨⟨e0, e1, e2, e3, e4, e5, e6, e7⟩, f0, f1⟩ := two_g r6 r7 (by omega) (.int .i64 wa) (.int .i64 ga) (.int .i64 wb) (.int .i64 gb)
      have rS := rV.next bs
      have hsp : w.heap.size ≠ v12.heap.size := by omega
      have hsq : w.heap.size ≠ v1.heap.size := by omega
      have F := hid (⟨_, _, rfl, rfl, gg_put rS r6 r7 (by omega) (by omega) (by omega) (next_trans bw bs) wa ga wb gb⟩ : ∃ p1 p2, Value.pointer (some ⟨v12.heap.size, 0, none⟩) = .pointer (some ⟨p1, 0, none⟩) ∧ Value.pointer (some ⟨v1.heap.size, 0, none⟩) = .pointer (some ⟨p2, 0, none⟩) ∧ GG w #[.slice A n ac, .slice R rn rc, .int .i64 v, .slice Y yn yc] p1 p2 wa ga wb gb _)
      have rS1 := (Row.far (Row.far rS (p := ⟨v12.heap.size, 0, none⟩) hsp (.int .i64 wa)) (p := ⟨v12.heap.size, 1, none⟩) hsp (.int .i64 ga))
      have rS2 := (Row.far (Row.far rS1 (p := ⟨v1.heap.size, 0, none⟩) hsq (.int .i64 wb)) (p := ⟨v1.heap.size, 1, none⟩) hsq (.int .i64 gb))
      have HS := hid (And.intro rS1 rS2)
      clear rS rS1 rS2 r6 r7 bs
      refine wpAnyH_ready (rs := [8]) (by kernel_rfl) (by simp) (AllReadyH.cons rfl (fun K hK => ?_) AllReadyH.nil)
      try simp only [Act.put, setIfInBounds_toArray, set_cons_zero, set_cons_succ, getElem_toArray, getElem_cons_zero, getElem_cons_succ]
      rw [if_pos (by rfl)]
      go_simp
      refine hK.out _ _ ?_ (fun hHeld => ?_)
      ·exact row4 HS.out.1
      clear hK K
      try simp only [Act.put, setIfInBounds_toArray, set_cons_zero, set_cons_succ, getElem_toArray, getElem_cons_zero, getElem_cons_succ]
      refine wpAnyH_ready (rs := [9]) (by kernel_rfl) (by simp) (AllReadyH.cons rfl (fun K hK => ?_) AllReadyH.nil)
      try simp only [Act.put, setIfInBounds_toArray, set_cons_zero, set_cons_succ, getElem_toArray, getElem_cons_zero, getElem_cons_succ]
      rw [if_pos (by rfl)]
      go_simp
      refine hK.out _ _ ?_ (fun hHeld => ?_)
      ·exact row4 HS.out.2
      clear hK K
      try simp only [Act.put, setIfInBounds_toArray, set_cons_zero, set_cons_succ, getElem_toArray, getElem_cons_zero, getElem_cons_succ]
      refine wpAnyH_done (by kernel_rfl) ?_ _
      clear e0 e1 e2 e3 e4 e5 e6 e7 f0 f1 HS
      go_wp2_with fail
      go_meet
      exact F.out
   ·skip
    try simp only [Act.put, setIfInBounds_toArray, set_cons_zero, set_cons_succ, getElem_toArray, getElem_cons_zero, getElem_cons_succ]
    rw [if_pos (by rfl)]
    go_simp
    obtain ⟨v17, hw⟩ : ∃ W, W = D.alloc (.cells #[.int .i64 0, .int .i64 0] 135) := ⟨_, rfl⟩
    rw [← hw]
    have r6 : Row v17 D.heap.size 135 #[.int .i64 0, .int .i64 0] := by rw [hw]; exact Row.new _ _ _
    have bb : Below D.heap.size D v17 := by rw [hw]; exact (Below.refl _ _).alloc (Nat.le_refl _) _
    clear hw
    have y6 := r6.lt
    replace bs := next_trans bs bb
    have zv17 := bb.size
    clear bb
    refine hK.out _ _ ?_ (fun hHeld => ?_)
    ·exact row4 (rV.next bs)
    clear hK K
    try simp only [Act.put, setIfInBounds_toArray, set_cons_zero, set_cons_succ, getElem_toArray, getElem_cons_zero, getElem_cons_succ]
    refine wpAnyH_ready (rs := [2, 7]) (by kernel_rfl) (by simp) (AllReadyH.cons rfl (fun K hK => ?_) (AllReadyH.cons rfl (fun K hK => ?_) AllReadyH.nil))
    ·skip
     try simp only [Act.put, setIfInBounds_toArray, set_cons_zero, set_cons_succ, getElem_toArray, getElem_cons_zero, getElem_cons_succ]
     rw [if_pos (by rfl)]
     go_simp
     refine (LT.out _ (next_trans bw bs)).mono ?_
     rintro e v18 ⟨rfl, bb⟩
     replace r6 := r6.next bb
     replace bs := next_trans bs bb
     have zv18 := bb.size
     clear bb
     refine hK.out _ _ ?_ (fun hHeld => ?_)
     ·exact row4 (rV.next bs)
     clear hK K
     try simp only [Act.put, setIfInBounds_toArray, set_cons_zero, set_cons_succ, getElem_toArray, getElem_cons_zero, getElem_cons_succ]
     refine wpAnyH_ready (rs := [5, 7]) (by kernel_rfl) (by simp) (AllReadyH.cons rfl (fun K hK => ?_) (AllReadyH.cons rfl (fun K hK => ?_) AllReadyH.nil))
     ·skip
      try simp only [Act.put, setIfInBounds_toArray, set_cons_zero, set_cons_succ, getElem_toArray, getElem_cons_zero, getElem_cons_succ]
      rw [if_pos (by rfl)]
      go_simp
      refine (LS.out _ (next_trans bw bs)).mono ?_
      rintro e v19 ⟨rfl, bb⟩
      replace r6 := r6.next bb
      replace bs := next_trans bs bb
      have zv19 := bb.size
      clear bb
      refine hK.out _ _ ?_ (fun hHeld => ?_)
      ·exact row4 (rV.next bs)
      clear hK K
      try simp only [Act.put, setIfInBounds_toArray, set_cons_zero, set_cons_succ, getElem_toArray, getElem_cons_zero, getElem_cons_succ]
      refine wpAnyH_ready (rs := [7]) (by kernel_rfl) (by simp) (AllReadyH.cons rfl (fun K hK => ?_) AllReadyH.nil)
      try simp only [Act.put, setIfInBounds_toArray, set_cons_zero, set_cons_succ, getElem_toArray, getElem_cons_zero, getElem_cons_succ]
      rw [if_pos (by rfl)]
      go_simp
      obtain ⟨v20, hw⟩ : ∃ W, W = v19.alloc (.cells #[.int .i64 0, .int .i64 0] 135) := ⟨_, rfl⟩
      rw [← hw]
      have r7 : Row v20 v19.heap.size 135 #[.int .i64 0, .int .i64 0] := by rw [hw]; exact Row.new _ _ _
      have bb : Below v19.heap.size v19 v20 := by rw [hw]; exact (Below.refl _ _).alloc (Nat.le_refl _) _
      clear hw
      replace r6 := r6.next bb
      have y7 := r7.lt
      replace bs := next_trans bs bb
      have zv20 := bb.size
      clear bb
      refine hK.out _ _ ?_ (fun hHeld => ?_)
      ·exact row4 (rV.next bs)
      clear hK K
      try simp only [Act.put, setIfInBounds_toArray, set_cons_zero, set_cons_succ, getElem_toArray, getElem_cons_zero, getElem_cons_succ]
      have zbs := bs.size
      obtain ⟨⟨e0, e1, e2, e3, e4, e5, e6, e7⟩, f0, f1⟩ := two_g r6 r7 (by omega) (.int .i64 wa) (.int .i64 ga) (.int .i64 wb) (.int .i64 gb)
      have rS := rV.next bs
      have hsp : w.heap.size ≠ D.heap.size := by omega
      have hsq : w.heap.size ≠ v19.heap.size := by omega
      have F := hid (⟨_, _, rfl, rfl, gg_put rS r6 r7 (by omega) (by omega) (by omega) (next_trans bw bs) wa ga wb gb⟩ : ∃ p1 p2, Value.pointer (some ⟨D.heap.size, 0, none⟩) = .pointer (some ⟨p1, 0, none⟩) ∧ Value.pointer (some ⟨v19.heap.size, 0, none⟩) = .pointer (some ⟨p2, 0, none⟩) ∧ GG w #[.slice A n ac, .slice R rn rc, .int .i64 v, .slice Y yn yc] p1 p2 wa ga wb gb _)
      have rS1 := (Row.far (Row.far rS (p := ⟨D.heap.size, 0, none⟩) hsp (.int .i64 wa)) (p := ⟨D.heap.size, 1, none⟩) hsp (.int .i64 ga))
      have rS2 := (Row.far (Row.far rS1 (p := ⟨v19.heap.size, 0, none⟩) hsq (.int .i64 wb)) (p := ⟨v19.heap.size, 1, none⟩) hsq (.int .i64 gb))
      have HS := hid (And.intro rS1 rS2)
      clear rS rS1 rS2 r6 r7 bs
      refine wpAnyH_ready (rs := [8]) (by kernel_rfl) (by simp) (AllReadyH.cons rfl (fun K hK => ?_) AllReadyH.nil)
      try simp only [Act.put, setIfInBounds_toArray, set_cons_zero, set_cons_succ, getElem_toArray, getElem_cons_zero, getElem_cons_succ]
      rw [if_pos (by rfl)]
      go_simp
      refine hK.out _ _ ?_ (fun hHeld => ?_)
      ·exact row4 HS.out.1
      clear hK K
      try simp only [Act.put, setIfInBounds_toArray, set_cons_zero, set_cons_succ, getElem_toArray, getElem_cons_zero, getElem_cons_succ]
      refine wpAnyH_ready (rs := [9]) (by kernel_rfl) (by simp) (AllReadyH.cons rfl (fun K hK => ?_) AllReadyH.nil)
      try simp only [Act.put, setIfInBounds_toArray, set_cons_zero, set_cons_succ, getElem_toArray, getElem_cons_zero, getElem_cons_succ]
      rw [if_pos (by rfl)]
      go_simp
      refine hK.out _ _ ?_ (fun hHeld => ?_)
      ·exact row4 HS.out.2
      clear hK K
      try simp only [Act.put, setIfInBounds_toArray, set_cons_zero, set_cons_succ, getElem_toArray, getElem_cons_zero, getElem_cons_succ]
      refine wpAnyH_done (by kernel_rfl) ?_ _
      clear e0 e1 e2 e3 e4 e5 e6 e7 f0 f1 HS
      go_wp2_with fail
      go_meet
      exact F.out
     ·skip
      try simp only [Act.put, setIfInBounds_toArray, set_cons_zero, set_cons_succ, getElem_toArray, getElem_cons_zero, getElem_cons_succ]
      rw [if_pos (by rfl)]
      go_simp
      obtain ⟨v21, hw⟩ : ∃ W, W = v18.alloc (.cells #[.int .i64 0, .int .i64 0] 135) := ⟨_, rfl⟩
      rw [← hw]
      have r7 : Row v21 v18.heap.size 135 #[.int .i64 0, .int .i64 0] := by rw [hw]; exact Row.new _ _ _
      have bb : Below v18.heap.size v18 v21 := by rw [hw]; exact (Below.refl _ _).alloc (Nat.le_refl _) _
      clear hw
      replace r6 := r6.next bb
      have y7 := r7.lt
      replace bs := next_trans bs bb
      have zv21 := bb.size
      clear bb
      refine hK.out _ _ ?_ (fun hHeld => ?_)
      ·exact row4 (rV.next bs)
      clear hK K
      try simp only [Act.put, setIfInBounds_toArray, set_cons_zero, set_cons_succ, getElem_toArray, getElem_cons_zero, getElem_cons_succ]
      refine wpAnyH_ready (rs := [5]) (by kernel_rfl) (by simp) (AllReadyH.cons rfl (fun K hK => ?_) AllReadyH.nil)
      try simp only [Act.put, setIfInBounds_toArray, set_cons_zero, set_cons_succ, getElem_toArray, getElem_cons_zero, getElem_cons_succ]
      rw [if_pos (by rfl)]
      go_simp
      refine (LS.out _ (next_trans bw bs)).mono ?_
      rintro e v22 ⟨rfl, bb⟩
      replace r6 := r6.next bb
      replace r7 := r7.next bb
      replace bs := next_trans bs bb
      have zv22 := bb.size
      clear bb
      refine hK.out _ _ ?_ (fun hHeld => ?_)
      ·exact row4 (rV.next bs)
      clear hK K
      try simp only [Act.put, setIfInBounds_toArray, set_cons_zero, set_cons_succ, getElem_toArray, getElem_cons_zero, getElem_cons_succ]
      have zbs := bs.size
      obtain ⟨⟨e0, e1, e2, e3, e4, e5, e6, e7⟩, f0, f1⟩ := two_g r6 r7 (by omega) (.int .i64 wa) (.int .i64 ga) (.int .i64 wb) (.int .i64 gb)
      have rS := rV.next bs
      have hsp : w.heap.size ≠ D.heap.size := by omega
      have hsq : w.heap.size ≠ v18.heap.size := by omega
      have F := hid (⟨_, _, rfl, rfl, gg_put rS r6 r7 (by omega) (by omega) (by omega) (next_trans bw bs) wa ga wb gb⟩ : ∃ p1 p2, Value.pointer (some ⟨D.heap.size, 0, none⟩) = .pointer (some ⟨p1, 0, none⟩) ∧ Value.pointer (some ⟨v18.heap.size, 0, none⟩) = .pointer (some ⟨p2, 0, none⟩) ∧ GG w #[.slice A n ac, .slice R rn rc, .int .i64 v, .slice Y yn yc] p1 p2 wa ga wb gb _)
      have rS1 := (Row.far (Row.far rS (p := ⟨D.heap.size, 0, none⟩) hsp (.int .i64 wa)) (p := ⟨D.heap.size, 1, none⟩) hsp (.int .i64 ga))
      have rS2 := (Row.far (Row.far rS1 (p := ⟨v18.heap.size, 0, none⟩) hsq (.int .i64 wb)) (p := ⟨v18.heap.size, 1, none⟩) hsq (.int .i64 gb))
      have HS := hid (And.intro rS1 rS2)
      clear rS rS1 rS2 r6 r7 bs
      refine wpAnyH_ready (rs := [8]) (by kernel_rfl) (by simp) (AllReadyH.cons rfl (fun K hK => ?_) AllReadyH.nil)
      try simp only [Act.put, setIfInBounds_toArray, set_cons_zero, set_cons_succ, getElem_toArray, getElem_cons_zero, getElem_cons_succ]
      rw [if_pos (by rfl)]
      go_simp
      refine hK.out _ _ ?_ (fun hHeld => ?_)
      ·exact row4 HS.out.1
      clear hK K
      try simp only [Act.put, setIfInBounds_toArray, set_cons_zero, set_cons_succ, getElem_toArray, getElem_cons_zero, getElem_cons_succ]
      refine wpAnyH_ready (rs := [9]) (by kernel_rfl) (by simp) (AllReadyH.cons rfl (fun K hK => ?_) AllReadyH.nil)
      try simp only [Act.put, setIfInBounds_toArray, set_cons_zero, set_cons_succ, getElem_toArray, getElem_cons_zero, getElem_cons_succ]
      rw [if_pos (by rfl)]
      go_simp
      refine hK.out _ _ ?_ (fun hHeld => ?_)
      ·exact row4 HS.out.2
      clear hK K
      try simp only [Act.put, setIfInBounds_toArray, set_cons_zero, set_cons_succ, getElem_toArray, getElem_cons_zero, getElem_cons_succ]
      refine wpAnyH_done (by kernel_rfl) ?_ _
      clear e0 e1 e2 e3 e4 e5 e6 e7 f0 f1 HS
      go_wp2_with fail
      go_meet
      exact F.out
    ·skip
     try simp only [Act.put, setIfInBounds_toArray, set_cons_zero, set_cons_succ, getElem_toArray, getElem_cons_zero, getElem_cons_succ]
     rw [if_pos (by rfl)]
     go_simp
     obtain ⟨v23, hw⟩ : ∃ W, W = v17.alloc (.cells #[.int .i64 0, .int .i64 0] 135) := ⟨_, rfl⟩
     rw [← hw]
     have r7 : Row v23 v17.heap.size 135 #[.int .i64 0, .int .i64 0] := by rw [hw]; exact Row.new _ _ _
     have bb : Below v17.heap.size v17 v23 := by rw [hw]; exact (Below.refl _ _).alloc (Nat.le_refl _) _
     clear hw
     replace r6 := r6.next bb
     have y7 := r7.lt
     replace bs := next_trans bs bb
     have zv23 := bb.size
     clear bb
     refine hK.out _ _ ?_ (fun hHeld => ?_)
     ·exact row4 (rV.next bs)
     clear hK K
     try simp only [Act.put, setIfInBounds_toArray, set_cons_zero, set_cons_succ, getElem_toArray, getElem_cons_zero, getElem_cons_succ]
     refine wpAnyH_ready (rs := [2]) (by kernel_rfl) (by simp) (AllReadyH.cons rfl (fun K hK => ?_) AllReadyH.nil)
     try simp only [Act.put, setIfInBounds_toArray, set_cons_zero, set_cons_succ, getElem_toArray, getElem_cons_zero, getElem_cons_succ]
     rw [if_pos (by rfl)]
     go_simp
     refine (LT.out _ (next_trans bw bs)).mono ?_
     rintro e v24 ⟨rfl, bb⟩
     replace r6 := r6.next bb
     replace r7 := r7.next bb
     replace bs := next_trans bs bb
     have zv24 := bb.size
     clear bb
     refine hK.out _ _ ?_ (fun hHeld => ?_)
     ·exact row4 (rV.next bs)
     clear hK K
     try simp only [Act.put, setIfInBounds_toArray, set_cons_zero, set_cons_succ, getElem_toArray, getElem_cons_zero, getElem_cons_succ]
     refine wpAnyH_ready (rs := [5]) (by kernel_rfl) (by simp) (AllReadyH.cons rfl (fun K hK => ?_) AllReadyH.nil)
     try simp only [Act.put, setIfInBounds_toArray, set_cons_zero, set_cons_succ, getElem_toArray, getElem_cons_zero, getElem_cons_succ]
     rw [if_pos (by rfl)]
     go_simp
     refine (LS.out _ (next_trans bw bs)).mono ?_
     rintro e v25 ⟨rfl, bb⟩
     replace r6 := r6.next bb
     replace r7 := r7.next bb
     replace bs := next_trans bs bb
     have zv25 := bb.size
     clear bb
     refine hK.out _ _ ?_ (fun hHeld => ?_)
     ·exact row4 (rV.next bs)
     clear hK K
     try simp only [Act.put, setIfInBounds_toArray, set_cons_zero, set_cons_succ, getElem_toArray, getElem_cons_zero, getElem_cons_succ]
     have zbs := bs.size
     obtain ⟨⟨e0, e1, e2, e3, e4, e5, e6, e7⟩, f0, f1⟩ := two_g r6 r7 (by omega) (.int .i64 wa) (.int .i64 ga) (.int .i64 wb) (.int .i64 gb)
     have rS := rV.next bs
     have hsp : w.heap.size ≠ D.heap.size := by omega
     have hsq : w.heap.size ≠ v17.heap.size := by omega
     have F := hid (⟨_, _, rfl, rfl, gg_put rS r6 r7 (by omega) (by omega) (by omega) (next_trans bw bs) wa ga wb gb⟩ : ∃ p1 p2, Value.pointer (some ⟨D.heap.size, 0, none⟩) = .pointer (some ⟨p1, 0, none⟩) ∧ Value.pointer (some ⟨v17.heap.size, 0, none⟩) = .pointer (some ⟨p2, 0, none⟩) ∧ GG w #[.slice A n ac, .slice R rn rc, .int .i64 v, .slice Y yn yc] p1 p2 wa ga wb gb _)
     have rS1 := (Row.far (Row.far rS (p := ⟨D.heap.size, 0, none⟩) hsp (.int .i64 wa)) (p := ⟨D.heap.size, 1, none⟩) hsp (.int .i64 ga))
     have rS2 := (Row.far (Row.far rS1 (p := ⟨v17.heap.size, 0, none⟩) hsq (.int .i64 wb)) (p := ⟨v17.heap.size, 1, none⟩) hsq (.int .i64 gb))
     have HS := hid (And.intro rS1 rS2)
     clear rS rS1 rS2 r6 r7 bs
     refine wpAnyH_ready (rs := [8]) (by kernel_rfl) (by simp) (AllReadyH.cons rfl (fun K hK => ?_) AllReadyH.nil)
     try simp only [Act.put, setIfInBounds_toArray, set_cons_zero, set_cons_succ, getElem_toArray, getElem_cons_zero, getElem_cons_succ]
     rw [if_pos (by rfl)]
     go_simp
     refine hK.out _ _ ?_ (fun hHeld => ?_)
     ·exact row4 HS.out.1
     clear hK K
     try simp only [Act.put, setIfInBounds_toArray, set_cons_zero, set_cons_succ, getElem_toArray, getElem_cons_zero, getElem_cons_succ]
     refine wpAnyH_ready (rs := [9]) (by kernel_rfl) (by simp) (AllReadyH.cons rfl (fun K hK => ?_) AllReadyH.nil)
     try simp only [Act.put, setIfInBounds_toArray, set_cons_zero, set_cons_succ, getElem_toArray, getElem_cons_zero, getElem_cons_succ]
     rw [if_pos (by rfl)]
     go_simp
     refine hK.out _ _ ?_ (fun hHeld => ?_)
     ·exact row4 HS.out.2
     clear hK K
     try simp only [Act.put, setIfInBounds_toArray, set_cons_zero, set_cons_succ, getElem_toArray, getElem_cons_zero, getElem_cons_succ]
     refine wpAnyH_done (by kernel_rfl) ?_ _
     clear e0 e1 e2 e3 e4 e5 e6 e7 f0 f1 HS
     go_wp2_with fail
     go_meet
     exact F.out
   ·skip
    try simp only [Act.put, setIfInBounds_toArray, set_cons_zero, set_cons_succ, getElem_toArray, getElem_cons_zero, getElem_cons_succ]
    rw [if_pos (by rfl)]
    go_simp
    obtain ⟨v26, hw⟩ : ∃ W, W = D.alloc (.cells #[.int .i64 0, .int .i64 0] 135) := ⟨_, rfl⟩
    rw [← hw]
    have r7 : Row v26 D.heap.size 135 #[.int .i64 0, .int .i64 0] := by rw [hw]; exact Row.new _ _ _
    have bb : Below D.heap.size D v26 := by rw [hw]; exact (Below.refl _ _).alloc (Nat.le_refl _) _
    clear hw
    have y7 := r7.lt
    replace bs := next_trans bs bb
    have zv26 := bb.size
    clear bb
    refine hK.out _ _ ?_ (fun hHeld => ?_)
    ·exact row4 (rV.next bs)
    clear hK K
    try simp only [Act.put, setIfInBounds_toArray, set_cons_zero, set_cons_succ, getElem_toArray, getElem_cons_zero, getElem_cons_succ]
    refine wpAnyH_ready (rs := [2, 6]) (by kernel_rfl) (by simp) (AllReadyH.cons rfl (fun K hK => ?_) (AllReadyH.cons rfl (fun K hK => ?_) AllReadyH.nil))
    ·skip
     try simp only [Act.put, setIfInBounds_toArray, set_cons_zero, set_cons_succ, getElem_toArray, getElem_cons_zero, getElem_cons_succ]
     rw [if_pos (by rfl)]
     go_simp
     refine (LT.out _ (next_trans bw bs)).mono ?_
     rintro e v27 ⟨rfl, bb⟩
     replace r7 := r7.next bb
     replace bs := next_trans bs bb
     have zv27 := bb.size
     clear bb
     refine hK.out _ _ ?_ (fun hHeld => ?_)
     ·exact row4 (rV.next bs)
     clear hK K
     try simp only [Act.put, setIfInBounds_toArray, set_cons_zero, set_cons_succ, getElem_toArray, getElem_cons_zero, getElem_cons_succ]
     refine wpAnyH_ready (rs := [5, 6]) (by kernel_rfl) (by simp) (AllReadyH.cons rfl (fun K hK => ?_) (AllReadyH.cons rfl (fun K hK => ?_) AllReadyH.nil))
     ·skip
      try simp only [Act.put, setIfInBounds_toArray, set_cons_zero, set_cons_succ, getElem_toArray, getElem_cons_zero, getElem_cons_succ]
      rw [if_pos (by rfl)]
      go_simp
      refine (LS.out _ (next_trans bw bs)).mono ?_
      rintro e v28 ⟨rfl, bb⟩
      replace r7 := r7.next bb
      replace bs := next_trans bs bb
      have zv28 := bb.size
      clear bb
      refine hK.out _ _ ?_ (fun hHeld => ?_)
      ·exact row4 (rV.next bs)
      clear hK K
      try simp only [Act.put, setIfInBounds_toArray, set_cons_zero, set_cons_succ, getElem_toArray, getElem_cons_zero, getElem_cons_succ]
      refine wpAnyH_ready (rs := [6]) (by kernel_rfl) (by simp) (AllReadyH.cons rfl (fun K hK => ?_) AllReadyH.nil)
      try simp only [Act.put, setIfInBounds_toArray, set_cons_zero, set_cons_succ, getElem_toArray, getElem_cons_zero, getElem_cons_succ]
      rw [if_pos (by rfl)]
      go_simp
      obtain ⟨v29, hw⟩ : ∃ W, W = v28.alloc (.cells #[.int .i64 0, .int .i64 0] 135) := ⟨_, rfl⟩
      rw [← hw]
      have r6 : Row v29 v28.heap.size 135 #[.int .i64 0, .int .i64 0] := by rw [hw]; exact Row.new _ _ _
      have bb : Below v28.heap.size v28 v29 := by rw [hw]; exact (Below.refl _ _).alloc (Nat.le_refl _) _
      clear hw
      replace r7 := r7.next bb
      have y6 := r6.lt
      replace bs := next_trans bs bb
      have zv29 := bb.size
      clear bb
      refine hK.out _ _ ?_ (fun hHeld => ?_)
      ·exact row4 (rV.next bs)
      clear hK K
      try simp only [Act.put, setIfInBounds_toArray, set_cons_zero, set_cons_succ, getElem_toArray, getElem_cons_zero, getElem_cons_succ]
      have zbs := bs.size
      obtain ⟨⟨e0, e1, e2, e3, e4, e5, e6, e7⟩, f0, f1⟩ := two_g r6 r7 (by omega) (.int .i64 wa) (.int .i64 ga) (.int .i64 wb) (.int .i64 gb)
      have rS := rV.next bs
      have hsp : w.heap.size ≠ v28.heap.size := by omega
      have hsq : w.heap.size ≠ D.heap.size := by omega
      have F := hid (⟨_, _, rfl, rfl, gg_put rS r6 r7 (by omega) (by omega) (by omega) (next_trans bw bs) wa ga wb gb⟩ : ∃ p1 p2, Value.pointer (some ⟨v28.heap.size, 0, none⟩) = .pointer (some ⟨p1, 0, none⟩) ∧ Value.pointer (some ⟨D.heap.size, 0, none⟩) = .pointer (some ⟨p2, 0, none⟩) ∧ GG w #[.slice A n ac, .slice R rn rc, .int .i64 v, .slice Y yn yc] p1 p2 wa ga wb gb _)
      have rS1 := (Row.far (Row.far rS (p := ⟨v28.heap.size, 0, none⟩) hsp (.int .i64 wa)) (p := ⟨v28.heap.size, 1, none⟩) hsp (.int .i64 ga))
      have rS2 := (Row.far (Row.far rS1 (p := ⟨D.heap.size, 0, none⟩) hsq (.int .i64 wb)) (p := ⟨D.heap.size, 1, none⟩) hsq (.int .i64 gb))
      have HS := hid (And.intro rS1 rS2)
      clear rS rS1 rS2 r6 r7 bs
      refine wpAnyH_ready (rs := [8]) (by kernel_rfl) (by simp) (AllReadyH.cons rfl (fun K hK => ?_) AllReadyH.nil)
      try simp only [Act.put, setIfInBounds_toArray, set_cons_zero, set_cons_succ, getElem_toArray, getElem_cons_zero, getElem_cons_succ]
      rw [if_pos (by rfl)]
      go_simp
      refine hK.out _ _ ?_ (fun hHeld => ?_)
      ·exact row4 HS.out.1
      clear hK K
      try simp only [Act.put, setIfInBounds_toArray, set_cons_zero, set_cons_succ, getElem_toArray, getElem_cons_zero, getElem_cons_succ]
      refine wpAnyH_ready (rs := [9]) (by kernel_rfl) (by simp) (AllReadyH.cons rfl (fun K hK => ?_) AllReadyH.nil)
      try simp only [Act.put, setIfInBounds_toArray, set_cons_zero, set_cons_succ, getElem_toArray, getElem_cons_zero, getElem_cons_succ]
      rw [if_pos (by rfl)]
      go_simp
      refine hK.out _ _ ?_ (fun hHeld => ?_)
      ·exact row4 HS.out.2
      clear hK K
      try simp only [Act.put, setIfInBounds_toArray, set_cons_zero, set_cons_succ, getElem_toArray, getElem_cons_zero, getElem_cons_succ]
      refine wpAnyH_done (by kernel_rfl) ?_ _
      clear e0 e1 e2 e3 e4 e5 e6 e7 f0 f1 HS
      go_wp2_with fail
      go_meet
      exact F.out
     ·skip
      try simp only [Act.put, setIfInBounds_toArray, set_cons_zero, set_cons_succ, getElem_toArray, getElem_cons_zero, getElem_cons_succ]
      rw [if_pos (by rfl)]
      go_simp
      obtain ⟨v30, hw⟩ : ∃ W, W = v27.alloc (.cells #[.int .i64 0, .int .i64 0] 135) := ⟨_, rfl⟩
      rw [← hw]
      have r6 : Row v30 v27.heap.size 135 #[.int .i64 0, .int .i64 0] := by rw [hw]; exact Row.new _ _ _
      have bb : Below v27.heap.size v27 v30 := by rw [hw]; exact (Below.refl _ _).alloc (Nat.le_refl _) _
      clear hw
      replace r7 := r7.next bb
      have y6 := r6.lt
      replace bs := next_trans bs bb
      have zv30 := bb.size
      clear bb
      refine hK.out _ _ ?_ (fun hHeld => ?_)
      ·exact row4 (rV.next bs)
      clear hK K
      try simp only [Act.put, setIfInBounds_toArray, set_cons_zero, set_cons_succ, getElem_toArray, getElem_cons_zero, getElem_cons_succ]
      refine wpAnyH_ready (rs := [5]) (by kernel_rfl) (by simp) (AllReadyH.cons rfl (fun K hK => ?_) AllReadyH.nil)
      try simp only [Act.put, setIfInBounds_toArray, set_cons_zero, set_cons_succ, getElem_toArray, getElem_cons_zero, getElem_cons_succ]
      rw [if_pos (by rfl)]
      go_simp
      refine (LS.out _ (next_trans bw bs)).mono ?_
      rintro e v31 ⟨rfl, bb⟩
      replace r7 := r7.next bb
      replace r6 := r6.next bb
      replace bs := next_trans bs bb
      have zv31 := bb.size
      clear bb
      refine hK.out _ _ ?_ (fun hHeld => ?_)
      ·exact row4 (rV.next bs)
      clear hK K
      try simp only [Act.put, setIfInBounds_toArray, set_cons_zero, set_cons_succ, getElem_toArray, getElem_cons_zero, getElem_cons_succ]
      have zbs := bs.size
      obtain ⟨⟨e0, e1, e2, e3, e4, e5, e6, e7⟩, f0, f1⟩ := two_g r6 r7 (by omega) (.int .i64 wa) (.int .i64 ga) (.int .i64 wb) (.int .i64 gb)
      have rS := rV.next bs
      have hsp : w.heap.size ≠ v27.heap.size := by omega
      have hsq : w.heap.size ≠ D.heap.size := by omega
      have F := hid (⟨_, _, rfl, rfl, gg_put rS r6 r7 (by omega) (by omega) (by omega) (next_trans bw bs) wa ga wb gb⟩ : ∃ p1 p2, Value.pointer (some ⟨v27.heap.size, 0, none⟩) = .pointer (some ⟨p1, 0, none⟩) ∧ Value.pointer (some ⟨D.heap.size, 0, none⟩) = .pointer (some ⟨p2, 0, none⟩) ∧ GG w #[.slice A n ac, .slice R rn rc, .int .i64 v, .slice Y yn yc] p1 p2 wa ga wb gb _)
      have rS1 := (Row.far (Row.far rS (p := ⟨v27.heap.size, 0, none⟩) hsp (.int .i64 wa)) (p := ⟨v27.heap.size, 1, none⟩) hsp (.int .i64 ga))
      have rS2 := (Row.far (Row.far rS1 (p := ⟨D.heap.size, 0, none⟩) hsq (.int .i64 wb)) (p := ⟨D.heap.size, 1, none⟩) hsq (.int .i64 gb))
      have HS := hid (And.intro rS1 rS2)
      clear rS rS1 rS2 r6 r7 bs
      refine wpAnyH_ready (rs := [8]) (by kernel_rfl) (by simp) (AllReadyH.cons rfl (fun K hK => ?_) AllReadyH.nil)
      try simp only [Act.put, setIfInBounds_toArray, set_cons_zero, set_cons_succ, getElem_toArray, getElem_cons_zero, getElem_cons_succ]
      rw [if_pos (by rfl)]
      go_simp
      refine hK.out _ _ ?_ (fun hHeld => ?_)
      ·exact row4 HS.out.1
      clear hK K
      try simp only [Act.put, setIfInBounds_toArray, set_cons_zero, set_cons_succ, getElem_toArray, getElem_cons_zero, getElem_cons_succ]
      refine wpAnyH_ready (rs := [9]) (by kernel_rfl) (by simp) (AllReadyH.cons rfl (fun K hK => ?_) AllReadyH.nil)
      try simp only [Act.put, setIfInBounds_toArray, set_cons_zero, set_cons_succ, getElem_toArray, getElem_cons_zero, getElem_cons_succ]
      rw [if_pos (by rfl)]
      go_simp
      refine hK.out _ _ ?_ (fun hHeld => ?_)
      ·exact row4 HS.out.2
      clear hK K
      try simp only [Act.put, setIfInBounds_toArray, set_cons_zero, set_cons_succ, getElem_toArray, getElem_cons_zero, getElem_cons_succ]
      refine wpAnyH_done (by kernel_rfl) ?_ _
      clear e0 e1 e2 e3 e4 e5 e6 e7 f0 f1 HS
      go_wp2_with fail
      go_meet
      exact F.out
    ·skip
     try simp only [Act.put, setIfInBounds_toArray, set_cons_zero, set_cons_succ, getElem_toArray, getElem_cons_zero, getElem_cons_succ]
     rw [if_pos (by rfl)]
     go_simp
     obtain ⟨v32, hw⟩ : ∃ W, W = v26.alloc (.cells #[.int .i64 0, .int .i64 0] 135) := ⟨_, rfl⟩
     rw [← hw]
     have r6 : Row v32 v26.heap.size 135 #[.int .i64 0, .int .i64 0] := by rw [hw]; exact Row.new _ _ _
     have bb : Below v26.heap.size v26 v32 := by rw [hw]; exact (Below.refl _ _).alloc (Nat.le_refl _) _
     clear hw
     replace r7 := r7.next bb
     have y6 := r6.lt
     replace bs := next_trans bs bb
     have zv32 := bb.size
     clear bb
     refine hK.out _ _ ?_ (fun hHeld => ?_)
     ·exact row4 (rV.next bs)
     clear hK K
     try simp only [Act.put, setIfInBounds_toArray, set_cons_zero, set_cons_succ, getElem_toArray, getElem_cons_zero, getElem_cons_succ]
     refine wpAnyH_ready (rs := [2]) (by kernel_rfl) (by simp) (AllReadyH.cons rfl (fun K hK => ?_) AllReadyH.nil)
     try simp only [Act.put, setIfInBounds_toArray, set_cons_zero, set_cons_succ, getElem_toArray, getElem_cons_zero, getElem_cons_succ]
     rw [if_pos (by rfl)]
     go_simp
     refine (LT.out _ (next_trans bw bs)).mono ?_
     rintro e v33 ⟨rfl, bb⟩
     replace r7 := r7.next bb
     replace r6 := r6.next bb
     replace bs := next_trans bs bb
     have zv33 := bb.size
     clear bb
     refine hK.out _ _ ?_ (fun hHeld => ?_)
     ·exact row4 (rV.next bs)
     clear hK K
     try simp only [Act.put, setIfInBounds_toArray, set_cons_zero, set_cons_succ, getElem_toArray, getElem_cons_zero, getElem_cons_succ]
     refine wpAnyH_ready (rs := [5]) (by kernel_rfl) (by simp) (AllReadyH.cons rfl (fun K hK => ?_) AllReadyH.nil)
     try simp only [Act.put, setIfInBounds_toArray, set_cons_zero, set_cons_succ, getElem_toArray, getElem_cons_zero, getElem_cons_succ]
     rw [if_pos (by rfl)]
     go_simp
     refine (LS.out _ (next_trans bw bs)).mono ?_
     rintro e v34 ⟨rfl, bb⟩
     replace r7 := r7.next bb
     replace r6 := r6.next bb
     replace bs := next_trans bs bb
     have zv34 := bb.size
     clear bb
     refine hK.out _ _ ?_ (fun hHeld => ?_)
     ·exact row4 (rV.next bs)
     clear hK K
     try simp only [Act.put, setIfInBounds_toArray, set_cons_zero, set_cons_succ, getElem_toArray, getElem_cons_zero, getElem_cons_succ]
     have zbs := bs.size
     obtain ⟨⟨e0, e1, e2, e3, e4, e5, e6, e7⟩, f0, f1⟩ := two_g r6 r7 (by omega) (.int .i64 wa) (.int .i64 ga) (.int .i64 wb) (.int .i64 gb)
     have rS := rV.next bs
     have hsp : w.heap.size ≠ v26.heap.size := by omega
     have hsq : w.heap.size ≠ D.heap.size := by omega
     have F := hid (⟨_, _, rfl, rfl, gg_put rS r6 r7 (by omega) (by omega) (by omega) (next_trans bw bs) wa ga wb gb⟩ : ∃ p1 p2, Value.pointer (some ⟨v26.heap.size, 0, none⟩) = .pointer (some ⟨p1, 0, none⟩) ∧ Value.pointer (some ⟨D.heap.size, 0, none⟩) = .pointer (some ⟨p2, 0, none⟩) ∧ GG w #[.slice A n ac, .slice R rn rc, .int .i64 v, .slice Y yn yc] p1 p2 wa ga wb gb _)
     have rS1 := (Row.far (Row.far rS (p := ⟨v26.heap.size, 0, none⟩) hsp (.int .i64 wa)) (p := ⟨v26.heap.size, 1, none⟩) hsp (.int .i64 ga))
     have rS2 := (Row.far (Row.far rS1 (p := ⟨D.heap.size, 0, none⟩) hsq (.int .i64 wb)) (p := ⟨D.heap.size, 1, none⟩) hsq (.int .i64 gb))
     have HS := hid (And.intro rS1 rS2)
     clear rS rS1 rS2 r6 r7 bs
     refine wpAnyH_ready (rs := [8]) (by kernel_rfl) (by simp) (AllReadyH.cons rfl (fun K hK => ?_) AllReadyH.nil)
     try simp only [Act.put, setIfInBounds_toArray, set_cons_zero, set_cons_succ, getElem_toArray, getElem_cons_zero, getElem_cons_succ]
     rw [if_pos (by rfl)]
     go_simp
     refine hK.out _ _ ?_ (fun hHeld => ?_)
     ·exact row4 HS.out.1
     clear hK K
     try simp only [Act.put, setIfInBounds_toArray, set_cons_zero, set_cons_succ, getElem_toArray, getElem_cons_zero, getElem_cons_succ]
     refine wpAnyH_ready (rs := [9]) (by kernel_rfl) (by simp) (AllReadyH.cons rfl (fun K hK => ?_) AllReadyH.nil)
     try simp only [Act.put, setIfInBounds_toArray, set_cons_zero, set_cons_succ, getElem_toArray, getElem_cons_zero, getElem_cons_succ]
     rw [if_pos (by rfl)]
     go_simp
     refine hK.out _ _ ?_ (fun hHeld => ?_)
     ·exact row4 HS.out.2
     clear hK K
     try simp only [Act.put, setIfInBounds_toArray, set_cons_zero, set_cons_succ, getElem_toArray, getElem_cons_zero, getElem_cons_succ]
     refine wpAnyH_done (by kernel_rfl) ?_ _
     clear e0 e1 e2 e3 e4 e5 e6 e7 f0 f1 HS
     go_wp2_with fail
     go_meet
     exact F.out
  case rest =>
   rename World => wc
   obtain ⟨p1, p2, rfl, rfl, G⟩ := hcut
   have L3 := hid (LO.out wc G.l)
   obtain ⟨u, hu⟩ : ∃ z, oft s t = z := ⟨_, rfl⟩
   rw [hu] at L3 HK
   have Q1 := hid G
   clear G hu rA bel
   go_wp2_with fail
   refine L3.out.mono ?_
   rintro e w3 ⟨rfl, bb⟩
   have G := Q1.out.next bb
   clear bb Q1 L3
   have a0 : w3.cell? ⟨p1, 0, none⟩ = some (.int .i64 wa) := G.a.cell 0
   have a1 : w3.cell? ⟨p1, 1, none⟩ = some (.int .i64 ga) := G.a.cell 1
   have b0 : w3.cell? ⟨p2, 0, none⟩ = some (.int .i64 wb) := G.b.cell 0
   have b1 : w3.cell? ⟨p2, 1, none⟩ = some (.int .i64 gb) := G.b.cell 1
   cases u with
   | false =>
    have F := hid (show AnsI w (kwhy sg v sy rk t s) (.returned (.int .i64 0)) w3 from ⟨by rw [HK.out]; rw [if_pos (.inl rfl)], G.l⟩)
    clear G
    go_wp2
    go_ret
    exact F.out
   | true =>
    by_cases h1 : wa < wb
    ·have d1 : decide (wa < wb) = true := decide_eq_true h1
     have H1 := hid h1
     have F := hid (show AnsI w (kwhy sg v sy rk t s) (.returned (.int .i64 0)) w3 from ⟨by rw [HK.out]; rw [if_pos (.inr H1.out)], G.l⟩)
     clear G
     go_wp2
     go_ret
     exact F.out
    have d1 : decide (wa < wb) = false := decide_eq_false h1
    have N1 := hid (show ¬ (true = false ∨ wa < wb) by simp; omega)
    by_cases h2 : wb < wa
    ·have d2 : decide (wb < wa) = true := decide_eq_true h2
     have H2 := hid h2
     have F := hid (show AnsI w (kwhy sg v sy rk t s) (.returned (.int .i64 1)) w3 from ⟨by rw [HK.out]; rw [if_neg (by have := N1.out; simpa using this), if_pos H2.out], G.l⟩)
     clear G
     go_wp2
     go_ret
     exact F.out
    have hww : wb = wa := by omega
    subst hww
    have d2 : decide (wb < wb) = false := decide_eq_false (by omega)
    have HK2 := hid (show kwhy sg v sy rk t s = if gb < ga ∧ gb = -1 then 2 else if gb < ga then 3 else if ga = gb ∧ lexB (kg sg v sy rk) (ptsC sg t) (ptsC sg s) = true then 4 else 0 by rw [HK.out, if_neg (by simp), if_neg (by omega)])
    clear HK N1 h1 h2
    by_cases h3 : gb < ga
    ·have d3 : decide (gb < ga) = true := decide_eq_true h3
     by_cases h4 : gb = -1
     ·subst h4
      have d4 : ((-1 : Int) == -1) = true := by simp
      have F := hid (show AnsI w (kwhy sg v sy rk t s) (.returned (.int .i64 2)) w3 from ⟨by rw [HK2.out, if_pos ⟨h3, rfl⟩], G.l⟩)
      clear G
      go_wp2
      go_ret
      exact F.out
     ·have d4 : (gb == -1) = false := by simp [h4]
      have F := hid (show AnsI w (kwhy sg v sy rk t s) (.returned (.int .i64 3)) w3 from ⟨by rw [HK2.out, if_neg (fun h => h4 h.2), if_pos h3], G.l⟩)
      clear G
      go_wp2
      go_ret
      exact F.out
    have d3 : decide (gb < ga) = false := decide_eq_false h3
    have HK3 := hid (show kwhy sg v sy rk t s = if ga = gb ∧ lexB (kg sg v sy rk) (ptsC sg t) (ptsC sg s) = true then 4 else 0 by rw [HK2.out, if_neg (fun h => h3 h.1), if_neg h3])
    clear HK2 h3
    by_cases h5 : ga = gb
    case neg =>
     have d5 : (ga == gb) = false := by simp [h5]
     have F := hid (show AnsI w (kwhy sg v sy rk t s) (.returned (.int .i64 0)) w3 from ⟨by rw [HK3.out, if_neg (fun h => h5 h.1)], G.l⟩)
     clear G
     go_wp2
     go_ret
     exact F.out
    have HG := hid (HH.out h5)
    subst h5
    have d3' : decide (ga < ga) = false := decide_eq_false (by omega)
    have LL := hid (LA.out w3 G.l HG.out)
    obtain ⟨u, hu⟩ : ∃ z, lexB (kg sg v sy rk) (ptsC sg t) (ptsC sg s) = z := ⟨_, rfl⟩
    rw [hu] at LL HK3
    have k0 : w3.cell? ⟨w.heap.size, 0, none⟩ = some (.slice A n ac) := G.r.cell 0
    have k1 : w3.cell? ⟨w.heap.size, 1, none⟩ = some (.slice R rn rc) := G.r.cell 1
    have k2 : w3.cell? ⟨w.heap.size, 2, none⟩ = some (.int .i64 v) := G.r.cell 2
    have k3 : w3.cell? ⟨w.heap.size, 3, none⟩ = some (.slice Y yn yc) := G.r.cell 3
    have QG := hid G.l
    clear G hu
    go_wp2_with fail
    refine LL.out.mono ?_
    rintro e w4 ⟨rfl, bb⟩
    have QF := hid (next_trans QG.out bb)
    clear bb k0 k1 k2 k3 a0 a1 b0 b1
    cases u with
    | false =>
     have F := hid (show AnsI w (kwhy sg v sy rk t s) (.returned (.int .i64 0)) w4 from ⟨by rw [HK3.out]; simp, QF.out⟩)
     go_wp2
     go_ret
     exact F.out
    | true =>
     have F := hid (show AnsI w (kwhy sg v sy rk t s) (.returned (.int .i64 4)) w4 from ⟨by rw [HK3.out]; simp, QF.out⟩)
     go_wp2
     go_ret
     exact F.out
end kboWhyI
end
section
namespace shape
open Go.RowKit base ints sig cursor marks app sym appAt segs segsHelp segsMark kinds
theorem Owned.num (w : World) (lo hi : Nat) (x : Int) : Owned w lo hi .num [.int .i64 x] x := ⟨[], ⟨rfl, rfl⟩, List.nodup_nil, fun k hk => by cases hk⟩
theorem Ow.num {w w' : World} {cs : List Value} {x : Int} {F : List Nat} (h : Ow w .num cs x F) (y : Int) : Ow w' .num [.int .i64 y] y F := ⟨rfl, h.2⟩
theorem CpS.init (w : World) (tL tI : TypeId) (cs zs ps : Array Value) : CpS w tL tI cs zs ps (((w.alloc (.cells cs tL)).alloc (.cells zs tI)).alloc (.cells ps tI)) where
 box := by have := ((Row.new w tL cs).alloc (.cells zs tI)).alloc (.cells ps tI); simpa using this
 res := by have := (Row.new (w.alloc (.cells cs tL)) tI zs).alloc (.cells ps tI); simpa using this
 cur := by have := Row.new ((w.alloc (.cells cs tL)).alloc (.cells zs tI)) tI ps; simpa using this
 bel := (((Below.refl _ _).alloc (Nat.le_refl _) _).alloc (by simp) _).alloc (by simp; omega) _
 size := by simp
end shape
end
section
open Go.Lib (hid)
namespace kindsK
open Go.RowKit base ints sig cursor marks app sym appAt segs segsHelp segsMark kinds shape
set_option maxRecDepth 100000
abbrev sWeights : Sh := .cat .num (.cat sI sI)
theorem parts_Weights {w : World} {B : Nat} {v0 v1 : Value} {d : Dat sWeights} (h : Rd w B sWeights [.int .i64 d.1, v0, v1] d) : Rd w B .num [.int .i64 d.1] d.1 ∧ Rd w B sI [v0] d.2.1 ∧ Rd w B sI [v1] d.2.2 := by
 obtain ⟨p0, q0⟩ := Rd.split (ca := [.int .i64 d.1]) (cb := [v0, v1]) h rfl
 obtain ⟨p1, q1⟩ := Rd.split (ca := [v0]) (cb := [v1]) q0 rfl
 exact ⟨p0, p1, q1⟩
theorem join_Weights {w : World} {lo hi : Nat} {v0 v1 : Value} {d : Dat sWeights} {m0 m1 m2 m3 : Nat} (o0 : Owned w m0 m1 .num [.int .i64 d.1] d.1) (o1 : Owned w m1 m2 sI [v0] d.2.1) (o2 : Owned w m2 m3 sI [v1] d.2.2) (l0 : m0 ≤ m1) (l1 : m1 ≤ m2) (l2 : m2 ≤ m3) (hl : lo ≤ m0) (hh : m3 ≤ hi) : Owned w lo hi sWeights [.int .i64 d.1, v0, v1] d := by
 exact ((Owned.cat o0 (Owned.cat o1 o2 (Nat.le_refl _) (by omega) (by omega)) (Nat.le_refl _) (by omega) (by omega)) : Owned w m0 m3 sWeights [.int .i64 d.1, v0, v1] d).wider hl hh
theorem cells_Weights {w : World} {B : Nat} {es : List Value} {d : Dat sWeights} (h : Rd w B sWeights es d) : ∃ (v0 : Value) (v1 : Value), es = [.int .i64 d.1, v0, v1] := by
 obtain ⟨ca0, cb0, e0, p0, q0⟩ := h
 obtain ⟨ca1, cb1, e1, p1, q1⟩ := q0
 obtain ⟨A1, n1, c1, z1, -⟩ := p1
 obtain ⟨A2, n2, c2, z2, -⟩ := q1
 exact ⟨.slice A1 n1 c1, .slice A2 n2 c2, by rw [e0, (show _ = _ from p0), e1, z1, z2] <;> rfl⟩
set_option maxHeartbeats 2000000 in
theorem szK_Weights (v0 v1 : Value) (d : Dat sWeights) (left : Int) (w : World) (h : Rd w w.heap.size sWeights [.int .i64 d.1, v0, v1] d) (h0 : 0 ≤ left) (h1 : left ≤ 1048576) :
  Calls Try.prog 36 #[.agg #[.int .i64 d.1, v0, v1], .int .i64 left] w (AnsSzK w left (sz sWeights d)) := by
 obtain ⟨g0, g1, g2⟩ := parts_Weights h
 obtain ⟨t0, ht0⟩ : ∃ t, sz sI d.2.1 = t := ⟨_, rfl⟩
 obtain ⟨t1, ht1⟩ : ∃ t, sz sI d.2.2 = t := ⟨_, rfl⟩
 have HE : Hid (sz sWeights d = t0 + t1) := hid (by rw [← ht0, ← ht1]; simp only [sz]; try omega)
 have HT0 := hid ht0
 have G0 := hid g1
 have HT1 := hid ht1
 have G1 := hid g2
 obtain ⟨W, hW⟩ : ∃ W, W = w.alloc (.cells #[.int .i64 d.1, v0, v1] 59) := ⟨_, rfl⟩
 have r : Row W w.heap.size 59 #[.int .i64 d.1, v0, v1] := by rw [hW]; exact Row.new _ _ _
 have bel : Below w.heap.size w W := by rw [hW]; exact (Below.refl _ _).alloc (Nat.le_refl _) _
 have HW := hid hW
 clear hW h g0 g1 g2 ht0 ht1
 go_enter Try.func36, Try.ntmps36
 go_wp2_with fail
 rw [← HW.out]
 refine (szK_ints _ _ left W (G0.out.next bel) h0 h1).mono ?_
 rintro e w1 ⟨he, bb⟩
 rw [HT0.out] at he
 replace r := r.next bb
 replace bel := next_trans bel bb
 clear bb
 by_cases q0 : left - (t0 : Int) < 0
 ·rw [if_pos q0] at he
  subst he
  have F : AnsSzK w left (sz sWeights d) (.returned (.int .i64 (-1))) w1 := ⟨by rw [HE.out, if_pos (by omega)], bel⟩
  have HF := hid F
  clear F bel r
  go_wp2
  go_ret
  exact HF.out
 rw [if_neg q0] at he
 obtain ⟨l0, hl0⟩ : ∃ l, left - (t0 : Int) = l := ⟨_, rfl⟩
 rw [hl0] at he
 have a0 : 0 ≤ l0 := by omega
 have b0 : l0 ≤ 1048576 := by omega
 have HL0 := hid hl0
 clear hl0 q0
 subst he
 have c0_0 : w1.cell? ⟨w.heap.size, 2, none⟩ = some (v1) := r.cell 2
 go_wp2_with fail
 refine (szK_ints _ _ l0 w1 (G1.out.next bel) a0 b0).mono ?_
 rintro e w2 ⟨he, bb⟩
 rw [HT1.out] at he
 replace r := r.next bb
 replace bel := next_trans bel bb
 clear bb
 by_cases q1 : l0 - (t1 : Int) < 0
 ·rw [if_pos q1] at he
  subst he
  have F : AnsSzK w left (sz sWeights d) (.returned (.int .i64 (-1))) w2 := ⟨by have := HL0.out; rw [HE.out, if_pos (by omega)], bel⟩
  have HF := hid F
  clear F bel r
  go_wp2
  go_ret
  exact HF.out
 rw [if_neg q1] at he
 obtain ⟨l1, hl1⟩ : ∃ l, l0 - (t1 : Int) = l := ⟨_, rfl⟩
 rw [hl1] at he
 have a1 : 0 ≤ l1 := by omega
 have b1 : l1 ≤ 1048576 := by omega
 have HL1 := hid hl1
 clear hl1 q1
 subst he
 have F : AnsSzK w left (sz sWeights d) (.returned (.int .i64 l1)) w2 := ⟨by have := HL0.out; have := HL1.out; rw [HE.out, if_neg (by omega)]; exact congrArg (fun z => Ending.returned (.int .i64 z)) (by omega), bel⟩
 have HF := hid F
 clear F bel r
 go_wp2
 go_ret
 exact HF.out
def CopyWeights (w : World) (d : Dat sWeights) (e : Ending) (w' : World) : Prop := ∃ A0 n0 c0 A1 n1 c1, e = .returned (.agg #[.int .i64 d.1, .slice A0 n0 c0, .slice A1 n1 c1]) ∧ Owned w' w.heap.size w'.heap.size sWeights [.int .i64 d.1, .slice A0 n0 c0, .slice A1 n1 c1] d ∧ Below w.heap.size w w'
set_option maxHeartbeats 2000000 in
theorem toK_Weights (v0 v1 : Value) (d : Dat sWeights) (w : World) (h : Rd w w.heap.size sWeights [.int .i64 d.1, v0, v1] d) (hz : sz sWeights d ≤ 1048576) :
  Calls Try.prog 39 #[.agg #[.int .i64 d.1, v0, v1]] w (CopyWeights w d) := by
 obtain ⟨g0, g1, g2⟩ := parts_Weights h
 have cp0 := CpS.init w 59 32 #[.int .i64 d.1, v0, v1] #[.int .i64 0, .slice none 0 0, .slice none 0 0] #[.int .i64 d.1, .slice none 0 0, .slice none 0 0]
 obtain ⟨W, hW⟩ : ∃ W, W = ((w.alloc (.cells #[.int .i64 d.1, v0, v1] 59)).alloc (.cells #[.int .i64 0, .slice none 0 0, .slice none 0 0] 32)).alloc (.cells #[.int .i64 d.1, .slice none 0 0, .slice none 0 0] 32) := ⟨_, rfl⟩
 rw [← hW] at cp0
 have HW := hid hW
 have G1 := hid g1
 have Z1 : Hid (sz sI d.2.1 ≤ 1048576) := hid (by have := hz; simp only [sz] at this ⊢; omega)
 have G2 := hid g2
 have Z2 : Hid (sz sI d.2.2 ≤ 1048576) := hid (by have := hz; simp only [sz] at this ⊢; omega)
 clear hW hz h g0 g1 g2
 go_enter Try.func39, Try.ntmps39
 go_wp2_with fail
 rw [← HW.out]
 refine (toK_ints _ _ _ ((G1.out.below cp0.bel).more cp0.bel.size) Z1.out).mono ?_
 rintro e w1 ⟨x1A0, x1n0, x1c0, rfl, o1, bb⟩
 have zb1 := bb.size
 have zc1 := cp0.size
 replace cp0 := cp0.next bb
 clear bb
 have f1_0 : w1.frozen? ⟨w.heap.size + 1 + 1, 1, none⟩ = false := cp0.cur.free 1
 have k1_0 : w1.cell? ⟨w.heap.size + 1 + 1, 1, none⟩ = some (.slice none 0 0) := cp0.cur.cell 1
 obtain ⟨w2, hw1⟩ : ∃ x, x = (w1.setCell ⟨w.heap.size + 1 + 1, 1, none⟩ (.slice x1A0 x1n0 x1c0)) := ⟨_, rfl⟩
 replace o1 := o1.put (g := w.heap.size + 1 + 1) (i := 1) (u := .slice x1A0 x1n0 x1c0) (by omega)
 rw [← hw1] at o1
 replace cp0 : CpS w 59 32 #[.int .i64 d.1, v0, v1] #[.int .i64 0, .slice none 0 0, .slice none 0 0] #[.int .i64 d.1, .slice x1A0 x1n0 x1c0, .slice none 0 0] w2 := by rw [hw1]; exact (CpS.put cp0 1 (.slice x1A0 x1n0 x1c0))
 have zw1 : w2.heap.size = w1.heap.size := by rw [hw1]; simp
 have HW1 := hid hw1
 clear hw1
 have d2_0 : w2.cell? ⟨w.heap.size, 2, none⟩ = some (v1) := cp0.box.cell 2
 rw [HW1.out] at d2_0
 go_wp2_with fail
 rw [← HW1.out]
 clear d2_0
 refine (toK_ints _ _ _ ((G2.out.below cp0.bel).more cp0.bel.size) Z2.out).mono ?_
 rintro e w3 ⟨x2A0, x2n0, x2c0, rfl, o2, bb⟩
 replace o1 := o1.next bb
 have zb2 := bb.size
 have zc2 := cp0.size
 replace cp0 := cp0.next bb
 clear bb
 have f2_0 : w3.frozen? ⟨w.heap.size + 1 + 1, 2, none⟩ = false := cp0.cur.free 2
 have k2_0 : w3.cell? ⟨w.heap.size + 1 + 1, 2, none⟩ = some (.slice none 0 0) := cp0.cur.cell 2
 obtain ⟨w4, hw2⟩ : ∃ x, x = (w3.setCell ⟨w.heap.size + 1 + 1, 2, none⟩ (.slice x2A0 x2n0 x2c0)) := ⟨_, rfl⟩
 replace o1 := o1.put (g := w.heap.size + 1 + 1) (i := 2) (u := .slice x2A0 x2n0 x2c0) (by omega)
 rw [← hw2] at o1
 replace o2 := o2.put (g := w.heap.size + 1 + 1) (i := 2) (u := .slice x2A0 x2n0 x2c0) (by omega)
 rw [← hw2] at o2
 replace cp0 : CpS w 59 32 #[.int .i64 d.1, v0, v1] #[.int .i64 0, .slice none 0 0, .slice none 0 0] #[.int .i64 d.1, .slice x1A0 x1n0 x1c0, .slice x2A0 x2n0 x2c0] w4 := by rw [hw2]; exact (CpS.put cp0 2 (.slice x2A0 x2n0 x2c0))
 have zw2 : w4.heap.size = w3.heap.size := by rw [hw2]; simp
 have HW2 := hid hw2
 clear hw2
 have y0 : w4.cell? ⟨w.heap.size + 1 + 1, 0, none⟩ = some (.int .i64 d.1) := cp0.cur.cell 0
 rw [HW2.out] at y0
 have y1 : w4.cell? ⟨w.heap.size + 1 + 1, 1, none⟩ = some (.slice x1A0 x1n0 x1c0) := cp0.cur.cell 1
 rw [HW2.out] at y1
 have y2 : w4.cell? ⟨w.heap.size + 1 + 1, 2, none⟩ = some (.slice x2A0 x2n0 x2c0) := cp0.cur.cell 2
 rw [HW2.out] at y2
 have s0 : (w4).cell? ⟨w.heap.size + 1, 0, none⟩ = some (.int .i64 0) := cp0.res.cell 0
 rw [HW2.out] at s0
 have r0 : (w4).frozen? ⟨w.heap.size + 1, 0, none⟩ = false := cp0.res.free 0
 rw [HW2.out] at r0
 have s1 : ((w4.setCell ⟨w.heap.size + 1, 0, none⟩ (.int .i64 d.1))).cell? ⟨w.heap.size + 1, 1, none⟩ = some (.slice none 0 0) := (CpS.fin cp0 0 (.int .i64 d.1)).res.cell 1
 rw [HW2.out] at s1
 have r1 : ((w4.setCell ⟨w.heap.size + 1, 0, none⟩ (.int .i64 d.1))).frozen? ⟨w.heap.size + 1, 1, none⟩ = false := (CpS.fin cp0 0 (.int .i64 d.1)).res.free 1
 rw [HW2.out] at r1
 have s2 : (((w4.setCell ⟨w.heap.size + 1, 0, none⟩ (.int .i64 d.1)).setCell ⟨w.heap.size + 1, 1, none⟩ (.slice x1A0 x1n0 x1c0))).cell? ⟨w.heap.size + 1, 2, none⟩ = some (.slice none 0 0) := (CpS.fin (CpS.fin cp0 0 (.int .i64 d.1)) 1 (.slice x1A0 x1n0 x1c0)).res.cell 2
 rw [HW2.out] at s2
 have r2 : (((w4.setCell ⟨w.heap.size + 1, 0, none⟩ (.int .i64 d.1)).setCell ⟨w.heap.size + 1, 1, none⟩ (.slice x1A0 x1n0 x1c0))).frozen? ⟨w.heap.size + 1, 2, none⟩ = false := (CpS.fin (CpS.fin cp0 0 (.int .i64 d.1)) 1 (.slice x1A0 x1n0 x1c0)).res.free 2
 rw [HW2.out] at r2
 have o0 := Owned.num w4 (W.heap.size) (W.heap.size) d.1
 have oo : Owned w4 (w.heap.size + 1 + 1 + 1) w4.heap.size sWeights [.int .i64 d.1, .slice x1A0 x1n0 x1c0, .slice x2A0 x2n0 x2c0] d := join_Weights (m0 := W.heap.size) (m1 := W.heap.size) (m2 := w2.heap.size) (m3 := w4.heap.size) o0 (o1.wider (Nat.le_refl _) (by omega)) (o2.wider (Nat.le_refl _) (by omega)) (by omega) (by omega) (by omega) (by omega) (by omega)
 have F : CopyWeights w d (.returned (.agg #[.int .i64 d.1, .slice x1A0 x1n0 x1c0, .slice x2A0 x2n0 x2c0])) (((w4.setCell ⟨w.heap.size + 1, 0, none⟩ (.int .i64 d.1)).setCell ⟨w.heap.size + 1, 1, none⟩ (.slice x1A0 x1n0 x1c0)).setCell ⟨w.heap.size + 1, 2, none⟩ (.slice x2A0 x2n0 x2c0)) := ⟨x1A0, x1n0, x1c0, x2A0, x2n0, x2c0, rfl, Owned.wider ((((oo.put (g := w.heap.size + 1) (i := 0) (u := .int .i64 d.1) (by omega)).put (g := w.heap.size + 1) (i := 1) (u := .slice x1A0 x1n0 x1c0) (by omega)).put (g := w.heap.size + 1) (i := 2) (u := .slice x2A0 x2n0 x2c0) (by omega))) (by omega) (by simp), ((CpS.fin (CpS.fin (CpS.fin cp0 0 (.int .i64 d.1)) 1 (.slice x1A0 x1n0 x1c0)) 2 (.slice x2A0 x2n0 x2c0))).bel⟩
 have u0 : ((((w4.setCell ⟨w.heap.size + 1, 0, none⟩ (.int .i64 d.1)).setCell ⟨w.heap.size + 1, 1, none⟩ (.slice x1A0 x1n0 x1c0)).setCell ⟨w.heap.size + 1, 2, none⟩ (.slice x2A0 x2n0 x2c0))).cell? ⟨w.heap.size + 1, 0, none⟩ = some (.int .i64 d.1) := (CpS.fin (CpS.fin (CpS.fin cp0 0 (.int .i64 d.1)) 1 (.slice x1A0 x1n0 x1c0)) 2 (.slice x2A0 x2n0 x2c0)).res.cell 0
 rw [HW2.out] at u0
 have u1 : ((((w4.setCell ⟨w.heap.size + 1, 0, none⟩ (.int .i64 d.1)).setCell ⟨w.heap.size + 1, 1, none⟩ (.slice x1A0 x1n0 x1c0)).setCell ⟨w.heap.size + 1, 2, none⟩ (.slice x2A0 x2n0 x2c0))).cell? ⟨w.heap.size + 1, 1, none⟩ = some (.slice x1A0 x1n0 x1c0) := (CpS.fin (CpS.fin (CpS.fin cp0 0 (.int .i64 d.1)) 1 (.slice x1A0 x1n0 x1c0)) 2 (.slice x2A0 x2n0 x2c0)).res.cell 1
 rw [HW2.out] at u1
 have u2 : ((((w4.setCell ⟨w.heap.size + 1, 0, none⟩ (.int .i64 d.1)).setCell ⟨w.heap.size + 1, 1, none⟩ (.slice x1A0 x1n0 x1c0)).setCell ⟨w.heap.size + 1, 2, none⟩ (.slice x2A0 x2n0 x2c0))).cell? ⟨w.heap.size + 1, 2, none⟩ = some (.slice x2A0 x2n0 x2c0) := (CpS.fin (CpS.fin (CpS.fin cp0 0 (.int .i64 d.1)) 1 (.slice x1A0 x1n0 x1c0)) 2 (.slice x2A0 x2n0 x2c0)).res.cell 2
 rw [HW2.out] at u2
 rw [HW2.out] at F
 have HF := hid F
 clear F oo cp0 o1 o2
 go_wp2
 exact bodyPost_ret (v := .agg #[.int .i64 d.1, .slice x1A0 x1n0 x1c0, .slice x2A0 x2n0 x2c0]) (by simp [results, Try.results39, go_sem, u0, u1, u2]) rfl HF.out
set_option maxHeartbeats 2000000 in
theorem eqK_Weights (v0 v1 u0 u1 : Value) (d : Dat sWeights) (w : World) (h : Rd w w.heap.size sWeights [.int .i64 d.1, v0, v1] d) (h' : Rd w w.heap.size sWeights [.int .i64 d.1, u0, u1] d) (hz : sz sWeights d ≤ 1048576) :
  Calls Try.prog 41 #[.agg #[.int .i64 d.1, v0, v1], .agg #[.int .i64 d.1, u0, u1]] w (Yes w) := by
 obtain ⟨g0, g1, g2⟩ := parts_Weights h
 obtain ⟨g0', g1', g2'⟩ := parts_Weights h'
 obtain ⟨W, hW⟩ : ∃ W, W = (w.alloc (.cells #[.int .i64 d.1, v0, v1] 32)).alloc (.cells #[.int .i64 d.1, u0, u1] 32) := ⟨_, rfl⟩
 have ra : Row W w.heap.size 32 #[.int .i64 d.1, v0, v1] := by rw [hW]; exact (Row.new w 32 #[.int .i64 d.1, v0, v1]).alloc _
 have rb : Row W (w.heap.size + 1) 32 #[.int .i64 d.1, u0, u1] := by rw [hW]; have := Row.new (w.alloc (.cells #[.int .i64 d.1, v0, v1] 32)) 32 #[.int .i64 d.1, u0, u1]; simpa using this
 have bel : Below w.heap.size w W := by rw [hW]; exact ((Below.refl _ _).alloc (Nat.le_refl _) _).alloc (by simp) _
 have HW := hid hW
 have G1 := hid g1
 have G1' := hid g1'
 have Z1 : Hid (sz sI d.2.1 ≤ 1048576) := hid (by have := hz; simp only [sz] at this ⊢; omega)
 have G2 := hid g2
 have G2' := hid g2'
 have Z2 : Hid (sz sI d.2.2 ≤ 1048576) := hid (by have := hz; simp only [sz] at this ⊢; omega)
 clear hW hz h h' g0 g0' g1 g1' g2 g2'
 go_enter Try.func41, Try.ntmps41
 go_wp2_with fail
 rw [← HW.out]
 refine (eqK_ints _ _ _ W (G1.out.next bel) (G1'.out.next bel) Z1.out).mono ?_
 rintro e w1 ⟨rfl, bb⟩
 replace ra := ra.next bb
 replace rb := rb.next bb
 replace bel := next_trans bel bb
 clear bb
 have a2_0 : w1.cell? ⟨w.heap.size, 2, none⟩ = some (v1) := ra.cell 2
 have b2_0 : w1.cell? ⟨w.heap.size + 1, 2, none⟩ = some (u1) := rb.cell 2
 go_wp2_with fail
 clear a2_0 b2_0
 refine (eqK_ints _ _ _ w1 (G2.out.next bel) (G2'.out.next bel) Z2.out).mono ?_
 rintro e w2 ⟨rfl, bb⟩
 replace ra := ra.next bb
 replace rb := rb.next bb
 replace bel := next_trans bel bb
 clear bb
 have F : Yes w (.returned (.bool true)) w2 := ⟨rfl, bel⟩
 have HF := hid F
 clear F ra rb bel
 go_wp2
 go_ret
 exact HF.out
end kindsK
end
section
namespace kboX
open Go.RowKit base ints sig term termOk termFacts marks sym segs kinds varsOf shape kindsR kindsK ruleMath ruleSpec kboMath kboLink kboOft kboWt kboOk kboScale kboFun
set_option maxRecDepth 100000
theorem rd_w {w : World} {B : Nat} {s r : Value} {d : Dat sWeights} (h : Rd w B sWeights [.int .i64 d.1, s, r] d) (hz : sz sWeights d ≤ 1048576) : ∃ Y yn yc R rn rc, s = .slice Y yn yc ∧ r = .slice R rn rc ∧ Seg w B Y yn d.2.1 ∧ Seg w B R rn d.2.2 ∧ yn ≤ 1048576 ∧ rn ≤ 1048576 ∧ Cap Y yn yc ∧ Cap R rn rc := by
 obtain ⟨-, h1, h2⟩ := parts_Weights h
 obtain ⟨Y, yn, yc, rfl, hY, cY⟩ := rd_ints.1 h1
 obtain ⟨R, rn, rc, rfl, hR, cR⟩ := rd_ints.1 h2
 have l1 := hY.1
 have l2 := hR.1
 have z1 : sz sI d.2.1 + sz sI d.2.2 ≤ 1048576 := by have := hz; simp only [sz] at this ⊢; omega
 rw [sz_ints, sz_ints] at z1
 exact ⟨Y, yn, yc, R, rn, rc, rfl, rfl, hY, hR, by omega, by omega, cY, cR⟩
end kboX
end
section
namespace kboAll
open Go.RowKit base ints sig term termOk termFacts marks sym varsOf ruleSpec forest rankMath rankSpec lpoLink lpoPrec kboMath kboLink kboOft kboWt kboOk kboScale whole kboFun shape drawX stk segs kinds kindsR kindsK ruleMath kboX
set_option maxRecDepth 100000
theorem seg_rdq {w : World} {A : Option Addr} {n c : Nat} {l : List Int} (h : Seg w w.heap.size A n l) (hc : Cap A n c) : RdQ w (fun b => b < w.heap.size) sI [.slice A n c] l :=
 rdq_seg h.1 hc fun h0 => by
  obtain ⟨b, off, e, hb, hj⟩ := h.2 h0
  exact ⟨b, off, e, hb, fun j hjn => hj j hjn⟩
theorem vars24 {sg t : List Int} (h : termOkB sg t = true) : ∀ x ∈ t, -24 ≤ x := fun x hx => (term_mem h hx).1
end kboAll
end
section
namespace ruleSpec
open Go.RowKit base ints sig term termOk marks app sym segs termFacts varsMath varsOf rename same count linear shape kindsR ruleMath
set_option maxRecDepth 100000
end ruleSpec
end
section
namespace kboOr
open Go.RowKit base ints sig term termOk termFacts marks sym segs kinds varsOf ruleMath ruleSpec forest rankMath rankSpec shape drawX kindsR kindsK stk kboMath kboLink kboOft kboWt kboOk kboX kboAll
set_option maxRecDepth 100000
noncomputable def kOrB (sg : List Int) (v : Int) (sy rk : List Int) (rs : List Rl) : Bool := rs.all fun r => decide (0 < kwhy sg v sy rk r.1 r.2)
noncomputable def kOrientB (sg : List Int) (rs : List Rl) (v : Int) (sy rk : List Int) : Bool := sysOkB sg rs && (wB sg v sy rk && kOrB sg v sy rk rs)
section
variable {sg sy rk : List Int} {v : Int} {rs : List Rl} {k : Nat}
theorem getD_mem (hk : k < rs.length) : rs.getD k ([], []) ∈ rs := by
 rw [List.getD_eq_getElem?_getD, List.getElem?_eq_getElem hk]
 exact List.getElem_mem hk
theorem ko_bad (hk : k < rs.length) (h : ¬ 0 < kwhy sg v sy rk (rs.getD k ([], [])).1 (rs.getD k ([], [])).2) : kOrB sg v sy rk rs = false := by
 unfold kOrB
 rw [List.all_eq_false]
 exact ⟨_, getD_mem hk, by simpa using h⟩
theorem ko_good (h : ∀ j, j < rs.length → 0 < kwhy sg v sy rk (rs.getD j ([], [])).1 (rs.getD j ([], [])).2) : kOrB sg v sy rk rs = true := by
 unfold kOrB
 rw [List.all_eq_true]
 intro x hx
 obtain ⟨i, hi, rfl⟩ := List.getElem_of_mem hx
 have := h i hi
 rw [List.getD_eq_getElem?_getD, List.getElem?_eq_getElem hi] at this
 exact decide_eq_true this
theorem ko_no1 (h : sysOkB sg rs = false) : kOrientB sg rs v sy rk = false := by unfold kOrientB; rw [h]; rfl
theorem ko_no2 (h1 : sysOkB sg rs = true) (h : wB sg v sy rk = false) : kOrientB sg rs v sy rk = false := by unfold kOrientB; rw [h1, h]; rfl
theorem ko_yes (h1 : sysOkB sg rs = true) (h : wB sg v sy rk = true) : kOrientB sg rs v sy rk = kOrB sg v sy rk rs := by unfold kOrientB; rw [h1, h]; rfl
theorem step_nonneg {pts : List Int → List (List Int)} {g : List Int → List Int → Bool} {t s : List Int} : 0 ≤ stepK pts v sy rk g t s := by
 unfold stepK
 split
 ·omega
 split
 ·omega
 split
 ·split <;> omega
 split
 ·omega
 split
 ·split <;> omega
 ·split <;> omega
theorem kw_nonneg {t s : List Int} : 0 ≤ kwhy sg v sy rk t s := step_nonneg
end
end kboOr
end
section
open Go.Lib (hid)
namespace kboOrS
open Go.RowKit base ints sig term termOk termFacts marks sym segs kinds varsOf ruleMath ruleSpec forest rankMath rankSpec shape drawX kindsR kindsK stk kboMath kboLink kboOft kboWt kboOk kboX kboAll kboOr
set_option maxRecDepth 100000
structure RO (w : World) (ca cb : Array Value) (wr : World) : Prop where
 a : Row wr w.heap.size 51 ca
 b : Row wr (w.heap.size + 1) 32 cb
 l : Below w.heap.size w wr
theorem RO.next {w wr w' : World} {ca cb : Array Value} (h : RO w ca cb wr) (hb : Below wr.heap.size wr w') : RO w ca cb w' := ⟨h.a.next hb, h.b.next hb, next_trans h.l hb⟩
theorem RO.drew {w wr : World} {ca cb : Array Value} (h : RO w ca cb wr) : RO w ca cb wr.drew := ⟨h.a.drew, h.b.drew, h.l.drew⟩
def HeadR (w : World) (ca cb : Array Value) (n : Nat) (g : Nat → Prop) (i : Value) (wr : World) : Prop := ∃ k : Nat, k ≤ n ∧ i = .int .i64 k ∧ (∀ j, j < k → g j) ∧ RO w ca cb wr
set_option maxHeartbeats 4000000 in
theorem l14Orients (a u : Value) (d : Dat sSystem) (Y R : Option Addr) (yn yc rn rc : Nat) (v : Int) (sy rk : List Int) (w : World) (h : Rd w w.heap.size sSystem [a, u] d) (hz : sz sSystem d ≤ 1048576) (hY : Seg w w.heap.size Y yn sy) (hR : Seg w w.heap.size R rn rk) (hyn : yn ≤ 1048576) (hrn : rn ≤ 1048576) (hok : sysOkB d.1 d.2 = true) (hw : wB d.1 v sy rk = true) :
  Calls Try.prog 80 #[.agg #[a, u], .agg #[.int .i64 v, .slice Y yn yc, .slice R rn rc]] w (AnsB w (kOrB d.1 v sy rk d.2)) := by
 obtain ⟨A, n, c, A', m, c', rfl, rfl, hs, hc, hc', hm, hn, hm1, hrs, hsg, hE⟩ := rd_sys h hz
 obtain ⟨W, hW, rA, rB, bel⟩ := box2 w 51 32 #[.slice A n c, .slice A' m c'] #[.int .i64 v, .slice Y yn yc, .slice R rn rc]
 have hm12 : m ≤ 12 := by rw [← hm]; exact (sys_parts hok).2.1
 have HW := hid hW
 have HM := hid hm
 have HE := hid hE
 have HR := hid hrs
 have HP := hid (fun (k : Nat) (hk : k < m) => (show termOkB d.1 (d.2.getD k ([], [])).1 = true ∧ termOkB d.1 (d.2.getD k ([], [])).2 = true from ⟨(rule_parts ((sys_parts hok).2.2 _ (getD_mem (by rw [hm]; exact hk)))).1, (rule_parts ((sys_parts hok).2.2 _ (getD_mem (by rw [hm]; exact hk)))).2.1⟩))
 have LW := hid (fun (w1 : World) (bb : Below w.heap.size w w1) (S T : Option Addr) (sn sc tn tc : Nat) (s t : List Int) (gS : RdQ w1 (fun b => b < w1.heap.size) sI [.slice S sn sc] s) (gT : RdQ w1 (fun b => b < w1.heap.size) sI [.slice T tn tc] t) hsn htn (h1 : termOkB d.1 s = true) (h2 : termOkB d.1 t = true) => kboWhyT.l14Why A Y R n c yn yc rn rc v d.1 sy rk (fun b => b < w1.heap.size) (sig_arities (prec_parts (w_parts hw).1).1).1 hw hn hyn hrn (s.length + 1) S T sn sc tn tc s t w1 (Nat.lt_succ_self _) (hs.next bb) (hY.next bb) (hR.next bb) gS gT (fun b hb => hb) hsn htn (fo_term h1) (fo_term h2))
 have H0 : Hid (HeadR w #[.slice A n c, .slice A' m c'] #[.int .i64 v, .slice Y yn yc, .slice R rn rc] m (fun j => 0 < kwhy d.1 v sy rk (d.2.getD j ([], [])).1 (d.2.getD j ([], [])).2) (.int .i64 0) W) := hid ⟨0, Nat.zero_le _, rfl, fun j hj => absurd hj (Nat.not_lt_zero _), rA, rB, bel⟩
 have cR : W.cell? ⟨w.heap.size, 1, none⟩ = some (.slice A' m c') := rA.cell 1
 rw [hW] at cR
 clear hW h hz hs hc hc' hm hE hrs hsg rA rB bel hok hw hY hR hyn hrn
 go_enter Try.func80, Try.ntmps80
 go_wp2_with fail
 rw [← HW.out]
 go_loopw [5] (fun i wr => HeadR w #[.slice A n c, .slice A' m c'] #[.int .i64 v, .slice Y yn yc, .slice R rn rc] m (fun j => 0 < kwhy d.1 v sy rk (d.2.getD j ([], [])).1 (d.2.getD j ([], [])).2) i wr) (fun i _ => m - (intOf i).toNat)
 case atStart => exact H0.out
 case round =>
  obtain ⟨k, hk, rfl, hlow, q⟩ := hrel
  have HLOW := hid hlow
  clear hlow H0 cR
  by_cases hlt : k < m
  ·obtain ⟨b, off, l, r, x, rfl, hbB, ex, hc0, hc1, hx⟩ := rd_at HR.out q.l HM.out hlt
   have cA : wr.cell? ⟨w.heap.size, 0, none⟩ = some (.slice A n c) := q.a.cell 0
   have cR : wr.cell? ⟨w.heap.size, 1, none⟩ = some (.slice (some ⟨b, off, none⟩) m c') := q.a.cell 1
   have d0 : wr.cell? ⟨w.heap.size + 1, 0, none⟩ = some (.int .i64 v) := q.b.cell 0
   have d1 : wr.cell? ⟨w.heap.size + 1, 1, none⟩ = some (.slice Y yn yc) := q.b.cell 1
   have d2 : wr.cell? ⟨w.heap.size + 1, 2, none⟩ = some (.slice R rn rc) := q.b.cell 2
   have hzx : sz sRule x ≤ 1048576 := by have := HE.out k hlt; rw [ex.out] at this; exact this
   have hxd : Rd wr.drew wr.drew.heap.size sRule [l, r] x := (hx.more q.l.size).keep (fun _ _ => rfl)
   obtain ⟨TL, tn, tc, TR, sn, sc, rfl, rfl, sL, cL, sR, cRr, hln, hrn2⟩ := rd_rule hxd hzx
   have hr := HP.out k hlt
   rw [ex.out] at hr
   have L := hid (LW.out wr.drew q.l.drew TR TL sn sc tn tc x.2 x.1 (kboAll.seg_rdq sR cRr) (kboAll.seg_rdq sL cL) hrn2 hln hr.2 hr.1)
   have i0 : (0 : Int) ≤ (k : Int) := by omega
   have i1 : (k : Int) < (m : Int) := by omega
   have hbr : b < wr.drew.heap.size := Nat.lt_of_lt_of_le hbB q.l.size
   have QD := hid q.drew
   clear hx q hzx hxd sL cL sR cRr hln hrn2 hr
   obtain ⟨y, hy⟩ : ∃ y, kwhy d.1 v sy rk x.1 x.2 = y := ⟨_, rfl⟩
   rw [hy] at L
   have hyn := kw_nonneg (sg := d.1) (sy := sy) (rk := rk) (v := v) (t := x.1) (s := x.2)
   rw [hy] at hyn
   have HY := hid (show kwhy d.1 v sy rk (d.2.getD k ([], [])).1 (d.2.getD k ([], [])).2 = y by rw [ex.out]; exact hy)
   clear hy
   go_wp2_with fail
   go_region_held3 (fun w' => w'.cell? ⟨w.heap.size, 0, none⟩ = some (.slice A n c) ∧ w'.cell? ⟨w.heap.size, 1, none⟩ = some (.slice (some ⟨b, off, none⟩) m c') ∧ w'.cell? ⟨b, off + k * 2, none⟩ = some (.slice TL tn tc) ∧ w'.cell? ⟨b, off + k * 2 + 1, none⟩ = some (.slice TR sn sc) ∧ w'.cell? ⟨w.heap.size + 1, 0, none⟩ = some (.int .i64 v) ∧ w'.cell? ⟨w.heap.size + 1, 1, none⟩ = some (.slice Y yn yc) ∧ w'.cell? ⟨w.heap.size + 1, 2, none⟩ = some (.slice R rn rc))
    (go_keep)
    (first
     | (go_at_call 88; refine L.out.mono ?_; rintro e w2 ⟨he, bb⟩; subst he; have q2 := QD.out.next bb; have c1 : w2.cell? ⟨w.heap.size, 0, none⟩ = some (.slice A n c) := q2.a.cell 0; have c2 : w2.cell? ⟨w.heap.size, 1, none⟩ = some (.slice (some ⟨b, off, none⟩) m c') := q2.a.cell 1; have c3 : w2.cell? ⟨b, off + k * 2, none⟩ = some (.slice TL tn tc) := (bb.cell (p := ⟨b, off + k * 2, none⟩) hbr).trans hc0; have c4 : w2.cell? ⟨b, off + k * 2 + 1, none⟩ = some (.slice TR sn sc) := (bb.cell (p := ⟨b, off + k * 2 + 1, none⟩) hbr).trans hc1; have c5 : w2.cell? ⟨w.heap.size + 1, 0, none⟩ = some (.int .i64 v) := q2.b.cell 0; have c6 : w2.cell? ⟨w.heap.size + 1, 1, none⟩ = some (.slice Y yn yc) := q2.b.cell 1; have c7 : w2.cell? ⟨w.heap.size + 1, 2, none⟩ = some (.slice R rn rc) := q2.b.cell 2))
   have Q2 := hid q2
   clear bb QD L c1 c2 c3 c4 c5 c6 c7 cA cR hc0 hc1 d0 d1 d2 q2
   by_cases hy0 : y = 0
   ·subst hy0
    have e0 : ((0 : Int) == 0) = true := by simp
    have F := hid (ansB (b := kOrB d.1 v sy rk d.2) (a := false) (ko_bad (k := k) (by rw [HM.out]; exact hlt) (by rw [HY.out]; omega)).symm Q2.out.l)
    go_wp2
    go_ret
    exact F.out
   ·have e0 : (y == 0) = false := by simp [hy0]
    have F := hid (show HeadR w #[.slice A n c, .slice (some ⟨b, off, none⟩) m c'] #[.int .i64 v, .slice Y yn yc, .slice R rn rc] m (fun j => 0 < kwhy d.1 v sy rk (d.2.getD j ([], [])).1 (d.2.getD j ([], [])).2) (.int .i64 ((k : Int) + 1)) w2 from ⟨k + 1, hlt, by simp, fun j hj => by
     by_cases e : j = k
     ·rw [e]; show 0 < kwhy d.1 v sy rk (d.2.getD k ([], [])).1 (d.2.getD k ([], [])).2; rw [HY.out]; omega
     ·exact HLOW.out j (by omega), Q2.out⟩)
    go_wp2
    go_roundw
    case rel => exact F.out
    case measure => simp [intOf]; omega
  ·have cR : wr.cell? ⟨w.heap.size, 1, none⟩ = some (.slice A' m c') := q.a.cell 1
   have F := hid (ansB (b := kOrB d.1 v sy rk d.2) (a := true) (by rw [ko_good (fun j hj => HLOW.out j (by rw [HM.out] at hj; omega))]) q.l)
   clear q
   go_wp2
   go_ret
   exact F.out
set_option maxHeartbeats 4000000 in
theorem specKboOrients (a u : Value) (d : Dat sSystem) (Y R : Option Addr) (yn yc rn rc : Nat) (v : Int) (sy rk : List Int) (w : World) (h : Rd w w.heap.size sSystem [a, u] d) (hz : sz sSystem d ≤ 1048576) (hY : Seg w w.heap.size Y yn sy) (hR : Seg w w.heap.size R rn rk) (hyn : yn ≤ 1048576) (hrn : rn ≤ 1048576) :
  Calls Try.prog 33 #[.agg #[a, u], .agg #[.int .i64 v, .slice Y yn yc, .slice R rn rc]] w (AnsB w (kOrientB d.1 d.2 v sy rk)) := by
 have h0 := h
 obtain ⟨A, n, c, A', m, c', rfl, rfl, hs, hc, hc', hm, hn, hm1, hrs, hsg, hE⟩ := rd_sys h hz
 obtain ⟨W, hW, rA, rB, bel⟩ := box2 w 51 32 #[.slice A n c, .slice A' m c'] #[.int .i64 v, .slice Y yn yc, .slice R rn rc]
 have q : RO w #[.slice A n c, .slice A' m c'] #[.int .i64 v, .slice Y yn yc, .slice R rn rc] W := ⟨rA, rB, bel⟩
 have k0 : W.cell? ⟨w.heap.size, 0, none⟩ = some (.slice A n c) := rA.cell 0
 have k1 : W.cell? ⟨w.heap.size, 1, none⟩ = some (.slice A' m c') := rA.cell 1
 have k2 : W.cell? ⟨w.heap.size + 1, 0, none⟩ = some (.int .i64 v) := rB.cell 0
 have k3 : W.cell? ⟨w.heap.size + 1, 1, none⟩ = some (.slice Y yn yc) := rB.cell 1
 have k4 : W.cell? ⟨w.heap.size + 1, 2, none⟩ = some (.slice R rn rc) := rB.cell 2
 rw [hW] at k0 k1 k2 k3 k4
 have HW := hid hW
 have LS := hid (specSystemOk (.slice A n c) (.slice A' m c') d W (h0.next bel) hz)
 have LR := hid (fun (w1 : World) (bb : Below w.heap.size w w1) => specWeightsOk A Y R n c yn yc rn rc v d.1 sy rk w1 (hs.next bb) (hY.next bb) (hR.next bb) hn hyn hrn)
 have LO := hid (fun (w1 : World) (bb : Below w.heap.size w w1) hok hw => l14Orients (.slice A n c) (.slice A' m c') d Y R yn yc rn rc v sy rk w1 (h0.next bb) hz (hY.next bb) (hR.next bb) hyn hrn hok hw)
 clear hW h h0 hz hs hc hc' hm hE hrs hsg hY hR rA rB bel
 cases h1 : sysOkB d.1 d.2 with
 | false =>
  have H1 := hid h1
  clear h1
  go_enter Try.func33, Try.ntmps33
  go_wp2_with fail
  rw [← HW.out]
  clear k0 k1 k2 k3 k4
  refine LS.out.mono ?_
  rintro e w1 ⟨he, bb⟩
  rw [H1.out] at he
  subst he
  replace q := q.next bb
  clear bb
  have F := hid (ansB (b := kOrientB d.1 d.2 v sy rk) (a := false) (by rw [ko_no1 H1.out]) q.l)
  clear q
  go_wp2
  go_ret
  exact F.out
 | true =>
  have H1 := hid h1
  clear h1
  go_enter Try.func33, Try.ntmps33
  go_wp2_with fail
  rw [← HW.out]
  clear k0 k1 k2 k3 k4
  refine LS.out.mono ?_
  rintro e w1 ⟨he, bb⟩
  rw [H1.out] at he
  subst he
  replace q := q.next bb
  clear bb
  have k0 : w1.cell? ⟨w.heap.size, 0, none⟩ = some (.slice A n c) := q.a.cell 0
  have k2 : w1.cell? ⟨w.heap.size + 1, 0, none⟩ = some (.int .i64 v) := q.b.cell 0
  have k3 : w1.cell? ⟨w.heap.size + 1, 1, none⟩ = some (.slice Y yn yc) := q.b.cell 1
  have k4 : w1.cell? ⟨w.heap.size + 1, 2, none⟩ = some (.slice R rn rc) := q.b.cell 2
  have L2 := hid (LR.out w1 q.l)
  cases h2 : wB d.1 v sy rk with
  | false =>
   have H2 := hid h2
   clear h2
   go_wp2_with fail
   refine L2.out.mono ?_
   rintro e w2 ⟨he, bb⟩
   rw [H2.out] at he
   subst he
   replace q := q.next bb
   clear bb k0 k2 k3 k4
   have F := hid (ansB (b := kOrientB d.1 d.2 v sy rk) (a := false) (by rw [ko_no2 H1.out H2.out]) q.l)
   clear q
   go_wp2
   go_ret
   exact F.out
  | true =>
   have H2 := hid h2
   clear h2
   go_wp2_with fail
   refine L2.out.mono ?_
   rintro e w2 ⟨he, bb⟩
   rw [H2.out] at he
   subst he
   replace q := q.next bb
   clear bb k0 k2 k3 k4
   have k0 : w2.cell? ⟨w.heap.size, 0, none⟩ = some (.slice A n c) := q.a.cell 0
   have k1 : w2.cell? ⟨w.heap.size, 1, none⟩ = some (.slice A' m c') := q.a.cell 1
   have k2 : w2.cell? ⟨w.heap.size + 1, 0, none⟩ = some (.int .i64 v) := q.b.cell 0
   have k3 : w2.cell? ⟨w.heap.size + 1, 1, none⟩ = some (.slice Y yn yc) := q.b.cell 1
   have k4 : w2.cell? ⟨w.heap.size + 1, 2, none⟩ = some (.slice R rn rc) := q.b.cell 2
   have L3 := hid (LO.out w2 q.l H1.out H2.out)
   have Q := hid q.l
   clear q
   go_wp2_with fail
   refine L3.out.mono ?_
   rintro e w3 ⟨rfl, bb⟩
   have F := hid (ansB (b := kOrientB d.1 d.2 v sy rk) (a := kOrB d.1 v sy rk d.2) (by rw [ko_yes H1.out H2.out]) (next_trans Q.out bb))
   obtain ⟨z, hz⟩ : ∃ z, kOrB d.1 v sy rk d.2 = z := ⟨_, rfl⟩
   rw [hz] at F ⊢
   clear bb k0 k1 k2 k3 k4 hz
   go_wp2
   go_ret
   exact F.out
end kboOrS
end
end Go.Proofs.Ytiimbmkofpnebaa
section
namespace Go.Proofs
open Go.Shelf
end Go.Proofs
end
namespace Go.Proofs.Ytiimbmkofpnebaa
section
namespace sorted
open Go.RowKit base marks app sym appAt segs
set_option maxRecDepth 100000
def up (xs : List Int) : List Int := xs.mergeSort fun x y => decide (x ≤ y)
end sorted
end
section
namespace varsMath
open term termOk sorted
theorem up_mem {l : List Int} {x : Int} : x ∈ up l ↔ x ∈ l := by unfold up; exact List.mem_mergeSort
end varsMath
end
end Go.Proofs.Ytiimbmkofpnebaa
section
namespace Go.Proofs.Ytiimbmkofpnebaa.varsOf
open Go.RowKit base ints sig term termOk marks app sym sub segs sorted varsMath termFacts
set_option maxRecDepth 100000
end Go.Proofs.Ytiimbmkofpnebaa.varsOf
namespace Go.Proofs.Ytiimbmkofpnebaa.linear
open Go.RowKit base ints sig term termOk marks sym count varsMath termFacts varsOf
end Go.Proofs.Ytiimbmkofpnebaa.linear
end
namespace Go.Proofs.Ytiimbmkofpnebaa
section
open Go.Lib (hid)
namespace ruleImpl
open Go.RowKit base ints sig term termOk marks app sym segs termFacts varsMath varsOf rename same count linear shape kindsR ruleMath ruleSpec anyR
set_option maxRecDepth 100000
def sysV (a v : Value) (ok : Bool) : Value := if ok = true then .agg #[a, v] else .agg #[.slice none 0 0, .slice none 0 0]
def AnsSys (w : World) (a v : Value) (ok : Bool) (e : Ending) (w' : World) : Prop := e = .returned (.tuple #[sysV a v ok, .bool ok]) ∧ Below w.heap.size w w'
def HeadSO (w : World) (T T' : TypeId) (cs cs' : Array Value) (n : Nat) (f : Rl → Bool) (rs : List Rl) (i : Value) (wr : World) : Prop :=
 ∃ k : Nat, k ≤ n ∧ i = .int .i64 k ∧ (∀ j, j < k → f (rs.getD j ([], [])) = true) ∧ Row wr w.heap.size T cs ∧ Row wr (w.heap.size + 1) T' cs' ∧ Below w.heap.size w wr
theorem headSO_step {w wr : World} {T T' : TypeId} {cs cs' : Array Value} {n k : Nat} {f : Rl → Bool} {rs : List Rl} {x : Rl} (hk : k < n) (hlow : ∀ j, j < k → f (rs.getD j ([], [])) = true) (ex : Hid (rs.getD k ([], []) = x)) (h : f x = true) (hr : Row wr w.heap.size T cs) (hr' : Row wr (w.heap.size + 1) T' cs') (hb : Below w.heap.size w wr) : HeadSO w T T' cs cs' n f rs (.int .i64 ((k : Int) + 1)) wr :=
 ⟨k + 1, hk, by simp, fun j hj => by
  by_cases e : j = k
  ·subst e; rw [ex.out]; exact h
  ·exact hlow j (by omega), hr, hr', hb⟩
set_option maxHeartbeats 8000000 in
theorem systemOf (a v : Value) (d : Dat sSystem) (w : World) (h : Rd w w.heap.size sSystem [a, v] d) (hz : sz sSystem d ≤ 1048576) :
  Calls Try.prog 96 #[.agg #[a, v]] w (AnsSys w a v (sysOkB d.1 d.2)) := by
 have hzs := hid (sys_szs hz)
 obtain ⟨A, n, c, V, m, cv, rfl, rfl, hs, hc, hcv, hm, hn, hm1, hrs, hsg, hE⟩ := rd_sys h hz
 obtain ⟨W, hW, rA, rR, bel⟩ := box2 w 51 114 #[.slice A n c, .slice V m cv] #[.slice none 0 0, .slice none 0 0]
 have HW := hid hW
 have HM := hid hm
 have HE := hid hE
 have HR := hid hrs
 have L1 := hid (implSigOk A n c d.1 W (hs.next bel) hn)
 have LR := hid (fun (w1 : World) (l r : Value) (x : Dat sRule) (bb : Below w.heap.size w w1) (hx : Rd w1 w1.heap.size sRule [l, r] x) (hzx : sz sRule x ≤ 1048576) => implRuleOk (.slice A n c) l r d.1 x w1 (hsg.next bb) hx hzs.out.1 hzx)
 clear hW h hz hs hc hcv hm hE hrs hsg
 cases ok1 : sigOkB d.1 with
 | false =>
  have HS := hid ok1
  clear ok1
  go_enter Try.func96, Try.ntmps96
  go_wp2_with fail
  rw [← HW.out]
  refine L1.out.mono ?_
  rintro e w1 ⟨he, bb⟩
  rw [HS.out] at he
  subst he
  replace rR := rR.next bb
  replace bel := next_trans bel bb
  have y0 : w1.cell? ⟨w.heap.size + 1, 0, none⟩ = some (.slice none 0 0) := rR.cell 0
  have y1 : w1.cell? ⟨w.heap.size + 1, 1, none⟩ = some (.slice none 0 0) := rR.cell 1
  have f0 := rR.free 0
  have f1 := rR.free 1
  have r1 := rR.put 0 (.slice none 0 0)
  have y2 : (w1.setCell ⟨w.heap.size + 1, 0, none⟩ (.slice none 0 0)).cell? ⟨w.heap.size + 1, 1, none⟩ = some (.slice none 0 0) := r1.cell 1
  have f2 := r1.free 1
  have r2 := r1.put 1 (.slice none 0 0)
  have u0 : ((w1.setCell ⟨w.heap.size + 1, 0, none⟩ (.slice none 0 0)).setCell ⟨w.heap.size + 1, 1, none⟩ (.slice none 0 0)).cell? ⟨w.heap.size + 1, 0, none⟩ = some (.slice none 0 0) := r2.cell 0
  have u1 : ((w1.setCell ⟨w.heap.size + 1, 0, none⟩ (.slice none 0 0)).setCell ⟨w.heap.size + 1, 1, none⟩ (.slice none 0 0)).cell? ⟨w.heap.size + 1, 1, none⟩ = some (.slice none 0 0) := r2.cell 1
  have F : AnsSys w (.slice A n c) (.slice V m cv) (sysOkB d.1 d.2) (.returned (.tuple #[.agg #[.slice none 0 0, .slice none 0 0], .bool false])) ((w1.setCell ⟨w.heap.size + 1, 0, none⟩ (.slice none 0 0)).setCell ⟨w.heap.size + 1, 1, none⟩ (.slice none 0 0)) :=
   ⟨by rw [sys_sig HS.out]; rfl, (bel.setCell (by simp) _).setCell (by simp) _⟩
  have HF := hid F
  clear F bel rA rR bb r1 r2 LR
  go_wp2
  exact bodyPost_ret (v := .tuple #[.agg #[.slice none 0 0, .slice none 0 0], .bool false]) (by simp [results, Try.results96, go_sem, u0, u1]) rfl HF.out
 | true =>
  have HS := hid ok1
  clear ok1
  go_enter Try.func96, Try.ntmps96
  go_wp2_with fail
  rw [← HW.out]
  refine L1.out.mono ?_
  rintro e w1 ⟨he, bb⟩
  rw [HS.out] at he
  subst he
  replace rA := rA.next bb
  replace rR := rR.next bb
  replace bel := next_trans bel bb
  have cR : w1.cell? ⟨w.heap.size, 1, none⟩ = some (.slice V m cv) := rA.cell 1
  clear bb L1
  by_cases h12 : m ≤ 12
  ·have H0 : Hid (HeadSO w 51 114 #[.slice A n c, .slice V m cv] #[.slice none 0 0, .slice none 0 0] m (ruleOkB d.1) d.2 (.int .i64 0) w1) := hid ⟨0, Nat.zero_le _, rfl, fun j hj => absurd hj (Nat.not_lt_zero _), rA, rR, bel⟩
   clear rA rR bel
   go_wp2_with fail
   go_loopw [20] (fun i wr => HeadSO w 51 114 #[.slice A n c, .slice V m cv] #[.slice none 0 0, .slice none 0 0] m (ruleOkB d.1) d.2 i wr) (fun i _ => m - (intOf i).toNat)
   case atStart => exact H0.out
   case round =>
    obtain ⟨k, hk, rfl, hlow, rr, rs, hb⟩ := hrel
    have HLOW := hid hlow
    clear hlow H0 cR
    have cA0 : wr.cell? ⟨w.heap.size, 0, none⟩ = some (.slice A n c) := rr.cell 0
    have cA1 : wr.cell? ⟨w.heap.size, 1, none⟩ = some (.slice V m cv) := rr.cell 1
    by_cases hlt : k < m
    ·obtain ⟨b, off, l, r, x, rfl, hbB, ex, hc0, hc1, hx⟩ := rd_at HR.out hb HM.out hlt
     have hzx : sz sRule x ≤ 1048576 := by have := HE.out k hlt; rw [ex.out] at this; exact this
     obtain ⟨A1, n1, c1, A2, n2, c2, rfl, rfl, s1, k1, s2, k2, hn1, hn2⟩ := rd_rule hx hzx
     obtain ⟨w2, hw2⟩ : ∃ x, x = wr.alloc (.cells #[.slice A1 n1 c1, .slice A2 n2 c2] 85) := ⟨_, rfl⟩
     have bb : Below wr.heap.size wr w2 := by rw [hw2]; exact (Below.refl _ _).alloc (Nat.le_refl _) _
     have rx : Row w2 wr.heap.size 85 #[.slice A1 n1 c1, .slice A2 n2 c2] := by rw [hw2]; exact Row.new wr 85 #[.slice A1 n1 c1, .slice A2 n2 c2]
     have rr2 := rr.next bb
     have rs2 := rs.next bb
     have hb2 := next_trans hb bb
     have L := hid (LR.out w2 (.slice A1 n1 c1) (.slice A2 n2 c2) x hb2 ((hx.more hb.size).next bb) hzx)
     have x0 : w2.cell? ⟨wr.heap.size, 0, none⟩ = some (.slice A1 n1 c1) := rx.cell 0
     have x1 : w2.cell? ⟨wr.heap.size, 1, none⟩ = some (.slice A2 n2 c2) := rx.cell 1
     have x2 : w2.cell? ⟨w.heap.size, 0, none⟩ = some (.slice A n c) := rr2.cell 0
     have X0 := x0
     have X1 := x1
     have X2 := x2
     rw [hw2] at X0 X1 X2
     have HW2 := hid hw2
     have i0 : (0 : Int) ≤ (k : Int) := by omega
     have i1 : (k : Int) < (m : Int) := by omega
     clear hx hzx s1 s2 k1 k2 rr rs hb bb rx hw2
     go_wp2_with fail
     rw [← HW2.out]
     refine L.out.mono ?_
     cases ok : ruleOkB d.1 x with
     | false =>
      have HO := hid ok
      clear ok
      rintro e w3 ⟨he, bb⟩
      subst he
      have rR := rs2.next bb
      have bel := next_trans hb2 bb
      have y0 : w3.cell? ⟨w.heap.size + 1, 0, none⟩ = some (.slice none 0 0) := rR.cell 0
      have y1 : w3.cell? ⟨w.heap.size + 1, 1, none⟩ = some (.slice none 0 0) := rR.cell 1
      have f0 := rR.free 0
      have f1 := rR.free 1
      have r1 := rR.put 0 (.slice none 0 0)
      have y2 : (w3.setCell ⟨w.heap.size + 1, 0, none⟩ (.slice none 0 0)).cell? ⟨w.heap.size + 1, 1, none⟩ = some (.slice none 0 0) := r1.cell 1
      have f2 := r1.free 1
      have r2 := r1.put 1 (.slice none 0 0)
      have u0 : ((w3.setCell ⟨w.heap.size + 1, 0, none⟩ (.slice none 0 0)).setCell ⟨w.heap.size + 1, 1, none⟩ (.slice none 0 0)).cell? ⟨w.heap.size + 1, 0, none⟩ = some (.slice none 0 0) := r2.cell 0
      have u1 : ((w3.setCell ⟨w.heap.size + 1, 0, none⟩ (.slice none 0 0)).setCell ⟨w.heap.size + 1, 1, none⟩ (.slice none 0 0)).cell? ⟨w.heap.size + 1, 1, none⟩ = some (.slice none 0 0) := r2.cell 1
      have F : AnsSys w (.slice A n c) (.slice (some ⟨b, off, none⟩) m cv) (sysOkB d.1 d.2) (.returned (.tuple #[.agg #[.slice none 0 0, .slice none 0 0], .bool false])) ((w3.setCell ⟨w.heap.size + 1, 0, none⟩ (.slice none 0 0)).setCell ⟨w.heap.size + 1, 1, none⟩ (.slice none 0 0)) :=
       ⟨by rw [sys_bad (k := k) (by rw [HM.out]; exact hlt) (by rw [ex.out]; exact HO.out)]; rfl, (bel.setCell (by simp) _).setCell (by simp) _⟩
      have HF := hid F
      clear F bel rR bb r1 r2 LR rr2 rs2 hb2 x0 x1 x2 X0 X1 X2 cA0 cA1 hc0 hc1 L
      go_wp2
      exact bodyPost_ret (v := .tuple #[.agg #[.slice none 0 0, .slice none 0 0], .bool false]) (by simp [results, Try.results96, go_sem, u0, u1]) rfl HF.out
     | true =>
      have HO := hid ok
      clear ok
      rintro e w3 ⟨he, bb⟩
      subst he
      have F := hid (headSO_step (f := ruleOkB d.1) (w := w) hlt HLOW.out ex HO.out (rr2.next bb) (rs2.next bb) (next_trans hb2 bb))
      clear bb rr2 rs2 hb2 L x0 x1 x2 X0 X1 X2 cA0 cA1 hc0 hc1
      go_wp2
      go_roundw
      case rel => exact F.out
      case measure => simp [intOf]; omega
    ·have OK := hid (show sysOkB d.1 d.2 = true from sys_good HS.out (by rw [HM.out]; exact h12) (fun j hj => HLOW.out j (by rw [HM.out] at hj; omega)))
     have y0 : wr.cell? ⟨w.heap.size + 1, 0, none⟩ = some (.slice none 0 0) := rs.cell 0
     have f0 := rs.free 0
     have r1 := rs.put 0 (.slice A n c)
     have y2 : (wr.setCell ⟨w.heap.size + 1, 0, none⟩ (.slice A n c)).cell? ⟨w.heap.size + 1, 1, none⟩ = some (.slice none 0 0) := r1.cell 1
     have f2 := r1.free 1
     have r2 := r1.put 1 (.slice V m cv)
     have u0 : ((wr.setCell ⟨w.heap.size + 1, 0, none⟩ (.slice A n c)).setCell ⟨w.heap.size + 1, 1, none⟩ (.slice V m cv)).cell? ⟨w.heap.size + 1, 0, none⟩ = some (.slice A n c) := r2.cell 0
     have u1 : ((wr.setCell ⟨w.heap.size + 1, 0, none⟩ (.slice A n c)).setCell ⟨w.heap.size + 1, 1, none⟩ (.slice V m cv)).cell? ⟨w.heap.size + 1, 1, none⟩ = some (.slice V m cv) := r2.cell 1
     have F : AnsSys w (.slice A n c) (.slice V m cv) (sysOkB d.1 d.2) (.returned (.tuple #[.agg #[.slice A n c, .slice V m cv], .bool true])) ((wr.setCell ⟨w.heap.size + 1, 0, none⟩ (.slice A n c)).setCell ⟨w.heap.size + 1, 1, none⟩ (.slice V m cv)) :=
      ⟨by rw [OK.out]; rfl, (hb.setCell (by simp) _).setCell (by simp) _⟩
     have HF := hid F
     clear F hb rr rs r1 r2 LR
     go_wp2
     exact bodyPost_ret (v := .tuple #[.agg #[.slice A n c, .slice V m cv], .bool true]) (by simp [results, Try.results96, go_sem, u0, u1]) rfl HF.out
  ·have i1 : (12 : Int) < (m : Int) := by omega
   have y0 : w1.cell? ⟨w.heap.size + 1, 0, none⟩ = some (.slice none 0 0) := rR.cell 0
   have y1 : w1.cell? ⟨w.heap.size + 1, 1, none⟩ = some (.slice none 0 0) := rR.cell 1
   have f0 := rR.free 0
   have f1 := rR.free 1
   have r1 := rR.put 0 (.slice none 0 0)
   have y2 : (w1.setCell ⟨w.heap.size + 1, 0, none⟩ (.slice none 0 0)).cell? ⟨w.heap.size + 1, 1, none⟩ = some (.slice none 0 0) := r1.cell 1
   have f2 := r1.free 1
   have r2 := r1.put 1 (.slice none 0 0)
   have u0 : ((w1.setCell ⟨w.heap.size + 1, 0, none⟩ (.slice none 0 0)).setCell ⟨w.heap.size + 1, 1, none⟩ (.slice none 0 0)).cell? ⟨w.heap.size + 1, 0, none⟩ = some (.slice none 0 0) := r2.cell 0
   have u1 : ((w1.setCell ⟨w.heap.size + 1, 0, none⟩ (.slice none 0 0)).setCell ⟨w.heap.size + 1, 1, none⟩ (.slice none 0 0)).cell? ⟨w.heap.size + 1, 1, none⟩ = some (.slice none 0 0) := r2.cell 1
   have F : AnsSys w (.slice A n c) (.slice V m cv) (sysOkB d.1 d.2) (.returned (.tuple #[.agg #[.slice none 0 0, .slice none 0 0], .bool false])) ((w1.setCell ⟨w.heap.size + 1, 0, none⟩ (.slice none 0 0)).setCell ⟨w.heap.size + 1, 1, none⟩ (.slice none 0 0)) :=
    ⟨by rw [sys_long HM.out h12]; rfl, (bel.setCell (by simp) _).setCell (by simp) _⟩
   have HF := hid F
   clear F bel rA rR r1 r2 LR
   go_wp2
   exact bodyPost_ret (v := .tuple #[.agg #[.slice none 0 0, .slice none 0 0], .bool false]) (by simp [results, Try.results96, go_sem, u0, u1]) rfl HF.out
end ruleImpl
end
section
namespace ruleImpl
open Go.RowKit base ints sig term termOk marks app appAt sym segs termFacts varsMath varsOf rename same count linear shape kindsR ruleMath ruleSpec anyR
set_option maxRecDepth 100000
theorem sz_mem {rs : List Rl} {x : Rl} (h : sz sRuleS rs ≤ 1048576) (hx : x ∈ rs) : sz sRule x ≤ 1048576 := by
 obtain ⟨i, hi, rfl⟩ := List.getElem_of_mem hx
 have := sz_each h hi
 have e : rs.getD i (dft sRule) = rs[i] := by simp [List.getD, hi]
 rw [e] at this; exact this
theorem tests_next {g : Nat} {fa lb : Array Value} {w w' : World} {rs : List Rl} {f : Rl → Bool} (h : TestsRule g fa lb w rs f) (hb : Below w.heap.size w w') : TestsRule g fa lb w' rs f := fun W l r x hW hx hr => h W l r x (next_trans hb hW) hx hr
theorem makeFn : ∀ (fn : Fn) (first cap : Array Value) (w : World), (Instr.makeFunc fn first cap).run Try.prog w = .ok (.func fn first cap) w := fun _ _ _ _ => rfl
set_option maxHeartbeats 2000000 in
theorem some_ (g : Nat) (fa lb : Array Value) (eg : ∀ args w, (callFunc g args).run Try.prog w = .ok (.enter g args) w) (f : Rl → Bool) (a v : Value) (d : Dat sSystem) (w : World) (hT : TestsRule g fa lb w d.2 f) (h : Rd w w.heap.size sSystem [a, v] d) (hz : sz sSystem d ≤ 1048576) :
  Calls Try.prog 97 #[.agg #[a, v], .func (.func g) fa lb] w (AnsB w (d.2.any f)) := by
 have hv := (parts_System h).2
 obtain ⟨A, n, c, V, m, cv, rfl, rfl, hs, hc, hcv, hm, hn, hm1, hrs, hsg, hE⟩ := rd_sys h hz
 obtain ⟨W, hW, rA, bel⟩ := box1 w 114 #[.slice A n c, .slice V m cv]
 have HW := Lib.hid hW
 have L := Lib.hid (containsFuncRule g fa lb eg f V m cv d.2 W (tests_next hT bel) (hv.next bel) hm hm1)
 clear hW h hz hT hs hc hcv hm hrs hsg hE hv
 go_enter Try.func97, Try.ntmps97
 go_wp2_with fail
 rw [← HW.out]
 refine L.out.mono ?_
 rintro e w1 ⟨rfl, bb⟩
 have F := Lib.hid (next_trans bel bb)
 clear bel bb rA L
 generalize List.any d.2 f = z at *
 go_wp2
 go_ret
 exact ⟨rfl, F.out⟩
end ruleImpl
end
section
namespace ruleImpl
open Go.RowKit base ints sig term termOk marks app appAt sym segs termFacts varsMath varsOf rename same count linear shape kindsR ruleMath ruleSpec anyR
set_option maxRecDepth 100000
end ruleImpl
end
section
namespace ruleSpec
open Go.RowKit base ints sig term termOk marks app sym segs termFacts varsMath varsOf rename renMath same count linear shape kindsR ruleMath appAt kinds
set_option maxRecDepth 100000
end ruleSpec
end
end Go.Proofs.Ytiimbmkofpnebaa
