/-
  MERGED: my texts ByMath, OrderLaw, OrderSpecB, PickSpec, WalkSpec, HeldT, WalkSpecB, WalkSpecC, BySpec, WalkSpecD, WalkX2, BySpecB, ByX, TabR, Whole, TakeMath, Take, one behind the other, as they are. By an AI agent.
-/
import Derived.Test.YtblhmplpcdcejaaMFnExactNormalBy4
import Derived.Deep.QuietTactic
import Derived.BigQuiet
import Derived.OrdersHeld
import Derived.Deep.RegionHeld
import Derived.Laws.Rows
import Derived.Laws.ResultCell
import Derived.Deep.RegionHeld3
namespace Go.Proofs.Ytblhmplpcdcejaa
section
namespace orderMath
open sig term termOk termFacts ruleMath stepMath walkMath stepsMath
section
variable {E : Int → Int} {l : List Int}
theorem out_first (h0 : ∀ x ∈ l, 0 ≤ x) : ∀ i, 1 ≤ i → i ≤ l.length → (outN E l i).1.head? = l.head?
 | 1, _, h => by
  cases l with
  | nil => simp at h
  | cons y r => rw [out_yes (by show (0 : Int) ≤ _; exact h0 _ (List.mem_cons_self ..))]; rfl
 | i + 2, _, h => by
  have ih := out_first h0 (i + 1) (by omega) (by omega)
  by_cases hh : (outN E l (i + 1)).2 ≤ l.getD (i + 1) 0
  ·rw [out_yes hh, ← ih]
   cases he : (outN E l (i + 1)).1 with
   | nil =>
    rw [he] at ih
    cases l with
    | nil => simp at h
    | cons y r => cases ih
   | cons y r => rfl
  ·rw [out_no hh, ih]
theorem out_head (h0 : ∀ x ∈ l, 0 ≤ x) : (outL E l).head? = l.head? := by
 unfold outL
 cases l with
 | nil => rfl
 | cons y r => exact out_first h0 _ (by simp) (Nat.le_refl _)
end
section
variable {sg : List Int} {rs : List Rl} {t : List Int}
theorem placesI_mem {x : Int} (h : x ∈ placesI sg rs t) : rightB sg rs t = true ∧ ∃ a : Nat, a < t.length ∧ hasR sg rs t a = true ∧ x = (a : Int) := by
 unfold placesI at h
 split at h
 ·exact ⟨by assumption, pl_mem.1 h⟩
 ·cases h
theorem placesI_nonneg {x : Int} (h : x ∈ placesI sg rs t) : 0 ≤ x := by
 obtain ⟨-, a, -, -, rfl⟩ := placesI_mem h
 omega
theorem outI_head : (outmostI sg rs t).head? = (placesI sg rs t).head? := out_head fun x hx => placesI_nonneg hx
end
def Gone (sg : List Int) (rs : List Rl) (s : Int) (F : Nat) (t : List Int) (i : Nat) (L : List St) (u : List Int) : Prop := runS sg rs s F t = L ++ runS sg rs s (F - i) u ∧ L.length = i ∧ u = endL (t, L) ∧ rightB sg rs u = true ∧ i ≤ F
section
variable {sg : List Int} {rs : List Rl} {s : Int} {F i : Nat} {t u v : List Int} {L : List St}
theorem gone_zero (h : rightB sg rs t = true) : Gone sg rs s F t 0 [] t := ⟨rfl, rfl, rfl, h, Nat.zero_le _⟩
theorem right_step {p : Int × Int} (h : rightB sg rs u = true) (hs : stepAtO sg rs u p.1 p.2 = some v) : rightB sg rs v = true := by
 unfold rightB at h ⊢
 rw [Bool.and_eq_true] at h ⊢
 exact ⟨h.1, stepAt_ok hs⟩
theorem gone_step {p : Int × Int} (h : Gone sg rs s F t i L u) (hi : i < F) (hp : pickL sg rs u s = some p) (hs : stepAtO sg rs u p.1 p.2 = some v) : Gone sg rs s F t (i + 1) (L ++ [(p.1, p.2, v)]) v := by
 obtain ⟨h1, h2, h3, h4, h5⟩ := h
 refine ⟨?_, by rw [List.length_append, h2]; rfl, (end_snoc L p.1 p.2 v).symm, right_step h4 hs, hi⟩
 obtain ⟨g, hg⟩ : ∃ g, F - i = g + 1 := ⟨F - i - 1, by omega⟩
 have hg2 : F - (i + 1) = g := by omega
 rw [h1, hg, run_go hp hs, hg2, List.append_assoc]
 rfl
theorem gone_full (h : Gone sg rs s F t i L u) (hi : ¬ i < F) : runS sg rs s F t = L := by
 have : F - i = 0 := by omega
 rw [h.1, this]
 exact List.append_nil L
theorem gone_none (h : Gone sg rs s F t i L u) (hp : pickL sg rs u s = none) : runS sg rs s F t = L := by rw [h.1, run_none hp, List.append_nil]
theorem gone_stop {p : Int × Int} (h : Gone sg rs s F t i L u) (hp : pickL sg rs u s = some p) (hs : stepAtO sg rs u p.1 p.2 = none) : runS sg rs s F t = L := by rw [h.1, run_stop hp hs, List.append_nil]
theorem by_done (hR : runS sg rs s F t = L) (hu : u = endL (t, L)) (hb : byB sg rs t s (F : Int) = true) : byW sg rs t s (F : Int) = (t, L) ∧ byD sg rs t s (F : Int) = normalB sg rs u := by
 unfold byD byW
 rw [hb, if_pos rfl, Int.toNat_natCast, hR, ← hu, Bool.true_and]
 exact ⟨rfl, rfl⟩
theorem by_off {f : Int} (h : byB sg rs t s f = false) : byW sg rs t s f = ([], []) ∧ byD sg rs t s f = false := by
 unfold byD byW
 rw [h, if_neg (by simp), Bool.false_and]
 exact ⟨rfl, rfl⟩
theorem by_no1 {f : Int} (h : (rightB sg rs t && stratB s) = false) : byB sg rs t s f = false := by
 unfold byB
 rw [← Bool.and_assoc, h]
 rfl
theorem by_no2 {f : Int} (h : fuelB f = false) : byB sg rs t s f = false := by unfold byB; rw [h, Bool.and_false, Bool.and_false]
theorem by_yes {f : Int} (h : (rightB sg rs t && stratB s) = true) (h2 : fuelB f = true) : byB sg rs t s f = true := by
 unfold byB
 rw [← Bool.and_assoc, h, h2]
 rfl
theorem pick_step {p : Int × Int} (hr : rightB sg rs u = true) (h : pickL sg rs u s = some p) : ∃ a k : Nat, p = ((a : Int), (k : Int)) ∧ a < u.length ∧ k < rs.length ∧ redB sg (rs.getD k ([], [])) u a = true ∧ (∀ j, j < k → redB sg (rs.getD j ([], [])) u a = false) ∧ stepAtO sg rs u p.1 p.2 = stepO sg (rs.getD k ([], [])) u a := by
 obtain ⟨a, k, rfl, ha, hk, h1, h2⟩ := pick_some h
 refine ⟨a, k, rfl, ha, hk, h1, h2, ?_⟩
 unfold rightB at hr
 rw [Bool.and_eq_true] at hr
 unfold stepAtO
 rw [if_pos (there_mk hr.1 hr.2 (by omega) (by omega))]
 unfold rl
 rw [Int.toNat_natCast, Int.toNat_natCast]
theorem normal_pick (hr : rightB sg rs u = true) : normalB sg rs u = (pickL sg rs u s).isNone := by
 rw [places_empty hr]
 cases h : pickL sg rs u s with
 | none => rw [pick_none.1 h]; rfl
 | some p =>
  have : placesL sg rs u ≠ [] := fun e => by rw [pick_none.2 e] at h; cases h
  rw [decide_eq_false this]
  rfl
end
section
variable {sg : List Int} {rs : List Rl} {t : List Int}
theorem by_walk {s f : Int} (h : byB sg rs t s f = true) : walkB sg rs (byW sg rs t s f) = true := by
 have h0 := h
 unfold byB at h
 rw [Bool.and_eq_true, Bool.and_eq_true] at h
 obtain ⟨hr, hs, hf⟩ := h
 unfold fuelB at hf
 rw [decide_eq_true_iff] at hf
 unfold rightB at hr
 rw [Bool.and_eq_true] at hr
 unfold byW
 rw [if_pos h0]
 exact walk_mk hr.1 hr.2 (Nat.le_trans (run_len _ _ _ _ _) (by omega)) run_walk
end
end orderMath
end
section
namespace orderMath
open sig term termOk termFacts endAt posMath inside ruleMath stepMath walkMath stepsMath
theorem get_lt {l : List Int} {i : Nat} (h : i < l.length) : l.getD i 0 = l[i] := by rw [List.getD_eq_getElem?_getD, List.getElem?_eq_getElem h, Option.getD_some]
theorem mem_get {l : List Int} {x : Int} (h : x ∈ l) : ∃ i, i < l.length ∧ l.getD i 0 = x := by
 obtain ⟨i, hi, e⟩ := List.mem_iff_getElem.1 h
 exact ⟨i, hi, by rw [get_lt hi, e]⟩
section
variable {E : Int → Int} {l : List Int}
end
section
variable {sg : List Int} {rs : List Rl} {t : List Int}
theorem right_ok (h : rightB sg rs t = true) : termOkB sg t = true := by
 unfold rightB at h
 rw [Bool.and_eq_true] at h
 exact h.2
theorem endR_at (h : termOkB sg t = true) {a : Nat} (ha : a < t.length) : endR sg t (a : Int) = ((a + len1 sg t a : Nat) : Int) := by unfold endR; rw [Int.toNat_natCast]; exact end_at h ha
end
end orderMath
end
section
open Go.Lib (hid)
namespace orderSpec
open Go.RowKit base ints sig term termOk endAt endOf marks app sym sub segs segsHelp kinds termFacts shifted matchMath matchSpec shape kindsR kindsW ruleMath ruleSpec stepMath walkMath stepsMath varsOf stepSpec orderMath appAt
set_option maxRecDepth 100000
theorem ownLt {w : World} {base : Nat} {A : Option Addr} {n c : Nat} {xs : List Int} (h : Own w base (.slice A n c) xs) : ∀ k, blk A = some k → base ≤ k ∧ k < w.heap.size := fun k hk => World.ownsRow.lt h k (by rw [blk_own]; exact hk)
structure Lq (w : World) (a v : Value) (A : Option Addr) (n c : Nat) (all : List Int) (O : Option Addr) (on oc : Nat) (L : List Int) (wr : World) : Prop where
 t : Lo w a v O on oc L wr
 s : Own wr (w.heap.size + 1) (.slice A n c) all
 ne : ∀ k, blk A = some k → blk O ≠ some k
section
variable {w wr w' : World} {a v : Value} {A O : Option Addr} {n c on oc : Nat} {all L : List Int}
theorem Lq.next (h : Lq w a v A n c all O on oc L wr) (hb : Below wr.heap.size wr w') : Lq w a v A n c all O on oc L w' := ⟨h.t.next hb, Own.next h.s hb, h.ne⟩
theorem Lq.app {O' : Option Addr} {oc' : Nat} {y : Int} {o : Obj} (h : Lq w a v A n c all O on oc L wr) (ho : Own w' (w.heap.size + 1) (.slice O' (on + 1) oc') (L ++ [y])) (hg : (wr.alloc o).grownBy w' (blk O)) (hat : blk O' = blk O ∨ blk O' = some (wr.alloc o).heap.size) : Lq w a v A n c all O' (on + 1) oc' (L ++ [y]) w' := by
 have z1 : w.heap.size < wr.heap.size := h.t.r.lt
 have hb : Below (w.heap.size + 1) wr w' := ((Below.refl (w.heap.size + 1) wr).alloc z1 o).trans ((Below.refl _ _).grown hg (by simp; omega) (fun k hk => (ownLt h.t.o k hk).1))
 refine ⟨h.t.over ho hb, Own.kept (Own.alloc h.s o) hg ?_, fun k hk e => ?_⟩
 ·cases hA : blk A with
  | none => exact .inl rfl
  | some k => exact .inr fun e => h.ne k hA e.symm
 ·rcases hat with hat | hat
  ·exact h.ne k hk (by rw [← hat]; exact e)
  ·rw [hat] at e
   injection e with e
   have := (ownLt h.s k hk).2
   simp at e
   omega
end
theorem mem_get {l : List Int} {k n : Nat} (hl : l.length = n) (hk : k < n) : l.getD k 0 ∈ l := by rw [List.getD_eq_getElem?_getD, List.getElem?_eq_getElem (by omega), Option.getD_some]; exact List.getElem_mem _
theorem place_at {sg : List Int} {rs : List Rl} {t : List Int} {k n : Nat} (hl : (placesI sg rs t).length = n) (hk : k < n) : ∃ p : Nat, (placesI sg rs t).getD k 0 = (p : Int) ∧ p < t.length ∧ termOkB sg t = true ∧ ∃ e : Nat, endR sg t (p : Int) = (e : Int) ∧ e ≤ 60 ∧ p < 60 := by
 obtain ⟨hr, p, hp, -, e⟩ := placesI_mem (mem_get hl hk)
 have ht := right_ok hr
 have h60 := (term_len ht).2
 refine ⟨p, e, hp, ht, p + len1 sg t p, endR_at ht hp, ?_, by omega⟩
 have := (posMath.term_at ht hp).2.2
 omega
theorem placesI_len {sg : List Int} {rs : List Rl} {t : List Int} : (placesI sg rs t).length ≤ 60 := by
 unfold placesI
 split
 ·rename_i h
  have h60 := (term_len (right_ok h)).2
  exact Nat.le_trans (pl_len _) h60
 ·exact Nat.zero_le _
theorem endOn {W : World} {A T : Option Addr} {n cs m c p : Nat} {sg t : List Int} (h : Seg W W.heap.size A n sg) (h' : Seg W W.heap.size T m t) (hn : n ≤ 1048576) (hm : m ≤ 1048576) (ht : termOkB sg t = true) (hp : p < t.length) :
  Calls Try.prog 87 #[.agg #[.slice A n cs], .slice T m c, .int .i64 (p : Int)] W fun e w' => e = .returned (.int .i64 (endR sg t (p : Int))) ∧ Below W.heap.size W w' := by
 have hl := h'.1
 refine (specEnd A T n cs m c sg t (p : Int) W h h' hn hm (sig_arities (termOk_parts ht).1).1 (by omega) (by omega)).mono ?_
 rintro e w' ⟨he, hb⟩
 exact ⟨he, hb⟩
set_option maxHeartbeats 4000000 in
theorem specInmostIn (a v u : Value) (d : Dat sSystem) (t : List Int) (w : World) (h : Rd w w.heap.size sSystem [a, v] d) (ht : Rd w w.heap.size sI [u] t) (hz : sz sSystem d ≤ 1048576) (hz' : sz sI t ≤ 1048576) :
  Calls Try.prog 63 #[.agg #[a, v], u] w (AnsList w (inmostI d.1 d.2 t)) := by
 have htv := ht
 have h0 := h
 obtain ⟨T, m, c, rfl, hT, hcT⟩ := rd_ints.1 ht
 obtain ⟨A0, n0, cs0, V, q, cv, rfl, rfl, hs, hc, hcv, hq, hn, hq1, hrs, hsg, hE⟩ := rd_sys h hz
 have hm := len_ints hT.1 hz'
 obtain ⟨W, hW⟩ : ∃ W, W = (w.alloc (.cells #[.slice A0 n0 cs0, .slice V q cv] 34)).alloc (.cells #[] 2) := ⟨_, rfl⟩
 have T0 : Lo w (.slice A0 n0 cs0) (.slice V q cv) (some ⟨w.heap.size + 1, 0, none⟩) 0 0 [] W := by
  rw [hW]
  refine ⟨(Row.new _ _ _).alloc _, ?_, ((Below.refl _ _).alloc (Nat.le_refl _) _).alloc (by simp) _⟩
  have := own_empty (w.alloc (.cells #[.slice A0 n0 cs0, .slice V q cv] 34)) (w.heap.size + 1) (by simp)
  simpa using this
 have hzW : W.heap.size = w.heap.size + 2 := by rw [hW]; simp
 have LA := hid (specRedexesIn _ _ _ d t W (h0.next T0.b) (htv.next T0.b) hz hz')
 have LE := hid (fun (w1 : World) (bb : Below w.heap.size w w1) p hok (hp : p < t.length) => endOn (cs := cs0) (c := c) (hs.next bb) (hT.next bb) hn hm hok hp)
 have K0 : W.cell? ⟨w.heap.size, 0, none⟩ = some (.slice A0 n0 cs0) := T0.r.cell 0
 have K1 : W.cell? ⟨w.heap.size, 1, none⟩ = some (.slice V q cv) := T0.r.cell 1
 have HW := hid hW
 have H0 := hid T0
 have HZW := hid hzW
 clear hW h h0 ht htv hT hcT T0 hs hc hcv hq hrs hsg hE hzW
 go_enter Try.func63, Try.ntmps63
 go_wp2_with fail
 rw [← HW.out]
 go_wp2_with fail
 refine LA.out.mono ?_
 rintro e w1 ⟨A, n, cA, rfl, oA, bb⟩
 have hnl : (placesI d.1 d.2 t).length = n := (Own.len oA).symm
 have hn60 : n ≤ 60 := by rw [← hnl]; exact placesI_len
 have HNL := hid hnl
 have H1 := hid (show Lq w (.slice A0 n0 cs0) (.slice V q cv) A n cA (placesI d.1 d.2 t) (some ⟨w.heap.size + 1, 0, none⟩) 0 0 [] w1 from
  ⟨H0.out.next bb, Own.lower oA (by rw [HZW.out]; omega), fun k hk e => by
   have h1 := (ownLt oA k hk).1
   rw [HZW.out] at h1
   injection e with e
   have e : w.heap.size + 1 = k := e
   omega⟩)
 clear oA bb H0 K0 K1 HW LA hnl HZW
 go_wp2_with fail
 go_loopg [5, 7] n (fun g out i_ wr => ∃ (i on oc : Nat) (O : Option Addr), i_ = .int .i64 i ∧ i + g = n ∧ out = .slice O on oc ∧ on ≤ i ∧ Lq w (.slice A0 n0 cs0) (.slice V q cv) A n cA (placesI d.1 d.2 t) O on oc (inN (endR d.1 t) (placesI d.1 d.2 t) i) wr)
 case atStart => exact ⟨0, 0, 0, _, rfl, by omega, rfl, Nat.le_refl _, H1.out⟩
 case round =>
  clear H1
  obtain ⟨i, on, oc, O, rfl, hig, rfl, hon, S⟩ := hrel
  have HI := hid hig
  have HS := hid S
  have K0 : wr.cell? ⟨w.heap.size, 0, none⟩ = some (.slice A0 n0 cs0) := S.t.r.cell 0
  have K1 : wr.cell? ⟨w.heap.size, 1, none⟩ = some (.slice V q cv) := S.t.r.cell 1
  by_cases hi : i < n
  ·have h1 : (i : Int) < (n : Int) := by omega
   have h2 : (0 : Int) ≤ (i : Int) := by omega
   obtain ⟨b, off, eA, hbl, ci⟩ := (Own.seg S.s).round hi
   subst eA
   obtain ⟨p, hp, hpt, htok, e, he, he60, hp60⟩ := place_at HNL.out hi
   rw [hp] at ci
   have HP := hid hp
   have HEE := hid he
   have LE1 := hid (fun w1 bb => LE.out w1 bb p htok hpt)
   have zA : w.heap.size < wr.heap.size := S.t.r.lt
   have bel := hid S.t.b
   clear S hp he hpt htok hig LE
   obtain ⟨y, hy⟩ : ∃ y, (placesI d.1 d.2 t).getD (i + 1) 0 = y := ⟨_, rfl⟩
   have HY := hid hy
   have hcn : i + 1 < n → wr.cell? ⟨b, off + (i + 1), none⟩ = some (.int .i64 y) := fun hlt => by
    obtain ⟨b', off', e1, -, c1⟩ := (Own.seg HS.out.s).round hlt
    injection e1 with e1
    injection e1 with e1 e2
    subst e1 e2
    rw [hy] at c1
    exact c1
   have HCN := hid hcn
   have zB : b < wr.heap.size := hbl
   clear hy hcn
   go_wp2_with fail
   go_region_held3 (fun w' => w'.cell? ⟨w.heap.size, 0, none⟩ = some (.slice A0 n0 cs0) ∧ w'.cell? ⟨b, off + i, none⟩ = some (.int .i64 (p : Int)))
    (go_keep)
    (first
     | (go_at_call 87; refine (LE1.out _ bel.out.drew).mono ?_; rintro e w2 ⟨rfl, bb⟩; rw [HEE.out]; have k0 : w2.cell? ⟨w.heap.size, 0, none⟩ = some (.slice A0 n0 cs0) := (bb.cell (p := ⟨w.heap.size, 0, none⟩) zA).trans K0; have ci2 : w2.cell? ⟨b, off + i, none⟩ = some (.int .i64 (p : Int)) := (bb.cell (p := ⟨b, off + i, none⟩) zB).trans ci))
   have S2 := hid ((HS.out.next (drew_below wr)).next bb)
   have hcn2 : i + 1 < n → w2.cell? ⟨b, off + (i + 1), none⟩ = some (.int .i64 y) := fun hlt => (bb.cell (p := ⟨b, off + (i + 1), none⟩) zB).trans (HCN.out hlt)
   clear K0 K1 ci HCN bb HS bel LE1
   by_cases hl : i + 1 = n
   ·have q1 : (i : Int) + 1 = (n : Int) := by omega
    have HC := hid (show i + 1 = (placesI d.1 d.2 t).length ∨ endR d.1 t ((placesI d.1 d.2 t).getD i 0) ≤ (placesI d.1 d.2 t).getD (i + 1) 0 from .inl (by rw [HNL.out]; exact hl))
    have ho : Own w2 (w.heap.size + 1) (.slice O on oc) (inN (endR d.1 t) (placesI d.1 d.2 t) i) := S2.out.t.o
    have hsz : w.heap.size < w2.heap.size := S2.out.t.r.lt
    go_wp2_with (at_builtin; refine app1Q rfl _ _ rfl (w.heap.size + 1) O on oc _ rfl (Own.alloc ho _) w2.heap.size 1 (p : Int) rfl ((Row.new _ _ _).cell 0) (by omega) (by simp; omega) ?_; intro O' oc' w4 ho4 hg4 hat4)
    have F := hid (show Lq w (.slice A0 n0 cs0) (.slice V q cv) (some ⟨b, off, none⟩) n cA (placesI d.1 d.2 t) O' (on + 1) oc' (inN (endR d.1 t) (placesI d.1 d.2 t) (i + 1)) w4 from by rw [in_yes HC.out, HP.out]; exact S2.out.app ho4 hg4 hat4)
    clear ho4 hg4 hat4 ho S2 HC
    go_wp2
    go_roundg (gk - 1)
    case measure => have := HI.out; omega
    case rel => exact ⟨i + 1, on + 1, oc', O', by (first | (simp; done) | (simp; omega)), by have := HI.out; omega, rfl, by omega, F.out⟩
   ·have q1 : ¬ (i : Int) + 1 = (n : Int) := by omega
    have q2 : (i : Int) + 1 < (n : Int) := by omega
    have q3 : (0 : Int) ≤ (i : Int) + 1 := by omega
    have cy := hcn2 (by omega)
    by_cases hye : (e : Int) ≤ y
    ·have HC := hid (show i + 1 = (placesI d.1 d.2 t).length ∨ endR d.1 t ((placesI d.1 d.2 t).getD i 0) ≤ (placesI d.1 d.2 t).getD (i + 1) 0 from .inr (by rw [HP.out, HEE.out, HY.out]; exact hye))
     have ho : Own w2 (w.heap.size + 1) (.slice O on oc) (inN (endR d.1 t) (placesI d.1 d.2 t) i) := S2.out.t.o
     have hsz : w.heap.size < w2.heap.size := S2.out.t.r.lt
     go_wp2_with (at_builtin; refine app1Q rfl _ _ rfl (w.heap.size + 1) O on oc _ rfl (Own.alloc ho _) w2.heap.size 1 (p : Int) rfl ((Row.new _ _ _).cell 0) (by omega) (by simp; omega) ?_; intro O' oc' w4 ho4 hg4 hat4)
     have F := hid (show Lq w (.slice A0 n0 cs0) (.slice V q cv) (some ⟨b, off, none⟩) n cA (placesI d.1 d.2 t) O' (on + 1) oc' (inN (endR d.1 t) (placesI d.1 d.2 t) (i + 1)) w4 from by rw [in_yes HC.out, HP.out]; exact S2.out.app ho4 hg4 hat4)
     clear ho4 hg4 hat4 ho S2 HC
     go_wp2
     go_roundg (gk - 1)
     case measure => have := HI.out; omega
     case rel => exact ⟨i + 1, on + 1, oc', O', by (first | (simp; done) | (simp; omega)), by have := HI.out; omega, rfl, by omega, F.out⟩
    ·have HC := hid (show ¬ (i + 1 = (placesI d.1 d.2 t).length ∨ endR d.1 t ((placesI d.1 d.2 t).getD i 0) ≤ (placesI d.1 d.2 t).getD (i + 1) 0) from by rw [HNL.out, HP.out, HEE.out, HY.out]; omega)
     have F := hid (show Lq w (.slice A0 n0 cs0) (.slice V q cv) (some ⟨b, off, none⟩) n cA (placesI d.1 d.2 t) O on oc (inN (endR d.1 t) (placesI d.1 d.2 t) (i + 1)) w2 from by rw [in_no HC.out]; exact S2.out)
     clear S2 HC
     go_wp2
     go_roundg (gk - 1)
     case measure => have := HI.out; omega
     case rel => exact ⟨i + 1, on, oc, O, by simp, by have := HI.out; omega, rfl, by omega, F.out⟩
  ·have e1 : i = n := by have := HI.out; omega
   subst e1
   have h1 : ¬ (i : Int) < (i : Int) := by omega
   have F := hid (HS.out.t.list (show _ = inmostI d.1 d.2 t by unfold inmostI inL; rw [HNL.out]))
   clear HS LE K0 K1 S
   go_wp2
   go_ret
   exact F.out
theorem seg_cell {w : World} {B b off n i : Nat} {L : List Int} {p : Int} (h : Seg w B (some ⟨b, off, none⟩) n L) (hi : i < n) (hp : L.getD i 0 = p) : w.cell? ⟨b, off + i, none⟩ = some (.int .i64 p) := by
 obtain ⟨b', off', e1, -, c1⟩ := h.round hi
 injection e1 with e1
 injection e1 with e1 e2
 subst e1 e2
 rw [hp] at c1
 exact c1
end orderSpec
end
section
open Go.Lib (hid)
namespace orderSpec
open Go.RowKit base ints sig term termOk endAt endOf marks app sym sub segs segsHelp kinds termFacts shifted shape kindsR kindsW ruleMath ruleSpec stepMath walkMath stepsMath varsOf stepSpec orderMath appAt
set_option maxRecDepth 100000
def spL (sg : List Int) (rs : List Rl) (t : List Int) (s : Int) : List Int := if s = 1 then inmostI sg rs t else if s = 2 then placesI sg rs t else (placesI sg rs t).drop ((placesI sg rs t).length - 1)
theorem placesL_of {sg : List Int} {rs : List Rl} {t : List Int} (h : rightB sg rs t = true) : placesI sg rs t = placesL sg rs t := by unfold placesI; rw [if_pos h]
theorem last_head (l : List Int) : (l.drop (l.length - 1)).head? = l.reverse.head? := by
 rw [List.head?_reverse, List.head?_drop]
 cases l with
 | nil => rfl
 | cons x r => rw [List.getLast?_eq_getElem?]
theorem spL_head {sg : List Int} {rs : List Rl} {t : List Int} {s : Int} (h : rightB sg rs t = true) : (spL sg rs t s).head? = (selL sg rs t s).head? := by
 unfold spL selL inmostI
 rw [placesL_of h]
 split
 ·rfl
 ·split
  ·rfl
  ·exact last_head _
def AnsPick (w : World) (o : Option (Int × Int)) (e : Ending) (w' : World) : Prop := e = .returned (.tuple #[.int .i64 ((o.map (·.1)).getD 0), .int .i64 ((o.map (·.2)).getD 0), .bool o.isSome]) ∧ Below w.heap.size w w'
theorem ansPick_none {w w' : World} {o : Option (Int × Int)} (h : o = none) (hb : Below w.heap.size w w') : AnsPick w o (.returned (.tuple #[.int .i64 0, .int .i64 0, .bool false])) w' := ⟨by rw [h]; rfl, hb⟩
theorem ansPick_some {w w' : World} {o : Option (Int × Int)} {a r : Int} (h : o = some (a, r)) (hb : Below w.heap.size w w') : AnsPick w o (.returned (.tuple #[.int .i64 a, .int .i64 r, .bool true])) w' := ⟨by rw [h]; rfl, hb⟩
theorem pickO_no {sg : List Int} {rs : List Rl} {t : List Int} {s : Int} (h : (rightB sg rs t && stratB s) = false) : pickO sg rs t s = none := by
 unfold pickO
 rw [if_neg]
 rw [Bool.and_eq_false_iff] at h
 rintro ⟨h1, h2⟩
 rcases h with h | h
 ·rw [h1] at h; cases h
 ·rw [h2] at h; cases h
theorem pickO_yes {sg : List Int} {rs : List Rl} {t : List Int} {s : Int} (h1 : rightB sg rs t = true) (h2 : stratB s = true) : pickO sg rs t s = pickL sg rs t s := by unfold pickO; rw [if_pos ⟨h1, h2⟩]
theorem pickL_nil {sg : List Int} {rs : List Rl} {t : List Int} {s : Int} (h : (selL sg rs t s).head? = none) : pickL sg rs t s = none := by unfold pickL; rw [h]; rfl
theorem pickL_at {sg : List Int} {rs : List Rl} {t : List Int} {s x : Int} (h : (selL sg rs t s).head? = some x) : pickL sg rs t s = some (x, ruleF sg rs t x.toNat) := by unfold pickL; rw [h]; rfl
theorem sel_at {sg : List Int} {rs : List Rl} {t : List Int} {s x : Int} (h : (selL sg rs t s).head? = some x) : ∃ a : Nat, x = (a : Int) ∧ a < t.length := by
 have h1 : x ∈ selL sg rs t s := List.mem_of_head? h
 obtain ⟨a, ha, -, e⟩ := pl_mem.1 (show x ∈ plN sg rs t t.length from sel_mem h1)
 exact ⟨a, e, ha⟩
set_option maxHeartbeats 2000000 in
theorem l8Right (a v u : Value) (d : Dat sSystem) (t : List Int) (s : Int) (w : World) (h : Rd w w.heap.size sSystem [a, v] d) (ht : Rd w w.heap.size sI [u] t) (hz : sz sSystem d ≤ 1048576) (hz' : sz sI t ≤ 1048576) :
  Calls Try.prog 34 #[.agg #[a, v], u, .int .i64 s] w (AnsB w (rightB d.1 d.2 t && stratB s)) := by
 obtain ⟨T, m, c, rfl, hT, hcT⟩ := rd_ints.1 ht
 have hm := len_ints hT.1 hz'
 obtain ⟨W, hW, rA, bel⟩ := box1 w 34 #[a, v]
 have HW := hid hW
 have L1 := hid (l7Right a v d T m c t W (h.next bel) hz (hT.next bel) hm)
 clear hW h hz hT hcT ht
 cases ok : rightB d.1 d.2 t with
 | false =>
  have HS := hid ok
  clear ok
  go_enter Try.func34, Try.ntmps34
  go_wp2_with fail
  rw [← HW.out]
  refine L1.out.mono ?_
  rintro e w1 ⟨he, bb⟩
  rw [HS.out] at he
  subst he
  have F := hid (show AnsB w (false && stratB s) (.returned (.bool false)) w1 from ⟨rfl, next_trans bel bb⟩)
  clear bb bel rA
  go_wp2
  go_ret
  exact F.out
 | true =>
  have HS := hid ok
  clear ok
  by_cases hs : 1 ≤ s ∧ s ≤ 3
  ·have HB := hid (show stratB s = true from decide_eq_true hs)
   have hy := inYes s 1 3
   go_enter Try.func34, Try.ntmps34
   go_wp2_with fail
   rw [← HW.out]
   refine L1.out.mono ?_
   rintro e w1 ⟨he, bb⟩
   rw [HS.out] at he
   subst he
   have HY := hid (hy w1 hs)
   have F := hid (show AnsB w (true && stratB s) (.returned (.bool true)) w1 from ⟨by rw [HB.out]; rfl, next_trans bel bb⟩)
   clear bb bel rA hs hy
   go_wp2_with fail
   refine HY.out.mono ?_
   rintro e w2 ⟨rfl, rfl⟩
   go_wp2
   go_ret
   exact F.out
  ·have HB := hid (show stratB s = false from decide_eq_false hs)
   have hy := inNo s 1 3
   go_enter Try.func34, Try.ntmps34
   go_wp2_with fail
   rw [← HW.out]
   refine L1.out.mono ?_
   rintro e w1 ⟨he, bb⟩
   rw [HS.out] at he
   subst he
   have HY := hid (hy w1 hs)
   have F := hid (show AnsB w (true && stratB s) (.returned (.bool false)) w1 from ⟨by rw [HB.out]; rfl, next_trans bel bb⟩)
   clear bb bel rA hs hy
   go_wp2_with fail
   refine HY.out.mono ?_
   rintro e w2 ⟨rfl, rfl⟩
   go_wp2
   go_ret
   exact F.out
set_option maxHeartbeats 2000000 in
theorem l8Places (a v u : Value) (d : Dat sSystem) (t : List Int) (s : Int) (w : World) (h : Rd w w.heap.size sSystem [a, v] d) (ht : Rd w w.heap.size sI [u] t) (hz : sz sSystem d ≤ 1048576) (hz' : sz sI t ≤ 1048576) :
  Calls Try.prog 35 #[.agg #[a, v], u, .int .i64 s] w (AnsSeg w (spL d.1 d.2 t s)) := by
 obtain ⟨W, hW, rA, bel⟩ := box1 w 34 #[a, v]
 have HW := hid hW
 have LP := hid (specRedexesIn a v u d t W (h.next bel) (ht.next bel) hz hz')
 have LI := hid (specInmostIn a v u d t W (h.next bel) (ht.next bel) hz hz')
 have K0 : W.cell? ⟨w.heap.size, 0, none⟩ = some a := rA.cell 0
 have K1 : W.cell? ⟨w.heap.size, 1, none⟩ = some v := rA.cell 1
 obtain ⟨T, m, c, rfl, -, -⟩ := rd_ints.1 ht
 clear hW h hz ht
 by_cases h1 : s = 1
 ·subst h1
  clear LP
  go_enter Try.func35, Try.ntmps35
  go_wp2_with fail
  rw [← HW.out]
  go_wp2_with fail
  refine LI.out.mono ?_
  rintro e w1 ⟨O, on, oc, rfl, oO, bb⟩
  have F := hid (show AnsSeg w (spL d.1 d.2 t 1) (.returned (.slice O on oc)) w1 from ⟨O, on, oc, rfl, Own.seg oO, next_trans bel bb⟩)
  clear oO bb bel rA LI K0 K1
  go_wp2
  go_ret
  exact F.out
 ·by_cases h2 : s = 2
  ·subst h2
   clear LI
   go_enter Try.func35, Try.ntmps35
   go_wp2_with fail
   rw [← HW.out]
   go_wp2_with fail
   refine LP.out.mono ?_
   rintro e w1 ⟨O, on, oc, rfl, oO, bb⟩
   have F := hid (show AnsSeg w (spL d.1 d.2 t 2) (.returned (.slice O on oc)) w1 from ⟨O, on, oc, rfl, Own.seg oO, next_trans bel bb⟩)
   clear oO bb bel rA LP K0 K1
   go_wp2
   go_ret
   exact F.out
  ·have HF := hid (show spL d.1 d.2 t s = (placesI d.1 d.2 t).drop ((placesI d.1 d.2 t).length - 1) by unfold spL; rw [if_neg h1, if_neg h2])
   have d1 : decide (s = 1) = false := decide_eq_false h1
   have d2 : decide (s = 2) = false := decide_eq_false h2
   clear LI
   go_enter Try.func35, Try.ntmps35
   go_wp2_with fail
   rw [← HW.out]
   go_wp2_with fail
   refine LP.out.mono ?_
   rintro e w1 ⟨O, on, oc, rfl, oO, bb⟩
   have hl := Own.len oO
   have hn60 : on ≤ 60 := by rw [hl]; exact placesI_len
   have hcap := (look.own_cap oO).1
   by_cases h0 : on = 0
   ·subst h0
    have F := hid (show AnsSeg w (spL d.1 d.2 t s) (.returned (.slice O 0 oc)) w1 from ⟨O, 0, oc, rfl, by
     have e0 : placesI d.1 d.2 t = [] := List.eq_nil_of_length_eq_zero hl.symm
     rw [HF.out, e0]
     have := Own.seg oO
     rw [e0] at this
     exact this, next_trans bel bb⟩)
    clear oO bb bel rA LP K0 K1 hl
    go_wp2
    go_ret
    exact F.out
   ·obtain ⟨b, off, rfl, hbl, hcs⟩ := (Own.seg oO).2 (by omega)
    have hpos : (0 : Int) < (on : Int) := by omega
    have hsub : ((on : Int) - 1).toNat = on - 1 := by omega
    have p1 : (0 : Int) ≤ (on : Int) - 1 := by omega
    have p2 : (on : Int) - 1 ≤ (oc : Int) := by omega
    have hne : ¬ on - 1 = oc := by omega
    have hln : on - (on - 1) = 1 := by omega
    have F := hid (show AnsSeg w (spL d.1 d.2 t s) (.returned (.slice (some ⟨b, off + (on - 1), none⟩) 1 (oc - (on - 1)))) w1 from ⟨_, 1, _, rfl, by
     rw [HF.out, ← hl]
     have := Seg.cut (a := on - 1) (j := 1) (Own.seg oO) (by omega)
     rwa [List.take_of_length_le (by rw [List.length_drop, ← hl]; omega)] at this, next_trans bel bb⟩)
    clear oO bb bel rA LP K0 K1 hl hcap hcs
    go_wp2
    go_ret
    exact F.out
set_option maxHeartbeats 4000000 in
theorem specPickBy (a v u : Value) (d : Dat sSystem) (t : List Int) (s : Int) (w : World) (h : Rd w w.heap.size sSystem [a, v] d) (ht : Rd w w.heap.size sI [u] t) (hz : sz sSystem d ≤ 1048576) (hz' : sz sI t ≤ 1048576) :
  Calls Try.prog 10 #[.agg #[a, v], u, .int .i64 s] w (AnsPick w (pickO d.1 d.2 t s)) := by
 obtain ⟨W, hW, rA, bel⟩ := box1 w 34 #[a, v]
 have HW := hid hW
 have LR := hid (l8Right a v u d t s W (h.next bel) (ht.next bel) hz hz')
 have LP := hid (fun (w1 : World) (bb : Below w.heap.size w w1) => l8Places a v u d t s w1 (h.next bb) (ht.next bb) hz hz')
 have LX := hid (fun (w1 : World) (bb : Below w.heap.size w w1) x hok hx => l8Redex a v u d t x w1 (h.next bb) (ht.next bb) hz hok hx)
 have K0 : W.cell? ⟨w.heap.size, 0, none⟩ = some a := rA.cell 0
 have K1 : W.cell? ⟨w.heap.size, 1, none⟩ = some v := rA.cell 1
 obtain ⟨T, m, c, rfl, -, -⟩ := rd_ints.1 ht
 clear hW h hz ht
 cases ok : (rightB d.1 d.2 t && stratB s) with
 | false =>
  have HS := hid ok
  rw [ok] at LR
  clear ok LP LX
  go_enter Try.func10, Try.ntmps10
  go_wp2_with fail
  rw [← HW.out]
  go_wp2_with fail
  refine LR.out.mono ?_
  rintro e w1 ⟨rfl, bb⟩
  have F := hid (ansPick_none (w := w) (pickO_no HS.out) (next_trans bel bb))
  clear bb bel rA K0 K1 LR
  go_wp2
  go_ret3
  exact F.out
 | true =>
  rw [ok] at LR
  have HS := hid ((Bool.and_eq_true _ _).mp ok)
  clear ok
  have zW : w.heap.size < W.heap.size := rA.lt
  go_enter Try.func10, Try.ntmps10
  go_wp2_with fail
  rw [← HW.out]
  go_wp2_with fail
  refine LR.out.mono ?_
  rintro e w1 ⟨rfl, bb⟩
  replace rA := rA.next bb
  replace bel := next_trans bel bb
  have k0 : w1.cell? ⟨w.heap.size, 0, none⟩ = some a := rA.cell 0
  have k1 : w1.cell? ⟨w.heap.size, 1, none⟩ = some v := rA.cell 1
  have LP1 := hid (LP.out w1 bel)
  have zw1 : w.heap.size < w1.heap.size := rA.lt
  clear bb LR LP K0 K1 zW
  go_wp2_with fail
  refine LP1.out.mono ?_
  rintro e w2 ⟨O, on, oc, rfl, oO, bb⟩
  have hhd := spL_head (s := s) HS.out.1
  cases hL : spL d.1 d.2 t s with
  | nil =>
   rw [hL] at oO hhd
   have e0 : on = 0 := by have := oO.1; simpa using this.symm
   subst e0
   have F := hid (ansPick_none (w := w) (show pickO d.1 d.2 t s = none by rw [pickO_yes HS.out.1 HS.out.2]; exact pickL_nil hhd.symm) (next_trans bel bb))
   clear oO hhd hL bb bel rA k0 k1 LP1 LX
   go_wp2
   go_ret3
   exact F.out
  | cons x r =>
   rw [hL] at oO hhd
   have hlen : on = r.length + 1 := by have := oO.1; simpa using this.symm
   obtain ⟨p, rfl, hp⟩ := sel_at hhd.symm
   obtain ⟨b, off, y, rfl, hb, cy, ey⟩ := oO.spot (k := 0) (by omega)
   have ey : y = (p : Int) := by have := ey.out; simpa using this.symm
   subst ey
   have LX2 := hid (fun (w3 : World) (b3 : Below w2.heap.size w2 w3) => LX.out w3 (next_trans (next_trans bel bb) b3) p HS.out.1 hp)
   have HPK := hid (show pickO d.1 d.2 t s = some ((p : Int), ruleF d.1 d.2 t p) by rw [pickO_yes HS.out.1 HS.out.2, pickL_at hhd.symm]; rfl)
   have rA2 := rA.next bb
   have z2 : w.heap.size < w2.heap.size := rA2.lt
   have HBB := hid (next_trans bel bb)
   have q0 : w2.cell? ⟨w.heap.size, 0, none⟩ = some a := rA2.cell 0
   have q1 : w2.cell? ⟨w.heap.size, 1, none⟩ = some v := rA2.cell 1
   have cy0 : w2.cell? ⟨b, off, none⟩ = some (.int .i64 (p : Int)) := cy
   have on0 : 0 < on := by omega
   have on1 : (0 : Int) < (on : Int) := by omega
   have hne : ¬ on = 0 := by omega
   have hne2 : ¬ (on : Int) = 0 := by omega
   clear cy oO hhd hL bb bel rA k0 k1 LP1 LX hlen rA2
   go_wp2_with fail
   go_region_held3 (fun w' => w'.cell? ⟨w.heap.size, 0, none⟩ = some a ∧ w'.cell? ⟨w.heap.size, 1, none⟩ = some v ∧ w'.cell? ⟨b, off, none⟩ = some (.int .i64 (p : Int)))
    (go_keep)
    (first
     | (go_at_call 36; refine (LX2.out _ (drew_below w2)).mono ?_; rintro e w3 ⟨rfl, bb⟩; have j0 : w3.cell? ⟨w.heap.size, 0, none⟩ = some a := (bb.cell (p := ⟨w.heap.size, 0, none⟩) z2).trans q0; have j1 : w3.cell? ⟨w.heap.size, 1, none⟩ = some v := (bb.cell (p := ⟨w.heap.size, 1, none⟩) z2).trans q1; have j2 : w3.cell? ⟨b, off, none⟩ = some (.int .i64 (p : Int)) := (bb.cell (p := ⟨b, off, none⟩) hb).trans cy0))
   have F := hid (ansPick_some (w := w) HPK.out (next_trans HBB.out ((drew_below w2).trans bb)))
   clear HBB HPK bb
   go_wp2
   go_ret3
   exact F.out
end orderSpec
end
section
namespace walkSpec
open Go.RowKit base ints sig term termOk endAt endOf marks app sym sub segs segsHelp kinds termFacts same shifted shape kindsR kindsW varsOf ruleMath ruleSpec stepMath walkMath stepSpec
set_option maxRecDepth 100000
theorem rd_own {w : World} {lo : Nat} {A : Option Addr} {n c : Nat} {xs : List Int} (h : Own w lo (.slice A n c) xs) : Rd w w.heap.size sI [.slice A n c] xs := rd_ints.2 ⟨A, n, c, rfl, Own.seg h, look.own_cap h⟩
theorem rd_step {w wr : World} {B : Nat} {A : Option Addr} {n c : Nat} {L : List St} {k : Nat} (h : Rd w B sStepS [.slice A n c] L) (hb : Below B w wr) (hl : L.length = n) (hk : k < n) :
  ∃ b off u x, A = some ⟨b, off, none⟩ ∧ b < B ∧ Hid (L.getD k (0, 0, []) = x) ∧ wr.cell? ⟨b, off + k * 3, none⟩ = some (.int .i64 x.1) ∧ wr.cell? ⟨b, off + k * 3 + 1, none⟩ = some (.int .i64 x.2.1) ∧ wr.cell? ⟨b, off + k * 3 + 2, none⟩ = some u ∧ Rd wr B sI [u] x.2.2 := by
 obtain ⟨b, off, n2, c2, es, ev, -, -, hbB, hel, hp, hr⟩ := h.elem (j := k) (by rw [hl]; exact hk)
 injection ev with e1 e2 e3
 subst e1
 obtain ⟨v0, rfl⟩ := cells_Step hr
 have hpw := hp.keep (w' := wr) (fun p hp => hb.cell (p := p) (by rw [hp]; exact hbB))
 obtain ⟨-, -, p2⟩ := parts_Step hr
 exact ⟨b, off, v0, _, rfl, hbB, Lib.hid rfl, hpw 0 (by simp), hpw 1 (by simp), hpw 2 (by simp), p2.below hb⟩
theorem rd_walk {w : World} {B : Nat} {f s : Value} {k : Dat sWalk} (h : Rd w B sWalk [f, s] k) (hz : sz sWalk k ≤ 1048576) :
  ∃ F fn fc S sn sc, f = .slice F fn fc ∧ s = .slice S sn sc ∧ Seg w B F fn k.1 ∧ Cap F fn fc ∧ fn ≤ 1048576 ∧ k.2.length = sn ∧ sn ≤ 1048576 ∧ Cap S sn sc ∧ Rd w B sI [.slice F fn fc] k.1 ∧ Rd w B sStepS [.slice S sn sc] k.2 ∧ sz sI k.1 ≤ 1048576 ∧ ∀ i, i < sn → sz sI (k.2.getD i (0, 0, [])).2.2 ≤ 1048576 := by
 have hz0 : sz sI k.1 + sz sStepS k.2 ≤ 1048576 := hz
 obtain ⟨p1, p2⟩ := parts_Walk h
 obtain ⟨F, fn, fc, rfl, hs, hc⟩ := rd_ints.1 p1
 obtain ⟨S, sc, rfl, hc2⟩ := p2.slice
 have hz1 : sz sI k.1 ≤ 1048576 := by omega
 have hz2 : sz sStepS k.2 ≤ 1048576 := by omega
 refine ⟨F, fn, fc, S, List.length k.2, sc, rfl, rfl, hs, hc, len_ints hs.1 hz1, rfl, sz_len hz2, hc2, p1, p2, hz1, fun i hi => ?_⟩
 have h1 := sz_each hz2 hi
 have h2 : sz sStep (k.2.getD i (0, 0, [])) = 0 + (0 + sz sI (k.2.getD i (0, 0, [])).2.2) := rfl
 have h3 : sz sStep (k.2.getD i (0, 0, [])) ≤ 1048576 := h1
 omega
end walkSpec
end
section
namespace heldT
section
variable {P : Program} {md : Region.Mode} {ops : Array Oper} {Q : Exit → Act → World → Prop} {S : World → Prop} {late : Nat → Bool}
def AnyT (P : Program) (md : Region.Mode) (ops : Array Oper) (Q : Exit → Act → World → Prop) (S : World → Prop) (late : Nat → Bool) : Nat → Array Bool → Act → World → Prop
 | 0, listed, a, w => Region.ready md ops listed = [] ∧ Q .normal a w
 | fuel + 1, listed, a, w => (Region.ready md ops listed = [] → Q .normal a w) ∧
  ∀ i ∈ Region.ready md ops listed, wpOp P ops Q i (fun a' w' => (late i = false → S w → S w') ∧ AnyT P md ops Q S late fuel (listed.setIfInBounds i true) a' w') a w
theorem AnyT.any : ∀ (fuel : Nat) (listed : Array Bool) (a : Act) (w : World), AnyT P md ops Q S late fuel listed a w → wpAny P md ops Q fuel listed a w
 | 0, _, _, _, h => h
 | fuel + 1, _, _, _, h => ⟨h.1, fun i hi => wpOp_mono (fun a' w' h' => AnyT.any fuel _ a' w' h'.2) (h.2 i hi)⟩
def Waits (md : Region.Mode) (ops : Array Oper) (late : Nat → Bool) (listed : Array Bool) (i : Nat) : Prop :=
 ∀ j o, ops[j]? = some o → late j = true → listed.getD j true = false → ∃ e ∈ o.after, Region.binds md e = true ∧ e.on = i
def waitsB (md : Region.Mode) (ops : Array Oper) (late : Nat → Bool) (listed : Array Bool) (i : Nat) : Bool :=
 (List.range ops.size).all fun j => !late j || listed.getD j true || ((ops[j]?).map fun o => o.after.any fun e => Region.binds md e && e.on == i).getD false
theorem waits_of {listed : Array Bool} {i : Nat} (h : waitsB md ops late listed i = true) : Waits md ops late listed i := by
 intro j o ho hl hu
 have hj : j < ops.size := by
  rcases Nat.lt_or_ge j ops.size with h' | h'
  ·exact h'
  ·rw [Array.getElem?_eq_none h'] at ho; cases ho
 have := List.all_eq_true.1 h j (List.mem_range.2 hj)
 rw [hl, hu, ho] at this
 simp only [Bool.not_true, Bool.false_or, Option.map_some, Option.getD_some, Array.any_eq_true', Bool.and_eq_true, beq_iff_eq] at this
 exact this
theorem AnyT.first {i : Nat} {oi : Oper} {v : Value} (hi : ops[i]? = some oi) (hsel : ∀ (j : Nat) (o : Oper) cs b, ops[j]? = some o → o.op ≠ .select cs b) (hQ : ∀ c a w, Q (.panic c) (a.put oi.dst v) w → Q (.panic c) a w) :
  ∀ (fuel : Nat) (listed : Array Bool) (a : Act) (w : World),
   (∀ j oj, ops[j]? = some oj → j ≠ i → listed.getD j true = false → (∀ e ∈ oj.after, Region.binds md e = true → e.on ≠ i) → oi.apart ops oj = true) → Waits md ops late listed i →
   i ∈ Region.ready md ops listed → YieldsIf P ops S oi v a → S w → AnyT P md ops Q S late fuel (listed.setIfInBounds i true) (a.put oi.dst v) w → AnyT P md ops Q S late (fuel + 1) listed a w := by
 intro fuel
 induction fuel with
 | zero =>
  intro listed a w _ _ hr hy hS H
  refine ⟨fun h => (by rw [h] at hr; cases hr), fun j hj => ?_⟩
  rcases Classical.em (j = i) with e | e
  ·subst e; exact hy.wpOp hi hS ⟨fun _ h => h, H⟩
  ·have := ready_mono hj e
   rw [H.1] at this
   cases this
 | succ fuel ih =>
  intro listed a w hfree hwait hr hy hS H
  refine ⟨fun h => (by rw [h] at hr; cases hr), fun j hj => ?_⟩
  rcases Classical.em (j = i) with e | hji
  ·subst e; exact hy.wpOp hi hS ⟨fun _ h => h, H⟩
  have h1 := H.2 j (ready_mono hj hji)
  obtain ⟨hjun, oj, hoj, hall⟩ := mem_ready.1 hj
  have h0 := (mem_ready.1 hr).1
  have hnot : ∀ e ∈ oj.after, Region.binds md e = true → e.on ≠ i := fun e he hb heq => by
   have h1 := hall e he hb
   rw [heq] at h1
   rcases Nat.lt_or_ge i listed.size with h' | h'
   ·simp [h'] at h0 h1; rw [h0] at h1; cases h1
   ·simp [Array.getElem?_eq_none h'] at h1
  have hlj : late j = false := by
   cases e : late j with
   | false => rfl
   | true =>
    obtain ⟨x, hx, hb, ho⟩ := hwait j oj hoj e hjun
    exact absurd ho (hnot x hx hb)
  have far : ∀ {k : Nat}, j ≠ k → (listed.setIfInBounds j true).getD k true = false → listed.getD k true = false := fun hjk h => by rwa [getD_set_ne true hjk] at h
  have same : ∀ {k : Nat}, k = j → listed.getD k true = false := fun e => by rw [e]; exact hjun
  have un : ∀ (k : Nat), (listed.setIfInBounds j true).getD k true = false → listed.getD k true = false := fun k h => by
   rcases Classical.em (k = j) with e | e
   ·exact same e
   ·exact far (fun e' => e e'.symm) h
  have h2 := wpOp_putIf hoj (hfree j oj hoj hji hjun hnot) (fun cs b => hsel i oi cs b hi) (fun cs b => hsel j oj cs b hoj) hQ hy h1
  refine wpOp_mono (fun a' w' h3 => ⟨h3.2.1, ih (listed.setIfInBounds j true) a' w' (fun k ok hk hki hun hno => hfree k ok hk hki (un k hun) hno) (fun k o hk hl hu => hwait k o hk hl (un k hu)) (ready_mono hr (Ne.symm hji)) h3.1 (h3.2.1 hlj hS) ?_⟩) h2
  rw [Array.setIfInBounds_comm _ _ hji]
  exact h3.2.2
theorem AnyT.take {i : Nat} {oi : Oper} {v : Value} {fuel : Nat} {listed : Array Bool} {a : Act} {w : World} (hi : ops[i]? = some oi) (hs : Region.noSelect ops = true) (hf : Region.free md ops listed i = true) (hw : waitsB md ops late listed i = true) (hr : (Region.ready md ops listed).contains i = true)
  (hQ : ∀ c a w, Q (.panic c) (a.put oi.dst v) w → Q (.panic c) a w) (hy : YieldsIf P ops S oi v a) (hS : S w) (h : AnyT P md ops Q S late fuel (listed.setIfInBounds i true) (a.put oi.dst v) w) : AnyT P md ops Q S late (fuel + 1) listed a w :=
 AnyT.first hi (Region.noSelect_spec hs) hQ fuel listed a w (Region.free_spec hi hf) (waits_of hw) (by simpa using hr) hy hS h
theorem AnyT.firstA {i : Nat} {oi : Oper} {v : Value} (hi : ops[i]? = some oi) (hsel : ∀ (j : Nat) (o : Oper) cs b, ops[j]? = some o → o.op ≠ .select cs b) (hQ : ∀ c a w, Q (.panic c) (a.put oi.dst v) w → Q (.panic c) a w) :
  ∀ (fuel : Nat) (listed : Array Bool) (a : Act) (w : World),
   (∀ j oj, ops[j]? = some oj → j ≠ i → listed.getD j true = false → (∀ e ∈ oj.after, Region.binds md e = true → e.on ≠ i) → oi.apart ops oj = true) →
   i ∈ Region.ready md ops listed → YieldsIf P ops (fun _ => True) oi v a → AnyT P md ops Q S late fuel (listed.setIfInBounds i true) (a.put oi.dst v) w → AnyT P md ops Q S late (fuel + 1) listed a w := by
 intro fuel
 induction fuel with
 | zero =>
  intro listed a w _ hr hy H
  refine ⟨fun h => (by rw [h] at hr; cases hr), fun j hj => ?_⟩
  rcases Classical.em (j = i) with e | e
  ·subst e; exact hy.wpOp hi trivial ⟨fun _ h => h, H⟩
  ·have := ready_mono hj e
   rw [H.1] at this
   cases this
 | succ fuel ih =>
  intro listed a w hfree hr hy H
  refine ⟨fun h => (by rw [h] at hr; cases hr), fun j hj => ?_⟩
  rcases Classical.em (j = i) with e | hji
  ·subst e; exact hy.wpOp hi trivial ⟨fun _ h => h, H⟩
  have h1 := H.2 j (ready_mono hj hji)
  obtain ⟨hjun, oj, hoj, hall⟩ := mem_ready.1 hj
  have h0 := (mem_ready.1 hr).1
  have hnot : ∀ e ∈ oj.after, Region.binds md e = true → e.on ≠ i := fun e he hb heq => by
   have h1 := hall e he hb
   rw [heq] at h1
   rcases Nat.lt_or_ge i listed.size with h' | h'
   ·simp [h'] at h0 h1; rw [h0] at h1; cases h1
   ·simp [Array.getElem?_eq_none h'] at h1
  have un : ∀ (k : Nat), (listed.setIfInBounds j true).getD k true = false → listed.getD k true = false := fun k h => by
   rcases Classical.em (k = j) with e | e
   ·rw [e]; exact hjun
   ·rwa [getD_set_ne true (fun e' => e e'.symm)] at h
  have h2 := wpOp_putIf hoj (hfree j oj hoj hji hjun hnot) (fun cs b => hsel i oi cs b hi) (fun cs b => hsel j oj cs b hoj) hQ hy h1
  refine wpOp_mono (fun a' w' h3 => ⟨h3.2.1, ih (listed.setIfInBounds j true) a' w' (fun k ok hk hki hun hno => hfree k ok hk hki (un k hun) hno) (ready_mono hr (Ne.symm hji)) h3.1 ?_⟩) h2
  rw [Array.setIfInBounds_comm _ _ hji]
  exact h3.2.2
theorem AnyT.takeA {i : Nat} {oi : Oper} {v : Value} {fuel : Nat} {listed : Array Bool} {a : Act} {w : World} (hi : ops[i]? = some oi) (hs : Region.noSelect ops = true) (hf : Region.free md ops listed i = true) (hr : (Region.ready md ops listed).contains i = true)
  (hQ : ∀ c a w, Q (.panic c) (a.put oi.dst v) w → Q (.panic c) a w) (hy : YieldsIf P ops (fun _ => True) oi v a) (h : AnyT P md ops Q S late fuel (listed.setIfInBounds i true) (a.put oi.dst v) w) : AnyT P md ops Q S late (fuel + 1) listed a w :=
 AnyT.firstA hi (Region.noSelect_spec hs) hQ fuel listed a w (Region.free_spec hi hf) (by simpa using hr) hy h
theorem AnyT.call {i : Nat} {o : Oper} {fuel : Nat} {listed : Array Bool} {a : Act} {w : World} (hr : Region.ready md ops listed = [i]) (ho : ops[i]? = some o)
  (h : ∀ K' : Act → World → Prop, Shut (∀ a w', (late i = false → S w → S w') → ((late i = false → S w → S w') → AnyT P md ops Q S late fuel (listed.setIfInBounds i true) a w') → K' a w') → if Region.wanted o (yielded ops a.tmps) = true then Oper.wp P o a w K' Q else K' (a.put o.dst undef) w) : AnyT P md ops Q S late (fuel + 1) listed a w :=
 ⟨fun h0 => absurd (hr ▸ h0) (by simp), fun j hj => by
  rw [hr, List.mem_singleton] at hj
  subst hj
  exact wpOp_step ho (fun K' hK => h K' (fun a w' hS hW => hK a w' ⟨hS, hW hS⟩))⟩
theorem AnyT.done {listed : Array Bool} {a : Act} {w : World} (hr : Region.ready md ops listed = []) (h : Q .normal a w) : ∀ fuel, AnyT P md ops Q S late fuel listed a w
 | 0 => ⟨hr, h⟩
 | _ + 1 => ⟨fun _ => h, by rw [hr]; simp⟩
theorem AnyT.start {id : Nat} {a : Act} {w : World} (late : Nat → Bool) (hm : P.follows .mixedOrders = true) (hS : S w.drew) (h : S w.drew → AnyT P .any ops Q S late ops.size (Array.replicate ops.size false) a w.drew) : (Code.region id ops true).wp P Q a w :=
 wp_region_any hm (AnyT.any _ _ _ _ (h hS))
end
end heldT
end
section
namespace walkSpec
open Go.RowKit base ints sig term termOk endAt endOf marks app sym sub segs segsHelp kinds termFacts same shifted shape kindsR kindsW varsOf ruleMath ruleSpec stepMath walkMath stepSpec ownL heldT
set_option maxRecDepth 100000
theorem end_none {k : Wk} (h : k.2.length = 0) : endL k = k.1 := by unfold endL; rw [List.eq_nil_of_length_eq_zero h]; rfl
theorem end_last {k : Wk} {n : Nat} {x : St} (h : k.2.length = n + 1) (hx : k.2.getD n (0, 0, []) = x) : endL k = x.2.2 := by
 unfold endL
 have : k.2.getLast? = some x := by
  rw [List.getLast?_eq_getElem?, h, ← hx]
  have hn : n < k.2.length := by omega
  simp [List.getD, hn]
 rw [this]
theorem end_len {k : Wk} (h : sz sWalk k ≤ 1048576) : (endL k).length ≤ 1048576 := by
 have hz0 : sz sI k.1 + sz sStepS k.2 ≤ 1048576 := h
 by_cases h0 : k.2.length = 0
 ·rw [end_none h0]
  have h1 : sz sI k.1 ≤ 1048576 := by omega
  rwa [sz_ints] at h1
 ·obtain ⟨n, hn⟩ : ∃ n, k.2.length = n + 1 := ⟨k.2.length - 1, by omega⟩
  rw [end_last hn rfl]
  have h1 := sz_each (e := 92) (s := sStep) (d := k.2) (L := 1048576) (j := n) (show sz sStepS k.2 ≤ 1048576 by omega) (by omega)
  have h2 : sz sStep (k.2.getD n (dft sStep)) = 0 + (0 + sz sI (k.2.getD n (0, 0, [])).2.2) := rfl
  rw [h2, sz_ints] at h1
  omega
set_option maxHeartbeats 2000000 in
theorem l7End (f s : Value) (k : Dat sWalk) (w : World) (h : Rd w w.heap.size sWalk [f, s] k) (hz : sz sWalk k ≤ 1048576) :
  Calls Try.prog 44 #[.agg #[f, s]] w (AnsList w (endL k)) := by
 obtain ⟨F, fn, fc, S, sn, sc, rfl, rfl, hF, hcF, hfn, hsn, hsn1, hcS, hrF, hrS, hzF, hzS⟩ := rd_walk h hz
 obtain ⟨W, hW, rW, bel⟩ := box1 w 50 #[.slice F fn fc, .slice S sn sc]
 have HW := Lib.hid hW
 by_cases h0 : sn = 0
 ·subst h0
  have LC := Lib.hid (copyInts F fn fc k.1 W (hF.next bel) hcF.2.2 hfn)
  have HE := Lib.hid (end_none hsn)
  clear hW h hz hF hcF hsn hcS hrF hrS hzF hzS
  go_enter Try.func44, Try.ntmps44
  go_wp2_with fail
  rw [← HW.out]
  refine LC.out.mono ?_
  rintro e w1 ⟨X, xn, xc, rfl, oX, bb⟩
  have F1 := Lib.hid (show AnsList w (endL k) (.returned (.slice X xn xc)) w1 from ⟨X, xn, xc, rfl, by rw [HE.out]; exact Own.lower oX bel.size, next_trans bel bb⟩)
  clear oX bb bel rW LC
  go_wp2
  go_ret
  exact F1.out
 ·obtain ⟨n, rfl⟩ : ∃ n, sn = n + 1 := ⟨sn - 1, by omega⟩
  obtain ⟨b, off, u, x, rfl, hb, ex, c0, c1, c2, hx2⟩ := rd_step hrS bel hsn (Nat.lt_succ_self n)
  obtain ⟨U, un, uc, rfl, hU, hcU⟩ := rd_ints.1 hx2
  have hzx : sz sI x.2.2 ≤ 1048576 := by rw [← ex.out]; exact hzS n (Nat.lt_succ_self n)
  have hun : un ≤ 1048576 := len_ints hU.1 hzx
  have LC := Lib.hid (copyInts U un uc x.2.2 W (hU.more bel.size) hcU.2.2 hun)
  have HE := Lib.hid (end_last hsn ex.out)
  have c2' : (w.alloc (.cells #[.slice F fn fc, .slice (some ⟨b, off, none⟩) (n + 1) sc] 50)).cell? ⟨b, off + n * 3 + 2, none⟩ = some (.slice U un uc) := by rw [← hW]; exact c2
  have i1 : ¬ ((n : Int) + 1 = 0) := by omega
  have i2 : ((n : Int) + 1) - 1 = (n : Int) := by omega
  have i3 : (0 : Int) ≤ (n : Int) := by omega
  have i4 : (n : Int) < (n : Int) + 1 := by omega
  clear hW h hz hF hcF hsn hcS hrF hrS hzF hzS ex hx2 hU hcU c0 c1 c2 h0
  go_enter Try.func44, Try.ntmps44
  go_wp2_with fail
  rw [← HW.out]
  refine LC.out.mono ?_
  rintro e w1 ⟨X, xn, xc, rfl, oX, bb⟩
  have F1 := Lib.hid (show AnsList w (endL k) (.returned (.slice X xn xc)) w1 from ⟨X, xn, xc, rfl, by rw [HE.out]; exact Own.lower oX bel.size, next_trans bel bb⟩)
  clear oX bb bel rW LC
  go_wp2
  go_ret
  exact F1.out
end walkSpec
end
section
namespace walkSpec
open Go.RowKit base ints sig term termOk endAt endOf marks app sym sub segs segsHelp kinds termFacts same shifted shape kindsR kindsW varsOf ruleMath ruleSpec stepMath walkMath stepSpec ownL heldT
set_option maxRecDepth 100000
def AnsWalk (w : World) (k : Wk) (b : Bool) (e : Ending) (w' : World) : Prop := ∃ A0 n0 c0 A1 n1 c1, e = .returned (.tuple #[.agg #[.slice A0 n0 c0, .slice A1 n1 c1], .bool b]) ∧ Owned w' w.heap.size w'.heap.size sWalk [.slice A0 n0 c0, .slice A1 n1 c1] k ∧ Below w.heap.size w w'
theorem owned_zero (w : World) (lo hi : Nat) : Owned w lo hi sWalk [.slice none 0 0, .slice none 0 0] (([], []) : List Int × List St) :=
 ⟨[], ⟨[.slice none 0 0], [.slice none 0 0], [], [], rfl, rfl, ⟨none, 0, 0, rfl, rfl, .inl ⟨rfl, rfl, rfl, rfl⟩⟩, ⟨none, 0, 0, rfl, rfl, .inl ⟨rfl, rfl, rfl, rfl⟩⟩⟩, List.nodup_nil, fun k hk => by cases hk⟩
theorem owned_walk {w : World} {lo mid hi : Nat} {X O : Option Addr} {xn xc n c : Nat} {f : List Int} {L : List St} (h : Ownd w lo mid X xn xc f) (h2 : OwnL w mid hi 92 sStep O n c L) (h3 : lo ≤ mid) (h4 : mid ≤ hi) : Owned w lo hi sWalk [.slice X xn xc, .slice O n c] (f, L) :=
 Owned.cat (ow_ints.2 h) h2.owned (Nat.le_refl _) h3 h4
theorem ansWalk_no {w w' : World} {k : Wk} {b : Bool} (h : k = ([], []) ∧ b = false) (hb : Below w.heap.size w w') : AnsWalk w k b (.returned (.tuple #[.agg #[.slice none 0 0, .slice none 0 0], .bool false])) w' :=
 ⟨none, 0, 0, none, 0, 0, by rw [h.2], by rw [h.1]; exact owned_zero _ _ _, hb⟩
section
variable {sg : List Int} {rs : List Rl} {a b : Wk}
end
structure Jn (w : World) (a v f s f' s' : Value) (wr : World) : Prop where
 r0 : Row wr w.heap.size 34 #[a, v]
 r1 : Row wr (w.heap.size + 1) 50 #[f, s]
 r2 : Row wr (w.heap.size + 1 + 1) 50 #[f', s']
 r3 : Row wr (w.heap.size + 1 + 1 + 1) 50 #[.slice none 0 0, .slice none 0 0]
 b : Below w.heap.size w wr
section
variable {w wr w' : World} {a v f s f' s' : Value}
theorem Jn.next (h : Jn w a v f s f' s' wr) (hb : Below wr.heap.size wr w') : Jn w a v f s f' s' w' := ⟨h.r0.next hb, h.r1.next hb, h.r2.next hb, h.r3.next hb, next_trans h.b hb⟩
theorem Jn.size (h : Jn w a v f s f' s' wr) : w.heap.size + 1 + 1 + 1 + 1 ≤ wr.heap.size := h.r3.lt
end
end walkSpec
end
section
open Go.Lib (hid)
open List (setIfInBounds_toArray set_cons_zero set_cons_succ getElem_toArray getElem_cons_zero getElem_cons_succ)
namespace bySpec
open Go.RowKit base ints sig term termOk endAt endOf marks app sym sub segs segsHelp kinds termFacts same shifted shape drawX kindsR kindsW varsOf ruleMath ruleSpec stepMath walkMath stepSpec walkSpec ownL heldT orderMath orderSpec
set_option maxRecDepth 100000
structure Wb (w : World) (T : TypeId) (a v : Value) (B : Nat) (X O : Option Addr) (xn xc on oc : Nat) (fr : List Int) (L : List St) (wr : World) : Prop where
 r0 : Row wr w.heap.size T #[a, v]
 r1 : Row wr (w.heap.size + 1) 50 #[.slice none 0 0, .slice none 0 0]
 r3 : Row wr B 50 #[.slice X xn xc, .slice O on oc]
 x : Ownd wr (w.heap.size + 1 + 1) B X xn xc fr
 o : OwnL wr (B + 1) wr.heap.size 92 sStep O on oc L
 b : Below w.heap.size w wr
 z : w.heap.size + 1 + 1 ≤ B
theorem Wb.next {w wr w' : World} {T : TypeId} {a v : Value} {B : Nat} {X O : Option Addr} {xn xc on oc : Nat} {fr : List Int} {L : List St} (h : Wb w T a v B X O xn xc on oc fr L wr) (hb : Below wr.heap.size wr w') : Wb w T a v B X O xn xc on oc fr L w' :=
 ⟨h.r0.next hb, h.r1.next hb, h.r3.next hb, h.x.next hb, (h.o.next hb).wider (Nat.le_refl _) hb.size, next_trans h.b hb, h.z⟩
theorem Wb.app {w w5 w4 : World} {T : TypeId} {a v : Value} {B : Nat} {X O : Option Addr} {xn xc on oc : Nat} {fr : List Int} {L : List St} {O' oc' : Nat} {y : St} {o : Obj} (h : Wb w T a v B X O xn xc on oc fr L w5) (oL4 : OwnL w4 (B + 1) w4.heap.size 92 sStep (some ⟨O', 0, none⟩) (on + 1) oc' (L ++ [y])) (hg4 : (w5.alloc o).grownBy w4 (blk O)) :
  Wb w T a v B X (some ⟨O', 0, none⟩) xn xc (on + 1) oc' fr (L ++ [y]) (w4.setCell ⟨B, 1, none⟩ (.slice (some ⟨O', 0, none⟩) (on + 1) oc')) := by
 have z := h.z
 have hB : B < w5.heap.size := h.r3.lt
 have hblk : ∀ k, blk O = some k → B + 1 ≤ k ∧ k < w5.heap.size := fun k e => h.o.ge k e
 have b0 : Below w5.heap.size w5 (w5.alloc o) := (Below.refl _ _).alloc (Nat.le_refl _) _
 have b4 : Below (B + 1) (w5.alloc o) w4 := (Below.refl _ _).grown hg4 (by simp; omega) (fun k e => (hblk k e).1)
 have b5 : Below (B + 1) w5 w4 := (b0.mono (by omega)).trans b4
 have hz4 : w5.heap.size + 1 ≤ w4.heap.size := by have := hg4.size; simpa using this
 refine ⟨(h.r0.below b5 (by omega)).far (show w.heap.size ≠ B by omega) _, (h.r1.below b5 (by omega)).far (show w.heap.size + 1 ≠ B by omega) _, (h.r3.below b5 (by omega)).put 1 _, ?_, ?_, (h.b.trans (b5.mono (by omega))).setCell (show w.heap.size ≤ B by omega) _, z⟩
 ·exact ((h.x.next b0).btw (lo' := B + 1) (hi' := w4.heap.size) (Btw.of_grown hg4 (fun q hq => by have h8 := hblk q hq; omega)) (.inl (by omega))).btw (lo' := B) (hi' := B + 1) ⟨rfl, rfl, rfl, by simp, fun k hk ho => Below.heap_setCell w4 _ _ k (by show k ≠ B; omega)⟩ (.inl (Nat.le_refl _))
 ·have o5 : OwnL (w4.setCell ⟨B, 1, none⟩ (.slice (some ⟨O', 0, none⟩) (on + 1) oc')) (B + 1) w4.heap.size 92 sStep (some ⟨O', 0, none⟩) (on + 1) oc' (L ++ [y]) := oL4.btw (lo' := B) (hi' := B + 1) ⟨rfl, rfl, rfl, by simp, fun k hk ho => Below.heap_setCell w4 _ _ k (by show k ≠ B; omega)⟩ (.inr (Nat.le_refl _))
  exact o5.wider (Nat.le_refl _) (by simp)
theorem fuel_yes {F : Nat} (h : F ≤ 60) : fuelB (F : Int) = true := decide_eq_true (by omega)
theorem ansWalk_yes {w wr w' : World} {T : TypeId} {a v : Value} {B : Nat} {X O : Option Addr} {xn xc on oc : Nat} {fr : List Int} {L : List St} {k : Wk} {b : Bool} (h : Wb w T a v B X O xn xc on oc fr L wr) (hk : k = (fr, L)) (hb : Below wr.heap.size wr w') :
  AnsWalk w k b (.returned (.tuple #[.agg #[.slice X xn xc, .slice O on oc], .bool b])) ((w'.setCell ⟨w.heap.size + 1, 0, none⟩ (.slice X xn xc)).setCell ⟨w.heap.size + 1, 1, none⟩ (.slice O on oc)) := by
 have h2 := h.next hb
 have z := h.z
 have ow : Owned w' (w.heap.size + 1 + 1) w'.heap.size sWalk [.slice X xn xc, .slice O on oc] (fr, L) := owned_walk (h2.x.wider (Nat.le_refl _) (Nat.le_succ _)) h2.o (by omega) h2.r3.lt
 exact ⟨_, _, _, _, _, _, rfl, by rw [hk]; exact ((ow.put (g := w.heap.size + 1) (i := 0) (by omega)).put (g := w.heap.size + 1) (i := 1) (by omega)).wider (by omega) (by simp), (h2.b.setCell (show w.heap.size ≤ w.heap.size + 1 by omega) _).setCell (show w.heap.size ≤ w.heap.size + 1 by omega) _⟩
theorem AnsWalk.next {w w1 w2 : World} {k : Wk} {b : Bool} {e : Ending} (h : AnsWalk w k b e w1) (hb : Below w1.heap.size w1 w2) : AnsWalk w k b e w2 := by
 obtain ⟨A0, n0, c0, A1, n1, c1, he, ho, hw⟩ := h
 exact ⟨A0, n0, c0, A1, n1, c1, he, (ho.next hb).wider (Nat.le_refl _) hb.size, next_trans hw hb⟩
set_option maxHeartbeats 8000000 in
theorem specWalkBy (a v u : Value) (d : Dat sSystem) (t : List Int) (s f : Int) (w : World) (h : Rd w w.heap.size sSystem [a, v] d) (ht : Rd w w.heap.size sI [u] t) (hz : sz sSystem d ≤ 1048576) (hz' : sz sI t ≤ 1048576) :
  Calls Try.prog 43 #[.agg #[a, v], u, .int .i64 s, .int .i64 f] w (AnsWalk w (byW d.1 d.2 t s f) (byD d.1 d.2 t s f)) := by
 obtain ⟨T, m, c, rfl, hT, hcT⟩ := rd_ints.1 ht
 have hm := len_ints hT.1 hz'
 obtain ⟨A, n, cs, V, q, cv, rfl, rfl, -⟩ := rd_sys h hz
 obtain ⟨W, hW, r0, r1, bel⟩ : ∃ W, W = (w.alloc (.cells #[.slice A n cs, .slice V q cv] 34)).alloc (.cells #[.slice none 0 0, .slice none 0 0] 50) ∧ Row W w.heap.size 34 #[.slice A n cs, .slice V q cv] ∧ Row W (w.heap.size + 1) 50 #[.slice none 0 0, .slice none 0 0] ∧ Below w.heap.size w W := by
  refine ⟨_, rfl, (Row.new w _ _).alloc _, ?_, ((Below.refl _ _).alloc (Nat.le_refl _) _).alloc (by simp) _⟩
  have := Row.new (w.alloc (.cells #[.slice A n cs, .slice V q cv] 34)) 50 #[.slice none 0 0, .slice none 0 0]
  simpa using this
 have HW := hid hW
 have LR := hid (l8Right _ _ _ d t s W (h.next bel) (ht.next bel) hz hz')
 have LC := hid (fun (w1 : World) (bb : Below w.heap.size w w1) => copyInts T m c t w1 (hT.next bb) hcT.2.2 hm)
 have LK := hid (fun (w1 : World) (bb : Below w.heap.size w w1) (nw : Value) (x : List Int) (hx : Rd w1 w1.heap.size sI [nw] x) (hx2 : sz sI x ≤ 1048576) => specPickBy _ _ nw d x s w1 (h.next bb) hx hz hx2)
 have LS := hid (fun (w1 : World) (bb : Below w.heap.size w w1) (nw : Value) (x : List Int) (hx : Rd w1 w1.heap.size sI [nw] x) hok y k hy hk => l7Step _ _ nw d x y k w1 (h.next bb) hx hz hok hy hk)
 have LN := hid (fun (w1 : World) (bb : Below w.heap.size w w1) (nw : Value) (x : List Int) (hx : Rd w1 w1.heap.size sI [nw] x) (hx2 : sz sI x ≤ 1048576) => specNormalIn _ _ nw d x w1 (h.next bb) hx hz hx2)
 have K0 : W.cell? ⟨w.heap.size, 0, none⟩ = some (.slice A n cs) := r0.cell 0
 have K1 : W.cell? ⟨w.heap.size, 1, none⟩ = some (.slice V q cv) := r0.cell 1
 clear hW h ht hz hT hcT
 cases ok : (rightB d.1 d.2 t && stratB s) with
 | false =>
  have HS := hid (by_off (by_no1 (f := f) ok))
  rw [ok] at LR
  clear ok LC LK LS LN
  go_enter Try.func43, Try.ntmps43
  go_wp2_with fail
  rw [← HW.out]
  go_wp2_with fail
  refine LR.out.mono ?_
  rintro e w1 ⟨rfl, bb⟩
  replace r1 := r1.next bb
  replace bel := next_trans bel bb
  clear K0 K1
  have y0 : w1.cell? ⟨w.heap.size + 1, 0, none⟩ = some (.slice none 0 0) := r1.cell 0
  have y1 : w1.cell? ⟨w.heap.size + 1, 1, none⟩ = some (.slice none 0 0) := r1.cell 1
  have g0 := r1.free 0
  have g1 := r1.free 1
  have ra := r1.put 0 (.slice none 0 0)
  have y2 : (w1.setCell ⟨w.heap.size + 1, 0, none⟩ (.slice none 0 0)).cell? ⟨w.heap.size + 1, 1, none⟩ = some (.slice none 0 0) := ra.cell 1
  have g2 := ra.free 1
  have rb := ra.put 1 (.slice none 0 0)
  have u0 : ((w1.setCell ⟨w.heap.size + 1, 0, none⟩ (.slice none 0 0)).setCell ⟨w.heap.size + 1, 1, none⟩ (.slice none 0 0)).cell? ⟨w.heap.size + 1, 0, none⟩ = some (.slice none 0 0) := rb.cell 0
  have u1 : ((w1.setCell ⟨w.heap.size + 1, 0, none⟩ (.slice none 0 0)).setCell ⟨w.heap.size + 1, 1, none⟩ (.slice none 0 0)).cell? ⟨w.heap.size + 1, 1, none⟩ = some (.slice none 0 0) := rb.cell 1
  have FZ : AnsWalk w (byW d.1 d.2 t s f) (byD d.1 d.2 t s f) (.returned (.tuple #[.agg #[.slice none 0 0, .slice none 0 0], .bool false])) ((w1.setCell ⟨w.heap.size + 1, 0, none⟩ (.slice none 0 0)).setCell ⟨w.heap.size + 1, 1, none⟩ (.slice none 0 0)) := ansWalk_no HS.out (((bel).setCell (show w.heap.size ≤ w.heap.size + 1 by omega) _).setCell (show w.heap.size ≤ w.heap.size + 1 by omega) _)
  have HFZ := hid FZ
  clear FZ ra rb bb bel r0 r1 LR
  go_wp2
  exact bodyPost_ret (v := .tuple #[.agg #[.slice none 0 0, .slice none 0 0], .bool false]) (by simp [results, Try.results43, go_sem, u0, u1]) rfl HFZ.out
 | true =>
  have HS := hid ok
  rw [ok] at LR
  clear ok
  by_cases hf : 0 ≤ f ∧ f ≤ 60
  ·obtain ⟨F, rfl⟩ := Int.eq_ofNat_of_zero_le hf.1
   have hF : F ≤ 60 := by omega
   have HB := hid (by_yes HS.out (fuel_yes hF))
   have HR := hid ((Bool.and_eq_true _ _).mp HS.out)
   have HIN := hid (fun w1 => inYes (F : Int) 0 60 w1 (by omega))
   have zW : w.heap.size + 1 < W.heap.size := r1.lt
   clear hf
   go_enter Try.func43, Try.ntmps43
   go_wp2_with fail
   rw [← HW.out]
   go_wp2_with fail
   refine LR.out.mono ?_
   rintro e w1 ⟨rfl, bb⟩
   replace r0 := r0.next bb
   replace r1 := r1.next bb
   replace bel := next_trans bel bb
   have zw1 : w.heap.size + 1 < w1.heap.size := r1.lt
   have LI := hid (HIN.out w1)
   have LC1 := hid (LC.out w1 bel)
   clear bb K0 K1 LR zW HIN
   go_wp2_with fail
   refine LI.out.mono ?_
   rintro e w2 ⟨rfl, rfl⟩
   go_wp2_with fail
   refine LC1.out.mono ?_
   rintro e w3 ⟨X, xn, xc, rfl, oX, bb⟩
   replace r0 := r0.next bb
   replace r1 := r1.next bb
   replace bel := next_trans bel bb
   have zz := bb.size
   have b4 : Below w3.heap.size w3 (w3.alloc (.cells #[.slice X xn xc, .slice none 0 0] 50)) := (Below.refl _ _).alloc (Nat.le_refl _) _
   obtain ⟨W4, hW4⟩ : ∃ W4, W4 = w3.alloc (.cells #[.slice X xn xc, .slice none 0 0] 50) := ⟨_, rfl⟩
   have HI0 := hid (show Wb w 34 (.slice A n cs) (.slice V q cv) w3.heap.size X none xn xc 0 0 t [] W4 from by
    rw [hW4]
    exact ⟨r0.next b4, r1.next b4, Row.new _ _ _, ((Ownd.of_own oX).next b4).wider (by omega) (Nat.le_refl _), OwnL.nil _ _ _ _ _, next_trans bel b4, by omega⟩)
   have LC2 := hid (LC.out W4 HI0.out.b)
   have HW4 := hid hW4
   clear bb oX b4 r0 r1 bel hW4 LC1 HW LI LC
   go_wp2_with fail
   rw [← HW4.out]
   refine LC2.out.mono ?_
   rintro e w5 ⟨N, nn, nc, rfl, oN, bb⟩
   have HI1 := hid (HI0.out.next bb)
   have HN1 := hid (Own.lower oN (show w.heap.size + 1 + 1 ≤ W4.heap.size by have h1 := HI0.out.r3.lt; have h2 := HI0.out.z; omega))
   clear HW4 bb oN HI0 LC2
   generalize w3.heap.size = B at *
   go_wp2_with fail
   go_loopg [11] F (fun g now_ wr => ∃ (i on oc nn nc : Nat) (O N : Option Addr) (L : List St) (x : List Int), now_ = .slice N nn nc ∧ i + g = F ∧ Gone d.1 d.2 s F t i L x ∧ Wb w 34 (.slice A n cs) (.slice V q cv) B X O xn xc on oc t L wr ∧ Own wr (w.heap.size + 1 + 1) (.slice N nn nc) x)
   case atStart => exact ⟨0, 0, 0, _, _, _, _, _, _, rfl, by omega, gone_zero HR.out.1, HI1.out, HN1.out⟩
   case round =>
    clear HI1 HN1
    obtain ⟨i, on, oc, nn, nc, O, N, L, x, rfl, hig, G, J, hN⟩ := hrel
    have HI := hid hig
    have HG := hid G
    have hon : on = i := by rw [← G.2.1, J.o.1]
    subst hon
    have hx60 : x.length ≤ 60 := (term_len (right_parts G.2.2.2.1).2).2
    have hx2 : sz sI x ≤ 1048576 := by rw [sz_ints]; omega
    have K0 : wr.cell? ⟨w.heap.size, 0, none⟩ = some (.slice A n cs) := J.r0.cell 0
    have K1 : wr.cell? ⟨w.heap.size, 1, none⟩ = some (.slice V q cv) := J.r0.cell 1
    have K2 : wr.cell? ⟨B, 0, none⟩ = some (.slice X xn xc) := J.r3.cell 0
    have K3 : wr.cell? ⟨B, 1, none⟩ = some (.slice O on oc) := J.r3.cell 1
    have HJ := hid J
    have HNR := hid hN
    have HX2 := hid hx2
    clear J hN hig G hx2
    by_cases hlt : on < F
    ·have h1 : (on : Int) < (F : Int) := by omega
     have LK1 := hid (LK.out wr HJ.out.b _ x (rd_own HNR.out) HX2.out)
     rw [pickO_yes HG.out.2.2.2.1 HR.out.2] at LK1
     cases hp : pickL d.1 d.2 x s with
     | none =>
      have HP := hid (gone_none HG.out hp)
      rw [hp] at LK1
      clear hp LK LS
      go_wp2_with fail
      refine LK1.out.mono ?_
      rintro e w6 ⟨he, bb⟩
      have he : e = .returned (.tuple #[.int .i64 0, .int .i64 0, .bool false]) := he
      subst he
      have HJ2 := hid (HJ.out.next bb)
      have HN2 := hid (HNR.out.next bb)
      clear K0 K1 K2 K3 bb HJ HNR LK1
      go_upto_region 12 with fail
      have HZ := hid (by_done HP.out HG.out.2.2.1 HB.out)
      have c0 : w6.cell? ⟨w.heap.size, 0, none⟩ = some (.slice A n cs) := HJ2.out.r0.cell 0
      have c1 : w6.cell? ⟨w.heap.size, 1, none⟩ = some (.slice V q cv) := HJ2.out.r0.cell 1
      have c2 : w6.cell? ⟨B, 0, none⟩ = some (.slice X xn xc) := HJ2.out.r3.cell 0
      have c3 : w6.cell? ⟨B, 1, none⟩ = some (.slice O on oc) := HJ2.out.r3.cell 1
      have zS : w.heap.size < w6.drew.heap.size := show w.heap.size < w6.heap.size from HJ2.out.r0.lt
      have zB : B < w6.drew.heap.size := show B < w6.heap.size from HJ2.out.r3.lt
      have LN1 := hid (LN.out w6.drew (next_trans HJ2.out.b (drew_below w6)) _ x (rd_own (HN2.out.next (drew_below w6))) HX2.out)
      have HBD := hid (drew_below w6)
      clear LN HN2
      refine AnyT.start (S := (fun w' => w'.cell? ⟨w.heap.size, 0, none⟩ = some (.slice A n cs) ∧ w'.cell? ⟨w.heap.size, 1, none⟩ = some (.slice V q cv) ∧ w'.cell? ⟨B, 0, none⟩ = some (.slice X xn xc) ∧ w'.cell? ⟨B, 1, none⟩ = some (.slice O on oc))) (fun _ => false) (by kernel_rfl) ⟨c0, c1, c2, c3⟩ (fun hHeld => ?_)
      refine AnyT.take (i := 0) (v := ?_) rfl (by kernel_rfl) (by kernel_rfl) (by kernel_rfl) (by kernel_rfl) (fun _ _ _ h => h) (Or.inl ⟨by rfl, ?_⟩) (by assumption) ?_
      rotate_left 1
      ·(intro w0 hSw; (try dsimp only at hSw); go_simp; try with_reducible rfl)
      try simp only [Act.put, setIfInBounds_toArray, set_cons_zero, set_cons_succ, getElem_toArray, getElem_cons_zero, getElem_cons_succ]
      refine AnyT.take (i := 1) (v := ?_) rfl (by kernel_rfl) (by kernel_rfl) (by kernel_rfl) (by kernel_rfl) (fun _ _ _ h => h) (Or.inl ⟨by rfl, ?_⟩) (by assumption) ?_
      rotate_left 1
      ·(intro w0 hSw; (try dsimp only at hSw); go_simp; try with_reducible rfl)
      try simp only [Act.put, setIfInBounds_toArray, set_cons_zero, set_cons_succ, getElem_toArray, getElem_cons_zero, getElem_cons_succ]
      refine AnyT.takeA (i := 2) (v := ?_) rfl (by kernel_rfl) (by kernel_rfl) (by kernel_rfl) (fun _ _ _ h => h) (Or.inl ⟨by rfl, ?_⟩) ?_
      rotate_left 1
      ·(intro w0 _; go_simp; try with_reducible rfl)
      try simp only [Act.put, setIfInBounds_toArray, set_cons_zero, set_cons_succ, getElem_toArray, getElem_cons_zero, getElem_cons_succ]
      refine AnyT.call (i := 3) (by kernel_rfl) rfl (fun K hK => ?_)
      try simp only [Act.put, setIfInBounds_toArray, set_cons_zero, set_cons_succ, getElem_toArray, getElem_cons_zero, getElem_cons_succ]
      rw [if_pos (by rfl)]
      go_simp
      (go_at_call 75; refine LN1.out.mono ?_; rintro e w9 ⟨rfl, bb9⟩; have e0 : w9.cell? ⟨w.heap.size, 0, none⟩ = some (.slice A n cs) := (bb9.cell (p := ⟨w.heap.size, 0, none⟩) zS).trans c0; have e1 : w9.cell? ⟨w.heap.size, 1, none⟩ = some (.slice V q cv) := (bb9.cell (p := ⟨w.heap.size, 1, none⟩) zS).trans c1; have e2 : w9.cell? ⟨B, 0, none⟩ = some (.slice X xn xc) := (bb9.cell (p := ⟨B, 0, none⟩) zB).trans c2; have e3 : w9.cell? ⟨B, 1, none⟩ = some (.slice O on oc) := (bb9.cell (p := ⟨B, 1, none⟩) zB).trans c3; go_wp2_with fail)
      refine hK.out _ _ (fun _ _ => ?_) (fun hKeep => ?_)
      ·exact ⟨e0, e1, e2, e3⟩
      replace hHeld := hKeep (by first | rfl | trivial) hHeld
      clear hK K hKeep
      try simp only [Act.put, setIfInBounds_toArray, set_cons_zero, set_cons_succ, getElem_toArray, getElem_cons_zero, getElem_cons_succ]
      have hb9 := HBD.out.trans bb9
      have r9 := HJ2.out.r1.next hb9
      have g0 := r9.free 0
      have g1 := r9.free 1
      have y0 : w9.cell? ⟨w.heap.size + 1, 0, none⟩ = some (.slice none 0 0) := r9.cell 0
      have y1 : w9.cell? ⟨w.heap.size + 1, 1, none⟩ = some (.slice none 0 0) := r9.cell 1
      have ra := r9.put 0 (.slice X xn xc)
      have y2 : (w9.setCell ⟨w.heap.size + 1, 0, none⟩ (.slice X xn xc)).cell? ⟨w.heap.size + 1, 1, none⟩ = some (.slice none 0 0) := ra.cell 1
      have g2 := ra.free 1
      have rb := ra.put 1 (.slice O on oc)
      have u0 : ((w9.setCell ⟨w.heap.size + 1, 0, none⟩ (.slice X xn xc)).setCell ⟨w.heap.size + 1, 1, none⟩ (.slice O on oc)).cell? ⟨w.heap.size + 1, 0, none⟩ = some (.slice X xn xc) := rb.cell 0
      have u1 : ((w9.setCell ⟨w.heap.size + 1, 0, none⟩ (.slice X xn xc)).setCell ⟨w.heap.size + 1, 1, none⟩ (.slice O on oc)).cell? ⟨w.heap.size + 1, 1, none⟩ = some (.slice O on oc) := rb.cell 1
      have j9 := HJ2.out.next hb9
      have a0 := (j9.r0.far (show w.heap.size ≠ w.heap.size + 1 by omega) (p := ⟨w.heap.size + 1, 0, none⟩) (.slice X xn xc)).far (show w.heap.size ≠ w.heap.size + 1 by omega) (p := ⟨w.heap.size + 1, 1, none⟩) (.slice O on oc)
      have a3 := (j9.r3.far (show B ≠ w.heap.size + 1 by have := j9.z; omega) (p := ⟨w.heap.size + 1, 0, none⟩) (.slice X xn xc)).far (show B ≠ w.heap.size + 1 by have := j9.z; omega) (p := ⟨w.heap.size + 1, 1, none⟩) (.slice O on oc)
      have FZ : AnsWalk w (byW d.1 d.2 t s (F : Int)) (byD d.1 d.2 t s (F : Int)) (.returned (.tuple #[.agg #[.slice X xn xc, .slice O on oc], .bool (normalB d.1 d.2 x)])) ((w9.setCell ⟨w.heap.size + 1, 0, none⟩ (.slice X xn xc)).setCell ⟨w.heap.size + 1, 1, none⟩ (.slice O on oc)) := by
       rw [← HZ.out.2]
       exact ansWalk_yes (b := byD d.1 d.2 t s (F : Int)) HJ2.out HZ.out.1 hb9
      have HFZ := hid FZ
      have HA0 := hid a0
      have HA3 := hid a3
      clear FZ ra rb r9 hb9 bb9 j9 a0 a3
      refine AnyT.call (i := 4) (by kernel_rfl) rfl (fun K hK => ?_)
      try simp only [Act.put, setIfInBounds_toArray, set_cons_zero, set_cons_succ, getElem_toArray, getElem_cons_zero, getElem_cons_succ]
      rw [if_pos (by rfl)]
      go_simp
      refine hK.out _ _ (fun _ _ => ?_) (fun hKeep => ?_)
      ·exact ⟨HA0.out.cell 0, HA0.out.cell 1, HA3.out.cell 0, HA3.out.cell 1⟩
      replace hHeld := hKeep (by first | rfl | trivial) hHeld
      clear hK K hKeep
      try simp only [Act.put, setIfInBounds_toArray, set_cons_zero, set_cons_succ, getElem_toArray, getElem_cons_zero, getElem_cons_succ]
      refine AnyT.takeA (i := 5) (v := ?_) rfl (by kernel_rfl) (by kernel_rfl) (by kernel_rfl) (fun _ _ _ h => h) (Or.inl ⟨by rfl, ?_⟩) ?_
      rotate_left 1
      ·(intro w0 _; go_simp; try with_reducible rfl)
      try simp only [Act.put, setIfInBounds_toArray, set_cons_zero, set_cons_succ, getElem_toArray, getElem_cons_zero, getElem_cons_succ]
      refine AnyT.done (by kernel_rfl) ?_ _
      go_wp2
      exact bodyPost_ret (v := .tuple #[.agg #[.slice X xn xc, .slice O on oc], .bool (normalB d.1 d.2 x)]) (by simp [results, Try.results43, go_sem, u0, u1]) rfl HFZ.out
     | some p =>
      obtain ⟨pa, pk, rfl, hpa, hpk, hred, -, hst⟩ := pick_step HG.out.2.2.2.1 hp
      have LS1 := hid (fun (w1 : World) (bb : Below wr.heap.size wr w1) => LS.out w1 (next_trans HJ.out.b bb) _ x (rd_own (HNR.out.next bb)) HG.out.2.2.2.1 pa pk hpa hpk)
      have HP := hid hp
      rw [hp] at LK1
      have LK2 := hid (show Calls Try.prog 10 #[.agg #[.slice A n cs, .slice V q cv], .slice N nn nc, .int .i64 s] wr (fun e w' => e = .returned (.tuple #[.int .i64 (pa : Int), .int .i64 (pk : Int), .bool true]) ∧ Below wr.heap.size wr w') from LK1.out)
      have HST := hid hst
      obtain ⟨so, hso⟩ : ∃ so, stepO d.1 (d.2.getD pk ([], [])) x pa = so := ⟨_, rfl⟩
      rw [hso] at LS1 HST
      have HSO := hid hso
      clear hp LK LS LK1 hst hso hred
      cases so with
      | none =>
       have HQ := hid (gone_stop HG.out HP.out HST.out)
       go_wp2_with fail
       refine LK2.out.mono ?_
       rintro e w6 ⟨rfl, bb⟩
       have HJ2 := hid (HJ.out.next bb)
       have LS2 := hid (LS1.out w6 bb)
       have HN2 := hid (HNR.out.next bb)
       have k0 : w6.cell? ⟨w.heap.size, 0, none⟩ = some (.slice A n cs) := HJ2.out.r0.cell 0
       have k1 : w6.cell? ⟨w.heap.size, 1, none⟩ = some (.slice V q cv) := HJ2.out.r0.cell 1
       clear K0 K1 K2 K3 bb HJ HNR LK2 LS1
       go_wp2_with fail
       refine LS2.out.mono ?_
       rintro e w7 ⟨Y, yn, yc, he, oY, bb⟩
       have he : e = .returned (.tuple #[.slice Y yn yc, .bool false]) := he
       subst he
       have HJ3 := hid (HJ2.out.next bb)
       have HN3 := hid (HN2.out.next bb)
       clear k0 k1 bb HJ2 HN2 LS2 oY
       go_upto_region 12 with fail
       have HZ := hid (by_done HQ.out HG.out.2.2.1 HB.out)
       have c0 : w7.cell? ⟨w.heap.size, 0, none⟩ = some (.slice A n cs) := HJ3.out.r0.cell 0
       have c1 : w7.cell? ⟨w.heap.size, 1, none⟩ = some (.slice V q cv) := HJ3.out.r0.cell 1
       have c2 : w7.cell? ⟨B, 0, none⟩ = some (.slice X xn xc) := HJ3.out.r3.cell 0
       have c3 : w7.cell? ⟨B, 1, none⟩ = some (.slice O on oc) := HJ3.out.r3.cell 1
       have zS : w.heap.size < w7.drew.heap.size := show w.heap.size < w7.heap.size from HJ3.out.r0.lt
       have zB : B < w7.drew.heap.size := show B < w7.heap.size from HJ3.out.r3.lt
       have LN1 := hid (LN.out w7.drew (next_trans HJ3.out.b (drew_below w7)) _ x (rd_own (HN3.out.next (drew_below w7))) HX2.out)
       have HBD := hid (drew_below w7)
       clear LN HN3
       refine AnyT.start (S := (fun w' => w'.cell? ⟨w.heap.size, 0, none⟩ = some (.slice A n cs) ∧ w'.cell? ⟨w.heap.size, 1, none⟩ = some (.slice V q cv) ∧ w'.cell? ⟨B, 0, none⟩ = some (.slice X xn xc) ∧ w'.cell? ⟨B, 1, none⟩ = some (.slice O on oc))) (fun _ => false) (by kernel_rfl) ⟨c0, c1, c2, c3⟩ (fun hHeld => ?_)
       refine AnyT.take (i := 0) (v := ?_) rfl (by kernel_rfl) (by kernel_rfl) (by kernel_rfl) (by kernel_rfl) (fun _ _ _ h => h) (Or.inl ⟨by rfl, ?_⟩) (by assumption) ?_
       rotate_left 1
       ·(intro w0 hSw; (try dsimp only at hSw); go_simp; try with_reducible rfl)
       try simp only [Act.put, setIfInBounds_toArray, set_cons_zero, set_cons_succ, getElem_toArray, getElem_cons_zero, getElem_cons_succ]
       refine AnyT.take (i := 1) (v := ?_) rfl (by kernel_rfl) (by kernel_rfl) (by kernel_rfl) (by kernel_rfl) (fun _ _ _ h => h) (Or.inl ⟨by rfl, ?_⟩) (by assumption) ?_
       rotate_left 1
       ·(intro w0 hSw; (try dsimp only at hSw); go_simp; try with_reducible rfl)
       try simp only [Act.put, setIfInBounds_toArray, set_cons_zero, set_cons_succ, getElem_toArray, getElem_cons_zero, getElem_cons_succ]
       refine AnyT.takeA (i := 2) (v := ?_) rfl (by kernel_rfl) (by kernel_rfl) (by kernel_rfl) (fun _ _ _ h => h) (Or.inl ⟨by rfl, ?_⟩) ?_
       rotate_left 1
       ·(intro w0 _; go_simp; try with_reducible rfl)
       try simp only [Act.put, setIfInBounds_toArray, set_cons_zero, set_cons_succ, getElem_toArray, getElem_cons_zero, getElem_cons_succ]
       refine AnyT.call (i := 3) (by kernel_rfl) rfl (fun K hK => ?_)
       try simp only [Act.put, setIfInBounds_toArray, set_cons_zero, set_cons_succ, getElem_toArray, getElem_cons_zero, getElem_cons_succ]
       rw [if_pos (by rfl)]
       go_simp
       (go_at_call 75; refine LN1.out.mono ?_; rintro e w9 ⟨rfl, bb9⟩; have e0 : w9.cell? ⟨w.heap.size, 0, none⟩ = some (.slice A n cs) := (bb9.cell (p := ⟨w.heap.size, 0, none⟩) zS).trans c0; have e1 : w9.cell? ⟨w.heap.size, 1, none⟩ = some (.slice V q cv) := (bb9.cell (p := ⟨w.heap.size, 1, none⟩) zS).trans c1; have e2 : w9.cell? ⟨B, 0, none⟩ = some (.slice X xn xc) := (bb9.cell (p := ⟨B, 0, none⟩) zB).trans c2; have e3 : w9.cell? ⟨B, 1, none⟩ = some (.slice O on oc) := (bb9.cell (p := ⟨B, 1, none⟩) zB).trans c3; go_wp2_with fail)
       refine hK.out _ _ (fun _ _ => ?_) (fun hKeep => ?_)
       ·exact ⟨e0, e1, e2, e3⟩
       replace hHeld := hKeep (by first | rfl | trivial) hHeld
       clear hK K hKeep
       try simp only [Act.put, setIfInBounds_toArray, set_cons_zero, set_cons_succ, getElem_toArray, getElem_cons_zero, getElem_cons_succ]
       have hb9 := HBD.out.trans bb9
       have r9 := HJ3.out.r1.next hb9
       have g0 := r9.free 0
       have g1 := r9.free 1
       have y0 : w9.cell? ⟨w.heap.size + 1, 0, none⟩ = some (.slice none 0 0) := r9.cell 0
       have y1 : w9.cell? ⟨w.heap.size + 1, 1, none⟩ = some (.slice none 0 0) := r9.cell 1
       have ra := r9.put 0 (.slice X xn xc)
       have y2 : (w9.setCell ⟨w.heap.size + 1, 0, none⟩ (.slice X xn xc)).cell? ⟨w.heap.size + 1, 1, none⟩ = some (.slice none 0 0) := ra.cell 1
       have g2 := ra.free 1
       have rb := ra.put 1 (.slice O on oc)
       have u0 : ((w9.setCell ⟨w.heap.size + 1, 0, none⟩ (.slice X xn xc)).setCell ⟨w.heap.size + 1, 1, none⟩ (.slice O on oc)).cell? ⟨w.heap.size + 1, 0, none⟩ = some (.slice X xn xc) := rb.cell 0
       have u1 : ((w9.setCell ⟨w.heap.size + 1, 0, none⟩ (.slice X xn xc)).setCell ⟨w.heap.size + 1, 1, none⟩ (.slice O on oc)).cell? ⟨w.heap.size + 1, 1, none⟩ = some (.slice O on oc) := rb.cell 1
       have j9 := HJ3.out.next hb9
       have a0 := (j9.r0.far (show w.heap.size ≠ w.heap.size + 1 by omega) (p := ⟨w.heap.size + 1, 0, none⟩) (.slice X xn xc)).far (show w.heap.size ≠ w.heap.size + 1 by omega) (p := ⟨w.heap.size + 1, 1, none⟩) (.slice O on oc)
       have a3 := (j9.r3.far (show B ≠ w.heap.size + 1 by have := j9.z; omega) (p := ⟨w.heap.size + 1, 0, none⟩) (.slice X xn xc)).far (show B ≠ w.heap.size + 1 by have := j9.z; omega) (p := ⟨w.heap.size + 1, 1, none⟩) (.slice O on oc)
       have FZ : AnsWalk w (byW d.1 d.2 t s (F : Int)) (byD d.1 d.2 t s (F : Int)) (.returned (.tuple #[.agg #[.slice X xn xc, .slice O on oc], .bool (normalB d.1 d.2 x)])) ((w9.setCell ⟨w.heap.size + 1, 0, none⟩ (.slice X xn xc)).setCell ⟨w.heap.size + 1, 1, none⟩ (.slice O on oc)) := by
        rw [← HZ.out.2]
        exact ansWalk_yes (b := byD d.1 d.2 t s (F : Int)) HJ3.out HZ.out.1 hb9
       have HFZ := hid FZ
       have HA0 := hid a0
       have HA3 := hid a3
       clear FZ ra rb r9 hb9 bb9 j9 a0 a3
       refine AnyT.call (i := 4) (by kernel_rfl) rfl (fun K hK => ?_)
       try simp only [Act.put, setIfInBounds_toArray, set_cons_zero, set_cons_succ, getElem_toArray, getElem_cons_zero, getElem_cons_succ]
       rw [if_pos (by rfl)]
       go_simp
       refine hK.out _ _ (fun _ _ => ?_) (fun hKeep => ?_)
       ·exact ⟨HA0.out.cell 0, HA0.out.cell 1, HA3.out.cell 0, HA3.out.cell 1⟩
       replace hHeld := hKeep (by first | rfl | trivial) hHeld
       clear hK K hKeep
       try simp only [Act.put, setIfInBounds_toArray, set_cons_zero, set_cons_succ, getElem_toArray, getElem_cons_zero, getElem_cons_succ]
       refine AnyT.takeA (i := 5) (v := ?_) rfl (by kernel_rfl) (by kernel_rfl) (by kernel_rfl) (fun _ _ _ h => h) (Or.inl ⟨by rfl, ?_⟩) ?_
       rotate_left 1
       ·(intro w0 _; go_simp; try with_reducible rfl)
       try simp only [Act.put, setIfInBounds_toArray, set_cons_zero, set_cons_succ, getElem_toArray, getElem_cons_zero, getElem_cons_succ]
       refine AnyT.done (by kernel_rfl) ?_ _
       go_wp2
       exact bodyPost_ret (v := .tuple #[.agg #[.slice X xn xc, .slice O on oc], .bool (normalB d.1 d.2 x)]) (by simp [results, Try.results43, go_sem, u0, u1]) rfl HFZ.out
      | some y =>
       have HG2 := hid (gone_step HG.out hlt HP.out HST.out)
       have HL60 : L.length ≤ 60 := by rw [HG.out.2.1]; omega
       go_wp2_with fail
       refine LK2.out.mono ?_
       rintro e w6 ⟨rfl, bb⟩
       have HJ2 := hid (HJ.out.next bb)
       have LS2 := hid (LS1.out w6 bb)
       have k0 : w6.cell? ⟨w.heap.size, 0, none⟩ = some (.slice A n cs) := HJ2.out.r0.cell 0
       have k1 : w6.cell? ⟨w.heap.size, 1, none⟩ = some (.slice V q cv) := HJ2.out.r0.cell 1
       clear K0 K1 K2 K3 bb HJ HNR LK2 LS1
       go_wp2_with fail
       refine LS2.out.mono ?_
       rintro e w7 ⟨Y, yn, yc, he, oY, bb⟩
       have he : e = .returned (.tuple #[.slice Y yn yc, .bool true]) := he
       subst he
       have oY : Own w7 w6.heap.size (.slice Y yn yc) y := oY
       have J3 := HJ2.out.next bb
       have c3 : w7.cell? ⟨B, 1, none⟩ = some (.slice O on oc) := J3.r3.cell 1
       have zB : B + 1 ≤ w6.heap.size := HJ2.out.r3.lt
       have b3 : Below w7.heap.size w7 (w7.alloc (.cells #[.int .i64 (pa : Int), .int .i64 (pk : Int), .slice Y yn yc] 92)) := (Below.refl _ _).alloc (Nat.le_refl _) _
       have z2 := bb.size
       have HAPP := hid (show OwnL (w7.alloc (.cells #[.int .i64 (pa : Int), .int .i64 (pk : Int), .slice Y yn yc] 92)) (B + 1) w6.heap.size 92 sStep O on oc L ∧ OwnL (w7.alloc (.cells #[.int .i64 (pa : Int), .int .i64 (pk : Int), .slice Y yn yc] 92)) w6.heap.size (w7.heap.size + 1) 92 sStep (some ⟨w7.heap.size, 0, none⟩) 1 1 [((pa : Int), (pk : Int), y)] from
        ⟨(HJ2.out.o.next bb).next b3, OwnL.single (e := 92) (s := sStep) (Row.new w7 92 #[.int .i64 (pa : Int), .int .i64 (pk : Int), .slice Y yn yc]) ((owned_step oY (pa : Int) (pk : Int)).next b3) (Nat.le_refl _) z2⟩)
       have HBY := hid (show ∀ k, blk O = some k → k < w6.heap.size from fun k e => (HJ2.out.o.ge k e).2)
       have HJ3 := hid J3
       have HOY := hid (oY.next b3)
       have HYG := hid (show ∀ k, blk Y = some k → w6.heap.size ≤ k from fun k e => (ownLt oY k e).1)
       have r3 := J3.r3.next b3
       have HR3 := hid r3
       clear k0 k1 bb HJ2 LS2 oY b3 J3 r3
       go_wp2_with (at_builtin; refine appLm rfl _ _ 48 92 sStep _ _ Try.underlying48 info_StepS rfl (by decide) rfl (B + 1) w6.heap.size w6.heap.size (w7.heap.size + 1) O on oc w7.heap.size 1 1 _ _ rfl HAPP.out.1 rfl HAPP.out.2 (Nat.le_refl _) zB (by omega) (by omega) (by simp; omega) ?_; intro A4 oc' w4 oL4 hg4 hat4 b4 hf4; obtain ⟨O', rfl⟩ := hf4 (.inr (by omega)); have rB4 := HR3.out.below b4 (show B < B + 1 by omega); have y1 : w4.cell? ⟨B, 1, none⟩ = some (.slice O on oc) := rB4.cell 1; have g1 := rB4.free 1; refine (?_ : Hid _).out)
       have HJ5 := hid (HJ3.out.app oL4 hg4)
       have oY4 : Own w4 w6.heap.size (.slice Y yn yc) y := Go.Proofs.Ytblhmplpcdcejaa.appAt.Own.kept HOY.out hg4 (by
        cases hY : blk Y with
        | none => exact .inl rfl
        | some k => exact .inr fun e => by have h1 := HYG.out k hY; have h2 := HBY.out k e.symm; omega)
       have oY5 := (Ownd.of_own oY4).btw (w' := w4.setCell ⟨B, 1, none⟩ (.slice (some ⟨O', 0, none⟩) (on + 1) oc')) (lo' := B) (hi' := B + 1) ⟨rfl, rfl, rfl, by simp, fun k hk ho => Below.heap_setCell w4 _ _ k (by show k ≠ B; omega)⟩ (.inr (by omega))
       have hy60 : y.length ≤ 60 := (term_len (right_parts HG2.out.2.2.2.1).2).2
       have LC3 := hid (copyInts Y yn yc y _ (Own.seg oY5.1) (look.own_cap oY5.1).2.2 (by have := Own.len oY5.1; omega))
       clear oL4 hg4 hat4 b4 hf4 HAPP HJ3 HOY HBY HYG HR3 rB4 oY4 oY5
       refine hid ?_
       go_wp2_with fail
       refine LC3.out.mono ?_
       rintro e w8 ⟨N2, nn2, nc2, rfl, oN, bb⟩
       have HJ6 := hid (HJ5.out.next bb)
       have HN6 := hid (Own.lower oN (show w.heap.size + 1 + 1 ≤ _ by have h1 := HJ5.out.r3.lt; have h2 := HJ5.out.z; omega))
       clear bb oN HJ5 LC3 y1 g1 c3
       go_wp2
       go_roundg (gk - 1)
       case measure => have := HI.out; omega
       case rel => exact ⟨on + 1, on + 1, oc', nn2, nc2, some ⟨O', 0, none⟩, N2, L ++ [((pa : Int), (pk : Int), y)], y, rfl, by have := HI.out; omega, HG2.out, HJ6.out, HN6.out⟩
    ·have HP := hid (gone_full HG.out hlt)
     have h1 : ¬ (on : Int) < (F : Int) := by omega
     clear LK LS
     go_upto_region 12 with fail
     have HJ2 := HJ
     have HN2 := HNR
     clear HJ HNR K0 K1 K2 K3
     have HZ := hid (by_done HP.out HG.out.2.2.1 HB.out)
     have c0 : wr.cell? ⟨w.heap.size, 0, none⟩ = some (.slice A n cs) := HJ2.out.r0.cell 0
     have c1 : wr.cell? ⟨w.heap.size, 1, none⟩ = some (.slice V q cv) := HJ2.out.r0.cell 1
     have c2 : wr.cell? ⟨B, 0, none⟩ = some (.slice X xn xc) := HJ2.out.r3.cell 0
     have c3 : wr.cell? ⟨B, 1, none⟩ = some (.slice O on oc) := HJ2.out.r3.cell 1
     have zS : w.heap.size < wr.drew.heap.size := show w.heap.size < wr.heap.size from HJ2.out.r0.lt
     have zB : B < wr.drew.heap.size := show B < wr.heap.size from HJ2.out.r3.lt
     have LN1 := hid (LN.out wr.drew (next_trans HJ2.out.b (drew_below wr)) _ x (rd_own (HN2.out.next (drew_below wr))) HX2.out)
     have HBD := hid (drew_below wr)
     clear LN HN2
     refine AnyT.start (S := (fun w' => w'.cell? ⟨w.heap.size, 0, none⟩ = some (.slice A n cs) ∧ w'.cell? ⟨w.heap.size, 1, none⟩ = some (.slice V q cv) ∧ w'.cell? ⟨B, 0, none⟩ = some (.slice X xn xc) ∧ w'.cell? ⟨B, 1, none⟩ = some (.slice O on oc))) (fun _ => false) (by kernel_rfl) ⟨c0, c1, c2, c3⟩ (fun hHeld => ?_)
     refine AnyT.take (i := 0) (v := ?_) rfl (by kernel_rfl) (by kernel_rfl) (by kernel_rfl) (by kernel_rfl) (fun _ _ _ h => h) (Or.inl ⟨by rfl, ?_⟩) (by assumption) ?_
     rotate_left 1
     ·(intro w0 hSw; (try dsimp only at hSw); go_simp; try with_reducible rfl)
     try simp only [Act.put, setIfInBounds_toArray, set_cons_zero, set_cons_succ, getElem_toArray, getElem_cons_zero, getElem_cons_succ]
     refine AnyT.take (i := 1) (v := ?_) rfl (by kernel_rfl) (by kernel_rfl) (by kernel_rfl) (by kernel_rfl) (fun _ _ _ h => h) (Or.inl ⟨by rfl, ?_⟩) (by assumption) ?_
     rotate_left 1
     ·(intro w0 hSw; (try dsimp only at hSw); go_simp; try with_reducible rfl)
     try simp only [Act.put, setIfInBounds_toArray, set_cons_zero, set_cons_succ, getElem_toArray, getElem_cons_zero, getElem_cons_succ]
     refine AnyT.takeA (i := 2) (v := ?_) rfl (by kernel_rfl) (by kernel_rfl) (by kernel_rfl) (fun _ _ _ h => h) (Or.inl ⟨by rfl, ?_⟩) ?_
     rotate_left 1
     ·(intro w0 _; go_simp; try with_reducible rfl)
     try simp only [Act.put, setIfInBounds_toArray, set_cons_zero, set_cons_succ, getElem_toArray, getElem_cons_zero, getElem_cons_succ]
     refine AnyT.call (i := 3) (by kernel_rfl) rfl (fun K hK => ?_)
     try simp only [Act.put, setIfInBounds_toArray, set_cons_zero, set_cons_succ, getElem_toArray, getElem_cons_zero, getElem_cons_succ]
     rw [if_pos (by rfl)]
     go_simp
     (go_at_call 75; refine LN1.out.mono ?_; rintro e w9 ⟨rfl, bb9⟩; have e0 : w9.cell? ⟨w.heap.size, 0, none⟩ = some (.slice A n cs) := (bb9.cell (p := ⟨w.heap.size, 0, none⟩) zS).trans c0; have e1 : w9.cell? ⟨w.heap.size, 1, none⟩ = some (.slice V q cv) := (bb9.cell (p := ⟨w.heap.size, 1, none⟩) zS).trans c1; have e2 : w9.cell? ⟨B, 0, none⟩ = some (.slice X xn xc) := (bb9.cell (p := ⟨B, 0, none⟩) zB).trans c2; have e3 : w9.cell? ⟨B, 1, none⟩ = some (.slice O on oc) := (bb9.cell (p := ⟨B, 1, none⟩) zB).trans c3; go_wp2_with fail)
     refine hK.out _ _ (fun _ _ => ?_) (fun hKeep => ?_)
     ·exact ⟨e0, e1, e2, e3⟩
     replace hHeld := hKeep (by first | rfl | trivial) hHeld
     clear hK K hKeep
     try simp only [Act.put, setIfInBounds_toArray, set_cons_zero, set_cons_succ, getElem_toArray, getElem_cons_zero, getElem_cons_succ]
     have hb9 := HBD.out.trans bb9
     have r9 := HJ2.out.r1.next hb9
     have g0 := r9.free 0
     have g1 := r9.free 1
     have y0 : w9.cell? ⟨w.heap.size + 1, 0, none⟩ = some (.slice none 0 0) := r9.cell 0
     have y1 : w9.cell? ⟨w.heap.size + 1, 1, none⟩ = some (.slice none 0 0) := r9.cell 1
     have ra := r9.put 0 (.slice X xn xc)
     have y2 : (w9.setCell ⟨w.heap.size + 1, 0, none⟩ (.slice X xn xc)).cell? ⟨w.heap.size + 1, 1, none⟩ = some (.slice none 0 0) := ra.cell 1
     have g2 := ra.free 1
     have rb := ra.put 1 (.slice O on oc)
     have u0 : ((w9.setCell ⟨w.heap.size + 1, 0, none⟩ (.slice X xn xc)).setCell ⟨w.heap.size + 1, 1, none⟩ (.slice O on oc)).cell? ⟨w.heap.size + 1, 0, none⟩ = some (.slice X xn xc) := rb.cell 0
     have u1 : ((w9.setCell ⟨w.heap.size + 1, 0, none⟩ (.slice X xn xc)).setCell ⟨w.heap.size + 1, 1, none⟩ (.slice O on oc)).cell? ⟨w.heap.size + 1, 1, none⟩ = some (.slice O on oc) := rb.cell 1
     have j9 := HJ2.out.next hb9
     have a0 := (j9.r0.far (show w.heap.size ≠ w.heap.size + 1 by omega) (p := ⟨w.heap.size + 1, 0, none⟩) (.slice X xn xc)).far (show w.heap.size ≠ w.heap.size + 1 by omega) (p := ⟨w.heap.size + 1, 1, none⟩) (.slice O on oc)
     have a3 := (j9.r3.far (show B ≠ w.heap.size + 1 by have := j9.z; omega) (p := ⟨w.heap.size + 1, 0, none⟩) (.slice X xn xc)).far (show B ≠ w.heap.size + 1 by have := j9.z; omega) (p := ⟨w.heap.size + 1, 1, none⟩) (.slice O on oc)
     have FZ : AnsWalk w (byW d.1 d.2 t s (F : Int)) (byD d.1 d.2 t s (F : Int)) (.returned (.tuple #[.agg #[.slice X xn xc, .slice O on oc], .bool (normalB d.1 d.2 x)])) ((w9.setCell ⟨w.heap.size + 1, 0, none⟩ (.slice X xn xc)).setCell ⟨w.heap.size + 1, 1, none⟩ (.slice O on oc)) := by
      rw [← HZ.out.2]
      exact ansWalk_yes (b := byD d.1 d.2 t s (F : Int)) HJ2.out HZ.out.1 hb9
     have HFZ := hid FZ
     have HA0 := hid a0
     have HA3 := hid a3
     clear FZ ra rb r9 hb9 bb9 j9 a0 a3
     refine AnyT.call (i := 4) (by kernel_rfl) rfl (fun K hK => ?_)
     try simp only [Act.put, setIfInBounds_toArray, set_cons_zero, set_cons_succ, getElem_toArray, getElem_cons_zero, getElem_cons_succ]
     rw [if_pos (by rfl)]
     go_simp
     refine hK.out _ _ (fun _ _ => ?_) (fun hKeep => ?_)
     ·exact ⟨HA0.out.cell 0, HA0.out.cell 1, HA3.out.cell 0, HA3.out.cell 1⟩
     replace hHeld := hKeep (by first | rfl | trivial) hHeld
     clear hK K hKeep
     try simp only [Act.put, setIfInBounds_toArray, set_cons_zero, set_cons_succ, getElem_toArray, getElem_cons_zero, getElem_cons_succ]
     refine AnyT.takeA (i := 5) (v := ?_) rfl (by kernel_rfl) (by kernel_rfl) (by kernel_rfl) (fun _ _ _ h => h) (Or.inl ⟨by rfl, ?_⟩) ?_
     rotate_left 1
     ·(intro w0 _; go_simp; try with_reducible rfl)
     try simp only [Act.put, setIfInBounds_toArray, set_cons_zero, set_cons_succ, getElem_toArray, getElem_cons_zero, getElem_cons_succ]
     refine AnyT.done (by kernel_rfl) ?_ _
     go_wp2
     exact bodyPost_ret (v := .tuple #[.agg #[.slice X xn xc, .slice O on oc], .bool (normalB d.1 d.2 x)]) (by simp [results, Try.results43, go_sem, u0, u1]) rfl HFZ.out
  ·have HB := hid (by_off (by_no2 (sg := d.1) (rs := d.2) (t := t) (s := s) (decide_eq_false hf : fuelB f = false)))
   have HIN := hid (fun w1 => inNo f 0 60 w1 hf)
   clear hf LC LK LS LN
   go_enter Try.func43, Try.ntmps43
   go_wp2_with fail
   rw [← HW.out]
   go_wp2_with fail
   refine LR.out.mono ?_
   rintro e w1 ⟨rfl, bb⟩
   replace r1 := r1.next bb
   replace bel := next_trans bel bb
   have LI := hid (HIN.out w1)
   clear bb K0 K1 LR HIN
   go_wp2_with fail
   refine LI.out.mono ?_
   rintro e w2 ⟨rfl, rfl⟩
   have y0 : w1.cell? ⟨w.heap.size + 1, 0, none⟩ = some (.slice none 0 0) := r1.cell 0
   have y1 : w1.cell? ⟨w.heap.size + 1, 1, none⟩ = some (.slice none 0 0) := r1.cell 1
   have g0 := r1.free 0
   have g1 := r1.free 1
   have ra := r1.put 0 (.slice none 0 0)
   have y2 : (w1.setCell ⟨w.heap.size + 1, 0, none⟩ (.slice none 0 0)).cell? ⟨w.heap.size + 1, 1, none⟩ = some (.slice none 0 0) := ra.cell 1
   have g2 := ra.free 1
   have rb := ra.put 1 (.slice none 0 0)
   have u0 : ((w1.setCell ⟨w.heap.size + 1, 0, none⟩ (.slice none 0 0)).setCell ⟨w.heap.size + 1, 1, none⟩ (.slice none 0 0)).cell? ⟨w.heap.size + 1, 0, none⟩ = some (.slice none 0 0) := rb.cell 0
   have u1 : ((w1.setCell ⟨w.heap.size + 1, 0, none⟩ (.slice none 0 0)).setCell ⟨w.heap.size + 1, 1, none⟩ (.slice none 0 0)).cell? ⟨w.heap.size + 1, 1, none⟩ = some (.slice none 0 0) := rb.cell 1
   have FZ : AnsWalk w (byW d.1 d.2 t s f) (byD d.1 d.2 t s f) (.returned (.tuple #[.agg #[.slice none 0 0, .slice none 0 0], .bool false])) ((w1.setCell ⟨w.heap.size + 1, 0, none⟩ (.slice none 0 0)).setCell ⟨w.heap.size + 1, 1, none⟩ (.slice none 0 0)) := ansWalk_no HB.out (((bel).setCell (show w.heap.size ≤ w.heap.size + 1 by omega) _).setCell (show w.heap.size ≤ w.heap.size + 1 by omega) _)
   have HFZ := hid FZ
   clear FZ ra rb bel r0 r1 LI
   go_wp2
   exact bodyPost_ret (v := .tuple #[.agg #[.slice none 0 0, .slice none 0 0], .bool false]) (by simp [results, Try.results43, go_sem, u0, u1]) rfl HFZ.out
end bySpec
end
section
namespace walkSpec
open Go.RowKit base ints sig term termOk endAt endOf marks app sym sub segs segsHelp kinds termFacts same shifted shape kindsR kindsW varsOf ruleMath ruleSpec stepMath walkMath stepSpec ownL heldT
set_option maxRecDepth 100000
section
variable {sg : List Int} {rs : List Rl} {k : Wk} {t : List Int} {x : Int}
end
structure Wi (w : World) (a v f s : Value) (B : Nat) (X O : Option Addr) (xn xc on oc : Nat) (fr : List Int) (L : List St) (wr : World) : Prop where
 r0 : Row wr w.heap.size 34 #[a, v]
 r1 : Row wr (w.heap.size + 1) 50 #[f, s]
 r2 : Row wr (w.heap.size + 1 + 1) 50 #[.slice none 0 0, .slice none 0 0]
 r3 : Row wr B 50 #[.slice X xn xc, .slice O on oc]
 x : Ownd wr (w.heap.size + 1 + 1 + 1) B X xn xc fr
 o : OwnL wr (B + 1) wr.heap.size 92 sStep O on oc L
 b : Below w.heap.size w wr
 z : w.heap.size + 1 + 1 + 1 ≤ B
theorem Wi.next {w wr w' : World} {a v f s : Value} {B : Nat} {X O : Option Addr} {xn xc on oc : Nat} {fr : List Int} {L : List St} (h : Wi w a v f s B X O xn xc on oc fr L wr) (hb : Below wr.heap.size wr w') : Wi w a v f s B X O xn xc on oc fr L w' :=
 ⟨h.r0.next hb, h.r1.next hb, h.r2.next hb, h.r3.next hb, h.x.next hb, (h.o.next hb).wider (Nat.le_refl _) hb.size, next_trans h.b hb, h.z⟩
end walkSpec
end
section
namespace walkX
open Go.RowKit base sig term termOk termFacts segs shape kindsR kindsW ruleMath stepMath walkMath walkSpec
theorem steps_sz {L : List St} {C : Nat} (h : ∀ s ∈ L, s.2.2.length ≤ C) : sz sStepS L ≤ L.length * (C + 1) := by
 induction L with
 | nil => exact Nat.zero_le _
 | cons x r ih =>
  have h1 := ih (fun s hs => h s (List.mem_cons_of_mem _ hs))
  have h2 := h x (List.mem_cons_self ..)
  have e : sz sStepS (x :: r) = (r.length + 1) + ((0 + (0 + sz sI x.2.2)) + (r.map (sz sStep)).sum) := rfl
  have e2 : sz sStepS r = r.length + (r.map (sz sStep)).sum := rfl
  rw [e, sz_ints, List.length_cons, Nat.add_mul]
  rw [e2] at h1
  omega
theorem walk_sz {k : Wk} (h1 : k.1.length ≤ 60) (h2 : k.2.length ≤ 60) (h3 : ∀ s ∈ k.2, s.2.2.length ≤ 60) : sz sWalk k ≤ 1048576 := by
 show sz sI k.1 + sz sStepS k.2 ≤ 1048576
 have a := steps_sz h3
 have b : k.2.length * (60 + 1) ≤ 60 * 61 := Nat.mul_le_mul h2 (Nat.le_refl _)
 rw [sz_ints]
 omega
theorem zero_sz : sz sWalk (([], []) : List Int × List St) ≤ 1048576 := walk_sz (k := ([], [])) (by simp) (by simp) (fun s hs => by cases hs)
theorem walkB_sz {sg : List Int} {rs : List Rl} {k : Wk} (h : walkB sg rs k = true) : sz sWalk k ≤ 1048576 := by
 obtain ⟨-, q2, q3, q4⟩ := walk_parts h
 exact walk_sz (term_len q2).2 q3 (fun s hs => (term_len ((go_ok q2 q4).2 s hs)).2)
end walkX
end
section
namespace bySpec
open Go.RowKit base ints sig term termOk endAt endOf marks app sym sub segs segsHelp kinds termFacts same shifted shape drawX kindsR kindsW varsOf ruleMath ruleSpec stepMath walkMath stepSpec walkSpec walkX ownL heldT orderMath orderSpec
set_option maxRecDepth 100000
theorem byW_sz {sg : List Int} {rs : List Rl} {t : List Int} {s f : Int} : sz sWalk (byW sg rs t s f) ≤ 1048576 := by
 cases h : byB sg rs t s f with
 | true => exact walkB_sz (by_walk h)
 | false => rw [(by_off h).1]; exact zero_sz
theorem byN_no {sg : List Int} {rs : List Rl} {t : List Int} {s f : Int} (h : byD sg rs t s f = false) : byN sg rs t s f = [] := by unfold byN; rw [if_neg (by rw [h]; simp)]
theorem byN_yes {sg : List Int} {rs : List Rl} {t : List Int} {s f : Int} (h : byD sg rs t s f = true) : byN sg rs t s f = endL (byW sg rs t s f) := by unfold byN; rw [if_pos h]
theorem byN_len {sg : List Int} {rs : List Rl} {t : List Int} {s f : Int} : (byN sg rs t s f).length ≤ 1048576 := by
 unfold byN
 split
 ·exact end_len byW_sz
 ·simp
set_option maxHeartbeats 2000000 in
theorem specNormalBy (a v u : Value) (d : Dat sSystem) (t : List Int) (s f : Int) (w : World) (h : Rd w w.heap.size sSystem [a, v] d) (ht : Rd w w.heap.size sI [u] t) (hz : sz sSystem d ≤ 1048576) (hz' : sz sI t ≤ 1048576) :
  Calls Try.prog 16 #[.agg #[a, v], u, .int .i64 s, .int .i64 f] w (AnsPairO w (byN d.1 d.2 t s f) (byD d.1 d.2 t s f)) := by
 obtain ⟨W, hW, rA, bel⟩ := box1 w 34 #[a, v]
 have HW := Lib.hid hW
 have LW := Lib.hid (specWalkBy a v u d t s f W (h.next bel) (ht.next bel) hz hz')
 obtain ⟨T, m, c, rfl, -, -⟩ := rd_ints.1 ht
 clear hW h ht
 obtain ⟨bd, hbd⟩ : ∃ b, byD d.1 d.2 t s f = b := ⟨_, rfl⟩
 have HB := Lib.hid hbd
 rw [hbd] at LW ⊢
 clear hbd
 go_enter Try.func16, Try.ntmps16
 go_wp2_with fail
 rw [← HW.out]
 refine LW.out.mono ?_
 rintro e w1 ⟨X, xn, xc, O, on, oc, rfl, ow, bb⟩
 have b1 := next_trans bel bb
 have b2 : Below w1.heap.size w1 (w1.alloc (.cells #[.slice X xn xc, .slice O on oc] 50)) := (Below.refl _ _).alloc (Nat.le_refl _) _
 have LE := Lib.hid (l7End _ _ _ (w1.alloc (.cells #[.slice X xn xc, .slice O on oc] 50)) ((ow.next b2).rd) byW_sz)
 have bel2 := Lib.hid (next_trans b1 b2)
 clear ow bb b1 b2 bel rA LW
 cases bd with
 | false =>
  have e0 := own_empty (w1.alloc (.cells #[.slice X xn xc, .slice O on oc] 50)) w.heap.size bel2.out.size
  have F := Lib.hid (show AnsPairO w (byN d.1 d.2 t s f) false (.returned (.tuple #[.slice (some ⟨w1.heap.size + 1, 0, none⟩) 0 0, .bool false])) ((w1.alloc (.cells #[.slice X xn xc, .slice O on oc] 50)).alloc (.cells #[] 2)) from ⟨_, 0, 0, rfl, by rw [byN_no HB.out]; simpa using e0, bel2.out.alloc bel2.out.size _⟩)
  clear e0 LE
  go_wp2
  go_ret2
  exact F.out
 | true =>
  go_wp2_with fail
  refine LE.out.mono ?_
  rintro e w3 ⟨N, nn, nc, rfl, oN, bb⟩
  have F := Lib.hid (show AnsPairO w (byN d.1 d.2 t s f) true (.returned (.tuple #[.slice N nn nc, .bool true])) w3 from ⟨N, nn, nc, rfl, by rw [byN_yes HB.out]; exact Own.lower oN bel2.out.size, next_trans bel2.out bb⟩)
  clear oN bb LE
  go_wp2
  go_ret2
  exact F.out
end bySpec
end
section
namespace byX
open Go.RowKit base sig term marks app sym segs shape kindsR kindsW varsOf ruleMath ruleSpec stepMath walkMath stepSpec walkSpec orderMath orderSpec bySpec
theorem specNormalByX (a v u : Value) (d : Dat sSystem) (t : List Int) (s f : Int) (w : World) (h : Rd w w.heap.size sSystem [a, v] d) (ht : Rd w w.heap.size sI [u] t) (hz : sz sSystem d ≤ 1048576) (hz' : sz sI t ≤ 1048576) (_ : -9223372036854775808 ≤ s) (_ : s ≤ 9223372036854775807) (_ : -9223372036854775808 ≤ f) (_ : f ≤ 9223372036854775807) :
  Calls Try.prog 16 #[.agg #[a, v], u, .int .i64 s, .int .i64 f] w fun e w' => ∃ A n c, e = .returned (.tuple #[.slice A n c, .bool (byD d.1 d.2 t s f)]) ∧ Seg w' w'.heap.size A n (byN d.1 d.2 t s f) ∧ Below w.heap.size w w' :=
 (specNormalBy a v u d t s f w h ht hz hz').mono fun _ _ ⟨A, n, c, e, o, b⟩ => ⟨A, n, c, e, Own.seg o, b⟩
end byX
end
section
namespace whole
open Go.RowKit base segs matchMath
set_option maxRecDepth 100000
def z24 : Array Value := Array.replicate 24 (.slice none 0 0)
theorem z24_size : z24.size = 24 := by simp [z24]
section
variable {w w' : World} {B B' g : Nat} {cs : Array Value} {s : List (List Int)} {t : TypeId}
def TabR (w : World) (B : Nat) (cs : Array Value) (s : List (List Int)) : Prop :=
 cs.size = 24 ∧ s.length = 24 ∧ ∀ j, j < 24 → ∃ A n c, cs[j]? = some (.slice A n c) ∧ Seg w B A n (s.getD j []) ∧ Cap A n c
theorem TabR.new (w : World) (B : Nat) : TabR w B z24 s0 :=
 ⟨z24_size, rfl, fun j hj => ⟨none, 0, 0, by simp [z24, hj], by rw [s0_get]; exact Seg.empty, ⟨Nat.le_refl _, by omega, fun _ => rfl⟩⟩⟩
theorem TabR.keep (h : TabR w B cs s) (hk : ∀ p : Addr, p.block < B → w'.cell? p = w.cell? p) : TabR w' B cs s :=
 ⟨h.1, h.2.1, fun j hj => by obtain ⟨A, n, c, e, hs, hc⟩ := h.2.2 j hj; exact ⟨A, n, c, e, hs.keep hk, hc⟩⟩
theorem TabR.more (h : TabR w B cs s) (hB : B ≤ B') : TabR w B' cs s :=
 ⟨h.1, h.2.1, fun j hj => by obtain ⟨A, n, c, e, hs, hc⟩ := h.2.2 j hj; exact ⟨A, n, c, e, hs.more hB, hc⟩⟩
theorem TabR.below (h : TabR w B cs s) (hb : Below B w w') : TabR w' B cs s := h.keep fun _ hp => hb.cell hp
theorem TabR.put (h : TabR w B cs s) {j : Nat} (hj : j < 24) {A : Option Addr} {n c : Nat} {ys : List Int} (hs : Seg w B A n ys) (hc : Cap A n c) : TabR w B (cs.setIfInBounds j (.slice A n c)) (s.set j ys) := by
 refine ⟨by rw [Array.size_setIfInBounds]; exact h.1, by rw [List.length_set]; exact h.2.1, fun i hi => ?_⟩
 by_cases e : j = i
 ·subst e
  exact ⟨A, n, c, by rw [Array.getElem?_setIfInBounds_self_of_lt (by rw [h.1]; exact hj)], by rw [set_get, if_pos ⟨rfl, by rw [h.2.1]; exact hj⟩]; exact hs, hc⟩
 ·obtain ⟨A', n', c', e', hs', hc'⟩ := h.2.2 i hi
  exact ⟨A', n', c', by rw [Array.getElem?_setIfInBounds_ne e]; exact e', by rw [set_get, if_neg (fun hh => e hh.1)]; exact hs', hc'⟩
theorem TabR.one (h : TabR w B cs s) : cs.all (·.oneCell') = true := by
 rw [Array.all_eq_true]
 intro i hi
 obtain ⟨A, n, c, e, _⟩ := h.2.2 i (by rw [← h.1]; exact hi)
 rw [Array.getElem?_eq_getElem hi] at e
 injection e with e
 rw [e]; rfl
theorem TabR.segs (h : TabR w B cs s) (hr : Row w g t cs) (hB : B ≤ w.heap.size) : Segs w w.heap.size (some ⟨g, 0, none⟩) 24 s := by
 refine ⟨h.2.1, fun _ => ⟨g, 0, rfl, hr.lt, fun j hj => ?_⟩⟩
 obtain ⟨A, n, c, e, hs, hc⟩ := h.2.2 j hj
 exact ⟨A, n, c, by rw [Nat.zero_add, hr.cell j, e], hs.more hB, hc⟩
end
end whole
end
section
namespace whole
open Go.RowKit base cursor marks app sym segs matchMath matchSpec
set_option maxRecDepth 100000
section
variable {P : Program} {ops : Array Oper} {rest : List Oper} {o : Oper} {a : Act} {w : World} {Q : Exit → Act → World → Prop}
theorem rowAlloc (hgd : o.guard = none) (t : TypeId) (ho : o.op = .alloc t) (z : Array Value) (hz : ∀ w, (zeroValue t).run P w = .ok (.agg z) w)
  (h : wpList P ops Q rest (a.put o.dst (.pointer (some ⟨w.heap.size, 0, none⟩))) (w.alloc (.cells z t))) : wpList P ops Q (o :: rest) a w :=
 wpList_plain hgd fun _ hK => by
  unfold Oper.wp execOp
  simp only [ho, Instr.alloc, Sem.run_bind, hz, Result.andThen_ok, newVar, Value.cells]
  exact hK _ _ h
theorem rowBox (hgd : o.guard = none) (t : TypeId) (x : Operand) (ho : o.op = .box t x) (z : Array Value) (hx : a.eval x = .agg z)
  (h : wpList P ops Q rest (a.put o.dst (.pointer (some ⟨w.heap.size, 0, none⟩))) (w.alloc (.cells z t))) : wpList P ops Q (o :: rest) a w :=
 wpList_plain hgd fun _ hK => by
  unfold Oper.wp execOp
  simp only [ho, hx, Instr.box, Sem.run_bind, Result.andThen_ok, newVar, Value.cells]
  exact hK _ _ h
theorem rowBuild (hgd : o.guard = none) (t : TypeId) (ho : o.op = .build t #[]) (z : Array Value) (hz : P.built t [] = some z)
  (h : wpList P ops Q rest (a.put o.dst (.agg z)) w) : wpList P ops Q (o :: rest) a w :=
 wpList_plain hgd fun _ hK => by
  refine wp_build t #[] ho (by simp [hz]) ?_
  simp only [List.map_toArray, List.map_nil, hz, Option.getD_some]
  exact hK _ _ h
theorem rowStore (hgd : o.guard = none) (ty : TypeId) (x y : Operand) (ho : o.op = .store ty x y) (g : Nat) (cells old : Array Value) (t : TypeId) (hx : a.eval x = .pointer (some ⟨g, 0, none⟩)) (hy : a.eval y = .agg cells)
  (hg : w.heap[g]? = some (.cells old t (0, 0))) (hi : (P.info? ty).map (·.size) = some cells.size) (hs : old.size = cells.size) (h1 : cells.all (·.oneCell') = true)
  (h : wpList P ops Q rest (a.put o.dst undef) (w.setRow g cells)) : wpList P ops Q (o :: rest) a w :=
 wpList_plain hgd fun _ hK => by
  unfold Oper.wp execOp
  simp only [ho, hx, hy, Instr.storeAt, Instr.sureAddr, Sem.run_bind, Sem.run_pure, Result.andThen_ok, run_storeVar_row w g t ty old cells hg hi hs h1]
  exact hK _ _ h
theorem results_row_tmp {fn : Func} {p u : Tmp} {ty : TypeId} (h : fn.results = #[.cell p ty, .tmp u]) (tmps : Array Value) (g : Nat) (t : TypeId) (cs : Array Value) (d : TypeDesc)
  (hp : tmps.getD p undef = .pointer (some ⟨g, 0, none⟩)) (hg : w.heap[g]? = some (.cells cs t (0, 0)))
  (hu : P.underlying ty = some d) (hd : (match d with | .struct _ | .array _ _ => true | _ => false) = true) (hi : (P.info? ty).map (·.size) = some cs.size) :
  (results fn tmps).run P w = .ok (.tuple #[.agg cs, tmps.getD u undef]) w := by
 rw [results_cell_tmp h, hp]
 simp [asAddr, Result.andThen, run_loadVar_row w g t ty cs (0, 0) d hg hu hd hi]
end
theorem z24_one : z24.all (·.oneCell') = true := by kernel_rfl
theorem info_b : (Try.prog.info? 139).map (fun i => (i.zero, i.size)) = some (some (.agg z24), 24) := by kernel_rfl
theorem zero_b : ∀ w, (zeroValue 139).run Try.prog w = .ok (.agg z24) w := by
 intro w
 cases hq : Try.prog.info? 139 with
 | none => have h := info_b; simp [hq] at h
 | some i => have h := info_b; simp [hq] at h; simp [zeroValue, typeInfo, hq, h.1]
theorem size_b : (Try.prog.info? 139).map (·.size) = some 24 := by kernel_rfl
theorem built_b : Try.prog.built 139 [] = some z24 := by kernel_rfl
section
variable {w w' : World} {B B' g : Nat} {cs : Array Value} {s : List (List Int)} {t : TypeId}
theorem Row.setRow (h : Row w g t cs) (c' : Array Value) : Row (w.setRow g c') g t c' := setRow_heap w g cs c' t (0, 0) h
theorem grown_setRow (w : World) (g : Nat) (c' : Array Value) : w.grownBy (w.setRow g c') (some g) :=
 ⟨rfl, rfl, rfl, by simp, fun k _ hk => setRow_other w g k c' (fun e => hk (by rw [e]))⟩
end
end whole
end
section
namespace takeMath
open sig term termOk termFacts endAt sub termMath fillMath posMath renMath matchMath
def Sync (sg p t : List Int) (i k : Nat) : Prop := ∃ q, scan sg q (p.drop i) = some (p.length - i) ∧ ∃ j, scan sg q (t.drop k) = some j
section
variable {sg p t : List Int} {i k : Nat} {x : Int}
theorem Sync.start (h1 : termOkB sg p = true) (h2 : termOkB sg t = true) (ha : k < t.length) : Sync sg p t 0 k :=
 ⟨1, by rw [List.drop_zero, Nat.sub_zero]; exact (term_parts h1).2.2, _, (term_at h2 ha).1⟩
theorem Sync.lt (h : Sync sg p t i k) (hi : i < p.length) : k < t.length := by
 obtain ⟨q, h1, j, h2⟩ := h
 cases q with
 | zero => rw [scan_zero] at h1; injection h1 with h1; omega
 | succ q =>
  have a := scan_pos h2
  have b := scan_le h2
  rw [List.length_drop] at b
  omega
theorem Sync.sym (h : Sync sg p t i k) (hi : i < p.length) (hx : p.getD i 0 = x) (hy : t.getD k 0 = x) : Sync sg p t (i + 1) (k + 1) := by
 have hk := h.lt hi
 obtain ⟨q, h1, j, h2⟩ := h
 rw [drop_cons hi, hx] at h1
 rw [drop_cons hk, hy] at h2
 cases q with
 | zero => rw [scan_zero] at h1; injection h1 with h1; omega
 | succ q =>
  by_cases hn : ar sg x < 0
  ·rw [scan_bad hn] at h1; cases h1
  ·rw [scan_step hn, Option.map_eq_some_iff] at h1 h2
   obtain ⟨a, e1, e2⟩ := h1
   obtain ⟨b, e3, e4⟩ := h2
   exact ⟨_, by rw [e1]; congr 1; omega, b, e3⟩
theorem Sync.var (h : Sync sg p t i k) (hi : i < p.length) (hx : p.getD i 0 = x) (h0 : -24 ≤ x) (h1 : x < 0) (hok : termOkB sg t = true) : Sync sg p t (i + 1) (k + (subL sg t k).length) := by
 have hk := h.lt hi
 have hl := (sub_len1 hok hk).1
 obtain ⟨q, h1, j, h2⟩ := h
 rw [drop_cons hi, hx] at h1
 cases q with
 | zero => rw [scan_zero] at h1; injection h1 with h1; omega
 | succ q =>
  have hz : ar sg x = 0 := ar_var (by omega)
  rw [scan_step (by omega), hz, Option.map_eq_some_iff] at h1
  obtain ⟨a, e1, e2⟩ := h1
  obtain ⟨j1, g1, _, _, g2⟩ := scan_first h2
  rw [hl, len1_eq g1]
  exact ⟨q, by rw [show p.length - (i + 1) = a by omega]; exact e1, _, g2⟩
end
theorem mst_at {sg p t : List Int} {k : Nat} (h1 : termOkB sg p = true) (h2 : termOkB sg t = true) (hk : k < t.length) : (mst sg t p k s0).isSome = instB sg p (subL sg t k) := by
 have hx : ∀ x ∈ p, -24 ≤ x := fun x hx => (term_mem h1 hx).1
 have hs := (sub_term h2 hk).1
 obtain ⟨_, e2, e3⟩ := sub_len1 h2 hk
 rw [Bool.eq_iff_iff, inst_iff h1 hs, Option.isSome_iff_exists]
 constructor
 ·rintro ⟨s', h⟩
  obtain ⟨⟨rest, e⟩, hv⟩ := mst_sound h2 h (by rfl) hx
  refine ⟨fun i => s'.getD i [], ?_, hv⟩
  have a := scan_append (r := rest) (scan_fill (L := fun i => s'.getD i []) (term_parts h1).2.2 hv)
  rw [← e] at a
  unfold subL
  rw [len1_eq a, e, List.take_left' rfl]
 ·rintro ⟨L, hL, hv⟩
  obtain ⟨s', m1, _⟩ := mst_full (sg := sg) (t := t) (L := L) (p := p) (k := k) (s := s0) (rest := t.drop (k + (subL sg t k).length)) (by rw [hL]; exact e2) (by rfl) hx hv (fun i hi => by rw [s0_get] at hi; exact absurd rfl hi)
  exact ⟨s', m1⟩
end takeMath
end
section
open Go.Lib (hid)
namespace take
open Go.RowKit base ints sig same term termOk endAt marks app sym sub segs termFacts termMath posMath cursor matchMath matchSpec whole takeMath curO
set_option maxRecDepth 100000
theorem set_same {s : List (List Int)} {v : Nat} {ys : List Int} (h : s.getD v [] = ys) (hv : v < s.length) : s.set v ys = s := by
 refine List.ext_getElem (by simp) fun i h1 h2 => ?_
 rw [List.getElem_set]
 split
 ·rename_i e
  subst e
  rw [← h]
  simp [List.getD, hv]
 ·rfl
structure Tk (w : World) (g : Nat) (A : Option Addr) (n c : Nat) (Q : Option Addr) (m mc : Nat) (sg t : List Int) (k : Nat) (s : List (List Int)) : Prop where
 row : Row w (g + 1) 134 #[.slice A n c, .slice Q m mc, .int .i64 k]
 tab : ∃ cs, Row w g 139 cs ∧ TabR w g cs s
 ss : Seg w g A n sg
 st : Seg w g Q m t
 le : k ≤ m
 hn : n ≤ 1048576
 hm : m ≤ 1048576
 ars : Arities sg
 hs : ∀ j, (s.getD j []).length ≤ m
section
variable {w w' : World} {g : Nat} {A : Option Addr} {n c : Nat} {Q : Option Addr} {m mc : Nat} {sg t : List Int} {k k' : Nat} {s : List (List Int)}
theorem Tk.cur (h : Tk w g A n c Q m mc sg t k s) : Cur w (g + 1) A n c Q m mc sg t k := ⟨h.row, h.ss.more (Nat.le_succ _), h.st.more (Nat.le_succ _), h.le, h.hn, h.hm, h.ars⟩
theorem Tk.lt (h : Tk w g A n c Q m mc sg t k s) : g + 1 < w.heap.size := h.row.lt
theorem keep_of {B : Nat} {r : Option Nat} (hg : w.grownBy w' r) (hB : B ≤ w.heap.size) (hr : ∀ k, r = some k → B ≤ k) : ∀ p : Addr, p.block < B → w'.cell? p = w.cell? p :=
 fun q hq => World.cell?_of_block (hg.block q.block (by omega) (fun e => by have := hr _ e.symm; omega))
theorem Tk.move (h : Tk w g A n c Q m mc sg t k s) (hg : w.grownBy w' (some (g + 1))) (hr : Row w' (g + 1) 134 #[.slice A n c, .slice Q m mc, .int .i64 k']) (hk : k' ≤ m) : Tk w' g A n c Q m mc sg t k' s := by
 have hl := h.lt
 have hk0 := keep_of (B := g) hg (by omega) (fun k e => by injection e; omega)
 obtain ⟨cs, h1, h2⟩ := h.tab
 refine ⟨hr, ⟨cs, (hg.block g (by omega) (fun e => by injection e; omega)).trans h1, h2.keep hk0⟩, h.ss.keep hk0, h.st.keep hk0, hk, h.hn, h.hm, h.ars, h.hs⟩
theorem Tk.drewN (h : Tk w g A n c Q m mc sg t k s) (d : Nat) : Tk (w.drewN d) g A n c Q m mc sg t k s := ⟨h.row, h.tab, h.ss, h.st, h.le, h.hn, h.hm, h.ars, h.hs⟩
theorem Tk.put (h : Tk w g A n c Q m mc sg t k s) {j : Nat} (hj : j < 24) {D : Option Addr} {dn dc : Nat} {ys : List Int} (hs : Seg w g D dn ys) (hc : Cap D dn dc) (hl : ys.length ≤ m) :
  Tk (w.setCell ⟨g, j, none⟩ (.slice D dn dc)) g A n c Q m mc sg t k (s.set j ys) := by
 have hlt := h.lt
 have hg : w.grownBy (w.setCell ⟨g, j, none⟩ (.slice D dn dc)) (some g) := grown_put (World.grownBy.refl _ _) _ _
 have hk0 := keep_of (B := g) hg (by omega) (fun k e => by injection e; omega)
 obtain ⟨cs, h1, h2⟩ := h.tab
 exact ⟨h.row.far (show g + 1 ≠ g by omega) _, ⟨_, h1.put j _, (h2.put hj hs hc).keep hk0⟩, h.ss.keep hk0, h.st.keep hk0, h.le, h.hn, h.hm, h.ars, fun i => by rw [set_get]; split; exact hl; exact h.hs i⟩
theorem Tk.held (h : Tk w g A n c Q m mc sg t k s) {j : Nat} (hj : j < 24) : ∃ D dn dc, w.cell? ⟨g, j, none⟩ = some (.slice D dn dc) ∧ Seg w g D dn (s.getD j []) ∧ w.frozen? ⟨g, j, none⟩ = false := by
 obtain ⟨cs, h1, h2⟩ := h.tab
 obtain ⟨D, dn, dc, e, hs, _⟩ := h2.2.2 j hj
 exact ⟨D, dn, dc, by rw [h1.cell j, e], hs, h1.free j⟩
theorem Tk.len (h : Tk w g A n c Q m mc sg t k s) : s.length = 24 := by obtain ⟨cs, h1, h2⟩ := h.tab; exact h2.2.1
end
theorem btw_drewN (lo hi : Nat) (w : World) (d : Nat) : Btw lo hi w (w.drewN d) := ⟨rfl, rfl, rfl, Nat.le_refl _, fun _ _ _ => rfl⟩
def AnsTake (w : World) (g : Nat) (A : Option Addr) (n c : Nat) (Q : Option Addr) (m mc : Nat) (sg t : List Int) (k : Nat) (s : List (List Int)) (x : Int) (e : Ending) (w' : World) : Prop :=
 Btw g (g + 2) w w' ∧ ((∃ k' s', e = .returned (.bool true) ∧ Tk w' g A n c Q m mc sg t k' s' ∧ ((0 ≤ x ∧ t.getD k 0 = x ∧ k' = k + 1) ∨ (x < 0 ∧ k' = k + (subL sg t k).length)) ∧ ∀ r, mst sg t (x :: r) k s = mst sg t r k' s') ∨
  (e = .returned (.bool false) ∧ ∀ r, mst sg t (x :: r) k s = none))
set_option maxHeartbeats 1000000 in
theorem take (g : Nat) (A Q : Option Addr) (n c m mc : Nat) (sg t : List Int) (k : Nat) (s : List (List Int)) (x : Int) (w : World) (h : Tk w g A n c Q m mc sg t k s) (hk : k < m) (hmc : m ≤ mc) (hmc2 : mc ≤ 9223372036854775807) (hx : -24 ≤ x) (hok : termOkB sg t = true) :
  Calls Try.prog 128 #[.pointer (some ⟨g, 0, none⟩), .int .i64 x, .pointer (some ⟨g + 1, 0, none⟩)] w (AnsTake w g A n c Q m mc sg t k s x) := by
 have HT := hid hok
 have HL := hid h.st.1
 have hkt : ¬ t.length ≤ k := by rw [HL.out]; omega
 have hm := h.hm
 have c1 : w.cell? ⟨g + 1, 1, none⟩ = some (.slice Q m mc) := h.row.cell 1
 have c2 : w.cell? ⟨g + 1, 2, none⟩ = some (.int .i64 k) := h.row.cell 2
 have f2 : w.frozen? ⟨g + 1, 2, none⟩ = false := h.row.free 2
 obtain ⟨b, off, y, rfl, hbb, hy, ey⟩ := h.st.spot hk
 have i0 : (0 : Int) ≤ (k : Int) := by omega
 have i1 : (k : Int) < (m : Int) := by omega
 clear hok
 by_cases hx0 : 0 ≤ x
 ·have g0 : w.grownBy (w.setCell ⟨g + 1, 2, none⟩ (.int .i64 ((k : Int) + 1))) (some (g + 1)) := grown_put (World.grownBy.refl _ _) _ _
  have r0 := h.row.put 2 (.int .i64 ((k : Int) + 1))
  have er : (.int .i64 ((k : Int) + 1) : Value) = .int .i64 ((k + 1 : Nat) : Int) := by simp
  have r1 := r0
  rw [er] at r1
  have M := hid (h.move (k' := k + 1) g0 (by rw [← er] at r1; rw [← er]; exact r0) hk)
  clear r0 r1 er
  have B := hid (Btw.of_grown (lo := g) (hi := g + 2) g0 (fun k e => by injection e; omega))
  have hy1 : (w.setCell ⟨g + 1, 2, none⟩ (.int .i64 ((k : Int) + 1))).cell? ⟨b, off + k, none⟩ = some (.int .i64 y) := (World.cell?_setCell_far w ⟨g + 1, 2, none⟩ ⟨b, off + k, none⟩ _ (by show g + 1 ≠ b; omega)).trans hy
  by_cases hxy : x = y
  ·subst hxy
   have F := fun d => (show AnsTake w g A n c (some ⟨b, off, none⟩) m mc sg t k s x (.returned (.bool true)) ((w.setCell ⟨g + 1, 2, none⟩ (.int .i64 ((k : Int) + 1))).drewN d) from
    ⟨B.out.trans (btw_drewN _ _ _ d), .inl ⟨k + 1, s, rfl, M.out.drewN d, .inl ⟨hx0, ey.out, rfl⟩, fun r => mst_sym hkt hx0 ey.out.symm⟩⟩)
   have HF := hid F
   clear F M B g0 h ey
   go_enter Try.func128, Try.ntmps128
   go_wp2
   go_quiet (fail)
   go_wp2
   go_ret
   exact HF.out _
  ·have hd : (y == x) = false := by simp; exact fun e => hxy e.symm
   have F := fun d => (show AnsTake w g A n c (some ⟨b, off, none⟩) m mc sg t k s x (.returned (.bool false)) ((w.setCell ⟨g + 1, 2, none⟩ (.int .i64 ((k : Int) + 1))).drewN d) from
    ⟨B.out.trans (btw_drewN _ _ _ d), .inr ⟨rfl, fun r => mst_symNo hkt hx0 (by rw [ey.out]; exact hxy)⟩⟩)
   have HF := hid F
   clear F M B g0 h ey
   go_enter Try.func128, Try.ntmps128
   go_wp2
   go_quiet (fail)
   go_wp2
   go_ret
   exact HF.out _
 ·obtain ⟨v, hv⟩ : ∃ v : Nat, x = -1 - (v : Int) := ⟨(-1 - x).toNat, by omega⟩
  subst hv
  have hv24 : v < 24 := by omega
  have HVR := hid (show vr (-1 - (v : Int)) = v by unfold vr; omega)
  obtain ⟨t1, t2, t3⟩ := term_at HT.out (show k < t.length by rw [HL.out]; exact hk)
  rw [HL.out] at t3
  obtain ⟨j, hj⟩ : ∃ j, len1 sg t k = j := ⟨_, rfl⟩
  have hsl := (sub_len1 HT.out (show k < t.length by rw [HL.out]; exact hk)).1
  have hsub : subL sg t k = (t.drop k).take j := by unfold subL; rw [hj]
  rw [hj] at t1 t2 t3 hsl
  obtain ⟨ys, hys⟩ : ∃ ys, subL sg t k = ys := ⟨_, rfl⟩
  rw [hys] at hsl hsub
  have HYS := hid hys
  have HSUB := hid hsub
  have HSL := hid hsl
  have T1 := hid t1
  have C := hid h.cur
  have HH := hid h
  have HKT := hid hkt
  have a1 : (k : Int) ≤ (k : Int) + (j : Int) := by omega
  have a2 : (k : Int) + (j : Int) ≤ (mc : Int) := by omega
  have a3 : ¬ mc = k := by omega
  have a4 : k + j ≤ mc := by omega
  have w1 : IntKind.i64.wrap (-1 - (-1 - (v : Int))) = (v : Int) := by rw [IntKind.wrap_i64]; omega
  have w2 : IntKind.i64.wrap (v : Int) = (v : Int) := by rw [IntKind.wrap_i64]; omega
  have j0 : (0 : Int) ≤ (v : Int) := by omega
  have j1 : (v : Int) < 24 := by omega
  clear hj hys hsub hsl t1 hy ey f2 hkt h
  go_enter Try.func128, Try.ntmps128
  have C2 := hid (C.out.drewN 1)
  go_wp2_with fail
  go_region_held3 (fun _ => True) (trivial)
   (first
    | (go_at_call 132; refine (partC (g + 1) A n c b off m mc sg t k j w.drew C2.out T1.out t3 t2 hmc hmc2).mono ?_; rintro e w3 ⟨rfl, hg0, hc⟩))
  ·have hg : w.grownBy w3 (some (g + 1)) := grown_trans (World.grownBy.refl w _) ⟨hg0.os, hg0.tape, hg0.output, hg0.size, hg0.block⟩
   have M := HH.out.move hg hc.row t3
   have b3 := Btw.of_grown (lo := g) (hi := g + 2) hg (fun k e => by injection e; omega)
   obtain ⟨D, dn, dc, ch, sh, fh⟩ := M.held hv24
   obtain ⟨os, hos⟩ : ∃ os, s.getD v [] = os := ⟨_, rfl⟩
   have hdn : dn ≤ 1048576 := by rw [← sh.1]; exact Nat.le_trans (M.hs v) hm
   rw [hos] at sh
   have HOS := hid hos
   have HSH := hid sh
   have HM := hid M
   have HB := hid b3
   have cut := hid (Seg.cut (a := k) (j := j) M.st t3)
   clear hc hg hg0 hos sh b3 M C C2 c1 c2
   have HC := hid (show Cap (some ⟨b, off + k, none⟩) j (mc - k) from ⟨by omega, by omega, fun e => by cases e⟩)
   have hj60 : j ≤ 1048576 := by omega
   have HJ := hid (show 1 ≤ j from t2)
   by_cases hd0 : dn = 0
   ·subst hd0
    have hno : ¬ ((s.getD (vr (-1 - (v : Int))) []).length ≠ 0 ∧ s.getD (vr (-1 - (v : Int))) [] ≠ subL sg t k) := by
     rw [HVR.out, HOS.out, HSH.out.1]
     exact fun e => e.1 rfl
    have R := hid (fun r => mst_var (sg := sg) (r := r) HKT.out (show ¬ 0 ≤ -1 - (v : Int) by omega) hno)
    have P := hid (HM.out.put (j := v) (D := some ⟨b, off + k, none⟩) (dn := j) (dc := mc - k) (ys := ys) hv24 (by rw [HSUB.out]; exact cut.out) HC.out (by rw [HSL.out]; omega))
    have BP := hid (HB.out.trans (Btw.of_grown (lo := g) (hi := g + 2) (grown_put (World.grownBy.refl w3 (some g)) v (.slice (some ⟨b, off + k, none⟩) j (mc - k))) (fun k e => by injection e; omega)))
    have ce := World.cell?_setCell_same w3 ⟨g, v, none⟩ (.slice (some ⟨b, off + k, none⟩) j (mc - k)) (show w3.cell? ⟨g, v, none⟩ = some (.slice D 0 dc) from ch)
    have PS := hid (show Seg (w3.setCell ⟨g, v, none⟩ (.slice (some ⟨b, off + k, none⟩) j (mc - k))) (w3.setCell ⟨g, v, none⟩ (.slice (some ⟨b, off + k, none⟩) j (mc - k))).heap.size (some ⟨b, off + k, none⟩) j ys from by
     have q := cut.out.put (p := ⟨g, v, none⟩) (Nat.le_refl _) (.slice (some ⟨b, off + k, none⟩) j (mc - k))
     rw [← HSUB.out] at q
     exact q.more (by have := P.out.lt; omega))
    clear HM HB hno
    go_wp2_with fail
    refine (implSame _ _ j j _ _ ys ys _ PS.out PS.out hj60 hj60).mono ?_
    rintro e w5 ⟨rfl, d, rfl⟩
    rw [decide_eq_true (show ys = ys from rfl)]
    have F : AnsTake w g A n c (some ⟨b, off, none⟩) m mc sg t k s (-1 - (v : Int)) (.returned (.bool true)) ((w3.setCell ⟨g, v, none⟩ (.slice (some ⟨b, off + k, none⟩) j (mc - k))).drewN d) :=
     ⟨BP.out.trans (btw_drewN _ _ _ d), .inl ⟨k + j, s.set v ys, rfl, P.out.drewN d, .inr ⟨by omega, by rw [HYS.out, HSL.out]⟩, fun r => by rw [R.out r, HVR.out, HYS.out, HSL.out]⟩⟩
    have HF := hid F
    clear F R P BP ce PS cut
    go_wp2
    go_ret
    exact HF.out
   ·have hdz : ((dn : Int) == 0) = false := by simp; omega
    have hwg := hid (show g ≤ w3.heap.size by have := HM.out.lt; omega)
    have PS := hid (show Seg w3 w3.heap.size (some ⟨b, off + k, none⟩) j ys from by
     have q := cut.out
     rw [← HSUB.out] at q
     exact q.more hwg.out)
    have PO := hid (show Seg w3 w3.heap.size D dn os from HSH.out.more hwg.out)
    by_cases hoy : os = ys
    ·have hno : ¬ ((s.getD (vr (-1 - (v : Int))) []).length ≠ 0 ∧ s.getD (vr (-1 - (v : Int))) [] ≠ subL sg t k) := by
      rw [HVR.out, HOS.out, HYS.out]
      exact fun e => e.2 hoy
     have R := hid (fun r => mst_var (sg := sg) (r := r) HKT.out (show ¬ 0 ≤ -1 - (v : Int) by omega) hno)
     have SS := hid (show s.set v ys = s from set_same (HOS.out.trans hoy) (by rw [HM.out.len]; exact hv24))
     have DS := hid (decide_eq_true hoy)
     clear cut hno hoy
     go_wp2_with fail
     refine (implSame _ _ dn j _ _ os ys _ PO.out PS.out hdn hj60).mono ?_
     rintro e w5 ⟨rfl, d, rfl⟩
     rw [DS.out]
     have F : AnsTake w g A n c (some ⟨b, off, none⟩) m mc sg t k s (-1 - (v : Int)) (.returned (.bool true)) (w3.drewN d) :=
      ⟨HB.out.trans (btw_drewN _ _ _ d), .inl ⟨k + j, s, rfl, HM.out.drewN d, .inr ⟨by omega, by rw [HYS.out, HSL.out]⟩, fun r => by rw [R.out r, HVR.out, HYS.out, HSL.out, SS.out]⟩⟩
     have HF := hid F
     clear F R SS DS PS PO HM HB
     go_wp2
     go_ret
     exact HF.out
    ·have hyes : (s.getD (vr (-1 - (v : Int))) []).length ≠ 0 ∧ s.getD (vr (-1 - (v : Int))) [] ≠ subL sg t k := by
      rw [HVR.out, HOS.out, HYS.out]
      exact ⟨by rw [HSH.out.1]; exact hd0, hoy⟩
     have R := hid (fun r => mst_varNo (sg := sg) (r := r) HKT.out (show ¬ 0 ≤ -1 - (v : Int) by omega) hyes)
     have DS := hid (decide_eq_false hoy)
     clear cut hyes hoy
     go_wp2_with fail
     refine (implSame _ _ dn j _ _ os ys _ PO.out PS.out hdn hj60).mono ?_
     rintro e w5 ⟨rfl, d, rfl⟩
     rw [DS.out]
     have F : AnsTake w g A n c (some ⟨b, off, none⟩) m mc sg t k s (-1 - (v : Int)) (.returned (.bool false)) (w3.drewN d) :=
      ⟨HB.out.trans (btw_drewN _ _ _ d), .inr ⟨rfl, R.out⟩⟩
     have HF := hid F
     clear F R DS PS PO HM HB
     go_wp2
     go_ret
     exact HF.out
end take
end
end Go.Proofs.Ytblhmplpcdcejaa
