/-
  MERGED: my texts RuleMath, PutMath, SegsHelp, SegsMark, Kinds, Look, SubstOk, Gives, StepMath, WalkMath, ParMath, LpoLink, KboMath, Shape, Shape2, KindsR, Rename, Same, RuleSpec, AnyR, RuleImpl, RankSpec, Dice, DrawSig, DrawTerm, DrawAny, DrawX, Stk, PartsSpec, KboLink, AnyJ, TabR, Inside, Plain, PlainOf, MatchSpec, Whole, one behind the other, as they are. By an AI agent.
-/
import Derived.Test.YtiimbmkofpnebaaMFnExactKboLess1
import Derived.Deep.QuietTactic
import Derived.BigQuiet
import Derived.Shelf.Abstract
import Derived.Deep.RegionHeld3
import Derived.Deep.LoopGhost
import Derived.Deep.AppendLies
import Derived.Deep.RegionLaw
import Derived.Deep.Onto
import Derived.Deep.DeepMust
import Derived.Laws.Rows
import Derived.Laws.ResultCell
namespace Go.Proofs.Ytiimbmkofpnebaa
section
namespace ruleMath
open sig term termOk termFacts varsMath count linear renMath
abbrev Rl := List Int × List Int
def hd (t : List Int) : Int := t.getD 0 0
theorem lists_eq {rs rs' : List Rl} (hl : rs.length = rs'.length) (h : ∀ j, j < rs.length → rs.getD j ([], []) = rs'.getD j ([], [])) : rs = rs' :=
 List.ext_getElem hl fun j h1 h2 => by
  have := h j h1
  simpa [List.getD, h1, h2] using this
end ruleMath
end
section
namespace putMath
open sig term termOk termFacts endAt sub args depth termMath posMath
section
variable {sg t u : List Int} {a : Nat}
end
end putMath
end
section
namespace segsHelp
open Go.RowKit base ints sig cursor marks app sym appAt segs
set_option maxRecDepth 100000
theorem info_list : (Try.prog.info? 27).map (fun i => (i.zero, i.size, i.bytes)) = some (some (.slice none 0 0), 1, 24) := by kernel_rfl
end segsHelp
end
section
namespace segsMark
open Go.RowKit base ints sig cursor marks app sym appAt segs segsHelp
set_option maxRecDepth 100000
end segsMark
end
section
namespace kinds
open Go.RowKit base ints sig cursor marks app sym appAt segs segsHelp segsMark
set_option maxRecDepth 100000
def Ownd (w : World) (lo hi : Nat) (A : Option Addr) (n c : Nat) (xs : List Int) : Prop := Own w lo (.slice A n c) xs ∧ ∀ k, blk A = some k → k < hi
section
variable {w w' : World} {lo hi n c : Nat} {A : Option Addr} {xs : List Int}
theorem Ownd.next (h : Ownd w lo hi A n c xs) (hb : Below w.heap.size w w') : Ownd w' lo hi A n c xs := ⟨h.1.next hb, h.2⟩
theorem Ownd.of_own (h : Own w lo (.slice A n c) xs) : Ownd w lo w.heap.size A n c xs := ⟨h, fun k hk => (World.ownsRow.lt h k (by rw [blk_own]; exact hk)).2⟩
theorem Ownd.cap (h : Ownd w lo hi A n c xs) : Cap A n c := by
 have hl := Own.len h.1
 rcases own_form (n := n) (vs := xs.map (Value.int .i64)) (by rw [hl]; have := h.1; rw [hl] at this; exact this) with ⟨rfl, h1, rfl, _⟩ | ⟨g, cur, rfl, _, _, h1, h2, h3, _⟩
 ·exact ⟨by omega, by omega, fun _ => rfl⟩
 ·exact ⟨h1, h3, fun e => by cases e⟩
theorem drew_below (w : World) : Below w.heap.size w w.drew := ⟨rfl, rfl, rfl, Nat.le_refl _, fun _ _ => rfl⟩
theorem drewN_below (w : World) (d : Nat) : Below w.heap.size w (w.drewN d) := ⟨rfl, rfl, rfl, Nat.le_refl _, fun _ _ => rfl⟩
end
def CopyInts (w : World) (n : Nat) (xs : List Int) (e : Ending) (w' : World) : Prop := ∃ g, e = .returned (.slice (some ⟨g, 0, none⟩) n n) ∧ Ownd w' w.heap.size w'.heap.size (some ⟨g, 0, none⟩) n n xs ∧ w.heap.size < w'.heap.size ∧ Below w.heap.size w w'
theorem intsTo (A : Option Addr) (n c : Nat) (xs : List Int) (w : World) (h : Seg w w.heap.size A n xs) (hn : n ≤ 1048576) :
  Calls Try.prog 43 #[.slice A n c] w (CopyInts w n xs) :=
 (toInts A n c xs w h hn).mono fun _ _ ⟨cs, he, hr, hs, hc, hz, hb⟩ => ⟨w.heap.size, he, Ownd.of_own (Own.of_row hr h.1 hs (Nat.le_refl _) (by omega) (Nat.le_refl _) hc), by omega, hb⟩
theorem intsEq (A A' : Option Addr) (n n' c c' : Nat) (xs : List Int) (w : World) (h : Seg w w.heap.size A n xs) (h' : Seg w w.heap.size A' n' xs) (hn : n ≤ 1048576) :
  Calls Try.prog 44 #[.slice A n c, .slice A' n' c'] w fun e w' => e = .returned (.bool true) ∧ Below w.heap.size w w' := by
 obtain rfl : n = n' := by rw [← h.1, ← h'.1]
 exact (eqYes A A' n c c' xs w h h' hn).mono fun _ _ ⟨he, d, hd⟩ => ⟨he, by rw [hd]; exact drewN_below _ _⟩
end kinds
end
section
namespace look
open Go.RowKit base ints marks app sym segs fillMath
set_option maxRecDepth 100000
def AnsLook (B : Nat) (w : World) (ys : List Int) (e : Ending) (w' : World) : Prop := ∃ A n c, e = .returned (.slice A n c) ∧ Seg w' w'.heap.size A n ys ∧ Cap A n c ∧ (∀ k, blk A = some k → k < B ∨ w.heap.size ≤ k) ∧ Below w.heap.size w w'
def Looks (g : Nat) (lb : Array Value) (w : World) (L : Nat → List Int) (N : Nat) : Prop :=
 ∀ (W : World) (i : Nat), Below w.heap.size w W → i < N → Calls Try.prog g (#[.int .i64 (i : Int)] ++ lb) W (AnsLook w.heap.size W (L i))
theorem Looks.next {g : Nat} {lb : Array Value} {w w' : World} {L : Nat → List Int} {N : Nat} (h : Looks g lb w L N) (hb : Below w.heap.size w w') : Looks g lb w' L N :=
 fun W i hW hi => (h W i (next_trans hb hW) hi).mono fun _ _ ⟨A, n, c, he, h1, h2, h3, h4⟩ => ⟨A, n, c, he, h1, h2, fun k hk => by have := h3 k hk; have := hb.size; omega, h4⟩
end look
end
section
namespace substOk
open Go.RowKit base ints sig term termOk marks app sym sub segs segsHelp termFacts varsMath varsOf fillMath Go.Proofs.Ytiimbmkofpnebaa.look
set_option maxRecDepth 100000
end substOk
end
section
namespace gives
open Go.RowKit base ints sig term termOk marks app sym sub segs segsHelp termFacts varsMath varsOf fillMath Go.Proofs.Ytiimbmkofpnebaa.look substOk
set_option maxRecDepth 100000
end gives
end
section
namespace stepMath
open sig term termOk termFacts fillMath gives endAt sub matchMath termMath posMath putMath ruleMath
end stepMath
end
section
namespace walkMath
open sig term termOk termFacts fillMath gives sub matchMath putMath ruleMath stepMath
end walkMath
end
section
namespace parMath
open sig term termOk termFacts fillMath ruleMath stepMath walkMath forest
variable {sg : List Int} {rs : List Rl} {a b : List Int}
theorem prt_len2 {ps qs : List (List Int)} (h : Prt sg a ps) (h' : Prt sg b qs) (e : a.getD 0 0 = b.getD 0 0) : ps.length = qs.length := by
 obtain ⟨⟨x, -, -, e1, e2⟩, -⟩ := h
 obtain ⟨⟨y, -, -, e3, e4⟩, -⟩ := h'
 rw [e1, e3] at e
 have e : x = y := e
 rw [e2, e4, e]
theorem part_lt {ps : List (List Int)} (h : Prt sg a ps) {i : Nat} (hi : i < ps.length) : (ps.getD i []).length < a.length := by
 obtain ⟨⟨x, -, -, e, -⟩, -⟩ := h
 rw [e, List.length_cons, List.getD, List.getElem?_eq_getElem hi, Option.getD_some]
 have h2 : (ps[i]).length ≤ ps.flatten.length := (List.sublist_flatten_of_mem (List.getElem_mem hi)).length_le
 omega
theorem part_fo {ps : List (List Int)} (h : Prt sg a ps) {i : Nat} (hi : i < ps.length) : Fo sg 1 (ps.getD i []) := by
 rw [List.getD, List.getElem?_eq_getElem hi, Option.getD_some]
 exact h.2 _ (List.getElem_mem hi)
end parMath
end
section
namespace lpoLink
open sig term termOk termFacts endAt depth args sub fillMath posMath matchMath unifMath forest nodes parMath lpoMath rankMath
set_option maxRecDepth 100000
open Classical in
noncomputable def ptsC (sg u : List Int) : List (List Int) := if h : ∃ ps, Prt sg u ps then h.choose else []
theorem pts_prt {sg u : List Int} {ps : List (List Int)} (h : Prt sg u ps) : ptsC sg u = ps := by
 have hx : ∃ ps, Prt sg u ps := ⟨ps, h⟩
 unfold ptsC
 rw [dif_pos hx]
 exact prt_one hx.choose_spec h
theorem pts_no {sg u : List Int} (h : ¬ ∃ ps, Prt sg u ps) : ptsC sg u = [] := by unfold ptsC; rw [dif_neg h]
theorem prt_hd {sg u : List Int} {ps : List (List Int)} (h : Prt sg u ps) : 0 ≤ u.getD 0 0 := by
 obtain ⟨⟨x, h0, -, rfl, -⟩, -⟩ := h
 exact h0
theorem pts_var {sg u : List Int} (h : u.getD 0 0 < 0) : ptsC sg u = [] := pts_no fun ⟨_, hp⟩ => by have := prt_hd hp; omega
theorem mem_sum {l : List (List Int)} {p : List Int} (h : p ∈ l) : p.length ≤ (l.map List.length).sum := by
 induction l with
 | nil => cases h
 | cons a r ih =>
  rw [List.map_cons, List.sum_cons]
  rcases List.mem_cons.1 h with rfl | h
  ·omega
  ·have := ih h; omega
theorem pts_less (sg : List Int) : ∀ t, ∀ p ∈ ptsC sg t, p.length < t.length := by
 intro t p hp
 by_cases h : ∃ ps, Prt sg t ps
 ·obtain ⟨ps, h⟩ := h
  rw [pts_prt h] at hp
  have := h.len
  have := mem_sum hp
  omega
 ·rw [pts_no h] at hp
  cases hp
def rkL (rk : List Int) (x : Int) : Int := rk.getD x.toNat 0
section
variable {sg t s : List Int} {a b : Nat}
end
noncomputable def gtP (bag : Bool) (sg rk t s : List Int) (i j : Nat) : Bool := gt bag (ptsC sg) (rkL rk) (subL sg t i) (subL sg s j)
def sameP (sg t s : List Int) (i j : Nat) : Bool := decide (subL sg t i = subL sg s j)
noncomputable def argP (bag : Bool) (sg rk t s : List Int) (i j : Nat) : Bool := (chN sg t i).any fun p => sameP sg t s p j || gtP bag sg rk t s p j
end lpoLink
end
section
namespace kboMath
open sig term fillMath forest lpoMath lpoLink
def wt (v : Int) (sy : List Int) : Tm → Int
 | [] => 0
 | x :: r => (if x < 0 then v else rkL sy x) + wt v sy r
def oft (s t : Tm) : Bool := s.all fun x => !decide (x < 0) || decide (s.count x ≤ t.count x)
def stepK (pts : Tm → List Tm) (v : Int) (sy rk : List Int) (g : Tm → Tm → Bool) (t s : Tm) : Int :=
 if oft s t = false ∨ wt v sy t < wt v sy s then 0
 else if wt v sy s < wt v sy t then 1
 else if hd s < 0 then (if 0 ≤ hd t then 2 else 0)
 else if hd t < 0 then 0
 else if hd t ≠ hd s then (if rkL rk (hd s) < rkL rk (hd t) then 3 else 0)
 else if lexB g (pts t) (pts s) = true then 4 else 0
def kF (pts : Tm → List Tm) (v : Int) (sy rk : List Int) : Nat → Tm → Tm → Bool
 | 0, _, _ => false
 | n + 1, t, s => decide (0 < stepK pts v sy rk (kF pts v sy rk n) t s)
noncomputable def kg (sg : List Int) (v : Int) (sy rk : List Int) (t s : Tm) : Bool := kF (ptsC sg) v sy rk (t.length + 1) t s
noncomputable def kwhy (sg : List Int) (v : Int) (sy rk : List Int) (t s : Tm) : Int := stepK (ptsC sg) v sy rk (kg sg v sy rk) t s
variable {sg sy rk : List Int} {v : Int}
theorem wt_append (a b : Tm) : wt v sy (a ++ b) = wt v sy a + wt v sy b := by
 induction a with
 | nil => simp [wt]
 | cons x r ih => simp only [List.cons_append, wt, ih]; omega
theorem oft_iff {s t : Tm} : oft s t = true ↔ ∀ x, x < 0 → s.count x ≤ t.count x := by
 unfold oft
 rw [List.all_eq_true]
 constructor
 ·intro h x hx
  by_cases hm : x ∈ s
  ·have := h x hm
   rw [decide_eq_true hx] at this
   simpa using this
  ·rw [List.count_eq_zero.2 hm]; exact Nat.zero_le _
 ·intro h x _
  by_cases hx : x < 0
  ·rw [decide_eq_true (h x hx)]; simp
  ·simp [hx]
theorem stepK_congr {pts : Tm → List Tm} {g g' : Tm → Tm → Bool} {t s : Tm} (h : ∀ p ∈ pts t, ∀ q ∈ pts s, g p q = g' p q) : stepK pts v sy rk g t s = stepK pts v sy rk g' t s := by
 unfold stepK
 rw [lexB_congr h]
theorem kF_same {pts : Tm → List Tm} (hp : ∀ t, ∀ p ∈ pts t, p.length < t.length) : ∀ (n m : Nat) (t s : Tm), t.length < n → t.length < m → kF pts v sy rk n t s = kF pts v sy rk m t s
 | 0, _, _, _, h, _ => absurd h (Nat.not_lt_zero _)
 | _ + 1, 0, _, _, _, h => absurd h (Nat.not_lt_zero _)
 | n + 1, m + 1, t, s, h, h' => by
  unfold kF
  rw [stepK_congr (g := kF pts v sy rk n) (g' := kF pts v sy rk m)]
  intro p hp' q _
  have := hp t p hp'
  exact kF_same hp n m p q (by omega) (by omega)
theorem kg_why (t s : Tm) : kg sg v sy rk t s = decide (0 < kwhy sg v sy rk t s) := by
 unfold kg kwhy kF
 rw [stepK_congr (g := kF (ptsC sg) v sy rk t.length) (g' := kg sg v sy rk)]
 intro p hp q _
 have := pts_less sg t p hp
 exact kF_same (pts_less sg) _ _ p q (by omega) (by omega)
structure Adm (sg : List Int) (v : Int) (sy rk : List Int) : Prop where
 one : 1 ≤ v
 low : ∀ x, 0 ≤ x → 0 ≤ ar sg x → 0 ≤ rkL sy x
 leaf : ∀ x, 0 ≤ x → ar sg x = 0 → v ≤ rkL sy x
 top : ∀ x y, 0 ≤ x → ar sg x = 1 → rkL sy x = 0 → 0 ≤ y → 0 ≤ ar sg y → rkL rk y ≤ rkL rk x
 inj : ∀ x y, 0 ≤ x → 0 ≤ ar sg x → 0 ≤ y → 0 ≤ ar sg y → rkL rk x = rkL rk y → x = y
theorem wt_forest (ok : Adm sg v sy rk) : ∀ {q : Nat} {l : Tm}, Fo sg q l → q * v ≤ wt v sy l
 | _, _, .nil => by simp [wt]
 | _, _, .var x r q h h1 => by
  have := wt_forest ok h1
  simp only [wt, if_pos h]
  rw [Int.natCast_add, Int.add_mul]
  have e : ((1 : Nat) : Int) * v = v := by simp
  omega
 | _, _, .app x r q h h2 h1 => by
  have i1 := wt_forest ok h1
  have i2 := ok.low x h h2
  have i3 := ok.one
  have e : ((1 : Nat) : Int) * v = v := by simp
  simp only [wt, if_neg (show ¬ x < 0 by omega)]
  rw [Int.natCast_add, Int.add_mul] at i1 ⊢
  by_cases h0 : ar sg x = 0
  ·have i4 := ok.leaf x h h0
   rw [h0] at i1
   simp at i1
   omega
  ·have i4 : v ≤ ((ar sg x).toNat : Int) * v := by
    have i5 : (1 : Int) ≤ ((ar sg x).toNat : Int) := by omega
    have i6 := Int.mul_le_mul_of_nonneg_right i5 (show (0 : Int) ≤ v by omega)
    omega
   omega
theorem wt_ge (ok : Adm sg v sy rk) {t : Tm} (h : Fo sg 1 t) : v ≤ wt v sy t := by
 have := wt_forest ok h
 simpa using this
def Un (sg sy : List Int) (x : Int) : Prop := 0 ≤ x ∧ ar sg x = 1 ∧ rkL sy x = 0
theorem wrapped_of (ok : Adm sg v sy rk) : ∀ {t : Tm} {x : Int}, Fo sg 1 t → wt v sy t ≤ v → x ∈ t → x < 0 → ∃ us : Tm, t = us ++ [x] ∧ ∀ u ∈ us, Un sg sy u
 | [], _, _, _, hm, _ => absurd hm (by simp)
 | y :: r, x, hf, hw, hm, hx => by
  obtain ⟨q, hq, h⟩ := hf.inv
  obtain rfl : q = 0 := by omega
  rcases h with ⟨hy, hr⟩ | ⟨hy, ha, hr⟩
  ·obtain rfl := hr.zero
   obtain rfl : x = y := by simpa using hm
   exact ⟨[], rfl, by simp⟩
  ·simp only [wt, if_neg (show ¬ y < 0 by omega)] at hw
   have i1 := wt_forest ok hr
   have i2 := ok.low y hy ha
   have i3 := ok.one
   have hmr : x ∈ r := by
    rcases List.mem_cons.1 hm with rfl | h
    ·omega
    ·exact h
   by_cases h0 : ar sg y = 0
   ·rw [h0] at hr
    obtain rfl := hr.zero
    exact absurd hmr (by simp)
   by_cases h1 : ar sg y = 1
   ·rw [h1] at hr
    have hr' : Fo sg 1 r := hr
    have i4 := wt_ge ok hr'
    obtain ⟨us, e, hu⟩ := wrapped_of ok hr' (by omega) hmr hx
    refine ⟨y :: us, by rw [e]; rfl, ?_⟩
    intro u hu'
    rcases List.mem_cons.1 hu' with rfl | h
    ·exact ⟨hy, h1, by omega⟩
    ·exact hu u h
   ·exfalso
    have i5 : (2 : Int) ≤ (((ar sg y).toNat + 0 : Nat) : Int) := by omega
    have i6 := Int.mul_le_mul_of_nonneg_right i5 (show (0 : Int) ≤ v by omega)
    omega
theorem fo_hd {u : Tm} (h : Fo sg 1 u) : ∃ y r, u = y :: r := by
 cases u with
 | nil => have := h.pos; simp at this
 | cons y r => exact ⟨y, r, rfl⟩
def sumN (f : Int → Nat) : Tm → Nat
 | [] => 0
 | x :: r => f x + sumN f r
theorem sum_erase {f : Int → Nat} : ∀ {t : Tm} {x : Int}, x ∈ t → sumN f t = f x + sumN f (t.erase x)
 | [], _, h => absurd h (by simp)
 | y :: r, x, h => by
  by_cases e : y = x
  ·subst e
   rw [List.erase_cons_head]
   rfl
  ·rw [List.erase_cons_tail (by simpa using e)]
   have h' : x ∈ r := by
    rcases List.mem_cons.1 h with rfl | h
    ·exact absurd rfl e
    ·exact h
   simp only [sumN, sum_erase h']
   omega
theorem sum_le {f : Int → Nat} (hf : ∀ x, 0 ≤ x → f x = 0) : ∀ {s t : Tm}, (∀ x, x < 0 → s.count x ≤ t.count x) → sumN f s ≤ sumN f t
 | [], _, _ => by simp [sumN]
 | x :: s, t, h => by
  by_cases hx : x < 0
  ·have hm : x ∈ t := by
    have := h x hx
    rw [List.count_cons_self] at this
    exact List.count_pos_iff.1 (by omega)
   have ih := sum_le hf (s := s) (t := t.erase x) (by
    intro y hy
    have i1 := h y hy
    rw [List.count_erase, ]
    rw [List.count_cons] at i1
    by_cases e : x = y
    ·subst e; simp at i1 ⊢; omega
    ·have e2 : (x == y) = false := by simpa using e
     have e3 : (y == x) = false := by simpa using (Ne.symm e)
     rw [e2] at i1
     simp [e2] at i1 ⊢
     exact i1)
   rw [sum_erase hm]
   simp only [sumN]
   omega
  ·simp only [sumN, hf x (by omega)]
   have := sum_le hf (s := s) (t := t) (fun y hy => by
    have i1 := h y hy
    rw [List.count_cons] at i1
    omega)
   omega
section
variable {L : Nat → List Int}
theorem fo_var {u : Tm} (hf : Fo sg 1 u) (h : hd u < 0) : u = [hd u] := by
 obtain ⟨y, r, rfl⟩ := fo_hd hf
 have h' : y < 0 := h
 obtain ⟨q, hq, h⟩ := hf.inv
 obtain rfl : q = 0 := by omega
 rcases h with ⟨hy, hr⟩ | ⟨hy, _, _⟩
 ·rw [hr.zero]; rfl
 ·omega
end
end kboMath
end
section
namespace shape
open Go.RowKit base ints sig cursor marks app sym appAt segs segsHelp segsMark kinds
inductive Sh where
 | num : Sh
 | bit : Sh
 | row : TypeId → Sh → Sh
 | cat : Sh → Sh → Sh
@[reducible] def Dat : Sh → Type
 | .num => Int
 | .bit => Bool
 | .row _ s => List (Dat s)
 | .cat a b => Dat a × Dat b
def nc : Sh → Nat
 | .num => 1
 | .bit => 1
 | .row _ _ => 1
 | .cat a b => nc a + nc b
def dft : (s : Sh) → Dat s
 | .num => (0 : Int)
 | .bit => false
 | .row _ _ => []
 | .cat a b => (dft a, dft b)
def Piece (w : World) (b off : Nat) (es : List Value) : Prop := ∀ i, i < es.length → w.cell? ⟨b, off + i, none⟩ = es[i]?
theorem nc_pos : ∀ s : Sh, 1 ≤ nc s
 | .num => Nat.le_refl _
 | .bit => Nat.le_refl _
 | .row _ _ => Nat.le_refl _
 | .cat a b => Nat.le_trans (nc_pos a) (Nat.le_add_right _ _)
def Rd (w : World) (B : Nat) : (s : Sh) → List Value → Dat s → Prop
 | .num, cs, (x : Int) => cs = [.int .i64 x]
 | .bit, cs, (x : Bool) => cs = [.bool x]
 | .row _ s, cs, (d : List (Dat s)) => ∃ A n c, cs = [.slice A n c] ∧ Cap A n c ∧ d.length = n ∧
   (0 < n → ∃ b off, A = some ⟨b, off, none⟩ ∧ b < B ∧ ∀ j, j < n → ∃ es, es.length = nc s ∧ Piece w b (off + j * nc s) es ∧ Rd w B s es (d.getD j (dft s)))
 | .cat a b, cs, d => ∃ ca cb, cs = ca ++ cb ∧ Rd w B a ca d.1 ∧ Rd w B b cb d.2
def Ow (w : World) : (s : Sh) → List Value → Dat s → List Nat → Prop
 | .num, cs, (x : Int), F => cs = [.int .i64 x] ∧ F = []
 | .bit, cs, (x : Bool), F => cs = [.bool x] ∧ F = []
 | .row e s, cs, (d : List (Dat s)), F => ∃ A n c, cs = [.slice A n c] ∧ d.length = n ∧
   ((A = none ∧ n = 0 ∧ c = 0 ∧ F = []) ∨ ∃ (g : Nat) (cur : Array Value) (E : Nat → List Value) (G : Nat → List Nat), A = some ⟨g, 0, none⟩ ∧ Row w g e cur ∧ n ≤ c ∧ c ≤ 9223372036854775807 ∧ cur.size = c * nc s ∧
    F = g :: (List.range n).flatMap G ∧ ∀ j, j < n → (E j).length = nc s ∧ (∀ i, i < nc s → cur[j * nc s + i]? = (E j)[i]?) ∧ Ow w s (E j) (d.getD j (dft s)) (G j))
 | .cat a b, cs, d, F => ∃ ca cb Fa Fb, cs = ca ++ cb ∧ F = Fa ++ Fb ∧ Ow w a ca d.1 Fa ∧ Ow w b cb d.2 Fb
section
variable {w w' : World} {B B' : Nat}
theorem Rd.len : ∀ {s : Sh} {cs : List Value} {d : Dat s}, Rd w B s cs d → cs.length = nc s
 | .num, _, _, h => by have h : _ = _ := h; rw [h]; rfl
 | .bit, _, _, h => by have h : _ = _ := h; rw [h]; rfl
 | .row _ _, _, _, h => by obtain ⟨A, n, c, e, _⟩ := h; rw [e]; rfl
 | .cat a b, _, _, h => by
  obtain ⟨ca, cb, e, h1, h2⟩ := h
  rw [e, List.length_append, h1.len, h2.len]; rfl
theorem Piece.keep {b off : Nat} {es : List Value} (h : Piece w b off es) (hk : ∀ p : Addr, p.block = b → w'.cell? p = w.cell? p) : Piece w' b off es := fun i hi => (hk _ rfl).trans (h i hi)
theorem Rd.keep (hk : ∀ p : Addr, p.block < B → w'.cell? p = w.cell? p) : ∀ {s : Sh} {cs : List Value} {d : Dat s}, Rd w B s cs d → Rd w' B s cs d
 | .num, _, _, h => h
 | .bit, _, _, h => h
 | .row _ s, _, _, h => by
  obtain ⟨A, n, c, e, hc, hl, h1⟩ := h
  refine ⟨A, n, c, e, hc, hl, fun hn => ?_⟩
  obtain ⟨b, off, e2, hb, h2⟩ := h1 hn
  refine ⟨b, off, e2, hb, fun j hj => ?_⟩
  obtain ⟨es, he, hp, hr⟩ := h2 j hj
  exact ⟨es, he, hp.keep (fun p hp => hk p (by rw [hp]; exact hb)), hr.keep hk⟩
 | .cat a b, _, _, h => by
  obtain ⟨ca, cb, e, h1, h2⟩ := h
  exact ⟨ca, cb, e, h1.keep hk, h2.keep hk⟩
theorem Rd.more (hB : B ≤ B') : ∀ {s : Sh} {cs : List Value} {d : Dat s}, Rd w B s cs d → Rd w B' s cs d
 | .num, _, _, h => h
 | .bit, _, _, h => h
 | .row _ s, _, _, h => by
  obtain ⟨A, n, c, e, hc, hl, h1⟩ := h
  refine ⟨A, n, c, e, hc, hl, fun hn => ?_⟩
  obtain ⟨b, off, e2, hb, h2⟩ := h1 hn
  refine ⟨b, off, e2, by omega, fun j hj => ?_⟩
  obtain ⟨es, he, hp, hr⟩ := h2 j hj
  exact ⟨es, he, hp, hr.more hB⟩
 | .cat a b, _, _, h => by
  obtain ⟨ca, cb, e, h1, h2⟩ := h
  exact ⟨ca, cb, e, h1.more hB, h2.more hB⟩
theorem Rd.below {s : Sh} {cs : List Value} {d : Dat s} (h : Rd w B s cs d) (hb : Below B w w') : Rd w' B s cs d := h.keep fun _ hp => hb.cell hp
theorem Rd.next {s : Sh} {cs : List Value} {d : Dat s} (h : Rd w w.heap.size s cs d) (hb : Below w.heap.size w w') : Rd w' w'.heap.size s cs d := (h.below hb).more hb.size
theorem Ow.len : ∀ {s : Sh} {cs : List Value} {d : Dat s} {F : List Nat}, Ow w s cs d F → cs.length = nc s
 | .num, _, _, _, h => by obtain ⟨e, _⟩ := h; rw [e]; rfl
 | .bit, _, _, _, h => by obtain ⟨e, _⟩ := h; rw [e]; rfl
 | .row _ _, _, _, _, h => by obtain ⟨A, n, c, e, _⟩ := h; rw [e]; rfl
 | .cat a b, _, _, _, h => by
  obtain ⟨ca, cb, Fa, Fb, e, _, h1, h2⟩ := h
  rw [e, List.length_append, h1.len, h2.len]; rfl
theorem Ow.keep : ∀ {s : Sh} {cs : List Value} {d : Dat s} {F : List Nat}, Ow w s cs d F → (∀ k ∈ F, w'.heap[k]? = w.heap[k]?) → Ow w' s cs d F
 | .num, _, _, _, h, _ => h
 | .bit, _, _, _, h, _ => h
 | .row e s, _, _, F, h, hk => by
  obtain ⟨A, n, c, e1, hl, h1⟩ := h
  refine ⟨A, n, c, e1, hl, ?_⟩
  rcases h1 with h1 | ⟨g, cur, E, G, e2, hr, h2, h3, h4, h5, h6⟩
  ·exact .inl h1
  ·subst h5
   refine .inr ⟨g, cur, E, G, e2, (hk g (List.mem_cons_self ..)).trans hr, h2, h3, h4, rfl, fun j hj => ?_⟩
   obtain ⟨q1, q2, q3⟩ := h6 j hj
   exact ⟨q1, q2, q3.keep fun k hkG => hk k (List.mem_cons_of_mem _ (List.mem_flatMap.2 ⟨j, List.mem_range.2 hj, hkG⟩))⟩
 | .cat a b, _, _, F, h, hk => by
  obtain ⟨ca, cb, Fa, Fb, e, e2, h1, h2⟩ := h
  subst e2
  exact ⟨ca, cb, Fa, Fb, e, rfl, h1.keep fun k h => hk k (List.mem_append_left _ h), h2.keep fun k h => hk k (List.mem_append_right _ h)⟩
theorem Ow.lt : ∀ {s : Sh} {cs : List Value} {d : Dat s} {F : List Nat}, Ow w s cs d F → ∀ k ∈ F, k < w.heap.size
 | .num, _, _, _, h, k, hk => by obtain ⟨_, e⟩ := h; rw [e] at hk; cases hk
 | .bit, _, _, _, h, k, hk => by obtain ⟨_, e⟩ := h; rw [e] at hk; cases hk
 | .row e s, _, _, F, h, k, hk => by
  obtain ⟨A, n, c, e1, hl, h1⟩ := h
  rcases h1 with ⟨_, _, _, h1⟩ | ⟨g, cur, E, G, e2, hr, h2, h3, h4, h5, h6⟩
  ·rw [h1] at hk; cases hk
  ·rw [h5] at hk
   rcases List.mem_cons.1 hk with hk | hk
   ·rw [hk]; exact hr.lt
   ·obtain ⟨j, hj, hk⟩ := List.mem_flatMap.1 hk
    exact (h6 j (List.mem_range.1 hj)).2.2.lt k hk
 | .cat a b, _, _, F, h, k, hk => by
  obtain ⟨ca, cb, Fa, Fb, e, e2, h1, h2⟩ := h
  rw [e2] at hk
  rcases List.mem_append.1 hk with hk | hk
  ·exact h1.lt k hk
  ·exact h2.lt k hk
theorem Ow.next {s : Sh} {cs : List Value} {d : Dat s} {F : List Nat} (h : Ow w s cs d F) (hb : Below w.heap.size w w') : Ow w' s cs d F := h.keep fun k hk => hb.block k (h.lt k hk)
theorem Ow.rd : ∀ {s : Sh} {cs : List Value} {d : Dat s} {F : List Nat}, Ow w s cs d F → Rd w w.heap.size s cs d
 | .num, _, _, _, h => h.1
 | .bit, _, _, _, h => h.1
 | .row e s, _, _, F, h => by
  obtain ⟨A, n, c, e1, hl, h1⟩ := h
  rcases h1 with ⟨rfl, rfl, rfl, _⟩ | ⟨g, cur, E, G, e2, hr, h2, h3, h4, h5, h6⟩
  ·exact ⟨none, 0, 0, e1, ⟨by omega, by omega, fun _ => rfl⟩, hl, fun h => absurd h (by omega)⟩
  ·refine ⟨A, n, c, e1, ⟨h2, h3, fun e => by rw [e] at e2; cases e2⟩, hl, fun hn => ⟨g, 0, e2, hr.lt, fun j hj => ?_⟩⟩
   obtain ⟨q1, q2, q3⟩ := h6 j hj
   refine ⟨E j, q1, fun i hi => ?_, q3.rd⟩
   rw [Nat.zero_add, hr.cell, q2 i (by omega)]
 | .cat a b, _, _, F, h => by
  obtain ⟨ca, cb, Fa, Fb, e, e2, h1, h2⟩ := h
  exact ⟨ca, cb, e, h1.rd, h2.rd⟩
def Owned (w : World) (lo hi : Nat) (s : Sh) (cs : List Value) (d : Dat s) : Prop := ∃ F, Ow w s cs d F ∧ F.Nodup ∧ ∀ k ∈ F, lo ≤ k ∧ k < hi
variable {lo hi : Nat} {s : Sh} {cs : List Value} {d : Dat s}
theorem Owned.rd (h : Owned w lo hi s cs d) : Rd w w.heap.size s cs d := by obtain ⟨F, h, _⟩ := h; exact h.rd
theorem Owned.next (h : Owned w lo hi s cs d) (hb : Below w.heap.size w w') : Owned w' lo hi s cs d := by obtain ⟨F, h, h2⟩ := h; exact ⟨F, h.next hb, h2⟩
theorem Owned.drew (h : Owned w lo hi s cs d) : Owned w.drew lo hi s cs d := h.next (drew_below w)
theorem Owned.wider {lo' hi' : Nat} (h : Owned w lo hi s cs d) (h1 : lo' ≤ lo) (h2 : hi ≤ hi') : Owned w lo' hi' s cs d := by
 obtain ⟨F, h, h3, h4⟩ := h
 exact ⟨F, h, h3, fun k hk => by have := h4 k hk; omega⟩
theorem Owned.put {g i : Nat} {u : Value} (h : Owned w lo hi s cs d) (hg : g < lo ∨ hi ≤ g) : Owned (w.setCell ⟨g, i, none⟩ u) lo hi s cs d := by
 obtain ⟨F, h, h3, h4⟩ := h
 exact ⟨F, h.keep fun k hk => Below.heap_setCell w _ u k (by have := h4 k hk; show k ≠ g; omega), h3, h4⟩
theorem Owned.cat {mid mid' : Nat} {a b : Sh} {ca cb : List Value} {da : Dat a} {db : Dat b} (h1 : Owned w lo mid a ca da) (h2 : Owned w mid' hi b cb db) (hm : mid ≤ mid') (hl : lo ≤ mid') (hh : mid ≤ hi) : Owned w lo hi (.cat a b) (ca ++ cb) (da, db) := by
 obtain ⟨F, h1, n1, b1⟩ := h1
 obtain ⟨G, h2, n2, b2⟩ := h2
 refine ⟨F ++ G, ⟨ca, cb, F, G, rfl, rfl, h1, h2⟩, List.nodup_append.2 ⟨n1, n2, fun x hx y hy e => ?_⟩, fun k hk => ?_⟩
 ·have := b1 x hx; have := b2 y hy; omega
 ·rcases List.mem_append.1 hk with hk | hk
  ·have := b1 k hk; omega
  ·have := b2 k hk; omega
end
abbrev sI : Sh := .row 2 .num
section
variable {w w' : World} {B : Nat}
theorem rd_ints {v : Value} {xs : List Int} : Rd w B sI [v] xs ↔ ∃ A n c, v = .slice A n c ∧ Seg w B A n xs ∧ Cap A n c := by
 constructor
 ·rintro ⟨A, n, c, e, hc, hl, h⟩
  refine ⟨A, n, c, by injection e, ⟨hl, fun hn => ?_⟩, hc⟩
  obtain ⟨b, off, e2, hb, h2⟩ := h hn
  refine ⟨b, off, e2, hb, fun j hj => ?_⟩
  obtain ⟨es, he, hp, hr⟩ := h2 j hj
  have hr : es = [.int .i64 (xs.getD j 0)] := hr
  have := hp 0 (by rw [hr]; simp)
  rw [hr] at this
  simpa [nc] using this
 ·rintro ⟨A, n, c, rfl, h, hc⟩
  refine ⟨A, n, c, rfl, hc, h.1, fun hn => ?_⟩
  obtain ⟨b, off, e2, hb, h2⟩ := h.2 hn
  refine ⟨b, off, e2, hb, fun j hj => ⟨[.int .i64 (xs.getD j 0)], rfl, fun i hi => ?_, rfl⟩⟩
  have hi : i = 0 := by simpa using hi
  subst hi
  first | (simp [nc]; done) | (simpa [nc] using h2 j hj)
theorem Rd.seg {A : Option Addr} {n c : Nat} {xs : List Int} (h : Rd w B sI [.slice A n c] xs) : Seg w B A n xs := by
 obtain ⟨A', n', c', e, h, _⟩ := rd_ints.1 h
 injection e with e1 e2 e3
 subst e1 e2
 exact h
theorem ow_ints {lo hi : Nat} {A : Option Addr} {n c : Nat} {xs : List Int} : Owned w lo hi sI [.slice A n c] xs ↔ Ownd w lo hi A n c xs := by
 constructor
 ·rintro ⟨F, ⟨A', n', c', e, hl, h⟩, _, hb⟩
  injection e with e
  injection e with e1 e2 e3
  subst e1 e2 e3
  rcases h with ⟨rfl, rfl, rfl, rfl⟩ | ⟨g, cur, E, G, rfl, hr, h2, h3, h4, rfl, h6⟩
  ·have hx : xs = [] := List.eq_nil_of_length_eq_zero hl
   subst hx
   exact ⟨Own.nil _ _, fun k hk => by cases hk⟩
  ·have hg := hb g (List.mem_cons_self ..)
   refine ⟨Own.of_row hr hl (by simpa [nc] using h4) h2 h3 hg.1 fun j hj => ?_, fun k hk => by have : g = k := Option.some.inj hk; omega⟩
   obtain ⟨q1, q2, q3⟩ := h6 j hj
   have q3 : E j = [.int .i64 (xs.getD j 0)] := q3.1
   have := q2 0 (by simp [nc])
   rw [q3] at this
   simpa [nc] using this
 ·rintro ⟨ho, hb⟩
  have hl := Own.len ho
  rcases own_form (n := n) (vs := xs.map (Value.int .i64)) (by rw [hl]; rw [hl] at ho; exact ho) with ⟨rfl, h1, rfl, _⟩ | ⟨g, cur, rfl, hlo, hr, h1, h2, h3, _, h5⟩
  ·subst h1
   exact ⟨[], ⟨none, 0, 0, rfl, hl.symm, .inl ⟨rfl, rfl, rfl, rfl⟩⟩, List.nodup_nil, fun k hk => by cases hk⟩
  ·have hg := hb g rfl
   refine ⟨[g], ⟨some ⟨g, 0, none⟩, n, c, rfl, hl.symm, .inr ⟨g, cur, fun j => [.int .i64 (xs.getD j 0)], fun _ => [], rfl, hr, h1, h3, by simp [nc, h2], ?_, fun j hj => ⟨rfl, fun i hi => ?_, rfl, rfl⟩⟩⟩, by simp, fun k hk => ?_⟩
   ·have : ∀ l : List Nat, l.flatMap (fun _ => ([] : List Nat)) = [] := fun l => by induction l <;> simp_all
    rw [this]
   ·have hi : i = 0 := by simpa [nc] using hi
    subst hi
    have := h5 j hj
    simp only [nc, Nat.mul_one, Nat.add_zero]
    rw [this]
    have hj' : j < xs.length := by omega
    simp [List.getD, hj']
   ·rw [List.mem_singleton.1 hk]; exact ⟨hlo, hg⟩
end
def sz : (s : Sh) → Dat s → Nat
 | .num, _ => 0
 | .bit, _ => 0
 | .row _ s, (d : List (Dat s)) => d.length + (d.map (sz s)).sum
 | .cat a b, d => sz a d.1 + sz b d.2
theorem sz_ints (xs : List Int) : sz sI xs = xs.length := by
 have : ∀ l : List Int, (l.map (sz .num)).sum = 0 := fun l => by induction l <;> simp_all [sz]
 show xs.length + (xs.map (sz .num)).sum = _
 rw [this]; rfl
def cnt : (s : Sh) → Dat s → Nat
 | .num, _ => 1
 | .bit, _ => 1
 | .row _ s, (d : List (Dat s)) => (d.map (cnt s)).sum
 | .cat a b, d => cnt a d.1 + cnt b d.2
def wd : Sh → Nat
 | .num => 1
 | .bit => 1
 | .row _ s => wd s
 | .cat a b => wd a + wd b
theorem sum_le {α : Type} {f g : α → Nat} {C : Nat} : ∀ {l : List α}, (∀ x ∈ l, f x ≤ C * (1 + g x)) → (l.map f).sum ≤ C * (l.length + (l.map g).sum)
 | [], _ => Nat.zero_le _
 | x :: l, h => by
  have h1 := h x (List.mem_cons_self ..)
  have h2 := sum_le (l := l) fun y hy => h y (List.mem_cons_of_mem _ hy)
  simp only [List.map_cons, List.sum_cons, List.length_cons]
  have e : C * (l.length + 1 + (g x + (l.map g).sum)) = C * (1 + g x) + C * (l.length + (l.map g).sum) := by rw [← Nat.mul_add]; congr 1; omega
  omega
theorem cnt_le : ∀ (s : Sh) (d : Dat s), cnt s d ≤ wd s * (1 + sz s d)
 | .num, _ => by simp [cnt, wd]
 | .bit, _ => by simp [cnt, wd]
 | .row _ s, (d : List (Dat s)) => by
  have h := sum_le (f := cnt s) (g := sz s) (C := wd s) (l := d) fun x _ => cnt_le s x
  show (d.map (cnt s)).sum ≤ wd s * (1 + (d.length + (d.map (sz s)).sum))
  have : wd s * (d.length + (d.map (sz s)).sum) ≤ wd s * (1 + (d.length + (d.map (sz s)).sum)) := Nat.mul_le_mul_left _ (by omega)
  omega
 | .cat a b, d => by
  have h1 := cnt_le a d.1
  have h2 := cnt_le b d.2
  show cnt a d.1 + cnt b d.2 ≤ (wd a + wd b) * (1 + (sz a d.1 + sz b d.2))
  have h3 : wd a * (1 + sz a d.1) ≤ wd a * (1 + (sz a d.1 + sz b d.2)) := Nat.mul_le_mul_left _ (by omega)
  have h4 : wd b * (1 + sz b d.2) ≤ wd b * (1 + (sz a d.1 + sz b d.2)) := Nat.mul_le_mul_left _ (by omega)
  rw [Nat.add_mul]
  omega
end shape
end
section
namespace shape
open Go.RowKit base ints sig cursor marks app sym appAt segs segsHelp segsMark kinds
structure Only (F : List Nat) (w w' : World) : Prop where
 os : w'.os = w.os
 tape : w'.tape = w.tape
 output : w'.output = w.output
 size : w.heap.size ≤ w'.heap.size
 block : ∀ k, k < w.heap.size → k ∉ F → w'.heap[k]? = w.heap[k]?
section
variable {w w' w2 : World} {B : Nat} {s : Sh} {e : TypeId} {v : Value} {F G : List Nat}
theorem Ow.only {cs : List Value} {d : Dat s} (h : Ow w s cs d F) (ho : Only G w w') (hd : ∀ k ∈ F, k ∉ G) : Ow w' s cs d F := h.keep fun k hk => ho.block k (h.lt k hk) (hd k hk)
theorem Rd.slice {D : List (Dat s)} (h : Rd w B (.row e s) [v] D) : ∃ A c, v = .slice A D.length c ∧ Cap A D.length c := by
 obtain ⟨A, n, c, e1, hc, hl, h1⟩ := h
 injection e1 with e1
 subst hl
 exact ⟨A, c, e1, hc⟩
def Copy1 (w : World) (s : Sh) (d : Dat s) (e : Ending) (w' : World) : Prop := ∃ A n c, e = .returned (.slice A n c) ∧ Owned w' w.heap.size w'.heap.size s [.slice A n c] d ∧ Below w.heap.size w w'
def AnsSzK (w : World) (left : Int) (t : Nat) (e : Ending) (w' : World) : Prop := e = .returned (.int .i64 (if left - t < 0 then -1 else left - t)) ∧ Below w.heap.size w w'
def Yes (w : World) (e : Ending) (w' : World) : Prop := e = .returned (.bool true) ∧ Below w.heap.size w w'
theorem szK_ints (v : Value) (xs : List Int) (left : Int) (w : World) (h : Rd w w.heap.size sI [v] xs) (h0 : 0 ≤ left) (h1 : left ≤ 1048576) :
  Calls Try.prog 83 #[v, .int .i64 left] w (AnsSzK w left (sz sI xs)) := by
 obtain ⟨A, n, c, rfl, hs, hc⟩ := rd_ints.1 h
 rw [sz_ints, hs.1]
 exact (szInts A n c left w (Nat.le_trans hc.1 hc.2.1) h0 h1).mono fun _ _ ⟨e1, e2⟩ => ⟨e2, e1 ▸ Below.refl _ _⟩
theorem toK_ints (v : Value) (xs : List Int) (w : World) (h : Rd w w.heap.size sI [v] xs) (hz : sz sI xs ≤ 1048576) :
  Calls Try.prog 43 #[v] w (Copy1 w sI xs) := by
 obtain ⟨A, n, c, rfl, hs, hc⟩ := rd_ints.1 h
 rw [sz_ints, hs.1] at hz
 exact (intsTo A n c xs w hs hz).mono fun _ _ ⟨g, e, ho, _, hb⟩ => ⟨_, _, _, e, ow_ints.2 ho, hb⟩
theorem eqK_ints (v v' : Value) (xs : List Int) (w : World) (h : Rd w w.heap.size sI [v] xs) (h' : Rd w w.heap.size sI [v'] xs) (hz : sz sI xs ≤ 1048576) :
  Calls Try.prog 44 #[v, v'] w (Yes w) := by
 obtain ⟨A, n, c, rfl, hs, hc⟩ := rd_ints.1 h
 obtain ⟨A', n', c', rfl, hs', hc'⟩ := rd_ints.1 h'
 rw [sz_ints, hs.1] at hz
 exact intsEq A A' n n' c c' xs w hs hs' hz
end
section
variable {s : Sh} {e : TypeId}
end
theorem Rd.split {w : World} {B : Nat} {a b : Sh} {ca cb : List Value} {d : Dat (.cat a b)} (h : Rd w B (.cat a b) (ca ++ cb) d) (hl : ca.length = nc a) : Rd w B a ca d.1 ∧ Rd w B b cb d.2 := by
 obtain ⟨ca', cb', e, h1, h2⟩ := h
 obtain ⟨rfl, rfl⟩ := List.append_inj e (by rw [hl, h1.len])
 exact ⟨h1, h2⟩
theorem Ow.split {w : World} {a b : Sh} {ca cb : List Value} {d : Dat (.cat a b)} {F : List Nat} (h : Ow w (.cat a b) (ca ++ cb) d F) (hl : ca.length = nc a) : ∃ Fa Fb, F = Fa ++ Fb ∧ Ow w a ca d.1 Fa ∧ Ow w b cb d.2 Fb := by
 obtain ⟨ca', cb', Fa, Fb, e, e2, h1, h2⟩ := h
 obtain ⟨rfl, rfl⟩ := List.append_inj e (by rw [hl, h1.len])
 exact ⟨Fa, Fb, e2, h1, h2⟩
theorem Row.only {w w' : World} {g : Nat} {t : TypeId} {cs : Array Value} {F : List Nat} (h : Row w g t cs) (ho : Only F w w') (hg : g ∉ F) : Row w' g t cs := (ho.block g h.lt hg).trans h
section
variable {s : Sh} {e : TypeId}
end
structure CpS (w : World) (tL tI : TypeId) (cs zs part : Array Value) (wr : World) : Prop where
 box : Row wr w.heap.size tL cs
 res : Row wr (w.heap.size + 1) tI zs
 cur : Row wr (w.heap.size + 1 + 1) tI part
 bel : Below w.heap.size w wr
 size : w.heap.size + 1 + 1 + 1 ≤ wr.heap.size
section
variable {w wr w1 : World} {tL tI : TypeId} {cs zs part : Array Value}
theorem CpS.zero (w : World) (tL tI : TypeId) (cs zs : Array Value) : CpS w tL tI cs zs zs (((w.alloc (.cells cs tL)).alloc (.cells zs tI)).alloc (.cells zs tI)) where
 box := by have := ((Row.new w tL cs).alloc (.cells zs tI)).alloc (.cells zs tI); simpa using this
 res := by have := (Row.new (w.alloc (.cells cs tL)) tI zs).alloc (.cells zs tI); simpa using this
 cur := by have := Row.new ((w.alloc (.cells cs tL)).alloc (.cells zs tI)) tI zs; simpa using this
 bel := (((Below.refl _ _).alloc (Nat.le_refl _) _).alloc (by simp) _).alloc (by simp; omega) _
 size := by simp
theorem CpS.next (h : CpS w tL tI cs zs part wr) (bb : Below wr.heap.size wr w1) : CpS w tL tI cs zs part w1 :=
 ⟨h.box.next bb, h.res.next bb, h.cur.next bb, h.bel.trans (bb.mono h.bel.size), Nat.le_trans h.size bb.size⟩
theorem CpS.put (h : CpS w tL tI cs zs part wr) (i : Nat) (u : Value) : CpS w tL tI cs zs (part.setIfInBounds i u) (wr.setCell ⟨w.heap.size + 1 + 1, i, none⟩ u) :=
 ⟨h.box.far (by show _ ≠ w.heap.size + 1 + 1; omega) _, h.res.far (by show _ ≠ w.heap.size + 1 + 1; omega) _, h.cur.put i u, h.bel.setCell (by show _ ≤ w.heap.size + 1 + 1; omega) _, by simpa using h.size⟩
theorem CpS.fin (h : CpS w tL tI cs zs part wr) (i : Nat) (u : Value) : CpS w tL tI cs (zs.setIfInBounds i u) part (wr.setCell ⟨w.heap.size + 1, i, none⟩ u) :=
 ⟨h.box.far (by show _ ≠ w.heap.size + 1; omega) _, h.res.put i u, h.cur.far (by show _ ≠ w.heap.size + 1; omega) _, h.bel.setCell (by show _ ≤ w.heap.size + 1; omega) _, by simpa using h.size⟩
end
end shape
end
section
open Go.Lib (hid)
namespace kindsR
open Go.RowKit base ints sig cursor marks app sym appAt segs segsHelp segsMark kinds shape
set_option maxRecDepth 100000
abbrev sSig : Sh := sI
theorem cells_Sig {w : World} {B : Nat} {es : List Value} {d : Dat sSig} (h : Rd w B sSig es d) : ∃ (v0 : Value), es = [v0] := by
 obtain ⟨A0, n0, c0, z0, -⟩ := h
 exact ⟨.slice A0 n0 c0, by rw [z0] <;> rfl⟩
set_option maxHeartbeats 2000000 in
theorem szK_Sig (v0 : Value) (d : Dat sSig) (left : Int) (w : World) (h : Rd w w.heap.size sSig [v0] d) (h0 : 0 ≤ left) (h1 : left ≤ 1048576) :
  Calls Try.prog 35 #[.agg #[v0], .int .i64 left] w (AnsSzK w left (sz sSig d)) := by
 have g0 := h
 obtain ⟨t0, ht0⟩ : ∃ t, sz sI d = t := ⟨_, rfl⟩
 have HE : Hid (sz sSig d = t0) := hid (by rw [← ht0]; try rfl)
 have HT0 := hid ht0
 have G0 := hid g0
 obtain ⟨W, hW⟩ : ∃ W, W = w.alloc (.cells #[v0] 58) := ⟨_, rfl⟩
 have r : Row W w.heap.size 58 #[v0] := by rw [hW]; exact Row.new _ _ _
 have bel : Below w.heap.size w W := by rw [hW]; exact (Below.refl _ _).alloc (Nat.le_refl _) _
 have HW := hid hW
 clear hW h g0 ht0
 go_enter Try.func35, Try.ntmps35
 go_wp2_with fail
 rw [← HW.out]
 refine (szK_ints _ _ left W (G0.out.next bel) h0 h1).mono ?_
 rintro e w1 ⟨he, bb⟩
 rw [HT0.out] at he
 replace r := r.next bb
 replace bel := next_trans bel bb
 clear bb
 by_cases q0 : left - (t0 : Int) < 0
 ·rw [if_pos q0] at he
  subst he
  have F : AnsSzK w left (sz sSig d) (.returned (.int .i64 (-1))) w1 := ⟨by rw [HE.out, if_pos (by omega)], bel⟩
  have HF := hid F
  clear F bel r
  go_wp2
  go_ret
  exact HF.out
 rw [if_neg q0] at he
 obtain ⟨l0, hl0⟩ : ∃ l, left - (t0 : Int) = l := ⟨_, rfl⟩
 rw [hl0] at he
 have a0 : 0 ≤ l0 := by omega
 have b0 : l0 ≤ 1048576 := by omega
 have HL0 := hid hl0
 clear hl0 q0
 subst he
 have F : AnsSzK w left (sz sSig d) (.returned (.int .i64 l0)) w1 := ⟨by have := HL0.out; rw [HE.out, if_neg (by omega)]; exact congrArg (fun z => Ending.returned (.int .i64 z)) (by omega), bel⟩
 have HF := hid F
 clear F bel r
 go_wp2
 go_ret
 exact HF.out
def CopySig (w : World) (d : Dat sSig) (e : Ending) (w' : World) : Prop := ∃ A0 n0 c0, e = .returned (.agg #[.slice A0 n0 c0]) ∧ Owned w' w.heap.size w'.heap.size sSig [.slice A0 n0 c0] d ∧ Below w.heap.size w w'
set_option maxHeartbeats 2000000 in
theorem toK_Sig (v0 : Value) (d : Dat sSig) (w : World) (h : Rd w w.heap.size sSig [v0] d) (hz : sz sSig d ≤ 1048576) :
  Calls Try.prog 38 #[.agg #[v0]] w (CopySig w d) := by
 have g0 := h
 have cp0 := CpS.zero w 58 29 #[v0] #[.slice none 0 0]
 obtain ⟨W, hW⟩ : ∃ W, W = ((w.alloc (.cells #[v0] 58)).alloc (.cells #[.slice none 0 0] 29)).alloc (.cells #[.slice none 0 0] 29) := ⟨_, rfl⟩
 rw [← hW] at cp0
 have HW := hid hW
 have G0 := hid g0
 have Z0 : Hid (sz sI d ≤ 1048576) := hid (hz)
 clear hW hz h g0
 go_enter Try.func38, Try.ntmps38
 go_wp2_with fail
 rw [← HW.out]
 refine (toK_ints _ _ _ ((G0.out.below cp0.bel).more cp0.bel.size) Z0.out).mono ?_
 rintro e w1 ⟨x0A0, x0n0, x0c0, rfl, o0, bb⟩
 have zb0 := bb.size
 have zc0 := cp0.size
 replace cp0 := cp0.next bb
 clear bb
 have f0_0 : w1.frozen? ⟨w.heap.size + 1 + 1, 0, none⟩ = false := cp0.cur.free 0
 have k0_0 : w1.cell? ⟨w.heap.size + 1 + 1, 0, none⟩ = some (.slice none 0 0) := cp0.cur.cell 0
 obtain ⟨w2, hw0⟩ : ∃ x, x = (w1.setCell ⟨w.heap.size + 1 + 1, 0, none⟩ (.slice x0A0 x0n0 x0c0)) := ⟨_, rfl⟩
 replace o0 := o0.put (g := w.heap.size + 1 + 1) (i := 0) (u := .slice x0A0 x0n0 x0c0) (by omega)
 rw [← hw0] at o0
 replace cp0 : CpS w 58 29 #[v0] #[.slice none 0 0] #[.slice x0A0 x0n0 x0c0] w2 := by rw [hw0]; exact (CpS.put cp0 0 (.slice x0A0 x0n0 x0c0))
 have zw0 : w2.heap.size = w1.heap.size := by rw [hw0]; simp
 have HW0 := hid hw0
 clear hw0
 have y0 : w2.cell? ⟨w.heap.size + 1 + 1, 0, none⟩ = some (.slice x0A0 x0n0 x0c0) := cp0.cur.cell 0
 rw [HW0.out] at y0
 have s0 : (w2).cell? ⟨w.heap.size + 1, 0, none⟩ = some (.slice none 0 0) := cp0.res.cell 0
 rw [HW0.out] at s0
 have r0 : (w2).frozen? ⟨w.heap.size + 1, 0, none⟩ = false := cp0.res.free 0
 rw [HW0.out] at r0
 have oo : Owned w2 (w.heap.size + 1 + 1 + 1) w2.heap.size sSig [.slice x0A0 x0n0 x0c0] d := o0.wider (by omega) (by omega)
 have F : CopySig w d (.returned (.agg #[.slice x0A0 x0n0 x0c0])) (w2.setCell ⟨w.heap.size + 1, 0, none⟩ (.slice x0A0 x0n0 x0c0)) := ⟨x0A0, x0n0, x0c0, rfl, Owned.wider ((oo.put (g := w.heap.size + 1) (i := 0) (u := .slice x0A0 x0n0 x0c0) (by omega))) (by omega) (by simp), ((CpS.fin cp0 0 (.slice x0A0 x0n0 x0c0))).bel⟩
 have u0 : ((w2.setCell ⟨w.heap.size + 1, 0, none⟩ (.slice x0A0 x0n0 x0c0))).cell? ⟨w.heap.size + 1, 0, none⟩ = some (.slice x0A0 x0n0 x0c0) := (CpS.fin cp0 0 (.slice x0A0 x0n0 x0c0)).res.cell 0
 rw [HW0.out] at u0
 rw [HW0.out] at F
 have HF := hid F
 clear F oo cp0 o0
 go_wp2
 exact bodyPost_ret (v := .agg #[.slice x0A0 x0n0 x0c0]) (by simp [results, Try.results38, go_sem, u0]) rfl HF.out
set_option maxHeartbeats 2000000 in
theorem eqK_Sig (v0 u0 : Value) (d : Dat sSig) (w : World) (h : Rd w w.heap.size sSig [v0] d) (h' : Rd w w.heap.size sSig [u0] d) (hz : sz sSig d ≤ 1048576) :
  Calls Try.prog 40 #[.agg #[v0], .agg #[u0]] w (Yes w) := by
 have g0 := h
 have g0' := h'
 obtain ⟨W, hW⟩ : ∃ W, W = (w.alloc (.cells #[v0] 29)).alloc (.cells #[u0] 29) := ⟨_, rfl⟩
 have ra : Row W w.heap.size 29 #[v0] := by rw [hW]; exact (Row.new w 29 #[v0]).alloc _
 have rb : Row W (w.heap.size + 1) 29 #[u0] := by rw [hW]; have := Row.new (w.alloc (.cells #[v0] 29)) 29 #[u0]; simpa using this
 have bel : Below w.heap.size w W := by rw [hW]; exact ((Below.refl _ _).alloc (Nat.le_refl _) _).alloc (by simp) _
 have HW := hid hW
 have G0 := hid g0
 have G0' := hid g0'
 have Z0 : Hid (sz sI d ≤ 1048576) := hid (hz)
 clear hW hz h h' g0 g0'
 go_enter Try.func40, Try.ntmps40
 go_wp2_with fail
 rw [← HW.out]
 refine (eqK_ints _ _ _ W (G0.out.next bel) (G0'.out.next bel) Z0.out).mono ?_
 rintro e w1 ⟨rfl, bb⟩
 replace ra := ra.next bb
 replace rb := rb.next bb
 replace bel := next_trans bel bb
 clear bb
 have F : Yes w (.returned (.bool true)) w1 := ⟨rfl, bel⟩
 have HF := hid F
 clear F ra rb bel
 go_wp2
 go_ret
 exact HF.out
end kindsR
end
section
open Go.Lib (hid)
namespace rename
open Go.RowKit base ints sig term termOk marks app sym segs termFacts varsMath varsOf renMath
set_option maxRecDepth 100000
theorem mem_of_get {t : List Int} {k : Nat} {x : Int} (hk : k < t.length) (hx : t.getD k 0 = x) : x ∈ t := by
 rw [← hx]
 simp [List.getD, hk]
theorem not_mem_of {t : List Int} {x : Int} (h : ∀ j, j < t.length → t.getD j 0 ≠ x) : x ∉ t := fun hx => by
 obtain ⟨j, hj, e⟩ := List.getElem_of_mem hx
 exact h j hj (by simp [List.getD, hj, e])
def HeadNo (n : Nat) (xs : List Int) (x : Int) (i : Value) : Prop := ∃ k : Nat, k ≤ n ∧ i = .int .i64 k ∧ ∀ j, j < k → xs.getD j 0 ≠ x
theorem headNo_step {n k : Nat} {xs : List Int} {x y : Int} (hk : k < n) (h : ∀ j, j < k → xs.getD j 0 ≠ x) (hy : Hid (xs.getD k 0 = y)) (hne : ¬ y = x) : HeadNo n xs x (.int .i64 ((k : Int) + 1)) :=
 ⟨k + 1, hk, by simp, fun j hj => by
  by_cases e : j = k
  ·subst e; rw [hy.out]; exact hne
  ·exact h j (by omega)⟩
set_option maxHeartbeats 1000000 in
theorem l1Has (A : Option Addr) (n c : Nat) (xs : List Int) (x : Int) (w : World) (h : Seg w w.heap.size A n xs) (hn : n ≤ 1048576) :
  Calls Try.prog 106 #[.slice A n c, .int .i64 x] w fun e w' => w = w' ∧ e = .returned (.bool (decide (x ∈ xs))) := by
 have HX := hid h.1
 go_enter Try.func106, Try.ntmps106
 go_wp2
 go_loop [5] (fun i => HeadNo n xs x i) (fun i => n - (intOf i).toNat)
 case atStart => exact ⟨0, Nat.zero_le _, rfl, fun j hj => absurd hj (Nat.not_lt_zero _)⟩
 case round =>
  obtain ⟨k, hk, rfl, hlow⟩ := hrel
  by_cases hlt : k < n
  ·obtain ⟨b, off, y, rfl, -, hy, ey⟩ := h.spot hlt
   by_cases he : y = x
   ·subst he
    have F := hid (show y ∈ xs from mem_of_get (by rw [HX.out]; exact hlt) ey.out)
    have e1 : (y == y) = true := by simp
    clear h ey hlow
    go_wp2
    go_ret
    exact ⟨rfl, by rw [decide_eq_true F.out]; rfl⟩
   ·have S := hid (headNo_step hlt hlow ey he)
    have e1 : (y == x) = false := by simp [he]
    clear h ey hlow
    go_wp2
    go_round
    case rel => exact S.out
    case measure => simp [intOf]; omega
  ·have F := hid (not_mem_of (t := xs) (x := x) (fun j hj => hlow j (by rw [HX.out] at hj; omega)))
   clear h hlow
   go_wp2
   go_ret
   exact ⟨rfl, by rw [decide_eq_false F.out]; rfl⟩
def indexI (xs : List Int) (x : Int) : Int := if x ∈ xs then (idx xs x : Int) else -1
set_option maxHeartbeats 1000000 in
theorem indexOf (A : Option Addr) (n c : Nat) (xs : List Int) (x : Int) (w : World) (h : Seg w w.heap.size A n xs) (hn : n ≤ 1048576) :
  Calls Try.prog 167 #[.slice A n c, .int .i64 x] w fun e w' => w = w' ∧ e = .returned (.int .i64 (indexI xs x)) := by
 have HX := hid h.1
 go_enter Try.func167, Try.ntmps167
 go_wp2
 go_loop [8] (fun i => HeadNo n xs x i) (fun i => n - (intOf i).toNat)
 case atStart => exact ⟨0, Nat.zero_le _, rfl, fun j hj => absurd hj (Nat.not_lt_zero _)⟩
 case round =>
  obtain ⟨k, hk, rfl, hlow⟩ := hrel
  by_cases hlt : k < n
  ·obtain ⟨b, off, y, rfl, -, hy, ey⟩ := h.spot hlt
   by_cases he : y = x
   ·subst he
    have F := hid (show indexI xs y = (k : Int) by
     have hkl : k < xs.length := by rw [HX.out]; exact hlt
     unfold indexI
     rw [if_pos (mem_of_get hkl ey.out), idx_first hkl hlow ey.out])
    have e1 : (y == y) = true := by simp
    clear h ey hlow
    go_wp2
    go_ret
    exact ⟨rfl, by rw [F.out]; rfl⟩
   ·have S := hid (headNo_step hlt hlow ey he)
    have e1 : (x == y) = false := by simp; exact fun e => he e.symm
    clear h ey hlow
    go_wp2
    go_round
    case rel => exact S.out
    case measure => simp [intOf]; omega
  ·have F := hid (show indexI xs x = -1 by unfold indexI; rw [if_neg (not_mem_of (fun j hj => hlow j (by rw [HX.out] at hj; omega)))])
   clear h hlow
   go_wp2
   go_ret
   exact ⟨rfl, by rw [F.out]; rfl⟩
def upTo (o : List Int) (x : Int) (q : Nat) : Int := if idx o x < q then -1 - (idx o x : Int) else x
end rename
end
section
open Go.Lib (hid)
namespace same
open Go.RowKit base ints
set_option maxHeartbeats 400000 in
theorem specSame (A A' : Option Addr) (n m c c' : Nat) (xs ys : List Int) (w : World) (h : Seg w w.heap.size A n xs) (h' : Seg w w.heap.size A' m ys) (hn : n ≤ 1048576) (hm : m ≤ 1048576) :
  Calls Try.prog 123 #[.slice A n c, .slice A' m c'] w (AnsSame w xs ys) := by
 by_cases hnm : n = m
 ·subst hnm
  go_enter Try.func123, Try.ntmps123
  go_wp2
  go_loopw [5] (fun i wr => HeadSame w n xs ys i wr) (fun i _ => n - (intOf i).toNat)
  case atStart => exact ⟨0, 0, Nat.zero_le _, rfl, rfl, fun j h => absurd h (Nat.not_lt_zero _)⟩
  case round =>
   obtain ⟨k, d, hk, rfl, rfl, hc⟩ := hrel
   by_cases hlt : k < n
   ·obtain ⟨b, off, x, rfl, -, hx, ex⟩ := h.spot hlt
    obtain ⟨b', off', y, rfl, -, hx', ey⟩ := h'.spot hlt
    by_cases he : x = y
    ·subst he
     have S := hid (alike_step (w := w) hlt hc ex ey)
     clear hc h h' ex ey
     go_wp2
     go_quiet (fail)
     go_wp2
     go_roundw
     case rel => exact S.out _
     case measure => simp [intOf]; omega
    ·have S := hid (same_not (w := w) ex ey he)
     have hne : (x != y) = true := by simp [he]
     clear hc h h' ex ey he
     go_wp2
     go_quiet (fail)
     go_wp2
     go_ret
     rw [World.drewN_drewN]
     exact S.out _
   ·have S := hid (same_yes (w := w) h.1 h'.1 hlt hc)
    clear hc h h'
    go_wp2
    go_ret
    exact S.out _
 ·have S := hid (same_len (w := w) h.1 h'.1 hnm)
  have hne : ((n : Int) != (m : Int)) = true := by simp; omega
  clear h h'
  go_enter Try.func123, Try.ntmps123
  go_wp2
  go_ret
  exact S.out
set_option maxHeartbeats 400000 in
theorem libEqual (A A' : Option Addr) (n m c c' : Nat) (xs ys : List Int) (w : World) (h : Seg w w.heap.size A n xs) (h' : Seg w w.heap.size A' m ys) (hn : n ≤ 1048576) (hm : m ≤ 1048576) :
  Calls Try.prog 165 #[.slice A n c, .slice A' m c'] w (AnsSame w xs ys) := by
 by_cases hnm : n = m
 ·subst hnm
  go_enter Try.func165, Try.ntmps165
  go_wp2
  go_loopw [13] (fun i wr => HeadSame w n xs ys i wr) (fun i _ => n - (intOf i).toNat)
  case atStart => exact ⟨0, 0, Nat.zero_le _, rfl, rfl, fun j h => absurd h (Nat.not_lt_zero _)⟩
  case round =>
   obtain ⟨k, d, hk, rfl, rfl, hc⟩ := hrel
   by_cases hlt : k < n
   ·obtain ⟨b, off, x, rfl, -, hx, ex⟩ := h.spot hlt
    obtain ⟨b', off', y, rfl, -, hx', ey⟩ := h'.spot hlt
    by_cases he : x = y
    ·subst he
     have S := hid (alike_step (w := w) hlt hc ex ey)
     clear hc h h' ex ey
     go_wp2
     go_quiet (fail)
     go_wp2
     go_roundw
     case rel => exact S.out _
     case measure => simp [intOf]; omega
    ·have S := hid (same_not (w := w) ex ey he)
     have hne : (x != y) = true := by simp [he]
     clear hc h h' ex ey he
     go_wp2
     go_quiet (fail)
     go_wp2
     go_ret
     rw [World.drewN_drewN]
     exact S.out _
   ·have S := hid (same_yes (w := w) h.1 h'.1 hlt hc)
    clear hc h h'
    go_wp2
    go_ret
    exact S.out _
 ·have S := hid (same_len (w := w) h.1 h'.1 hnm)
  have hne : ((n : Int) != (m : Int)) = true := by simp; omega
  clear h h'
  go_enter Try.func165, Try.ntmps165
  go_wp2
  go_ret
  exact S.out
theorem implSame (A A' : Option Addr) (n m c c' : Nat) (xs ys : List Int) (w : World) (h : Seg w w.heap.size A n xs) (h' : Seg w w.heap.size A' m ys) (hn : n ≤ 1048576) (hm : m ≤ 1048576) :
  Calls Try.prog 143 #[.slice A n c, .slice A' m c'] w (AnsSame w xs ys) := by
 have L := hid (libEqual A A' n m c c' xs ys w h h' hn hm)
 clear h h'
 go_enter Try.func143, Try.ntmps143
 go_wp2_with fail
 refine L.out.mono ?_
 rintro e w' ⟨rfl, d, rfl⟩
 go_wp2
 go_ret
 exact ⟨rfl, d, rfl⟩
end same
end
section
namespace ruleSpec
open Go.RowKit renMath base ints sig term termOk marks app sym segs termFacts varsMath varsOf rename same count linear shape kindsR ruleMath
set_option maxRecDepth 100000
theorem box1 (w : World) (t : TypeId) (cs : Array Value) : ∃ W, W = w.alloc (.cells cs t) ∧ Row W w.heap.size t cs ∧ Below w.heap.size w W :=
 ⟨_, rfl, Row.new _ _ _, (Below.refl _ _).alloc (Nat.le_refl _) _⟩
theorem box2 (w : World) (t t' : TypeId) (cs cs' : Array Value) : ∃ W, W = (w.alloc (.cells cs t)).alloc (.cells cs' t') ∧ Row W w.heap.size t cs ∧ Row W (w.heap.size + 1) t' cs' ∧ Below w.heap.size w W := by
 refine ⟨_, rfl, ?_, ?_, ?_⟩
 ·have := (Row.new w t cs).alloc (.cells cs' t'); simpa using this
 ·have := Row.new (w.alloc (.cells cs t)) t' cs'; simpa using this
 ·exact ((Below.refl _ _).alloc (Nat.le_refl _) _).alloc (by simp) _
end ruleSpec
end
section
namespace anyR
open Go.RowKit base ints sig segs varsOf shape kindsR ruleMath
set_option maxRecDepth 100000
theorem any_of {α : Type} [Inhabited α] {f : α → Bool} {xs : List α} {k : Nat} {x z : α} (hk : k < xs.length) (ex : xs.getD k z = x) (h : f x = true) : xs.any f = true := by
 rw [List.any_eq_true]
 refine ⟨xs[k], List.getElem_mem hk, ?_⟩
 have : xs.getD k z = xs[k] := by simp [List.getD, hk]
 rw [← this, ex]; exact h
theorem none_of {α : Type} {f : α → Bool} {xs : List α} {z : α} (h : ∀ j, j < xs.length → f (xs.getD j z) = false) : xs.any f = false := by
 rw [List.any_eq_false]
 intro x hx
 obtain ⟨i, hi, rfl⟩ := List.getElem_of_mem hx
 have := h i hi
 simpa [List.getD, hi] using this
theorem mem_at {α : Type} {xs : List α} {k : Nat} {x z : α} (hk : k < xs.length) (ex : xs.getD k z = x) : x ∈ xs := by
 have : xs.getD k z = xs[k] := by simp [List.getD, hk]
 rw [← ex, this]; exact List.getElem_mem hk
end anyR
end
section
namespace ruleImpl
open Go.RowKit base ints sig term termOk marks app sym segs termFacts varsMath varsOf rename same count linear shape kindsR ruleMath ruleSpec anyR
set_option maxRecDepth 100000
theorem containsI (A : Option Addr) (n c : Nat) (xs : List Int) (x : Int) (w : World) (h : Seg w w.heap.size A n xs) (hn : n ≤ 1048576) :
  Calls Try.prog 152 #[.slice A n c, .int .i64 x] w fun e w' => w = w' ∧ e = .returned (.bool (decide (x ∈ xs))) := by
 have L := Lib.hid (indexOf A n c xs x w h hn)
 clear h
 go_enter Try.func152, Try.ntmps152
 go_wp2_with fail
 refine L.out.mono ?_
 rintro e w' ⟨rfl, rfl⟩
 have E : decide (0 ≤ indexI xs x) = decide (x ∈ xs) := decide_eq_decide.2 (by unfold indexI; split <;> simp_all)
 have HE := Lib.hid E
 clear L E
 generalize indexI xs x = z at *
 go_wp2
 go_ret
 exact ⟨rfl, by rw [← HE.out]; rfl⟩
end ruleImpl
end
section
open Go.Lib (hid)
namespace rankSpec
open Go.RowKit base ints sig term rankMath shape kindsR ruleMath ruleSpec ruleImpl
set_option maxRecDepth 100000
def precB (sg rk : List Int) : Bool := sigOkB sg && rankB sg.length rk
theorem prec_sig {sg rk : List Int} (h : sigOkB sg = false) : precB sg rk = false := by unfold precB; rw [h]; rfl
theorem prec_rank {sg rk : List Int} (h : rankB sg.length rk = false) : precB sg rk = false := by unfold precB; rw [h, Bool.and_false]
theorem prec_yes {sg rk : List Int} (h : sigOkB sg = true) (h2 : rankB sg.length rk = true) : precB sg rk = true := by unfold precB; rw [h, h2]; rfl
theorem prec_parts {sg rk : List Int} (h : precB sg rk = true) : sigOkB sg = true ∧ rankB sg.length rk = true := by unfold precB at h; rwa [Bool.and_eq_true] at h
def AnsRank (w : World) (sg rk : List Int) (e : Ending) (w' : World) : Prop := e = .returned (.bool (precB sg rk)) ∧ Below w.heap.size w w'
set_option maxHeartbeats 4000000 in
theorem specRankOk (A A' : Option Addr) (n c m c' : Nat) (sg rk : List Int) (w : World) (h : Seg w w.heap.size A n sg) (h' : Seg w w.heap.size A' m rk) (hn : n ≤ 1048576) (hm : m ≤ 1048576) :
  Calls Try.prog 84 #[.agg #[.slice A n c], .slice A' m c'] w (AnsRank w sg rk) := by
 have HL := hid (And.intro h.1 h'.1)
 obtain ⟨W, hW, rA, bel⟩ := box1 w 29 #[.slice A n c]
 have k0 : W.cell? ⟨w.heap.size, 0, none⟩ = some (.slice A n c) := rA.cell 0
 rw [hW] at k0
 have HW := hid hW
 have L1 := hid (specSigOk A n c sg W ((h.below bel).more bel.size) hn)
 have SR := hid (fun (w1 : World) (bb : Below w.heap.size w w1) => (h'.below bb).more bb.size)
 obtain ⟨bs, hbs⟩ : ∃ b, sigOkB sg = b := ⟨_, rfl⟩
 have HS := hid hbs
 clear hW h h' hbs
 go_enter Try.func84, Try.ntmps84
 go_wp2_with fail
 rw [← HW.out]
 refine L1.out.mono ?_
 rintro e w1 ⟨he, bb⟩
 rw [HS.out] at he
 subst he
 replace bel := next_trans bel bb
 replace rA := rA.next bb
 clear k0 L1 bb HW
 cases bs with
 | false =>
  have F := hid (show AnsRank w sg rk (.returned (.bool false)) w1 from ⟨by rw [prec_sig HS.out], bel⟩)
  clear bel rA
  go_wp2
  go_ret
  exact F.out
 | true =>
  have k0 : w1.cell? ⟨w.heap.size, 0, none⟩ = some (.slice A n c) := rA.cell 0
  by_cases hmn : m = n
  ·subst hmn
   have S0 := hid bel
   clear bel rA
   go_wp2_with fail
   go_loopg [5] m (fun g i wr => ∃ j : Nat, i = .int .i64 (j : Int) ∧ j + g = m ∧ (∀ k : Nat, k < j → (0 ≤ rk.getD k 0 ∧ rk.getD k 0 ≤ (rk.length : Int) - 1) ∧ ∀ l : Nat, l < k → ¬ rk.getD l 0 = rk.getD k 0) ∧ Below w.heap.size w wr)
   case atStart => exact ⟨0, rfl, by omega, (fun k hk => absurd hk (Nat.not_lt_zero _)), S0.out⟩
   case round =>
    clear S0 k0
    obtain ⟨j, rfl, hj, hall, bel⟩ := hrel
    obtain ⟨G, hG⟩ : ∃ G, G = gk := ⟨_, rfl⟩
    subst hG
    have HA := hid hall
    clear hall
    by_cases hlt : j < m
    ·obtain ⟨b, off, x, rfl, hbB, hx, ex⟩ := (SR.out wr bel).spot hlt
     have HB := hid bel
     have i0 : (0 : Int) ≤ (j : Int) := by omega
     have i1 : (j : Int) < (m : Int) := by omega
     have HJ := hid hj
     clear bel hj
     by_cases hin : 0 ≤ x ∧ x ≤ (m : Int) - 1
     ·have HI := hid hin
      clear hin
      go_wp2_with (first
       | (go_at_call 85; refine (inYes _ _ _ _ HI.out).mono ?_; rintro e w2 ⟨rfl, rfl⟩))
      clear hx
      go_loopg [6] j (fun g i W2 => ∃ k : Nat, i = .int .i64 (k : Int) ∧ k + g = j ∧ (∀ l : Nat, l < k → ¬ rk.getD l 0 = rk.getD j 0) ∧ Below w.heap.size w W2)
      case atStart => exact ⟨0, rfl, by omega, (fun l hl => absurd hl (Nat.not_lt_zero _)), HB.out⟩
      case round =>
       clear HB
       obtain ⟨k, rfl, hkj, hlow, bel⟩ := hrel
       have HLOW := hid hlow
       clear hlow
       obtain ⟨b', off', x', e', hbB', hx', ex'⟩ := (SR.out _ bel).spot hlt
       injection e' with e'
       injection e' with e1 e2
       subst e1 e2
       have exx : x' = x := by rw [← ex'.out, ← ex.out]
       subst exx
       by_cases hk : k < j
       ·obtain ⟨b2, off2, y, e2, -, hy, ey⟩ := (SR.out _ bel).spot (show k < m by omega)
        injection e2 with e2
        injection e2 with e21 e22
        subst e21 e22
        have HB := hid bel
        have HK := hid hkj
        have q0 : (0 : Int) ≤ (k : Int) := by omega
        have q1 : (k : Int) < (m : Int) := by omega
        have q2 : (k : Int) < (j : Int) := by omega
        clear hkj bel
        by_cases hxy : y = x'
        ·subst hxy
         have F := hid (fun dd => (show AnsRank w sg rk (.returned (.bool false)) (wr.drewN dd) from ⟨by rw [prec_rank (rank_twice (i := j) (k := k) (by rw [HL.out.2]; exact hlt) hk (by rw [ey.out, ex.out]))], below_drewN HB.out dd⟩))
         go_wp2_with fail
         go_quiet (fail)
         go_wp2
         go_ret
         exact F.out _
        ·have S2 := hid (show ∀ l : Nat, l < k + 1 → ¬ rk.getD l 0 = rk.getD j 0 from fun l hl => by
          by_cases e : l = k
          ·rw [e, ey.out, ex.out]; exact hxy
          ·exact HLOW.out l (by omega))
         have S3 := hid (fun dd => below_drewN HB.out dd)
         have e9 : (y == x') = false := by simp [hxy]
         go_wp2_with fail
         go_quiet (fail)
         go_wp2
         go_roundg (gk - 1)
         case measure => have := HK.out; omega
         case rel => exact ⟨k + 1, by simp, by have := HK.out; omega, S2.out, S3.out _⟩
       ·have hkj' : k = j := by omega
        subst hkj'
        have HB := hid bel
        clear bel
        have S1 := hid (show ∀ k' : Nat, k' < k + 1 → (0 ≤ rk.getD k' 0 ∧ rk.getD k' 0 ≤ (rk.length : Int) - 1) ∧ ∀ l : Nat, l < k' → ¬ rk.getD l 0 = rk.getD k' 0 from fun k' hk' => by
         by_cases e : k' = k
         ·rw [e]
          refine ⟨?_, HLOW.out⟩
          rw [ex.out, HL.out.2]
          exact HI.out
         ·exact HA.out k' (by omega))
        go_wp2
        go_roundg (G - 1)
        case measure => have := HJ.out; omega
        case rel => exact ⟨k + 1, by simp, by have := HJ.out; omega, S1.out, HB.out⟩
     ·have F := hid (show AnsRank w sg rk (.returned (.bool false)) wr from ⟨by rw [prec_rank (rank_out (i := j) (by rw [HL.out.2]; exact hlt) (by rw [ex.out, HL.out.2]; exact hin))], HB.out⟩)
      have HI := hid hin
      clear hin
      go_wp2_with (first
       | (go_at_call 85; refine (inNo _ _ _ _ HI.out).mono ?_; rintro e w2 ⟨rfl, rfl⟩))
      go_wp2
      go_ret
      exact F.out
    ·have F := hid (show AnsRank w sg rk (.returned (.bool true)) wr from ⟨by rw [prec_yes HS.out (rank_spec (by rw [HL.out.1, HL.out.2]) (fun i hi => (HA.out i (by rw [HL.out.2] at hi; omega)).1) fun i k hi hk => (HA.out i (by rw [HL.out.2] at hi; omega)).2 k hk)], bel⟩)
     clear bel
     go_wp2
     go_ret
     exact F.out
  ·have F := hid (show AnsRank w sg rk (.returned (.bool false)) w1 from ⟨by rw [prec_rank (rank_len (by rw [HL.out.1, HL.out.2]; exact hmn))], bel⟩)
   have hne : ¬ (m : Int) = (n : Int) := by omega
   clear bel rA
   go_wp2
   go_ret
   exact F.out
set_option maxHeartbeats 2000000 in
theorem implRankOk (A A' : Option Addr) (n c m c' : Nat) (sg rk : List Int) (w : World) (h : Seg w w.heap.size A n sg) (h' : Seg w w.heap.size A' m rk) (hn : n ≤ 1048576) (hm : m ≤ 1048576) :
  Calls Try.prog 140 #[.agg #[.slice A n c], .slice A' m c'] w (AnsRank w sg rk) := by
 have HL := hid (And.intro h.1 h'.1)
 obtain ⟨W, hW, rA, bel⟩ := box1 w 29 #[.slice A n c]
 have k0 : W.cell? ⟨w.heap.size, 0, none⟩ = some (.slice A n c) := rA.cell 0
 rw [hW] at k0
 have HW := hid hW
 have L1 := hid (implSigOk A n c sg W ((h.below bel).more bel.size) hn)
 have L2 := hid (fun (w1 : World) (bb : Below w.heap.size w w1) (x : Int) => containsI A' m c' rk x w1 ((h'.below bb).more bb.size) hm)
 obtain ⟨bs, hbs⟩ : ∃ b, sigOkB sg = b := ⟨_, rfl⟩
 have HS := hid hbs
 clear hW h h' hbs
 go_enter Try.func140, Try.ntmps140
 go_wp2_with fail
 rw [← HW.out]
 refine L1.out.mono ?_
 rintro e w1 ⟨he, bb⟩
 rw [HS.out] at he
 subst he
 replace bel := next_trans bel bb
 replace rA := rA.next bb
 clear k0 L1 bb HW
 cases bs with
 | false =>
  have F := hid (show AnsRank w sg rk (.returned (.bool false)) w1 from ⟨by rw [prec_sig HS.out], bel⟩)
  clear bel rA
  go_wp2
  go_ret
  exact F.out
 | true =>
  have k0 : w1.cell? ⟨w.heap.size, 0, none⟩ = some (.slice A n c) := rA.cell 0
  by_cases hmn : m = n
  ·subst hmn
   have S0 := hid bel
   clear bel rA
   go_wp2_with fail
   go_loopw [19] (fun i wr => ∃ j : Nat, i = .int .i64 (j : Int) ∧ j ≤ m ∧ (∀ k : Nat, k < j → (k : Int) ∈ rk) ∧ Below w.heap.size w wr) (fun i _ => m - (intOf i).toNat)
   case atStart => exact ⟨0, rfl, Nat.zero_le _, (fun k hk => absurd hk (Nat.not_lt_zero _)), S0.out⟩
   case round =>
    clear S0 k0
    obtain ⟨j, rfl, hj, hall, bel⟩ := hrel
    have HA := hid hall
    clear hall
    by_cases hlt : j < m
    ·have LL := hid (L2.out wr bel (j : Int))
     have HB := hid bel
     have i0 : (0 : Int) ≤ (j : Int) := by omega
     have i1 : (j : Int) < (m : Int) := by omega
     clear bel
     by_cases hin : (j : Int) ∈ rk
     ·have S1 := hid (show ∀ k : Nat, k < j + 1 → (k : Int) ∈ rk from fun k hk => by
       by_cases e : k = j
       ·rw [e]; exact hin
       ·exact HA.out k (by omega))
      have e1 : decide ((j : Int) ∈ rk) = true := decide_eq_true hin
      rw [e1] at LL
      clear e1 hin
      go_wp2_with (first
       | (go_at_call 152; refine LL.out.mono ?_; rintro e w2 ⟨rfl, rfl⟩))
      go_wp2
      go_roundw
      case rel => exact ⟨j + 1, by simp, hlt, S1.out, HB.out⟩
      case measure => simp [intOf]; omega
     ·have F := hid (show AnsRank w sg rk (.returned (.bool false)) wr from ⟨by rw [prec_rank (rank_miss (k := j) (by rw [HL.out.2]; exact hlt) hin)], HB.out⟩)
      have e1 : decide ((j : Int) ∈ rk) = false := decide_eq_false hin
      rw [e1] at LL
      clear e1 hin
      go_wp2_with (first
       | (go_at_call 152; refine LL.out.mono ?_; rintro e w2 ⟨rfl, rfl⟩))
      go_wp2
      go_ret
      exact F.out
    ·have F := hid (show AnsRank w sg rk (.returned (.bool true)) wr from ⟨by rw [prec_yes HS.out (rank_yes (by rw [HL.out.1, HL.out.2]) fun k hk => HA.out k (by rw [HL.out.2] at hk; omega))], bel⟩)
     clear bel
     go_wp2
     go_ret
     exact F.out
  ·have F := hid (show AnsRank w sg rk (.returned (.bool false)) w1 from ⟨by rw [prec_rank (rank_len (by rw [HL.out.1, HL.out.2]; exact hmn))], bel⟩)
   have hne : ¬ (m : Int) = (n : Int) := by omega
   clear bel rA
   go_wp2
   go_ret
   exact F.out
end rankSpec
end
section
namespace dice
open Go.RowKit base ints cursor
def SegB (w : World) (B : Nat) (A : Option Addr) (n : Nat) : Prop :=
 0 < n → ∃ b off, A = some ⟨b, off, none⟩ ∧ b < B ∧ ∀ j, j < n → ∃ x : Int, 0 ≤ x ∧ x ≤ 255 ∧ w.cell? ⟨b, off + j, none⟩ = some (.int .u8 x)
theorem SegB.keep {w w' : World} {B : Nat} {A : Option Addr} {n : Nat} (h : SegB w B A n) (hk : ∀ p : Addr, p.block < B → w'.cell? p = w.cell? p) : SegB w' B A n := fun hn => by
 obtain ⟨b, off, e, hb, hc⟩ := h hn
 refine ⟨b, off, e, hb, fun j hj => ?_⟩
 obtain ⟨x, h0, h1, h2⟩ := hc j hj
 exact ⟨x, h0, h1, (hk ⟨b, off + j, none⟩ hb).trans h2⟩
structure DiceAt (w : World) (p : Nat) (A : Option Addr) (n c i : Nat) (h : Int) : Prop where
 row : Row w p 152 #[.slice A n c, .int .i64 i, .int .i64 h]
 le : i ≤ n
 s : SegB w p A n
 hn : n ≤ 4096
def Dice (w : World) (p : Nat) (A : Option Addr) (n c : Nat) : Prop := ∃ i h, DiceAt w p A n c i h
section
variable {w w' : World} {p : Nat} {A : Option Addr} {n c i : Nat} {h : Int}
theorem Dice.next (d : Dice w p A n c) (hb : Below w.heap.size w w') : Dice w' p A n c := by
 obtain ⟨i, h, d⟩ := d
 have hp := d.row.lt
 exact ⟨i, h, d.row.next hb, d.le, d.s.keep fun q hq => hb.cell (Nat.lt_trans hq hp), d.hn⟩
end
theorem Dice.alloc {w : World} {p : Nat} {A : Option Addr} {n c : Nat} (d : Dice w p A n c) (o : Obj) : Dice (w.alloc o) p A n c := d.next ((Below.refl _ _).alloc (Nat.le_refl _) _)
end dice
end
section
namespace drawSig
open Go.RowKit base ints sig cursor marks app sym dice
set_option maxRecDepth 100000
section
variable {w : World} {p : Nat} {A : Option Addr} {n c v : Nat} {wr : World} {O : Option Addr} {on oc : Nat} {xs : List Int}
end
def Short (xs : List Int) : Prop := xs.length ≤ 9
end drawSig
end
section
namespace drawTerm
open Go.RowKit base ints sig term cursor marks app sym dice drawSig
set_option maxRecDepth 100000
def Rd (w : World) (p B : Nat) (A : Option Addr) (n : Nat) (xs : List Int) : Prop :=
 xs.length = n ∧ (0 < n → ∃ b off, A = some ⟨b, off, none⟩ ∧ b < B ∧ b ≠ p ∧ ∀ j, j < n → w.cell? ⟨b, off + j, none⟩ = some (.int .i64 (xs.getD j 0)))
theorem Rd.more {w : World} {p B B' : Nat} {A : Option Addr} {n : Nat} {xs : List Int} (h : Rd w p B A n xs) (hB : B ≤ B') : Rd w p B' A n xs :=
 ⟨h.1, fun hn => by obtain ⟨b, off, e, hb, hne, hc⟩ := h.2 hn; exact ⟨b, off, e, by omega, hne, hc⟩⟩
theorem Rd.keep {w w' : World} {p B : Nat} {A : Option Addr} {n : Nat} {xs : List Int} (h : Rd w p B A n xs) (hk : ∀ q : Addr, q.block < B → q.block ≠ p → w'.cell? q = w.cell? q) : Rd w' p B A n xs :=
 ⟨h.1, fun hn => by obtain ⟨b, off, e, hb, hne, hc⟩ := h.2 hn; exact ⟨b, off, e, hb, hne, fun j hj => (hk ⟨b, off + j, none⟩ hb hne).trans (hc j hj)⟩⟩
theorem Rd.below {w w' : World} {p B B' : Nat} {A : Option Addr} {n : Nat} {xs : List Int} (h : Rd w p B A n xs) (hb : Below B' w w') (hB : B ≤ B') : Rd w' p B A n xs :=
 h.keep fun q hq _ => hb.cell (by omega)
theorem Rd.seg {w : World} {p B : Nat} {A : Option Addr} {n : Nat} {xs : List Int} (h : Rd w p B A n xs) : Seg w B A n xs :=
 ⟨h.1, fun hn => by obtain ⟨b, off, e, hb, _, hc⟩ := h.2 hn; exact ⟨b, off, e, hb, hc⟩⟩
structure DT (w : World) (p : Nat) (A : Option Addr) (n c : Nat) (S : Option Addr) (sn sc : Nat) (sg : List Int) (wr : World) : Prop where
 d : Dice wr p A n c
 r : Row wr w.heap.size 29 #[.slice S sn sc]
 s : Rd wr p w.heap.size S sn sg
 g : w.grownBy wr (some p)
 hp : p < w.heap.size
section
variable {w : World} {p : Nat} {A : Option Addr} {n c : Nat} {S : Option Addr} {sn sc : Nat} {sg : List Int} {wr w' : World}
end
def AnsT (w : World) (p : Nat) (A : Option Addr) (n c L : Nat) (e : Ending) (w' : World) : Prop :=
 ∃ O on oc xs, e = .returned (.slice O on oc) ∧ Own w' w.heap.size (.slice O on oc) xs ∧ 1 ≤ on ∧ on ≤ L ∧ Dice w' p A n c ∧ w.grownBy w' (some p)
theorem leaf {w : World} {p : Nat} {A : Option Addr} {n c L : Nat} {S : Option Addr} {sn sc : Nat} {sg : List Int} {u : World} (t : DT w p A n c S sn sc sg u) (hL : 1 ≤ L) (y : Int) :
  AnsT w p A n c L (.returned (.slice (some ⟨u.heap.size, 0, none⟩) 1 1)) (u.alloc (.cells #[.int .i64 y] 2)) :=
 ⟨_, _, _, [y], rfl, Own.of_row (Row.new _ _ _) rfl rfl (Nat.le_refl _) (by omega) t.g.size (fun j hj => by match j, hj with | 0, _ => rfl), Nat.le_refl _, hL, t.d.alloc _, grown_trans t.g (World.grownBy_alloc _ _ _)⟩
def HeadT (w : World) (p : Nat) (A : Option Addr) (n c : Nat) (S : Option Addr) (sn sc : Nat) (sg : List Int) (M : Nat) (out k : Value) (wr : World) : Prop :=
 ∃ (q : Nat) (O : Option Addr) (on oc : Nat) (xs : List Int), k = .int .i64 q ∧ q ≤ 3 ∧ out = .slice O on oc ∧ Own wr (w.heap.size + 1) (.slice O on oc) xs ∧ 1 ≤ on ∧ on + q * M ≤ 1 + 3 * M ∧ DT w p A n c S sn sc sg wr
end drawTerm
end
section
namespace drawAny
open Go.RowKit base ints sig term cursor termOk marks app sym dice drawSig drawTerm
set_option maxRecDepth 100000
theorem Own.cap {w : World} {base : Nat} {O : Option Addr} {on oc : Nat} {xs : List Int} (h : Own w base (.slice O on oc) xs) : on ≤ oc ∧ oc ≤ 9223372036854775807 := by
 rcases h.2 with ⟨e, _⟩ | ⟨g, cap, cur, e, _, _, h1, h2, _⟩
 ·injection e with _ e1 e2; omega
 ·injection e with _ e1 e2
  have := Own.len h
  unfold maxLen at h2
  omega
end drawAny
end
section
namespace drawX
open Go.RowKit base ints sig cursor marks app appAt sym segs shape dice
def RdQ (w : World) (Q : Nat → Prop) : (s : Sh) → List Value → Dat s → Prop
 | .num, cs, (x : Int) => cs = [.int .i64 x]
 | .bit, cs, (x : Bool) => cs = [.bool x]
 | .row _ s, cs, (d : List (Dat s)) => ∃ A n c, cs = [.slice A n c] ∧ Cap A n c ∧ d.length = n ∧
   (0 < n → ∃ b off, A = some ⟨b, off, none⟩ ∧ Q b ∧ ∀ j, j < n → ∃ es, es.length = nc s ∧ Piece w b (off + j * nc s) es ∧ RdQ w Q s es (d.getD j (dft s)))
 | .cat a b, cs, d => ∃ ca cb, cs = ca ++ cb ∧ RdQ w Q a ca d.1 ∧ RdQ w Q b cb d.2
section
variable {w w' : World} {Q Q' : Nat → Prop} {B : Nat}
theorem RdQ.keep (hk : ∀ b, Q b → w'.heap[b]? = w.heap[b]?) : ∀ {s : Sh} {cs : List Value} {d : Dat s}, RdQ w Q s cs d → RdQ w' Q s cs d
 | .num, _, _, h => h
 | .bit, _, _, h => h
 | .row _ s, _, _, h => by
  obtain ⟨A, n, c, e, hc, hl, h1⟩ := h
  refine ⟨A, n, c, e, hc, hl, fun hn => ?_⟩
  obtain ⟨b, off, e2, hb, h2⟩ := h1 hn
  refine ⟨b, off, e2, hb, fun j hj => ?_⟩
  obtain ⟨es, he, hp, hr⟩ := h2 j hj
  exact ⟨es, he, hp.keep (fun p hp => World.cell?_of_block (by rw [hp]; exact hk b hb)), hr.keep hk⟩
 | .cat a b, _, _, h => by
  obtain ⟨ca, cb, e, h1, h2⟩ := h
  exact ⟨ca, cb, e, h1.keep hk, h2.keep hk⟩
theorem RdQ.rd (hk : ∀ b, Q b → b < B) : ∀ {s : Sh} {cs : List Value} {d : Dat s}, RdQ w Q s cs d → Rd w B s cs d
 | .num, _, _, h => h
 | .bit, _, _, h => h
 | .row _ s, _, _, h => by
  obtain ⟨A, n, c, e, hc, hl, h1⟩ := h
  refine ⟨A, n, c, e, hc, hl, fun hn => ?_⟩
  obtain ⟨b, off, e2, hb, h2⟩ := h1 hn
  refine ⟨b, off, e2, hk b hb, fun j hj => ?_⟩
  obtain ⟨es, he, hp, hr⟩ := h2 j hj
  exact ⟨es, he, hp, hr.rd hk⟩
 | .cat a b, _, _, h => by
  obtain ⟨ca, cb, e, h1, h2⟩ := h
  exact ⟨ca, cb, e, h1.rd hk, h2.rd hk⟩
theorem RdQ.len : ∀ {s : Sh} {cs : List Value} {d : Dat s}, RdQ w Q s cs d → cs.length = nc s
 | .num, _, _, h => by have h : _ = _ := h; rw [h]; rfl
 | .bit, _, _, h => by have h : _ = _ := h; rw [h]; rfl
 | .row _ _, _, _, h => by obtain ⟨A, n, c, e, _⟩ := h; rw [e]; rfl
 | .cat a b, _, _, h => by
  obtain ⟨ca, cb, e, h1, h2⟩ := h
  rw [e, List.length_append, h1.len, h2.len]; rfl
theorem RdQ.cat {a b : Sh} {ca cb : List Value} {x : Dat a} {y : Dat b} (h1 : RdQ w Q a ca x) (h2 : RdQ w Q b cb y) : RdQ w Q (.cat a b) (ca ++ cb) (x, y) := ⟨ca, cb, rfl, h1, h2⟩
theorem RdQ.one : ∀ {s : Sh} {cs : List Value} {d : Dat s}, RdQ w Q s cs d → ∀ u ∈ cs, u.oneCell' = true
 | .num, _, _, h, u, hu => by have h : _ = _ := h; rw [h] at hu; rw [List.mem_singleton.1 hu]; rfl
 | .bit, _, _, h, u, hu => by have h : _ = _ := h; rw [h] at hu; rw [List.mem_singleton.1 hu]; rfl
 | .row _ _, _, _, h, u, hu => by obtain ⟨A, n, c, e, _⟩ := h; rw [e] at hu; rw [List.mem_singleton.1 hu]; rfl
 | .cat a b, _, _, h, u, hu => by
  obtain ⟨ca, cb, e, h1, h2⟩ := h
  rw [e] at hu
  rcases List.mem_append.1 hu with hu | hu
  ·exact h1.one u hu
  ·exact h2.one u hu
theorem rdq_seg {A : Option Addr} {n c : Nat} {xs : List Int} (hl : xs.length = n) (hc : Cap A n c) (h : 0 < n → ∃ b off, A = some ⟨b, off, none⟩ ∧ Q b ∧ ∀ j, j < n → w.cell? ⟨b, off + j, none⟩ = some (.int .i64 (xs.getD j 0))) : RdQ w Q sI [.slice A n c] xs := by
 refine ⟨A, n, c, rfl, hc, hl, fun hn => ?_⟩
 obtain ⟨b, off, e2, hb, h2⟩ := h hn
 refine ⟨b, off, e2, hb, fun j hj => ⟨[.int .i64 (xs.getD j 0)], rfl, fun i hi => ?_, rfl⟩⟩
 have hi : i = 0 := by simpa using hi
 subst hi
 show w.cell? ⟨b, off + j * 1 + 0, none⟩ = some (.int .i64 (xs.getD j 0))
 rw [Nat.mul_one, Nat.add_zero]
 exact h2 j hj
end
def OutR (w : World) (p : Nat) (r : Option Nat) (b : Nat) : Prop := b < w.heap.size ∧ b ≠ p ∧ some b ≠ r
section
variable {w w' : World} {p : Nat} {r : Option Nat} {s : Sh} {cs : List Value} {d : Dat s}
end
def cellsOf (k : Nat) (vs : List Value) (j : Nat) : List Value := (vs.drop (j * k)).take k
def OwnQ (w : World) (p lo : Nat) (e : TypeId) (s : Sh) (A : Option Addr) (n c : Nat) (D : List (Dat s)) : Prop :=
 D.length = n ∧ ∃ vs : List Value, w.ownsRow lo e (nc s) (.slice A n c) n vs ∧ ∀ j, j < n → RdQ w (OutR w p (blk A)) s (cellsOf (nc s) vs j) (D.getD j (dft s))
section
variable {w w' : World} {p lo n c : Nat} {e : TypeId} {s : Sh} {A : Option Addr} {D : List (Dat s)}
theorem OwnQ.nil (w : World) (p lo : Nat) (e : TypeId) (s : Sh) : OwnQ w p lo e s none 0 0 [] := ⟨rfl, [], ⟨by simp, .inl ⟨rfl, rfl⟩⟩, fun j hj => absurd hj (Nat.not_lt_zero _)⟩
end
end drawX
end
section
namespace stk
open Go.RowKit base ints marks app sym appAt segs segsMark kinds shape drawX
set_option maxRecDepth 100000
def Stk (w : World) (Q : Nat → Prop) (lo : Nat) (A : Option Addr) (n c : Nat) (D : List (List Int)) : Prop :=
 D.length = n ∧ ∃ vs : List Value, w.ownsRow lo 27 1 (.slice A n c) n vs ∧ ∀ j, j < n → RdQ w Q sI [vs.getD j undef] (D.getD j [])
def Keep (Q : Nat → Prop) (w w' : World) : Prop := ∀ b, Q b → w'.heap[b]? = w.heap[b]?
section
variable {w w' : World} {Q Q' : Nat → Prop} {lo n c : Nat} {A : Option Addr} {D : List (List Int)}
theorem Keep.below {B : Nat} (h : Below B w w') (hQ : ∀ b, Q b → b < B) : Keep Q w w' := fun b hb => h.block b (hQ b hb)
theorem Keep.grown {r : Option Nat} (h : w.grownBy w' r) (hQ : ∀ b, Q b → b < w.heap.size ∧ some b ≠ r) : Keep Q w w' := by
 intro b hb
 obtain ⟨h1, h2⟩ := hQ b hb
 exact h.block b h1 (fun e => h2 e)
theorem Stk.nil (w : World) (Q : Nat → Prop) (lo : Nat) : Stk w Q lo none 0 0 [] := ⟨rfl, [], World.ownsRow_nil w lo _ _, fun j hj => absurd hj (Nat.not_lt_zero j)⟩
theorem Stk.empty (w : World) (Q : Nat → Prop) (lo : Nat) (h : lo ≤ w.heap.size) : Stk (w.alloc (.cells #[] 27)) Q lo (some ⟨w.heap.size, 0, none⟩) 0 0 [] :=
 ⟨rfl, [], rowsOf (cs := #[]) (Row.new w 27 #[]) rfl (Nat.le_refl _) (by decide) h, fun j hj => absurd hj (Nat.not_lt_zero j)⟩
theorem Stk.single {g : Nat} {v : Value} {x : List Int} (hr : Row w g 27 #[v]) (hlo : lo ≤ g) (hv : RdQ w Q sI [v] x) : Stk w Q lo (some ⟨g, 0, none⟩) 1 1 [x] := by
 refine ⟨rfl, [v], rowsOf (cs := #[v]) hr rfl (Nat.le_refl _) (by decide) hlo, fun j hj => ?_⟩
 have e : j = 0 := by omega
 subst e
 exact hv
theorem Stk.ge (h : Stk w Q lo A n c D) : ∀ k, blk A = some k → lo ≤ k ∧ k < w.heap.size := by
 obtain ⟨-, vs, h2, -⟩ := h
 intro k hk
 exact World.ownsRow.lt h2 k (by rw [blk_own]; exact hk)
theorem Stk.keep {r : Option Nat} (h : Stk w Q lo A n c D) (hg : w.grownBy w' r) (hne : blk A = none ∨ blk A ≠ r) (hk : Keep Q w w') : Stk w' Q lo A n c D := by
 obtain ⟨h1, vs, h2, h3⟩ := h
 exact ⟨h1, vs, World.ownsRow.kept h2 hg (by rw [blk_own]; exact hne), fun j hj => (h3 j hj).keep hk⟩
theorem Stk.next (h : Stk w Q lo A n c D) (hb : Below w.heap.size w w') (hQ : ∀ b, Q b → b < w.heap.size) : Stk w' Q lo A n c D :=
 h.keep (r := none) ⟨hb.os, hb.tape, hb.output, hb.size, fun k hk _ => hb.block k hk⟩ (by cases blk A <;> simp) (Keep.below hb hQ)
theorem Stk.drewN (h : Stk w Q lo A n c D) (k : Nat) : Stk (w.drewN k) Q lo A n c D := by
 obtain ⟨h1, vs, h2, h3⟩ := h
 exact ⟨h1, vs, h2, fun j hj => (h3 j hj).keep fun _ _ => rfl⟩
theorem Stk.lower {lo' : Nat} (h : Stk w Q lo A n c D) (hl : lo' ≤ lo) : Stk w Q lo' A n c D := by
 obtain ⟨h1, vs, h2, h3⟩ := h
 exact ⟨h1, vs, World.ownsRow.mono h2 hl, h3⟩
theorem Stk.form (h : Stk w Q lo A n c D) : (A = none ∧ n = 0 ∧ c = 0 ∧ D = []) ∨
  ∃ g cur, A = some ⟨g, 0, none⟩ ∧ lo ≤ g ∧ Row w g 27 cur ∧ n ≤ c ∧ cur.size = c ∧ c ≤ 9223372036854775807 ∧ ∀ j, j < n → ∃ X xn xc, cur[j]? = some (.slice X xn xc) ∧ RdQ w Q sI [.slice X xn xc] (D.getD j []) := by
 obtain ⟨h1, vs, h2, h3⟩ := h
 rcases own_form h2 with ⟨rfl, rfl, rfl, -⟩ | ⟨g, cur, rfl, hg, hr, hnc, hs, hc, hl, hj⟩
 ·exact .inl ⟨rfl, rfl, rfl, List.length_eq_zero_iff.1 h1⟩
 ·refine .inr ⟨g, cur, rfl, hg, hr, hnc, hs, hc, fun j hjn => ?_⟩
  have h4 := h3 j hjn
  obtain ⟨X, xn, xc, e, -⟩ := id h4
  injection e with e
  exact ⟨X, xn, xc, by rw [hj j hjn, e], by rw [← e]; exact h4⟩
theorem rdq_one {v : Value} {x : List Int} (h : RdQ w Q sI [v] x) : v.oneCell' = true := h.one v (List.mem_cons_self ..)
end
theorem stk_app {w w' : World} {Q : Nat → Prop} {lo n m c' : Nat} {A A' : Option Addr} {D E : List (List Int)} {vs us : List Value} (h1 : D.length = n) (h2 : vs.length = n) (h3 : ∀ j, j < n → RdQ w Q sI [vs.getD j undef] (D.getD j []))
  (e1 : E.length = m) (e3 : ∀ j, j < m → RdQ w Q sI [us.getD j undef] (E.getD j [])) (ho' : w'.ownsRow lo 27 1 (.slice A' (n + m) c') (n + m) (vs ++ us)) (hg : w.grownBy w' (blk A)) (hlo : lo ≤ w.heap.size) (hQ : ∀ b, Q b → b < lo) (hA : ∀ k, blk A = some k → lo ≤ k) : Stk w' Q lo A' (n + m) c' (D ++ E) := by
 have hk : Keep Q w w' := Keep.grown hg fun b hb => ⟨Nat.lt_of_lt_of_le (hQ b hb) hlo, fun e => by have := hA b e.symm; have := hQ b hb; omega⟩
 refine ⟨by simp [h1, e1], vs ++ us, ho', fun j hj => ?_⟩
 by_cases hjn : j < n
 ·have q1 : (vs ++ us).getD j undef = vs.getD j undef := by simp [List.getD, List.getElem?_append_left (h2 ▸ hjn : j < vs.length)]
  have q2 : (D ++ E).getD j [] = D.getD j [] := by simp [List.getD, List.getElem?_append_left (h1 ▸ hjn : j < D.length)]
  rw [q1, q2]
  exact (h3 j hjn).keep hk
 ·have q1 : (vs ++ us).getD j undef = us.getD (j - n) undef := by simp [List.getD, List.getElem?_append_right (by omega : vs.length ≤ j), h2]
  have q2 : (D ++ E).getD j [] = E.getD (j - n) [] := by simp [List.getD, List.getElem?_append_right (by omega : D.length ≤ j), h1]
  rw [q1, q2]
  exact (e3 (j - n) (by omega)).keep hk
theorem vs_len {w : World} {lo n c : Nat} {A : Option Addr} {vs : List Value} (h : w.ownsRow lo 27 1 (.slice A n c) n vs) : vs.length = n := by
 rcases own_form h with ⟨-, h0, -, hv⟩ | ⟨g, cur, -, -, -, -, -, -, hl, -⟩
 ·rw [hv, h0]; rfl
 ·exact hl
theorem appStk {w : World} {ops : Array Oper} {rest : List Oper} {o : Oper} {a : Act} {K : Exit → Act → World → Prop} (hgd : o.guard = none) (sx x : Operand)
  (ho : o.op = .call { callee := .builtin .append, args := #[sx, x], argTypes := #[35, 35] })
  (Q : Nat → Prop) (lo lo2 : Nat) (A : Option Addr) (n c g m c2 : Nat) (D E : List (List Int)) (hs : a.eval sx = .slice A n c) (hown : Stk w Q lo A n c D)
  (hx : a.eval x = .slice (some ⟨g, 0, none⟩) m c2) (hE : Stk w Q lo2 (some ⟨g, 0, none⟩) m c2 E) (hn : n ≤ 1048576) (hm : m ≤ 1048576) (hlo : lo ≤ w.heap.size) (hQ : ∀ b, Q b → b < lo)
  (h : ∀ A' c' w', Stk w' Q lo A' (n + m) c' (D ++ E) → w.grownBy w' (blk A) → (blk A' = blk A ∨ blk A' = some w.heap.size) → wpList Try.prog ops K rest (a.put o.dst (.slice A' (n + m) c')) w') : wpList Try.prog ops K (o :: rest) a w := by
 have hge := hown.ge
 obtain ⟨h1, vs, h2, h3⟩ := hown
 obtain ⟨e1, us, e2, e3⟩ := hE
 have hul := vs_len e2
 obtain ⟨i0, hi, hz0, hz1, hz2⟩ := info_parts segsHelp.info_list
 refine wpList_append_own_at (P := Try.prog) w hgd sx x 35 ho lo 27 i0 (.slice none 0 0) 1 24 Try.underlying35 hi hz0 hz1 hz2 rfl (by decide) (.slice A n c) n vs hs h2 ⟨g, 0, none⟩ m c2 us hx (by rw [hul, Nat.mul_one]) ?_ ?_ (by unfold maxLen; omega) (by omega) hlo ?_
 ·intro j u hu
  exact World.ownsRow.cells e2 (g := g) (by rfl) j u hu
 ·intro u hu
  obtain ⟨j, hj, rfl⟩ := List.mem_iff_getElem.1 hu
  have := rdq_one (e3 j (by omega))
  simpa [List.getD, hj] using this
 ·intro v' w' ho' hg _ hat
  obtain ⟨A', c', rfl⟩ : ∃ A' c', v' = .slice A' (n + m) c' := by
   rcases ho'.2 with ⟨rfl, hz⟩ | ⟨g', cap, cur, rfl, -⟩
   ·exact ⟨none, 0, by rw [show n + m = 0 from hz]⟩
   ·exact ⟨_, _, rfl⟩
  rw [blk_own] at hg
  rw [blk_own, blk_own] at hat
  exact h A' c' w' (stk_app h1 (vs_len h2) h3 e1 e3 ho' hg hlo hQ fun k hk => (hge k hk).1) hg hat
end stk
end
section
open Go.Lib (hid)
namespace partsSpec
open Go.RowKit base ints sig term arity endOf marks app segs kinds shape drawX forest stk
set_option maxRecDepth 100000
theorem Fo.le {sg : List Int} {q : Nat} {l : List Int} (h : Fo sg q l) : q ≤ l.length := by
 induction h with
 | nil => exact Nat.zero_le _
 | var x r q h h1 ih => simp; exact ih
 | app x r q h h2 h1 ih => simp; omega
theorem ar_in {sg : List Int} {x : Int} (h : 0 ≤ x) (h2 : 0 ≤ ar sg x) : x < sg.length ∧ ar sg x = sg.getD x.toNat 0 := by
 by_cases h3 : x < sg.length
 ·exact ⟨h3, ar_sym h h3⟩
 ·rw [ar_no (by omega) (fun k => h3 k.2)] at h2
  exact absurd h2 (by decide)
def HeadE (w : World) (A : Option Addr) (n c m p : Nat) (sg a : List Int) (at_ need : Value) (wr : World) : Prop :=
 ∃ (q : Nat) (d rest : List Int), need = .int .i64 q ∧ at_ = .int .i64 ((p + d.length : Nat) : Int) ∧ d ++ rest = a ∧ Fo sg q rest ∧ Row wr w.heap.size 29 #[.slice A n c] ∧ Below w.heap.size w wr
set_option maxHeartbeats 1000000 in
theorem l13End (A A' : Option Addr) (n c m c' : Nat) (sg t : List Int) (p : Nat) (a r : List Int) (w : World) (h : Seg w w.heap.size A n sg) (h' : Seg w w.heap.size A' m t) (hn : n ≤ 1048576) (hm : m ≤ 1048576) (hs : Arities sg) (he : t.drop p = a ++ r) (hf : Fo sg 1 a) :
  Calls Try.prog 150 #[.agg #[.slice A n c], .slice A' m c', .int .i64 (p : Int)] w fun e w' => e = .returned (.int .i64 ((p + a.length : Nat) : Int)) ∧ Below w.heap.size w w' := by
 have H := hid h
 have H' := hid h'
 have HS := hid hs
 have HL := hid h'.1
 have HE := hid he
 have hal : p + a.length ≤ m := by
  have h1 := congrArg List.length he
  rw [List.length_drop, h'.1, List.length_append] at h1
  have := hf.pos
  omega
 have S0 := hid (show HeadE w A n c m p sg a (.int .i64 p) (.int .i64 1) (w.alloc (.cells #[.slice A n c] 29)) from ⟨1, [], a, rfl, rfl, rfl, hf, Row.new _ _ _, (Below.refl _ _).alloc (Nat.le_refl _) _⟩)
 clear h h' hs he hf
 go_enter Try.func150, Try.ntmps150
 go_wp2_with fail
 go_loopw [2, 7] (fun at_ need wr => HeadE w A n c m p sg a at_ need wr) (fun at_ _ _ => m - (intOf at_).toNat)
 case atStart => exact S0.out
 case round =>
  clear S0
  obtain ⟨q, d, rest, rfl, rfl, hd, hf, hr, hb⟩ := hrel
  have hq := Fo.le hf
  have hdl : d.length + rest.length = a.length := by rw [← hd, List.length_append]
  obtain ⟨k, hk⟩ : ∃ k, p + d.length = k := ⟨_, rfl⟩
  have hkm : k + rest.length ≤ m := by omega
  have hat : rest ≠ [] → H'.out.1 = H'.out.1 := fun _ => rfl
  rw [hk]
  cases rest with
  | nil =>
   have h0 := hf.none
   subst h0
   have i0 : ¬ ((0 : Nat) : Int) > 0 := by omega
   have F := hid (show Ending.returned (.int .i64 (k : Int)) = Ending.returned (.int .i64 ((p + a.length : Nat) : Int)) by rw [← hk, ← hd]; simp)
   have B := hid hb
   clear hf hr hb hd hdl hkm hal hk hat
   go_wp2
   go_ret
   exact ⟨F.out, B.out⟩
  | cons x r' =>
   obtain ⟨q', e, g⟩ := hf.inv
   subst e
   have hkl : k < m := by simp at hkm; omega
   have hx : t.getD k 0 = x := by
    have h1 : t.drop k = x :: r' ++ r := by
     rw [← hk, ← List.drop_drop, HE.out, ← hd, List.append_assoc, List.drop_left]
    have h2 := congrArg (fun l => l.getD 0 0) h1
    simpa [List.getD, List.getElem?_drop] using h2
   obtain ⟨b, off, rfl, hbb, hc⟩ := H'.out.round hkl
   rw [hx] at hc
   have cx : wr.cell? ⟨b, off + k, none⟩ = some (.int .i64 x) := (hb.cell (p := ⟨b, off + k, none⟩) hbb).trans hc
   have cA : wr.cell? ⟨w.heap.size, 0, none⟩ = some (.slice A n c) := hr.cell 0
   have i0 : (0 : Int) ≤ (k : Int) := by omega
   have i1 : (k : Int) < (m : Int) := by omega
   have i2 : (q' : Int) ≤ 1048576 := by omega
   have i3 : (0 : Int) < ((q' + 1 : Nat) : Int) := by omega
   have e1 : d ++ [x] ++ r' = a := by rw [← hd]; simp
   have e2 : p + (d ++ [x]).length = k + 1 := by simp; omega
   have HK := hid hk
   rcases g with ⟨h0, g⟩ | ⟨h0, h2, g⟩
   ·have n0 : ¬ (0 : Int) ≤ x := by omega
    have S := hid (show ∀ dd, HeadE w A n c m p sg a (.int .i64 ((k : Int) + 1)) (.int .i64 (q' : Int)) (wr.drewN dd) from fun dd => ⟨q', d ++ [x], r', rfl, by rw [e2]; simp, e1, g, hr.drewN dd, base.below_drewN hb dd⟩)
    clear g hd hdl hkm hal hq hx hc hr hb e1 e2 hk hat
    go_wp2
    go_roundw
    case rel => exact S.out 0
    case measure => simp [intOf]; omega
   ·obtain ⟨h3, h4⟩ := ar_in h0 h2
    obtain ⟨j, rfl⟩ := Int.eq_ofNat_of_zero_le h0
    have hjn : j < n := by have := H.out.1; omega
    obtain ⟨b2, off2, rfl, hbb2, hc2⟩ := H.out.round hjn
    rw [Int.toNat_natCast] at h4
    have cS : wr.cell? ⟨b2, off2 + j, none⟩ = some (.int .i64 (sg.getD j 0)) := (hb.cell (p := ⟨b2, off2 + j, none⟩) hbb2).trans hc2
    have hz := HS.out j (by have := H.out.1; omega)
    obtain ⟨z, ez⟩ : ∃ z, sg.getD j 0 = z := ⟨_, rfl⟩
    rw [ez] at cS hz h4
    have j1 : (0 : Int) ≤ (j : Int) := h0
    have j2 : (j : Int) < (n : Int) := by omega
    have S := hid (show ∀ dd, HeadE w (some ⟨b2, off2, none⟩) n c m p sg a (.int .i64 ((k : Int) + 1)) (.int .i64 ((q' : Int) + z)) (wr.drewN dd) from fun dd => ⟨z.toNat + q', d ++ [(j : Int)], r', by simp; omega, by rw [e2]; simp, e1, by rw [h4] at g; exact g, hr.drewN dd, base.below_drewN hb dd⟩)
    have z1 := hz.1
    have z2 := hz.2
    clear g hd hdl hkm hal hq hx hc hr hb e1 e2 hk hat hz ez h2 h3 h4 hc2 h0
    go_wp2_with fail
    go_quiet (fail)
    go_wp2
    go_roundw
    case rel => rw [show (q' : Int) + 1 + z - 1 = (q' : Int) + z by omega]; exact S.out _
    case measure => simp [intOf]; omega
def HeadP (w : World) (Q : Nat → Prop) (A : Option Addr) (n c : Nat) (ps : List (List Int)) (out at_ i : Value) (wr : World) : Prop :=
 ∃ (ds rs : List (List Int)) (g k oc : Nat), ds ++ rs = ps ∧ ds.length = k ∧ i = .int .i64 k ∧ at_ = .int .i64 ((1 + ds.flatten.length : Nat) : Int) ∧ out = .slice (some ⟨g, 0, none⟩) k oc ∧ Stk wr Q (w.heap.size + 1) (some ⟨g, 0, none⟩) k oc ds ∧ Row wr w.heap.size 29 #[.slice A n c] ∧ Below w.heap.size w wr
theorem flat_le : ∀ {ps : List (List Int)}, (∀ p ∈ ps, 1 ≤ p.length) → ps.length ≤ ps.flatten.length
 | [], _ => Nat.zero_le _
 | p :: ps, h => by
  have h1 := flat_le fun q hq => h q (List.mem_cons_of_mem _ hq)
  have h2 := h p (List.mem_cons_self ..)
  rw [List.flatten_cons, List.length_append, List.length_cons]
  omega
theorem rdq_cut {w : World} {Q : Nat → Prop} {b off m c at_ j : Nat} {u : List Int} (h : RdQ w Q sI [.slice (some ⟨b, off, none⟩) m c] u) (h1 : 1 ≤ j) (h2 : at_ + j ≤ m) : RdQ w Q sI [.slice (some ⟨b, off + at_, none⟩) j (c - at_)] ((u.drop at_).take j) := by
 obtain ⟨A, n, c', e, hc, hl, h3⟩ := h
 injection e with e
 injection e with e1 e2 e3
 subst e1 e2 e3
 obtain ⟨b', off', e4, hq, hp⟩ := h3 (by omega)
 injection e4 with e4
 injection e4 with e5 e6
 subst e5 e6
 have hlu : u.length = m := hl
 refine rdq_seg (by rw [List.length_take, List.length_drop, hlu]; omega) ⟨by have := hc.1; omega, by have := hc.2.1; omega, fun e => by cases e⟩ fun _ => ⟨b, off + at_, rfl, hq, fun j' hj' => ?_⟩
 obtain ⟨es, -, hp1, hp2⟩ := hp (at_ + j') (by omega)
 have hp2 : es = [.int .i64 (u.getD (at_ + j') 0)] := hp2
 subst hp2
 have h4 := hp1 0 (by simp)
 have e7 : off + at_ + j' = off + (at_ + j') * nc .num + 0 := by show _ = _ + _ * 1 + 0; omega
 have e8 : ((u.drop at_).take j).getD j' 0 = u.getD (at_ + j') 0 := by
  simp [List.getD, List.getElem?_take, hj', List.getElem?_drop]
 rw [e7, e8]
 exact h4
set_option maxHeartbeats 1000000 in
theorem l13Parts (Q : Nat → Prop) (A A' : Option Addr) (n c m c' : Nat) (sg u : List Int) (w : World) (h : Seg w w.heap.size A n sg) (hu : RdQ w Q sI [.slice A' m c'] u) (hQ : ∀ b, Q b → b < w.heap.size) (hn : n ≤ 1048576) (hm : m ≤ 1048576) (hs : Arities sg) (hf : Fo sg 1 u) (h0 : 0 ≤ u.getD 0 0) :
  Calls Try.prog 122 #[.agg #[.slice A n c], .slice A' m c'] w fun e w' => ∃ g k kc ps, e = .returned (.slice (some ⟨g, 0, none⟩) k kc) ∧ Stk w' Q w.heap.size (some ⟨g, 0, none⟩) k kc ps ∧ Prt sg u ps ∧ Below w.heap.size w w' := by
 have sU : Seg w w.heap.size A' m u := Rd.seg (hu.rd hQ)
 have hcap : Cap A' m c' := by obtain ⟨B, m', c2, e, hc, -⟩ := id hu; injection e with e; injection e with e1 e2 e3; subst e1 e2 e3; exact hc
 obtain ⟨ps, hP⟩ := prt_ex hf h0
 obtain ⟨⟨x, hx0, hx2, hux, hpl⟩, hpf⟩ := id hP
 obtain ⟨hxn, hxa⟩ := ar_in hx0 hx2
 obtain ⟨j, rfl⟩ := Int.eq_ofNat_of_zero_le hx0
 have hjn : j < n := by have := h.1; omega
 have hm1 : 0 < m := by have := sU.1; rw [hux] at this; simp at this; omega
 rw [Int.toNat_natCast] at hxa
 obtain ⟨b, off, rfl, hbb, hc⟩ := sU.round hm1
 rw [hux] at hc
 have hc : w.cell? ⟨b, off + 0, none⟩ = some (.int .i64 (j : Int)) := hc
 obtain ⟨b2, off2, rfl, hbb2, hc2⟩ := h.round hjn
 obtain ⟨z, ez⟩ : ∃ z, sg.getD j 0 = z := ⟨_, rfl⟩
 rw [ez] at hc2 hxa
 rw [hxa] at hpl
 have hz := hs j (by have := h.1; omega)
 rw [ez] at hz
 obtain ⟨W, hW⟩ : ∃ W, W = (w.alloc (.cells #[.slice (some ⟨b2, off2, none⟩) n c] 29)).alloc (.cells #[] 27) := ⟨_, rfl⟩
 have hw1 : (w.alloc (.cells #[.slice (some ⟨b2, off2, none⟩) n c] 29)).heap.size = w.heap.size + 1 := by simp
 have S0 := hid (show HeadP w Q (some ⟨b2, off2, none⟩) n c ps (.slice (some ⟨w.heap.size + 1, 0, none⟩) 0 0) (.int .i64 1) (.int .i64 0) W from ⟨[], ps, w.heap.size + 1, 0, 0, rfl, rfl, rfl, rfl, rfl, by
  have h1 := Stk.empty (w.alloc (.cells #[.slice (some ⟨b2, off2, none⟩) n c] 29)) Q (w.heap.size + 1) (by rw [hw1]; exact Nat.le_refl _)
  rw [hw1] at h1
  rw [hW]
  exact h1, by rw [hW]; exact (Row.new _ _ _).alloc _, by rw [hW]; exact ((Below.refl _ _).alloc (Nat.le_refl _) _).alloc (by simp) _⟩)
 have HW := hid hW
 have H := hid h
 have HU := hid hu
 have HSU := hid sU
 have HS := hid hs
 have HP := hid hP
 have HF := hid hpf
 have HQ := hid hQ
 have HPL := hid hpl
 have HUX := hid hux
 have hlu : m = 1 + ps.flatten.length := by have h9 := sU.1; rw [hux, List.length_cons] at h9; omega
 have HLU := hid hlu
 have z1 := hz.1
 have z2 := hz.2
 have hmc := hcap.1
 have hcc := hcap.2.1
 have x1 : (0 : Int) ≤ (j : Int) := hx0
 have x2 : (j : Int) < (n : Int) := by omega
 have x3 : ¬ (j : Int) < 0 := by omega
 have hc : w.cell? ⟨b, off, none⟩ = some (.int .i64 (j : Int)) := hc
 have cR : ((w.alloc (.cells #[.slice (some ⟨b2, off2, none⟩) n c] 29)).alloc (.cells #[] 27)).cell? ⟨b, off, none⟩ = some (.int .i64 (j : Int)) := (World.cell?_alloc_lt _ _ _ (by rw [hw1]; show b < _; omega)).trans ((World.cell?_alloc_lt _ _ _ hbb).trans hc)
 clear h hu sU hs hP hpf hQ hpl hux hlu hz hcap hW hxn hxa hx0 hx2 ez h0 hf
 go_enter Try.func122, Try.ntmps122
 go_wp2_with fail
 rw [← HW.out]
 clear cR
 go_loopw [5, 6, 7] (fun out at_ i wr => HeadP w Q (some ⟨b2, off2, none⟩) n c ps out at_ i wr) (fun _ _ i _ => z.toNat - (intOf i).toNat)
 case atStart => exact S0.out
 case round =>
  clear S0
  obtain ⟨ds, rs, g, k, oc, hds, hk, rfl, rfl, rfl, oS, hr, hb⟩ := hrel
  have cA : wr.cell? ⟨w.heap.size, 0, none⟩ = some (.slice (some ⟨b2, off2, none⟩) n c) := hr.cell 0
  have cx : wr.cell? ⟨b, off, none⟩ = some (.int .i64 (j : Int)) := (hb.cell (p := ⟨b, off, none⟩) hbb).trans hc
  have cz : wr.cell? ⟨b2, off2 + j, none⟩ = some (.int .i64 z) := (hb.cell (p := ⟨b2, off2 + j, none⟩) hbb2).trans hc2
  have hlen : k + rs.length = z.toNat := by rw [← HPL.out, ← hds, List.length_append, hk]
  cases rs with
  | nil =>
   have i0 : ¬ (k : Int) < z := by simp at hlen; omega
   rw [List.append_nil] at hds
   subst hds
   have F := hid (show ∃ g k kc ps, (Ending.returned (.slice (some ⟨g, 0, none⟩) k kc) : Ending) = .returned (.slice (some ⟨g, 0, none⟩) k kc) ∧ True from ⟨0, 0, 0, ds, rfl, trivial⟩)
   have O := hid oS
   have B := hid hb
   clear oS hb hr hlen
   go_wp2_with fail
   go_quiet (fail)
   go_wp2
   go_ret
   exact ⟨g, k, oc, ds, rfl, (O.out.drewN _).lower (Nat.le_succ _), HP.out, base.below_drewN B.out _⟩
  | cons p rs =>
   have i0 : (k : Int) < z := by simp at hlen; omega
   have hp1 : 1 ≤ p.length := (HF.out p (by rw [← hds]; simp)).pos
   have hfl : ps.flatten = ds.flatten ++ (p ++ rs.flatten) := by rw [← hds]; simp
   obtain ⟨q, hq⟩ : ∃ q, 1 + ds.flatten.length = q := ⟨_, rfl⟩
   have hql : q + p.length ≤ m := by rw [HLU.out, hfl, List.length_append, List.length_append, ← hq]; omega
   have hdr : u.drop q = p ++ rs.flatten := by rw [HUX.out, ← hq, Nat.add_comm, List.drop_succ_cons, hfl, List.drop_left]
   have hk9 : k ≤ 1048576 := by omega
   rw [hq]
   have LE := hid (fun d => l13End (some ⟨b2, off2, none⟩) (some ⟨b, off, none⟩) n c m c' sg u q p rs.flatten (wr.drewN d) ((H.out.next hb).drewN d) ((HSU.out.next hb).drewN d) hn hm HS.out hdr (HF.out p (by rw [← hds]; simp)))
   have hcut := rdq_cut (at_ := q) (j := p.length) HU.out hp1 hql
   have e9 : (u.drop q).take p.length = p := by rw [hdr, List.take_left]
   rw [e9] at hcut
   obtain ⟨pl, hpl⟩ : ∃ pl, p.length = pl := ⟨_, rfl⟩
   rw [hpl] at hcut LE hp1 hql
   have c0 : (0 : Int) ≤ (q : Int) := by omega
   have c1 : (q : Int) ≤ ((q + pl : Nat) : Int) := by omega
   have c2 : ((q + pl : Nat) : Int) ≤ (c' : Int) := by omega
   have c3 : ¬ c' = q := by omega
   have HCUT := hid hcut
   have HDS := hid hds
   have HQQ := hid hq
   have HKK := hid hk
   have HPP := hid hpl
   have hzw := hb.size
   clear hcut hds hq hk hfl hdr e9 hpl
   go_wp2_with fail
   go_quiet (fail)
   go_wp2_with fail
   refine (LE.out _).mono ?_
   rintro e w1 ⟨rfl, bb⟩
   have hQr : ∀ b, Q b → b < (wr.drewN nq).heap.size := fun b hb9 => Nat.lt_of_lt_of_le (HQ.out b hb9) hzw
   replace oS := (oS.drewN nq).next bb hQr
   replace hr := (hr.drewN nq).next bb
   replace hb := next_trans (base.below_drewN hb nq) bb
   have hz1 : w.heap.size < w1.heap.size := hr.lt
   have hcut1 := HCUT.out.keep (Keep.below (hb.mono (Nat.le_refl _)) HQ.out)
   clear bb LE cA cx cz
   have oS2 := oS.next (w' := w1.alloc (.cells #[.slice (some ⟨b, off + q, none⟩) pl (c' - q)] 27)) ((Below.refl _ _).alloc (Nat.le_refl _) _) (fun b hb9 => Nat.lt_trans (HQ.out b hb9) hz1)
   have oP : Stk (w1.alloc (.cells #[.slice (some ⟨b, off + q, none⟩) pl (c' - q)] 27)) Q w1.heap.size (some ⟨w1.heap.size, 0, none⟩) 1 1 [p] := Stk.single (Row.new _ _ _) (Nat.le_refl _) (hcut1.keep (Keep.below ((Below.refl w1.heap.size w1).alloc (Nat.le_refl _) _) (fun b hb9 => Nat.lt_trans (HQ.out b hb9) hz1)))
   have hr2 := hr.alloc (.cells #[.slice (some ⟨b, off + q, none⟩) pl (c' - q)] 27)
   have hb2 := hb.alloc (by have := hb.size; exact this) (.cells #[.slice (some ⟨b, off + q, none⟩) pl (c' - q)] 27)
   have hz3 : w.heap.size + 1 ≤ (w1.alloc (.cells #[.slice (some ⟨b, off + q, none⟩) pl (c' - q)] 27)).heap.size := by simp; omega
   clear oS hr hb hcut1
   go_wp2_with (at_builtin; refine appStk rfl _ _ rfl Q (w.heap.size + 1) w1.heap.size (some ⟨g, 0, none⟩) k oc w1.heap.size 1 1 ds [p] rfl oS2 rfl oP hk9 (by omega) hz3 (fun b hb9 => Nat.lt_succ_of_lt (HQ.out b hb9)) ?_; intro A' oc' w2 o2 g2 _; refine (?_ : Hid _).out)
   obtain ⟨ea, e0, -, -⟩ | ⟨g', cur, rfl, -, -⟩ := o2.form
   ·omega
   have hgg := (oS2.ge g rfl).1
   have S := hid (show HeadP w Q (some ⟨b2, off2, none⟩) n c ps (.slice (some ⟨g', 0, none⟩) (k + 1) oc') (.int .i64 ((q + pl : Nat) : Int)) (.int .i64 ((k : Int) + 1)) w2 from
    ⟨ds ++ [p], rs, g', k + 1, oc', by rw [← HDS.out]; simp, by simp [HKK.out], by simp, by rw [← HQQ.out, ← HPP.out]; simp; omega, rfl, o2, (g2.block w.heap.size hr2.lt (fun e => by have e : some w.heap.size = some g := e; injection e with e; omega)).trans hr2, hb2.grown g2 hb2.size (fun k hk => by have hk : some g = some k := hk; injection hk with hk; omega)⟩)
   clear o2 g2 oS2 oP hr2 hb2
   refine hid ?_
   go_wp2
   go_roundw
   case rel => exact S.out
   case measure => simp [intOf]; omega
end partsSpec
end
section
namespace kboLink
open sig term termOk forest partsSpec lpoMath lpoLink rankMath rankSpec kboMath
def admB (sg : List Int) (v : Int) (sy rk : List Int) (f : Nat) : Bool :=
 decide (0 ≤ sy.getD f 0 ∧ sy.getD f 0 ≤ 20 ∧ (sg.getD f 0 = 0 → v ≤ sy.getD f 0) ∧ (sg.getD f 0 = 1 → sy.getD f 0 = 0 → rk.getD f 0 = (rk.length : Int) - 1))
def wB (sg : List Int) (v : Int) (sy rk : List Int) : Bool := precB sg rk && (decide (1 ≤ v ∧ v ≤ 20) && (decide (sy.length = sg.length) && (List.range sy.length).all (admB sg v sy rk)))
variable {sg sy rk : List Int} {v : Int}
theorem w_prec (h : precB sg rk = false) : wB sg v sy rk = false := by unfold wB; rw [h]; rfl
theorem w_var (h : ¬ (1 ≤ v ∧ v ≤ 20)) : wB sg v sy rk = false := by unfold wB; rw [decide_eq_false h]; simp
theorem w_len (h : ¬ sy.length = sg.length) : wB sg v sy rk = false := by unfold wB; rw [decide_eq_false h]; simp
theorem w_bad {f : Nat} (hf : f < sy.length) (h : admB sg v sy rk f = false) : wB sg v sy rk = false := by
 have : (List.range sy.length).all (admB sg v sy rk) = false := by
  rw [List.all_eq_false]
  exact ⟨f, List.mem_range.2 hf, by rw [h]; decide⟩
 unfold wB
 rw [this]
 simp
theorem w_yes (h1 : precB sg rk = true) (h2 : 1 ≤ v ∧ v ≤ 20) (h3 : sy.length = sg.length) (h4 : ∀ f, f < sy.length → admB sg v sy rk f = true) : wB sg v sy rk = true := by
 unfold wB
 rw [h1, decide_eq_true h2, decide_eq_true h3]
 simp only [Bool.true_and]
 rw [List.all_eq_true]
 intro f hf
 exact h4 f (List.mem_range.1 hf)
theorem w_parts (h : wB sg v sy rk = true) : precB sg rk = true ∧ (1 ≤ v ∧ v ≤ 20) ∧ sy.length = sg.length ∧ ∀ f, f < sy.length → admB sg v sy rk f = true := by
 unfold wB at h
 simp only [Bool.and_eq_true, decide_eq_true_iff, List.all_eq_true] at h
 exact ⟨h.1, h.2.1, h.2.2.1, fun f hf => h.2.2.2 f (List.mem_range.2 hf)⟩
theorem adm_parts {f : Nat} (h : admB sg v sy rk f = true) : 0 ≤ sy.getD f 0 ∧ sy.getD f 0 ≤ 20 ∧ (sg.getD f 0 = 0 → v ≤ sy.getD f 0) ∧ (sg.getD f 0 = 1 → sy.getD f 0 = 0 → rk.getD f 0 = (rk.length : Int) - 1) := of_decide_eq_true h
theorem getD_get {l : List Int} {k : Nat} (h : k < l.length) : l.getD k 0 = l[k] := by simp [h]
theorem adm_of (h : wB sg v sy rk = true) : Adm sg v sy rk := by
 obtain ⟨h1, h2, h3, h4⟩ := w_parts h
 obtain ⟨hl, hall⟩ := rank_parts (prec_parts h1).2
 obtain ⟨hin, hnd⟩ := all_there.2 hall
 have inx : ∀ {x : Int}, 0 ≤ x → 0 ≤ ar sg x → x.toNat < sy.length ∧ x.toNat < rk.length ∧ ar sg x = sg.getD x.toNat 0 := by
  intro x h0 ha
  obtain ⟨i1, i2⟩ := ar_in h0 ha
  exact ⟨by omega, by omega, i2⟩
 refine ⟨h2.1, ?_, ?_, ?_, ?_⟩
 ·intro x h0 ha
  exact (adm_parts (h4 _ (inx h0 ha).1)).1
 ·intro x h0 ha
  have i := inx h0 (by omega)
  exact (adm_parts (h4 _ i.1)).2.2.1 (by rw [← i.2.2]; exact ha)
 ·intro x y h0 ha hz h0y hay
  have i := inx h0 (by omega)
  have j := inx h0y hay
  have e := (adm_parts (h4 _ i.1)).2.2.2 (by rw [← i.2.2]; exact ha) hz
  have hy : rk.getD y.toNat 0 ∈ rk := by rw [getD_get j.2.1]; exact List.getElem_mem _
  have := hin _ hy
  show rk.getD y.toNat 0 ≤ rk.getD x.toNat 0
  omega
 ·intro x y h0 ha h0y hay e
  have i := inx h0 ha
  have j := inx h0y hay
  have e' : rk.getD x.toNat 0 = rk.getD y.toNat 0 := e
  rw [getD_get i.2.1, getD_get j.2.1] at e'
  have := (List.getElem_inj hnd).1 e'
  omega
def Low (sy t : List Int) : Prop := ∀ x ∈ t, x < (sy.length : Int)
def Small (v : Int) (sy : List Int) : Prop := (0 ≤ v ∧ v ≤ 20) ∧ ∀ x ∈ sy, 0 ≤ x ∧ x ≤ 20
theorem small_of (h : wB sg v sy rk = true) : Small v sy := by
 obtain ⟨h1, h2, h3, h4⟩ := w_parts h
 refine ⟨by omega, ?_⟩
 intro x hx
 obtain ⟨k, hk, e⟩ := List.getElem_of_mem hx
 have := adm_parts (h4 k hk)
 rw [getD_get hk, e] at this
 exact ⟨this.1, this.2.1⟩
theorem low_of {t : List Int} (h : wB sg v sy rk = true) (ht : Fo sg 1 t) : Low sy t := by
 intro x hx
 obtain ⟨h1, h2, h3, h4⟩ := w_parts h
 by_cases h0 : 0 ≤ x
 ·have := ar_in h0 (ht.sym x hx h0)
  omega
 ·omega
theorem wt_bd {t : List Int} (h : Small v sy) : 0 ≤ wt v sy t ∧ wt v sy t ≤ 20 * (t.length : Int) := by
 induction t with
 | nil => simp [wt]
 | cons x r ih =>
  simp only [wt, List.length_cons]
  have : 0 ≤ rkL sy x ∧ rkL sy x ≤ 20 := by
   unfold rkL
   by_cases hx : x.toNat < sy.length
   ·rw [getD_get hx]; exact h.2 _ (List.getElem_mem _)
   ·simp [Nat.not_lt.1 hx]
  have h1 := h.1
  split <;> omega
theorem wt_take {t : List Int} {k : Nat} (hk : k < t.length) : wt v sy (t.take (k + 1)) = wt v sy (t.take k) + (if t.getD k 0 < 0 then v else rkL sy (t.getD k 0)) := by
 have e : t.take (k + 1) = t.take k ++ [t.getD k 0] := by rw [List.take_add_one]; simp [hk]
 rw [e, wt_append]
 simp [wt]
def wrapB (sg sy : List Int) (x : Int) (t : List Int) : Bool := decide (1 < t.length) && ((List.range (t.length - 1)).all (fun i => decide (0 ≤ t.getD i 0 ∧ sg.getD (t.getD i 0).toNat 0 = 1 ∧ sy.getD (t.getD i 0).toNat 0 = 0)) && decide (t.getD (t.length - 1) 0 = x))
theorem wrap_bad {x : Int} {t : List Int} {i : Nat} (hi : i < t.length - 1) (h : ¬ (0 ≤ t.getD i 0 ∧ sg.getD (t.getD i 0).toNat 0 = 1 ∧ sy.getD (t.getD i 0).toNat 0 = 0)) : wrapB sg sy x t = false := by
 have : (List.range (t.length - 1)).all (fun i => decide (0 ≤ t.getD i 0 ∧ sg.getD (t.getD i 0).toNat 0 = 1 ∧ sy.getD (t.getD i 0).toNat 0 = 0)) = false := by
  rw [List.all_eq_false]
  exact ⟨i, List.mem_range.2 hi, by rw [decide_eq_false h]; decide⟩
 unfold wrapB
 rw [this]
 simp
theorem wrap_end {x : Int} {t : List Int} (h : ∀ i, i < t.length - 1 → (0 ≤ t.getD i 0 ∧ sg.getD (t.getD i 0).toNat 0 = 1 ∧ sy.getD (t.getD i 0).toNat 0 = 0)) : wrapB sg sy x t = (decide (1 < t.length) && decide (t.getD (t.length - 1) 0 = x)) := by
 have : (List.range (t.length - 1)).all (fun i => decide (0 ≤ t.getD i 0 ∧ sg.getD (t.getD i 0).toNat 0 = 1 ∧ sy.getD (t.getD i 0).toNat 0 = 0)) = true := by
  rw [List.all_eq_true]
  intro i hi
  exact decide_eq_true (h i (List.mem_range.1 hi))
 unfold wrapB
 rw [this]
 simp
theorem wrap_hd {x : Int} {t : List Int} (ok : Adm sg v sy rk) (ft : Fo sg 1 t) (hw : wt v sy t ≤ v) (hx : x < 0) (ho : oft [x] t = true) : wrapB sg sy x t = decide (0 ≤ hd t) := by
 have hm : x ∈ t := by
  have := oft_iff.1 ho x hx
  have e : List.count x [x] = 1 := by simp
  rw [e] at this
  exact List.count_pos_iff.1 (by omega)
 obtain ⟨us, rfl, hu⟩ := wrapped_of ok ft hw hm hx
 cases us with
 | nil =>
  have h1 : hd ([] ++ [x]) = x := rfl
  rw [h1, decide_eq_false (show ¬ 0 ≤ x by omega)]
  unfold wrapB
  simp
 | cons z us =>
  have h1 : hd (z :: us ++ [x]) = z := rfl
  rw [h1, decide_eq_true (hu z (List.mem_cons_self ..)).1, wrap_end]
  ·have hl : (z :: us ++ [x]).length = us.length + 2 := by simp
   rw [hl, decide_eq_true (by omega)]
   have : (z :: us ++ [x]).getD (us.length + 2 - 1) 0 = x := by simp
   rw [this]
   simp
  ·intro i hi
   have hl : (z :: us ++ [x]).length = us.length + 2 := by simp
   rw [hl] at hi
   have hi' : i < (z :: us).length := by simp; omega
   have e : (z :: us ++ [x]).getD i 0 = (z :: us)[i] := by
    rw [List.getD_eq_getElem?_getD, List.getElem?_append_left hi', List.getElem?_eq_getElem hi']
    rfl
   obtain ⟨u0, u1, u2⟩ := hu _ (List.getElem_mem hi')
   rw [e]
   exact ⟨u0, by rw [← (ar_in u0 (by omega)).2]; exact u1, u2⟩
noncomputable def kboW (sg : List Int) (v : Int) (sy rk s t : List Int) : Int := if (wB sg v sy rk && (termOkB sg s && termOkB sg t)) = true then kwhy sg v sy rk t s else 0
end kboLink
end
section
open Go.Lib (hid)
namespace anyJ
open Go.RowKit base ints sig anyR
set_option maxRecDepth 100000
def TestsJ (g : Nat) (lb : Array Value) (J : World → Prop) (xs : List Int) (f : Int → Bool) : Prop := ∀ (W : World) (x : Int), J W → x ∈ xs → Calls Try.prog g (#[.int .i64 x] ++ lb) W fun e w' => e = .returned (.bool (f x)) ∧ J w'
def FstJ (f : Int → Bool) (xs : List Int) (z : Int) : Prop := (z = -1 ∧ ∀ j, j < xs.length → f (xs.getD j 0) = false) ∨ ∃ k : Nat, z = (k : Int) ∧ k < xs.length ∧ f (xs.getD k 0) = true ∧ ∀ j, j < k → f (xs.getD j 0) = false
def AnsJx (J : World → Prop) (f : Int → Bool) (xs : List Int) (e : Ending) (w' : World) : Prop := ∃ z : Int, e = .returned (.int .i64 z) ∧ FstJ f xs z ∧ J w'
def HeadJx (J : World → Prop) (n : Nat) (f : Int → Bool) (xs : List Int) (i : Value) (wr : World) : Prop := ∃ k : Nat, k ≤ n ∧ i = .int .i64 k ∧ (∀ j, j < k → f (xs.getD j 0) = false) ∧ J wr
set_option maxHeartbeats 2000000 in
theorem indexFuncJ (g : Nat) (lb : Array Value) (eg : ∀ args w, (callFunc g args).run Try.prog w = .ok (.enter g args) w) (J : World → Prop) (f : Int → Bool) (A : Option Addr) (n c : Nat) (xs : List Int) (w : World) (hT : TestsJ g lb J xs f)
  (hR : ∀ W, J W → Seg W W.heap.size A n xs) (hJ : J w) (hl : xs.length = n) (hn : n ≤ 1048576) :
  Calls Try.prog 145 #[.slice A n c, .func (.func g) #[] lb] w (AnsJx J f xs) := by
 have HL := hid hl
 have HK := hid hT
 have HR := hid hR
 have HH : Hid (HeadJx J n f xs (.int .i64 0) w) := hid ⟨0, Nat.zero_le _, rfl, fun j hj => absurd hj (Nat.not_lt_zero _), hJ⟩
 clear hT hR hl hJ
 go_enter Try.func145, Try.ntmps145
 go_wp2_with fail
 go_loopw [8] (fun i wr => HeadJx J n f xs i wr) (fun i _ => n - (intOf i).toNat)
 case atStart => exact HH.out
 case round =>
  obtain ⟨k, hk, rfl, hlow, hJ⟩ := hrel
  have HLOW := hid hlow
  have HJ := hid hJ
  clear hlow HH hJ
  by_cases hlt : k < n
  ·have hkD : k < xs.length := by rw [HL.out]; exact hlt
   obtain ⟨b, off, x, rfl, hbB, hx, ex⟩ := (HR.out wr HJ.out).spot hlt
   have hcall := HK.out wr x HJ.out (mem_at hkD ex.out)
   obtain ⟨v, hv⟩ : ∃ v, f x = v := ⟨_, rfl⟩
   rw [hv] at hcall
   have HV := hid hv
   have HC := hid hcall
   have i0 : (0 : Int) ≤ (k : Int) := by omega
   have i1 : (k : Int) < (n : Int) := by omega
   clear hv hcall
   cases v with
   | true =>
    go_wp2_with (first
     | (go_at_fn g; refine HC.out.mono ?_; rintro e w1 ⟨rfl, jj⟩))
    have F : AnsJx J f xs (.returned (.int .i64 (k : Int))) w1 := ⟨k, rfl, .inr ⟨k, rfl, hkD, by rw [ex.out]; exact HV.out, HLOW.out⟩, jj⟩
    have HF := hid F
    clear F jj HC
    go_wp2
    go_ret
    exact HF.out
   | false =>
    go_wp2_with (first
     | (go_at_fn g; refine HC.out.mono ?_; rintro e w1 ⟨rfl, jj⟩))
    have S1 : HeadJx J n f xs (.int .i64 ((k : Int) + 1)) w1 := ⟨k + 1, hlt, by simp, fun j hj => by
     by_cases e : j = k
     ·rw [e, ex.out]; exact HV.out
     ·exact HLOW.out j (by omega), jj⟩
    have HS1 := hid S1
    clear S1 jj HC
    go_wp2
    go_roundw
    case rel => exact HS1.out
    case measure => simp [intOf]; omega
  ·have F : AnsJx J f xs (.returned (.int .i64 (-1))) wr := ⟨-1, rfl, .inl ⟨rfl, fun j hj => HLOW.out j (by rw [HL.out] at hj; omega)⟩, HJ.out⟩
   have HF := hid F
   clear F
   go_wp2
   go_ret
   exact HF.out
theorem fstJ_any {f : Int → Bool} {xs : List Int} {z : Int} (h : FstJ f xs z) : decide (0 ≤ z) = xs.any f := by
 rcases h with ⟨rfl, h⟩ | ⟨k, rfl, hk, h, -⟩
 ·rw [decide_eq_false (by omega)]
  exact (none_of h).symm
 ·rw [decide_eq_true (by omega)]
  exact (any_of hk rfl h).symm
theorem fstJ_bd {f : Int → Bool} {xs : List Int} {z : Int} (h : FstJ f xs z) (hn : xs.length ≤ 1048576) : -1 ≤ z ∧ z ≤ 1048576 := by
 rcases h with ⟨rfl, -⟩ | ⟨k, rfl, hk, -⟩ <;> omega
theorem containsFuncJ (g : Nat) (lb : Array Value) (eg : ∀ args w, (callFunc g args).run Try.prog w = .ok (.enter g args) w) (J : World → Prop) (f : Int → Bool) (A : Option Addr) (n c : Nat) (xs : List Int) (w : World) (hT : TestsJ g lb J xs f)
  (hR : ∀ W, J W → Seg W W.heap.size A n xs) (hJ : J w) (hl : xs.length = n) (hn : n ≤ 1048576) :
  Calls Try.prog 116 #[.slice A n c, .func (.func g) #[] lb] w (fun e w' => e = .returned (.bool (xs.any f)) ∧ J w') := by
 have L := hid (indexFuncJ g lb eg J f A n c xs w hT hR hJ hl hn)
 have hlen : xs.length ≤ 1048576 := by rw [hl]; exact hn
 clear hl hT hR hJ
 go_enter Try.func116, Try.ntmps116
 go_wp2_with fail
 refine L.out.mono ?_
 rintro e w' ⟨z, rfl, hz, jj⟩
 obtain ⟨h1, h2⟩ := fstJ_bd hz hlen
 have HZ := hid (fstJ_any hz)
 have HB := hid jj
 clear hz L jj hlen
 go_wp2
 go_ret
 exact ⟨by rw [← HZ.out]; rfl, HB.out⟩
end anyJ
end
section
namespace whole
open Go.RowKit base segs matchMath
set_option maxRecDepth 100000
section
variable {w w' : World} {B B' g : Nat} {cs : Array Value} {s : List (List Int)} {t : TypeId}
def TabR (w : World) (B : Nat) (cs : Array Value) (s : List (List Int)) : Prop :=
 cs.size = 24 ∧ s.length = 24 ∧ ∀ j, j < 24 → ∃ A n c, cs[j]? = some (.slice A n c) ∧ Seg w B A n (s.getD j []) ∧ Cap A n c
theorem TabR.one (h : TabR w B cs s) : cs.all (·.oneCell') = true := by
 rw [Array.all_eq_true]
 intro i hi
 obtain ⟨A, n, c, e, _⟩ := h.2.2 i (by rw [← h.1]; exact hi)
 rw [Array.getElem?_eq_getElem hi] at e
 injection e with e
 rw [e]; rfl
end
end whole
end
section
namespace inside
open Go.RowKit base ints sig term arity endOf cursor termOk endAt
set_option maxRecDepth 100000
structure Fr (w wr : World) (A : Option Addr) (n c : Nat) (sg : List Int) (A' : Option Addr) (m : Nat) (t : List Int) : Prop where
 r : Row wr w.heap.size 29 #[.slice A n c]
 s : Seg wr w.heap.size A n sg
 s' : Seg wr w.heap.size A' m t
 b : Below w.heap.size w wr
section
variable {w wr w' : World} {A : Option Addr} {n c : Nat} {sg : List Int} {A' : Option Addr} {m : Nat} {t : List Int}
theorem Fr.next (f : Fr w wr A n c sg A' m t) (hb : Below wr.heap.size wr w') : Fr w w' A n c sg A' m t :=
 have b : Below w.heap.size wr w' := hb.mono (Nat.le_of_lt f.r.lt)
 ⟨f.r.next hb, f.s.below b, f.s'.below b, f.b.trans b⟩
theorem Fr.over (f : Fr w wr A n c sg A' m t) (hb : Below (w.heap.size + 1) wr w') : Fr w w' A n c sg A' m t :=
 have b : Below w.heap.size wr w' := hb.mono (Nat.le_succ _)
 ⟨f.r.below hb (Nat.lt_succ_self _), f.s.below b, f.s'.below b, f.b.trans b⟩
theorem Fr.s1 (f : Fr w wr A n c sg A' m t) : Seg wr wr.heap.size A n sg := f.s.more (Nat.le_of_lt f.r.lt)
theorem Fr.t1 (f : Fr w wr A n c sg A' m t) : Seg wr wr.heap.size A' m t := f.s'.more (Nat.le_of_lt f.r.lt)
theorem Fr.size (f : Fr w wr A n c sg A' m t) : w.heap.size < wr.heap.size := f.r.lt
end
end inside
end
section
namespace plain
open Go.RowKit base ints cursor same marks app appAt sym sub segs segsHelp kinds fillMath Go.Proofs.Ytiimbmkofpnebaa.look plainMath
set_option maxRecDepth 100000
def HeadP (w : World) (L : Nat → List Int) (terms i : Value) (wr : World) : Prop :=
 ∃ (k : Nat) (A : Option Addr) (n c : Nat), k ≤ 24 ∧ i = .int .i64 k ∧ terms = .slice A n c ∧ n ≤ k ∧ Owns wr (w.heap.size + 1) wr.heap.size A n c (plainL L k) ∧ Row wr w.heap.size 37 #[.slice none 0 0] ∧ Below w.heap.size w wr
end plain
end
section
namespace plainOf
open Go.RowKit base ints sig cursor marks app appAt sym sub segs segsHelp kinds varsOf fillMath Go.Proofs.Ytiimbmkofpnebaa.look substOk gives plainMath plain
set_option maxRecDepth 100000
end plainOf
end
section
namespace matchSpec
open Go.RowKit base ints sig same term termOk endAt inside marks app sym sub segs segsHelp termFacts termMath posMath plainMath plain plainOf gives cursor matchMath
set_option maxRecDepth 100000
structure Tab (w : World) (T : Nat) (s : List (List Int)) : Prop where
 len : s.length = 24
 row : ∃ cs, Row w T 27 cs ∧ cs.size = 24 ∧ ∀ j, j < 24 → ∃ A n c, cs[j]? = some (.slice A n c) ∧ Own w (T + 1) (.slice A n c) (s.getD j [])
section
variable {w w' : World} {T : Nat} {s : List (List Int)}
theorem Tab.next (h : Tab w T s) (hb : Below w.heap.size w w') : Tab w' T s := by
 obtain ⟨cs, hr, hs, hc⟩ := h.row
 exact ⟨h.len, cs, hr.next hb, hs, fun j hj => by obtain ⟨A, n, c, e, ho⟩ := hc j hj; exact ⟨A, n, c, e, Own.next ho hb⟩⟩
theorem Tab.at (h : Tab w T s) {j : Nat} (hj : j < 24) : ∃ A n c, w.cell? ⟨T, j, none⟩ = some (.slice A n c) ∧ Own w (T + 1) (.slice A n c) (s.getD j []) := by
 obtain ⟨cs, hr, hs, hc⟩ := h.row
 obtain ⟨A, n, c, e, ho⟩ := hc j hj
 exact ⟨A, n, c, by rw [hr.cell j, e], ho⟩
end
structure Mt (w wr : World) (A : Option Addr) (n c : Nat) (sg : List Int) (P : Option Addr) (pn : Nat) (p : List Int) (Q : Option Addr) (m : Nat) (t : List Int) (s : List (List Int)) : Prop where
 r0 : Row wr w.heap.size 29 #[.slice A n c]
 r1 : Row wr (w.heap.size + 1) 37 #[.slice none 0 0]
 r3 : Row wr (w.heap.size + 1 + 1 + 1) 37 #[.slice (some ⟨w.heap.size + 1 + 1, 0, none⟩) 24 24]
 tb : Tab wr (w.heap.size + 1 + 1) s
 ss : Seg wr w.heap.size A n sg
 sp : Seg wr w.heap.size P pn p
 st : Seg wr w.heap.size Q m t
 b : Below w.heap.size w wr
section
variable {w wr w' : World} {A : Option Addr} {n c : Nat} {sg : List Int} {P : Option Addr} {pn : Nat} {p : List Int} {Q : Option Addr} {m : Nat} {t : List Int} {s : List (List Int)}
theorem Mt.next (h : Mt w wr A n c sg P pn p Q m t s) (hb : Below wr.heap.size wr w') : Mt w w' A n c sg P pn p Q m t s :=
 have b : Below w.heap.size wr w' := hb.mono h.b.size
 ⟨h.r0.next hb, h.r1.next hb, h.r3.next hb, h.tb.next hb, h.ss.below b, h.sp.below b, h.st.below b, h.b.trans b⟩
end
structure Mr (w wr : World) (A : Option Addr) (n c : Nat) (sg : List Int) (P : Option Addr) (pn : Nat) (p : List Int) (Q : Option Addr) (m : Nat) (t : List Int) : Prop where
 r0 : Row wr w.heap.size 29 #[.slice A n c]
 r1 : Row wr (w.heap.size + 1) 37 #[.slice none 0 0]
 ss : Seg wr wr.heap.size A n sg
 sp : Seg wr wr.heap.size P pn p
 st : Seg wr wr.heap.size Q m t
 b : Below w.heap.size w wr
section
variable {w wr w' : World} {A : Option Addr} {n c : Nat} {sg : List Int} {P : Option Addr} {pn : Nat} {p : List Int} {Q : Option Addr} {m : Nat} {t : List Int}
theorem Mr.next (h : Mr w wr A n c sg P pn p Q m t) (hb : Below wr.heap.size wr w') : Mr w w' A n c sg P pn p Q m t :=
 ⟨h.r0.next hb, h.r1.next hb, h.ss.next hb, h.sp.next hb, h.st.next hb, next_trans h.b hb⟩
end
end matchSpec
end
section
namespace whole
open Go.RowKit base cursor marks app sym segs matchMath matchSpec
set_option maxRecDepth 100000
section
variable {P : Program} {ops : Array Oper} {rest : List Oper} {o : Oper} {a : Act} {w : World} {Q : Exit → Act → World → Prop}
theorem rowAlloc (hgd : o.guard = none) (t : TypeId) (ho : o.op = .alloc t) (z : Array Value) (hz : ∀ w, (zeroValue t).run P w = .ok (.agg z) w)
  (h : wpList P ops Q rest (a.put o.dst (.pointer (some ⟨w.heap.size, 0, none⟩))) (w.alloc (.cells z t))) : wpList P ops Q (o :: rest) a w :=
 wpList_plain hgd fun _ hK => by
  unfold Oper.wp execOp
  simp only [ho, Instr.alloc, Sem.run_bind, hz, Result.andThen_ok, newVar, Value.cells]
  exact hK _ _ h
theorem rowStore (hgd : o.guard = none) (ty : TypeId) (x y : Operand) (ho : o.op = .store ty x y) (g : Nat) (cells old : Array Value) (t : TypeId) (hx : a.eval x = .pointer (some ⟨g, 0, none⟩)) (hy : a.eval y = .agg cells)
  (hg : w.heap[g]? = some (.cells old t (0, 0))) (hi : (P.info? ty).map (·.size) = some cells.size) (hs : old.size = cells.size) (h1 : cells.all (·.oneCell') = true)
  (h : wpList P ops Q rest (a.put o.dst undef) (w.setRow g cells)) : wpList P ops Q (o :: rest) a w :=
 wpList_plain hgd fun _ hK => by
  unfold Oper.wp execOp
  simp only [ho, hx, hy, Instr.storeAt, Instr.sureAddr, Sem.run_bind, Sem.run_pure, Result.andThen_ok, run_storeVar_row w g t ty old cells hg hi hs h1]
  exact hK _ _ h
theorem results_row_tmp {fn : Func} {p u : Tmp} {ty : TypeId} (h : fn.results = #[.cell p ty, .tmp u]) (tmps : Array Value) (g : Nat) (t : TypeId) (cs : Array Value) (d : TypeDesc)
  (hp : tmps.getD p undef = .pointer (some ⟨g, 0, none⟩)) (hg : w.heap[g]? = some (.cells cs t (0, 0)))
  (hu : P.underlying ty = some d) (hd : (match d with | .struct _ | .array _ _ => true | _ => false) = true) (hi : (P.info? ty).map (·.size) = some cs.size) :
  (results fn tmps).run P w = .ok (.tuple #[.agg cs, tmps.getD u undef]) w := by
 rw [results_cell_tmp h, hp]
 simp [asAddr, Result.andThen, run_loadVar_row w g t ty cs (0, 0) d hg hu hd hi]
end
section
variable {w w' : World} {B B' g : Nat} {cs : Array Value} {s : List (List Int)} {t : TypeId}
theorem Row.setRow (h : Row w g t cs) (c' : Array Value) : Row (w.setRow g c') g t c' := setRow_heap w g cs c' t (0, 0) h
theorem grown_setRow (w : World) (g : Nat) (c' : Array Value) : w.grownBy (w.setRow g c') (some g) :=
 ⟨rfl, rfl, rfl, by simp, fun k _ hk => setRow_other w g k c' (fun e => hk (by rw [e]))⟩
end
end whole
end
end Go.Proofs.Ytiimbmkofpnebaa
