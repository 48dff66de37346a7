/-
  MERGED: my texts TermMath, PosMath, RenMath, MatchMath, TabR, Inside, MatchSpec, Whole, TakeMath, Take, Extended, PathSpec, MatchList, one behind the other, as they are. By an AI agent.
-/
import Derived.Test.YtgfgaeagbipobaaMFnGeneral2
import Derived.Deep.LoopGhost
import Derived.Laws.Rows
import Derived.Laws.ResultCell
import Derived.Deep.RegionHeld3
namespace Go.Proofs.Ytgfgaeagbipobaa
section
namespace termMath
open term termOk endAt sub args depth sig
theorem scan_append {sg : List Int} : ∀ {l r : List Int} {q j : Nat}, scan sg q l = some j → scan sg q (l ++ r) = some j := by
 intro l
 induction l with
 | nil =>
  intro r q j h
  cases q with
  | zero => rw [scan_zero] at h ⊢; exact h
  | succ q => rw [scan_nil] at h; cases h
 | cons x l ih =>
  intro r q j h
  cases q with
  | zero => rw [scan_zero] at h ⊢; exact h
  | succ q =>
   by_cases ha : ar sg x < 0
   ·rw [scan_bad ha] at h; cases h
   ·rw [scan_step ha] at h
    rw [List.cons_append, scan_step ha]
    obtain ⟨j', hj', rfl⟩ := Option.map_eq_some_iff.1 h
    rw [ih hj']
    rfl
theorem scan_take {sg : List Int} : ∀ {l : List Int} {q j : Nat}, scan sg q l = some j → scan sg q (l.take j) = some j := by
 intro l
 induction l with
 | nil => intro q j h; simpa using h
 | cons x l ih =>
  intro q j h
  cases q with
  | zero => rw [scan_zero] at h ⊢; exact h
  | succ q =>
   by_cases ha : ar sg x < 0
   ·rw [scan_bad ha] at h; cases h
   ·rw [scan_step ha] at h
    obtain ⟨j', hj', rfl⟩ := Option.map_eq_some_iff.1 h
    rw [List.take_succ_cons, scan_step ha, ih hj']
    rfl
theorem scan_same {sg l l' : List Int} {q j : Nat} (h : scan sg q l = some j) (e : l.take j = l'.take j) : scan sg q l' = some j := by
 have h1 := scan_take h
 rw [e] at h1
 have h2 := scan_append (r := l'.drop j) h1
 rwa [List.take_append_drop] at h2
theorem take_less {l l' : List Int} {i j : Nat} (e : l.take i = l'.take i) (h : j ≤ i) : l.take j = l'.take j := by
 have : (l.take i).take j = (l'.take i).take j := by rw [e]
 rwa [List.take_take, List.take_take, Nat.min_eq_left h] at this
theorem drop_same {l l' : List Int} {i j : Nat} (e : l.take i = l'.take i) : (l.drop j).take (i - j) = (l'.drop j).take (i - j) := by
 rw [← List.drop_take, ← List.drop_take, e]
theorem get_same {t t' : List Int} {a a' i : Nat} (e : (t.drop a).take i = (t'.drop a').take i) (h : 1 ≤ i) : t.getD a 0 = t'.getD a' 0 := by
 have : ((t.drop a).take i)[0]? = ((t'.drop a').take i)[0]? := by rw [e]
 rw [List.getElem?_take, List.getElem?_take, if_pos (by omega), if_pos (by omega), List.getElem?_drop, List.getElem?_drop] at this
 simpa [List.getD] using congrArg (fun o => o.getD 0) this
theorem max_same {sg t t' : List Int} {f f' : Nat} (hd : ∀ a a' j, (t.drop a).take j = (t'.drop a').take j → scan sg 1 (t.drop a) = some j → j ≤ f → j ≤ f' → dep sg t f a = dep sg t' f' a') :
  ∀ q p p' i, (t.drop p).take i = (t'.drop p').take i → scan sg q (t.drop p) = some i → i ≤ f → i ≤ f' → maxOver sg t (dep sg t f) q p = maxOver sg t' (dep sg t' f') q p'
 | 0, _, _, _, _, _, _, _ => rfl
 | q + 1, p, p', i, e, h, h1, h2 => by
  obtain ⟨j, e1, e2, e3, e4⟩ := scan_first h
  have e5 := scan_same e1 (take_less e e3)
  have hdr : (t.drop (p + j)).take (i - j) = (t'.drop (p' + j)).take (i - j) := by
   have := drop_same (j := j) e
   rwa [List.drop_drop, List.drop_drop] at this
  simp only [maxOver, len1_eq e1, len1_eq e5]
  rw [hd p p' j (take_less e e3) e1 (by omega) (by omega), max_same hd q (p + j) (p' + j) (i - j) hdr e4 (by omega) (by omega)]
theorem dep_same {sg : List Int} : ∀ (f f' : Nat) (t t' : List Int) (a a' j : Nat), (t.drop a).take j = (t'.drop a').take j → scan sg 1 (t.drop a) = some j → j ≤ f → j ≤ f' → dep sg t f a = dep sg t' f' a'
 | 0, _, _, _, _, _, _, _, h, h1, _ => by have := scan_pos (q := 0) h; omega
 | _ + 1, 0, _, _, _, _, _, _, h, _, h2 => by have := scan_pos (q := 0) h; omega
 | f + 1, f' + 1, t, t', a, a', j, e, h, h1, h2 => by
  have hj := scan_pos (q := 0) h
  have hg := get_same e hj
  obtain ⟨i, e1, _, _, e2⟩ := scan_args h
  have hdr : (t.drop (a + 1)).take i = (t'.drop (a' + 1)).take i := by
   have := drop_same (j := 1) e
   rw [List.drop_drop, List.drop_drop] at this
   have e3 : j - 1 = i := by omega
   rwa [e3] at this
  simp only [dep]
  rw [← hg, max_same (fun a a' j e h h1 h2 => dep_same f f' t t' a a' j e h h1 h2) _ (a + 1) (a' + 1) i hdr e2 (by omega) (by omega)]
theorem sub_term {sg t : List Int} {a : Nat} (hok : termOkB sg t = true) (ha : a < t.length) : termOkB sg (subL sg t a) = true ∧ depthI sg (subL sg t a) = dep sg t (t.length + 1) a ∧ endI sg t a = (a : Int) + ((subL sg t a).length : Int) ∧ 1 ≤ (subL sg t a).length := by
 have hp := termOk_parts hok
 obtain ⟨j, hj, hj1, hj2⟩ := scan_at hp.2.2 ha
 have hl : len1 sg t a = j := len1_eq hj
 have hs : subL sg t a = (t.drop a).take j := by unfold subL; rw [hl]
 have hlen : (subL sg t a).length = j := by rw [hs]; simp; omega
 have hsc : scan sg 1 (subL sg t a) = some (subL sg t a).length := by rw [hlen, hs]; exact scan_take hj
 have hok2 : termOkB sg (subL sg t a) = true := by
  unfold termOkB termB
  rw [hp.1, hsc]
  simp
  omega
 refine ⟨hok2, ?_, by rw [endI_some hj, hlen], by omega⟩
 unfold depthI
 rw [if_pos hok2, hlen]
 refine (dep_same _ _ _ _ _ _ j ?_ ?_ (Nat.le_refl _) (by omega))
 ·rw [List.drop_zero, hs, List.take_take, Nat.min_self]
 ·rw [List.drop_zero, hsc, hlen]
def Loop (sg t : List Int) (a : Nat) (M : Int) (zs args : List Int) (d : Int) (k q pp : Nat) : Prop :=
 args.drop k = places sg t q pp ∧ max d (maxOver sg t (dep sg t t.length) q pp) = M ∧ 0 ≤ d ∧ d ≤ t.length ∧ ∃ i, scan sg q (t.drop pp) = some i ∧ pp + i ≤ t.length ∧ zs ++ (t.drop pp).take i = subL sg t a
theorem Loop.done {sg t : List Int} {a : Nat} {M : Int} {zs args : List Int} {d : Int} {k pp : Nat} (h : Loop sg t a M zs args d k 0 pp) : zs = subL sg t a ∧ d = M := by
 obtain ⟨_, h2, h3, _, i, h5, _, h7⟩ := h
 rw [scan_zero] at h5
 injection h5 with h5
 subst h5
 simp only [maxOver] at h2
 exact ⟨by simpa using h7, by omega⟩
end termMath
end
section
namespace posMath
open sig term termOk termFacts endAt sub args depth termMath
theorem term_at {sg t : List Int} (h : termOkB sg t = true) {a : Nat} (ha : a < t.length) : scan sg 1 (t.drop a) = some (len1 sg t a) ∧ 1 ≤ len1 sg t a ∧ a + len1 sg t a ≤ t.length := by
 obtain ⟨j, e, h1, h2⟩ := scan_at (term_parts h).2.2 ha
 rw [len1_eq e]
 exact ⟨e, h1, h2⟩
def argP (sg t : List Int) : Nat → Nat → Nat
 | 0, p => p
 | k + 1, p => argP sg t k (p + len1 sg t p)
theorem argP_succ {sg t : List Int} : ∀ k p, argP sg t (k + 1) p = argP sg t k p + len1 sg t (argP sg t k p)
 | 0, _ => rfl
 | k + 1, p => by
  show argP sg t (k + 1) (p + len1 sg t p) = _
  rw [argP_succ k]
  rfl
theorem argP_mono {sg t : List Int} {p k : Nat} : ∀ {k' : Nat}, k ≤ k' → argP sg t k p ≤ argP sg t k' p := by
 intro k' h
 induction k' with
 | zero => rw [Nat.le_zero.1 h]; exact Nat.le_refl _
 | succ k' ih =>
  by_cases e : k = k' + 1
  ·rw [e]; exact Nat.le_refl _
  ·have := ih (by omega)
   rw [argP_succ]
   omega
theorem places_get {sg t : List Int} : ∀ {q p k : Nat}, k < q → (places sg t q p).getD k 0 = (argP sg t k p : Int) := by
 intro q
 induction q with
 | zero => intro p k h; omega
 | succ q ih =>
  intro p k h
  cases k with
  | zero => rfl
  | succ k =>
   show ((p : Int) :: places sg t q (p + len1 sg t p)).getD (k + 1) 0 = _
   rw [List.getD_cons_succ, ih (by omega)]
   rfl
def arN (sg t : List Int) (p : Nat) : Nat := (ar sg (t.getD p 0)).toNat
inductive Trail (sg t : List Int) (at_ : Nat) : Nat → List Int → List Int → Prop
 | here : Trail sg t at_ at_ [] []
 | down {p k : Nat} {ab pa : List Int} (h1 : p < at_) (h2 : k < arN sg t p) (h3 : argP sg t k (p + 1) ≤ at_) (h4 : at_ < argP sg t k (p + 1) + len1 sg t (argP sg t k (p + 1))) (h5 : p < argP sg t k (p + 1)) (h6 : at_ < p + len1 sg t p) (hw : Trail sg t at_ (argP sg t k (p + 1)) ab pa) : Trail sg t at_ p ((p : Int) :: ab) ((k : Int) :: pa)
theorem Trail.here_eq {sg t : List Int} {at_ : Nat} {ab pa : List Int} (h : Trail sg t at_ at_ ab pa) : ab = [] ∧ pa = [] := by
 cases h with
 | here => exact ⟨rfl, rfl⟩
 | down h1 => omega
theorem arg_one {sg t : List Int} {p at_ k k' : Nat} (h3 : argP sg t k p ≤ at_) (h4 : at_ < argP sg t k p + len1 sg t (argP sg t k p)) (h3' : argP sg t k' p ≤ at_) (h4' : at_ < argP sg t k' p + len1 sg t (argP sg t k' p)) : k = k' := by
 rcases Nat.lt_trichotomy k k' with h | h | h
 ·have := argP_mono (sg := sg) (t := t) (p := p) (show k + 1 ≤ k' by omega)
  rw [argP_succ] at this
  omega
 ·exact h
 ·have := argP_mono (sg := sg) (t := t) (p := p) (show k' + 1 ≤ k by omega)
  rw [argP_succ] at this
  omega
theorem Trail.one {sg t : List Int} {at_ p : Nat} {ab pa : List Int} (h : Trail sg t at_ p ab pa) : ∀ {ab' pa' : List Int}, Trail sg t at_ p ab' pa' → ab = ab' ∧ pa = pa' := by
 induction h with
 | here => intro ab' pa' h'; obtain ⟨rfl, rfl⟩ := h'.here_eq; exact ⟨rfl, rfl⟩
 | @down p k ab pa h1 h2 h3 h4 h5 h6 hw ih =>
  intro ab' pa' h'
  cases h' with
  | here => omega
  | @down _ k' ab' pa' g1 g2 g3 g4 g5 g6 gw =>
   obtain rfl := arg_one h3 h4 g3 g4
   obtain ⟨rfl, rfl⟩ := ih gw
   exact ⟨rfl, rfl⟩
theorem Trail.len {sg t : List Int} {at_ p : Nat} {ab pa : List Int} (h : Trail sg t at_ p ab pa) : ab.length = pa.length := by
 induction h with
 | here => rfl
 | down _ _ _ _ _ _ _ ih => simp [ih]
theorem Trail.le {sg t : List Int} {at_ p : Nat} {ab pa : List Int} (h : Trail sg t at_ p ab pa) : p ≤ at_ ∧ pa.length ≤ at_ - p := by
 induction h with
 | here => simp
 | down h1 _ _ _ h5 _ _ ih => simp only [List.length_cons]; omega
def upTo (sg t : List Int) (at_ : Nat) : Nat → Nat → List Int
 | _, 0 => []
 | p, n + 1 => (if at_ < p + len1 sg t p then [(p : Int)] else []) ++ upTo sg t at_ (p + 1) n
theorem over_ge {sg t : List Int} {g : Nat → Int} : ∀ {q k p : Nat}, k < q → g (argP sg t k p) ≤ maxOver sg t g q p := by
 intro q
 induction q with
 | zero => intro k p h; omega
 | succ q ih =>
  intro k p h
  cases k with
  | zero => simp only [maxOver, argP]; omega
  | succ k =>
   have := ih (k := k) (p := p + len1 sg t p) (by omega)
   simp only [maxOver, argP]
   omega
theorem over_nonneg {sg t : List Int} {g : Nat → Int} : ∀ (q p : Nat), 0 ≤ maxOver sg t g q p
 | 0, _ => by simp [maxOver]
 | q + 1, p => by
  have := over_nonneg (sg := sg) (t := t) (g := g) q (p + len1 sg t p)
  simp only [maxOver]
  omega
theorem Trail.depth {sg t : List Int} {at_ p : Nat} {ab pa : List Int} (h : Trail sg t at_ p ab pa) : ∀ f, pa.length < f → (pa.length : Int) + 1 ≤ dep sg t f p := by
 induction h with
 | here =>
  intro f hf
  obtain ⟨f, rfl⟩ : ∃ f', f = f' + 1 := ⟨f - 1, by simp at hf; omega⟩
  have := over_nonneg (sg := sg) (t := t) (g := dep sg t f) (ar sg (t.getD at_ 0)).toNat (at_ + 1)
  simp only [dep, List.length_nil]
  omega
 | @down p k ab pa h1 h2 h3 h4 h5 h6 hw ih =>
  intro f hf
  simp only [List.length_cons] at hf ⊢
  obtain ⟨f, rfl⟩ : ∃ f', f = f' + 1 := ⟨f - 1, by omega⟩
  have e := ih f (by omega)
  have e2 := over_ge (sg := sg) (t := t) (g := dep sg t f) (p := p + 1) h2
  unfold arN at e2
  simp only [dep]
  omega
end posMath
end
section
namespace renMath
open sig term termOk termFacts varsMath fillMath
def idx : List Int → Int → Nat
 | [], _ => 0
 | y :: r, x => if y = x then 0 else idx r x + 1
theorem idx_lt : ∀ {o : List Int} {x : Int}, x ∈ o → idx o x < o.length
 | y :: r, x, h => by
  rw [idx]
  split
  ·simp
  ·rename_i h1
   rcases List.mem_cons.1 h with e | e
   ·exact absurd e.symm h1
   ·have := idx_lt e; simp; omega
theorem idx_not : ∀ {o : List Int} {x : Int}, x ∉ o → idx o x = o.length
 | [], _, _ => rfl
 | y :: r, x, h => by
  have h1 : ¬ y = x := fun e => h (by rw [e]; exact List.mem_cons_self ..)
  rw [idx, if_neg h1, idx_not (fun e => h (List.mem_cons_of_mem _ e))]
  rfl
theorem idx_get : ∀ {o : List Int} {x : Int}, x ∈ o → o.getD (idx o x) 0 = x
 | y :: r, x, h => by
  rw [idx]
  split
  ·rename_i h1; simpa using h1
  ·rename_i h1
   rcases List.mem_cons.1 h with e | e
   ·exact absurd e.symm h1
   ·simpa using idx_get e
theorem idx_first : ∀ {o : List Int} {x : Int} {k : Nat}, k < o.length → (∀ j, j < k → o.getD j 0 ≠ x) → o.getD k 0 = x → idx o x = k
 | y :: r, x, 0, _, _, h => by
  have h : y = x := by simpa using h
  rw [idx, if_pos h]
 | y :: r, x, k + 1, hk, hl, h => by
  have h0 : ¬ y = x := by simpa using hl 0 (by omega)
  rw [idx, if_neg h0, idx_first (k := k) (by simpa using hk) (fun j hj => by simpa using hl (j + 1) (by omega)) (by simpa using h)]
theorem idx_app_mem : ∀ {o q : List Int} {x : Int}, x ∈ o → idx (o ++ q) x = idx o x
 | y :: r, q, x, h => by
  rw [List.cons_append, idx, idx]
  split
  ·rfl
  ·rename_i h1
   rcases List.mem_cons.1 h with e | e
   ·exact absurd e.symm h1
   ·rw [idx_app_mem e]
theorem idx_app_new {o : List Int} {x : Int} (h : x ∉ o) : idx (o ++ [x]) x = o.length := by
 refine idx_first (by simp) (fun j hj => ?_) (by simp)
 have e : (o ++ [x]).getD j 0 = o[j] := by simp [List.getD, List.getElem?_append_left hj, hj]
 rw [e]
 exact fun e2 => h (by rw [← e2]; exact List.getElem_mem hj)
theorem idx_map {f : Int → Int} (hf : ∀ a b, f a = f b → a = b) : ∀ (o : List Int) (x : Int), idx (o.map f) (f x) = idx o x
 | [], _ => rfl
 | y :: r, x => by
  rw [List.map_cons, idx, idx]
  by_cases h : y = x
  ·rw [if_pos h, if_pos (by rw [h])]
  ·rw [if_neg h, if_neg (fun e => h (hf _ _ e)), idx_map hf r x]
theorem mem_map_inj {f : Int → Int} (hf : ∀ a b, f a = f b → a = b) {o : List Int} {x : Int} : f x ∈ o.map f ↔ x ∈ o := by
 rw [List.mem_map]
 exact ⟨fun ⟨y, hy, e⟩ => by rw [← hf _ _ e]; exact hy, fun h => ⟨x, h, rfl⟩⟩
def ext (o : List Int) (x : Int) : List Int := if x ∈ o then o else o ++ [x]
def extV (o : List Int) (x : Int) : List Int := if x < 0 then ext o x else o
def orderL (t : List Int) : List Int := t.foldl extV []
theorem order_take {t : List Int} {k : Nat} {x : Int} (hk : k < t.length) (hx : t.getD k 0 = x) : orderL (t.take (k + 1)) = extV (orderL (t.take k)) x := by
 unfold orderL
 rw [take_snoc hk hx, List.foldl_append]
 rfl
theorem ext_mem {o : List Int} {x y : Int} : y ∈ ext o x ↔ y = x ∨ y ∈ o := by
 unfold ext
 split
 ·rename_i h
  exact ⟨fun e => .inr e, fun e => by rcases e with e | e; exact e ▸ h; exact e⟩
 ·rw [List.mem_append, List.mem_singleton, or_comm]
theorem extV_mem {o : List Int} {x y : Int} : y ∈ extV o x ↔ (y = x ∧ x < 0) ∨ y ∈ o := by
 unfold extV
 split
 ·rename_i h
  rw [ext_mem]
  exact ⟨fun e => by rcases e with e | e; exact .inl ⟨e, h⟩; exact .inr e, fun e => by rcases e with e | e; exact .inl e.1; exact .inr e⟩
 ·rename_i h
  exact ⟨fun e => .inr e, fun e => by rcases e with e | e; exact absurd e.2 h; exact e⟩
theorem fold_ext_mem {y : Int} : ∀ {l o : List Int}, y ∈ l.foldl extV o ↔ (y ∈ l ∧ y < 0) ∨ y ∈ o
 | [], o => by simp
 | x :: l, o => by
  rw [List.foldl_cons, fold_ext_mem, extV_mem, List.mem_cons]
  constructor
  ·rintro (⟨h, h0⟩ | ⟨rfl, h0⟩ | h)
   ·exact .inl ⟨.inr h, h0⟩
   ·exact .inl ⟨.inl rfl, h0⟩
   ·exact .inr h
  ·rintro (⟨rfl | h, h0⟩ | h)
   ·exact .inr (.inl ⟨rfl, h0⟩)
   ·exact .inl ⟨h, h0⟩
   ·exact .inr (.inr h)
theorem order_mem {t : List Int} {y : Int} : y ∈ orderL t ↔ y ∈ t ∧ y < 0 := by unfold orderL; rw [fold_ext_mem]; simp
theorem ext_nodup {o : List Int} {x : Int} (h : o.Nodup) : (ext o x).Nodup := by
 unfold ext
 split
 ·exact h
 ·rename_i hx
  rw [List.nodup_append]
  exact ⟨h, by simp, fun a ha b hb => by simp at hb; subst hb; exact fun e => hx (e ▸ ha)⟩
theorem fold_nodup : ∀ {l o : List Int}, o.Nodup → (l.foldl extV o).Nodup
 | [], _, h => h
 | x :: l, o, h => by
  rw [List.foldl_cons]
  refine fold_nodup ?_
  unfold extV
  split
  ·exact ext_nodup h
  ·exact h
theorem order_nodup (t : List Int) : (orderL t).Nodup := fold_nodup List.nodup_nil
theorem ext_len (o : List Int) (x : Int) : (ext o x).length ≤ o.length + 1 := by unfold ext; split <;> simp
theorem fold_ext_len : ∀ (l o : List Int), (l.foldl extV o).length ≤ o.length + l.length
 | [], _ => by simp
 | x :: l, o => by
  have h1 := fold_ext_len l (extV o x)
  have h2 : (extV o x).length ≤ o.length + 1 := by unfold extV; split; exact ext_len o x; simp
  simp
  omega
theorem order_len (t : List Int) : (orderL t).length ≤ t.length := by have := fold_ext_len t []; simpa [orderL] using this
def ren (o : List Int) (n : Int) : Int := if n < 0 then -1 - (idx o n : Int) else n
def renL (t : List Int) : List Int := t.map (ren (orderL t))
theorem ren_ext {o : List Int} {x n : Int} (h : n < 0 → n ∈ o) : ren (extV o x) n = ren o n := by
 unfold ren
 split
 ·rename_i h0
  unfold extV ext
  split
  ·split
   ·rfl
   ·rw [idx_app_mem (h h0)]
  ·rfl
 ·rfl
theorem ren_len (t : List Int) : (renL t).length = t.length := by simp [renL]
def renI (sg t : List Int) : List Int := if termOkB sg t = true then renL t else []
theorem renI_len {sg t : List Int} {m : Nat} (h : t.length = m) (hm : m ≤ 1048576) : (renI sg t).length ≤ 1048576 := by
 unfold renI
 split
 ·rw [ren_len]; omega
 ·simp
theorem idx_nodup {o : List Int} (h : o.Nodup) {k : Nat} (hk : k < o.length) {x : Int} (hx : o.getD k 0 = x) : idx o x = k := by
 refine idx_first hk (fun j hj e => ?_) hx
 have h1 : o[j]'(by omega) = o[k] := by
  have a : o.getD j 0 = o[j]'(by omega) := by simp [List.getD, show j < o.length by omega]
  have b : o.getD k 0 = o[k] := by simp [List.getD, hk]
  rw [← a, ← b, e, hx]
 exact (List.pairwise_iff_getElem.1 h) j k (by omega) hk hj h1
end renMath
end
section
namespace matchMath
open sig term termOk termFacts endAt sub termMath fillMath posMath renMath
def vr (x : Int) : Nat := (-1 - x).toNat
def mst (sg t : List Int) : List Int → Nat → List (List Int) → Option (List (List Int))
 | [], _, s => some s
 | x :: r, k, s =>
  if t.length ≤ k then none
  else if 0 ≤ x then (if x = t.getD k 0 then mst sg t r (k + 1) s else none)
  else if (s.getD (vr x) []).length ≠ 0 ∧ s.getD (vr x) [] ≠ subL sg t k then none
  else mst sg t r (k + (subL sg t k).length) (s.set (vr x) (subL sg t k))
section
variable {sg t : List Int} {r : List Int} {x : Int} {k : Nat} {s : List (List Int)}
theorem mst_out (h : t.length ≤ k) : mst sg t (x :: r) k s = none := by simp only [mst]; rw [if_pos h]
theorem mst_sym (h : ¬ t.length ≤ k) (hx : 0 ≤ x) (he : x = t.getD k 0) : mst sg t (x :: r) k s = mst sg t r (k + 1) s := by simp only [mst]; rw [if_neg h, if_pos hx, if_pos he]
theorem mst_symNo (h : ¬ t.length ≤ k) (hx : 0 ≤ x) (he : ¬ x = t.getD k 0) : mst sg t (x :: r) k s = none := by simp only [mst]; rw [if_neg h, if_pos hx, if_neg he]
theorem mst_var (h : ¬ t.length ≤ k) (hx : ¬ 0 ≤ x) (he : ¬ ((s.getD (vr x) []).length ≠ 0 ∧ s.getD (vr x) [] ≠ subL sg t k)) : mst sg t (x :: r) k s = mst sg t r (k + (subL sg t k).length) (s.set (vr x) (subL sg t k)) := by simp only [mst]; rw [if_neg h, if_neg hx, if_neg he]
theorem mst_varNo (h : ¬ t.length ≤ k) (hx : ¬ 0 ≤ x) (he : (s.getD (vr x) []).length ≠ 0 ∧ s.getD (vr x) [] ≠ subL sg t k) : mst sg t (x :: r) k s = none := by simp only [mst]; rw [if_neg h, if_neg hx, if_pos he]
end
theorem set_get {s : List (List Int)} {i j : Nat} {v : List Int} : (s.set i v).getD j [] = if i = j ∧ i < s.length then v else s.getD j [] := by
 simp only [List.getD_eq_getElem?_getD, List.getElem?_set]
 by_cases h : i = j
 ·subst h
  by_cases h2 : i < s.length
  ·simp [h2]
  ·simp [h2]
 ·simp [h]
theorem vr_lt {x : Int} (h0 : ¬ 0 ≤ x) (h : -24 ≤ x) : vr x < 24 := by unfold vr; omega
theorem mst_ext {sg t : List Int} : ∀ {p : List Int} {k : Nat} {s s' : List (List Int)}, mst sg t p k s = some s' → s.length = 24 → (∀ x ∈ p, -24 ≤ x) → s'.length = 24 ∧ ∀ i, (s.getD i []).length ≠ 0 → s'.getD i [] = s.getD i [] := by
 intro p
 induction p with
 | nil => intro k s s' h hl _; injection h with h; subst h; exact ⟨hl, fun _ _ => rfl⟩
 | cons x r ih =>
  intro k s s' h hl hx
  have hr : ∀ y ∈ r, -24 ≤ y := fun y hy => hx y (List.mem_cons_of_mem _ hy)
  by_cases h1 : t.length ≤ k
  ·rw [mst_out h1] at h; cases h
  ·by_cases h2 : 0 ≤ x
   ·by_cases h3 : x = t.getD k 0
    ·rw [mst_sym h1 h2 h3] at h; exact ih h hl hr
    ·rw [mst_symNo h1 h2 h3] at h; cases h
   ·by_cases h3 : (s.getD (vr x) []).length ≠ 0 ∧ s.getD (vr x) [] ≠ subL sg t k
    ·rw [mst_varNo h1 h2 h3] at h; cases h
    ·rw [mst_var h1 h2 h3] at h
     obtain ⟨e1, e2⟩ := ih h (by rw [List.length_set]; exact hl) hr
     refine ⟨e1, fun i hi => ?_⟩
     have hs : (s.set (vr x) (subL sg t k)).getD i [] = s.getD i [] := by
      rw [set_get]
      split
      ·rename_i hc
       obtain ⟨rfl, _⟩ := hc
       by_cases e : s.getD (vr x) [] = subL sg t k
       ·exact e.symm
       ·exact absurd ⟨hi, e⟩ h3
      ·rfl
     rw [← hs] at hi ⊢
     exact e2 i hi
theorem sub_len1 {sg t : List Int} (hok : termOkB sg t = true) {k : Nat} (hk : k < t.length) : (subL sg t k).length = len1 sg t k ∧ t.drop k = subL sg t k ++ t.drop (k + (subL sg t k).length) ∧ scan sg 1 (subL sg t k) = some (subL sg t k).length := by
 have h := term_at hok hk
 have hl : (subL sg t k).length = len1 sg t k := by unfold subL; rw [List.length_take, List.length_drop]; omega
 refine ⟨hl, ?_, (term_parts (sub_term hok hk).1).2.2⟩
 rw [hl, ← List.drop_drop]
 exact (List.take_append_drop _ _).symm
theorem mst_sound {sg t : List Int} (hok : termOkB sg t = true) : ∀ {p : List Int} {k : Nat} {s s' : List (List Int)}, mst sg t p k s = some s' → s.length = 24 → (∀ x ∈ p, -24 ≤ x) →
  (∃ rest, t.drop k = fillL (fun i => s'.getD i []) p ++ rest) ∧ ∀ x ∈ p, x < 0 → scan sg 1 (s'.getD (vr x) []) = some (s'.getD (vr x) []).length := by
 intro p
 induction p with
 | nil => intro k s s' _ _ _; exact ⟨⟨t.drop k, by rw [fill_nil, List.nil_append]⟩, fun x hx => absurd hx (List.not_mem_nil)⟩
 | cons x r ih =>
  intro k s s' h hl hx
  have hr : ∀ y ∈ r, -24 ≤ y := fun y hy => hx y (List.mem_cons_of_mem _ hy)
  have hx0 : -24 ≤ x := hx x (List.mem_cons_self ..)
  by_cases h1 : t.length ≤ k
  ·rw [mst_out h1] at h; cases h
  ·by_cases h2 : 0 ≤ x
   ·by_cases h3 : x = t.getD k 0
    ·rw [mst_sym h1 h2 h3] at h
     obtain ⟨⟨rest, e⟩, hv⟩ := ih h hl hr
     refine ⟨⟨rest, ?_⟩, fun y hy h0 => ?_⟩
     ·rw [drop_cons (by omega), e, ← h3, fill_cons, rep_sym h2]; rfl
     ·rcases List.mem_cons.1 hy with rfl | hy
      ·omega
      ·exact hv y hy h0
    ·rw [mst_symNo h1 h2 h3] at h; cases h
   ·by_cases h3 : (s.getD (vr x) []).length ≠ 0 ∧ s.getD (vr x) [] ≠ subL sg t k
    ·rw [mst_varNo h1 h2 h3] at h; cases h
    ·rw [mst_var h1 h2 h3] at h
     have hl' : (s.set (vr x) (subL sg t k)).length = 24 := by rw [List.length_set]; exact hl
     obtain ⟨⟨rest, e⟩, hv⟩ := ih h hl' hr
     obtain ⟨_, e2⟩ := mst_ext h hl' hr
     obtain ⟨l1, l2, l3⟩ := sub_len1 hok (show k < t.length by omega)
     have hpos := (sub_term hok (show k < t.length by omega)).2.2.2
     have hg : (s.set (vr x) (subL sg t k)).getD (vr x) [] = subL sg t k := by rw [set_get, if_pos ⟨rfl, by rw [hl]; exact vr_lt h2 hx0⟩]
     have hgx : s'.getD (vr x) [] = subL sg t k := by rw [e2 (vr x) (by rw [hg]; omega), hg]
     refine ⟨⟨rest, ?_⟩, fun y hy h0 => ?_⟩
     ·rw [l2, e, fill_cons, rep_var (by omega), List.append_assoc]
      congr 1
      exact hgx.symm
     ·rcases List.mem_cons.1 hy with rfl | hy
      ·rw [hgx]; exact l3
      ·exact hv y hy h0
theorem mst_full {sg t : List Int} {L : Nat → List Int} : ∀ {p : List Int} {k : Nat} {s : List (List Int)} {rest : List Int}, t.drop k = fillL L p ++ rest → s.length = 24 → (∀ x ∈ p, -24 ≤ x) → (∀ x ∈ p, x < 0 → scan sg 1 (L (vr x)) = some (L (vr x)).length) → (∀ i, (s.getD i []).length ≠ 0 → s.getD i [] = L i) →
  ∃ s', mst sg t p k s = some s' ∧ (∀ i, (s'.getD i []).length ≠ 0 → s'.getD i [] = L i) ∧ ∀ x ∈ p, x < 0 → s'.getD (vr x) [] = L (vr x) := by
 intro p
 induction p with
 | nil => intro k s rest _ _ _ _ hc; exact ⟨s, rfl, hc, fun x hx => absurd hx (List.not_mem_nil)⟩
 | cons x r ih =>
  intro k s rest h hl hx hL hc
  have hr : ∀ y ∈ r, -24 ≤ y := fun y hy => hx y (List.mem_cons_of_mem _ hy)
  have hLr : ∀ y ∈ r, y < 0 → scan sg 1 (L (vr y)) = some (L (vr y)).length := fun y hy => hL y (List.mem_cons_of_mem _ hy)
  have hx0 : -24 ≤ x := hx x (List.mem_cons_self ..)
  rw [fill_cons, List.append_assoc] at h
  by_cases h2 : 0 ≤ x
  ·rw [rep_sym h2] at h
   have hk : k < t.length := by
    by_cases hk : k < t.length
    ·exact hk
    ·rw [List.drop_eq_nil_of_le (by omega)] at h; cases h
   rw [drop_cons hk] at h
   injection h with e1 e2
   obtain ⟨s', m1, m2, m3⟩ := ih e2 hl hr hLr hc
   exact ⟨s', by rw [mst_sym (by omega) h2 e1.symm]; exact m1, m2, fun y hy h0 => by
    rcases List.mem_cons.1 hy with rfl | hy
    ·omega
    ·exact m3 y hy h0⟩
  ·rw [rep_var (by omega)] at h
   change t.drop k = L (vr x) ++ (fillL L r ++ rest) at h
   have hsc := hL x (List.mem_cons_self ..) (by omega)
   have hpos := scan_pos (q := 0) hsc
   have hk : k < t.length := by
    by_cases hk : k < t.length
    ·exact hk
    ·rw [List.drop_eq_nil_of_le (by omega)] at h
     have := congrArg List.length h
     simp only [List.length_nil, List.length_append] at this
     omega
   have hsub : subL sg t k = L (vr x) := by
    unfold subL
    have e : len1 sg t k = (L (vr x)).length := len1_eq (by rw [h]; exact scan_append hsc)
    rw [e, h, List.take_left' rfl]
   have hnext : t.drop (k + (subL sg t k).length) = fillL L r ++ rest := by rw [← List.drop_drop, h, hsub, List.drop_left' rfl]
   have hno : ¬ ((s.getD (vr x) []).length ≠ 0 ∧ s.getD (vr x) [] ≠ subL sg t k) := fun ⟨g1, g2⟩ => g2 (by rw [hsub]; exact hc _ g1)
   have hl' : (s.set (vr x) (subL sg t k)).length = 24 := by rw [List.length_set]; exact hl
   obtain ⟨s', m1, m2, m3⟩ := ih hnext hl' hr hLr (fun i hi => by
    rw [set_get] at hi ⊢
    split
    ·rename_i hcc; rw [hsub, ← hcc.1]
    ·rename_i hcc; rw [if_neg hcc] at hi; exact hc i hi)
   refine ⟨s', by rw [mst_var (by omega) h2 hno]; exact m1, m2, fun y hy h0 => ?_⟩
   rcases List.mem_cons.1 hy with rfl | hy
   ·have hg : (s.set (vr y) (subL sg t k)).getD (vr y) [] = L (vr y) := by rw [set_get, if_pos ⟨rfl, by rw [hl]; exact vr_lt h2 hx0⟩, hsub]
    rw [(mst_ext m1 hl' hr).2 (vr y) (by rw [hg]; omega), hg]
   ·exact m3 y hy h0
def s0 : List (List Int) := List.replicate 24 []
theorem s0_get (i : Nat) : s0.getD i [] = [] := by
 unfold s0
 rw [List.getD_eq_getElem?_getD, List.getElem?_replicate]
 split <;> rfl
def matchO (sg p t : List Int) : Option (List (List Int)) := if (termOkB sg p && termOkB sg t) = true then mst sg t p 0 s0 else none
def instB (sg p t : List Int) : Bool := (matchO sg p t).isSome
theorem match_yes {sg p t : List Int} (h1 : termOkB sg p = true) (h2 : termOkB sg t = true) : matchO sg p t = mst sg t p 0 s0 := by unfold matchO; rw [if_pos (by rw [h1, h2]; rfl)]
theorem match_no {sg p t : List Int} (h : termOkB sg p = false ∨ termOkB sg t = false) : matchO sg p t = none := by
 unfold matchO
 rw [if_neg]
 rcases h with h | h <;> rw [h] <;> simp
theorem inst_no {sg p t : List Int} (h : termOkB sg p = false ∨ termOkB sg t = false) : instB sg p t = false := by unfold instB; rw [match_no h]; rfl
theorem inst_ok {sg p t : List Int} (h : instB sg p t = true) : termOkB sg p = true ∧ termOkB sg t = true := by
 cases h1 : termOkB sg p with
 | false => rw [inst_no (.inl h1)] at h; cases h
 | true =>
  cases h2 : termOkB sg t with
  | false => rw [inst_no (.inr h2)] at h; cases h
  | true => exact ⟨rfl, rfl⟩
def Turns (sg p t : List Int) (L : Nat → List Int) : Prop := fillL L p = t ∧ ∀ x ∈ p, x < 0 → scan sg 1 (L (vr x)) = some (L (vr x)).length
theorem match_turns {sg p t : List Int} {s' : List (List Int)} (h : matchO sg p t = some s') : s'.length = 24 ∧ Turns sg p t (fun i => s'.getD i []) := by
 have h12 : termOkB sg p = true ∧ termOkB sg t = true := inst_ok (by unfold instB; rw [h]; rfl)
 obtain ⟨h1, h2⟩ := h12
 rw [match_yes h1 h2] at h
 have hx : ∀ x ∈ p, -24 ≤ x := fun x hx => (term_mem h1 hx).1
 obtain ⟨⟨rest, e⟩, hv⟩ := mst_sound h2 h (by rfl) hx
 refine ⟨(mst_ext h (by rfl) hx).1, ?_, hv⟩
 rw [List.drop_zero] at e
 have hs := scan_fill (L := fun i => s'.getD i []) (term_parts h1).2.2 hv
 have hs2 := scan_append (r := rest) hs
 rw [← e, (term_parts h2).2.2] at hs2
 injection hs2 with hs2
 have hl := congrArg List.length e
 rw [List.length_append] at hl
 have hr : rest = [] := List.eq_nil_of_length_eq_zero (by omega)
 rw [e, hr, List.append_nil]
theorem turns_match {sg p t : List Int} {L : Nat → List Int} (h1 : termOkB sg p = true) (h2 : termOkB sg t = true) (h : Turns sg p t L) : ∃ s', matchO sg p t = some s' ∧ ∀ x ∈ p, x < 0 → s'.getD (vr x) [] = L (vr x) := by
 rw [match_yes h1 h2]
 obtain ⟨s', m1, _, m3⟩ := mst_full (sg := sg) (t := t) (L := L) (p := p) (k := 0) (s := s0) (rest := []) (by rw [List.drop_zero, List.append_nil, h.1]) (by rfl) (fun x hx => (term_mem h1 hx).1) h.2 (fun i hi => by rw [s0_get] at hi; exact absurd rfl hi)
 exact ⟨s', m1, m3⟩
theorem inst_iff {sg p t : List Int} (h1 : termOkB sg p = true) (h2 : termOkB sg t = true) : instB sg p t = true ↔ ∃ L, Turns sg p t L := by
 constructor
 ·intro h
  unfold instB at h
  obtain ⟨s', hs⟩ := Option.isSome_iff_exists.1 h
  exact ⟨_, (match_turns hs).2⟩
 ·rintro ⟨L, h⟩
  obtain ⟨s', hs, _⟩ := turns_match h1 h2 h
  unfold instB
  rw [hs]; rfl
theorem rep_mem {L : Nat → List Int} : ∀ {p : List Int} {x y : Int}, x ∈ p → x < 0 → y ∈ L (vr x) → y ∈ fillL L p
 | z :: r, x, y, hx, h0, hy => by
  rw [fill_cons]
  rcases List.mem_cons.1 hx with rfl | hx
  ·exact List.mem_append_left _ (by rw [rep_var h0]; exact hy)
  ·exact List.mem_append_right _ (rep_mem hx h0 hy)
theorem turns_trans {sg p q t : List Int} {L M : Nat → List Int} (h : Turns sg p q L) (h' : Turns sg q t M) : Turns sg p t (fun i => fillL M (L i)) := by
 refine ⟨by rw [← fill_fill, h.1, h'.1], fun x hx h0 => ?_⟩
 refine scan_fill (h.2 x hx h0) (fun y hy hy0 => ?_)
 exact h'.2 y (by rw [← h.1]; exact rep_mem hx h0 hy) hy0
theorem inst_trans {sg p q t : List Int} (h : instB sg p q = true) (h' : instB sg q t = true) : instB sg p t = true := by
 obtain ⟨h1, h2⟩ := inst_ok h
 obtain ⟨_, h3⟩ := inst_ok h'
 obtain ⟨L, hL⟩ := (inst_iff h1 h2).1 h
 obtain ⟨M, hM⟩ := (inst_iff h2 h3).1 h'
 exact (inst_iff h1 h3).2 ⟨_, turns_trans hL hM⟩
theorem fill_vt : ∀ p : List Int, fillL vt p = p
 | [] => rfl
 | x :: r => by
  rw [fill_cons, fill_vt r]
  by_cases h : 0 ≤ x
  ·rw [rep_sym h]; rfl
  ·rw [rep_var (by omega)]
   show [-1 - (((-1 - x).toNat : Nat) : Int)] ++ r = x :: r
   rw [show (-1 - (((-1 - x).toNat : Nat) : Int) : Int) = x by omega]
   rfl
theorem scan_one {sg : List Int} {y : Int} (h : -24 ≤ y ∧ y ≤ -1) : scan sg 1 [y] = some [y].length := by
 rw [scan_step (by rw [ar_var h]; omega), ar_var h]
 rfl
theorem inst_refl {sg p : List Int} (h : termOkB sg p = true) : instB sg p p = true :=
 (inst_iff h h).2 ⟨vt, fill_vt p, fun x hx h0 => by
  have := (term_mem h hx).1
  exact scan_one (by unfold vr; omega)⟩
theorem ren_pair {oa ob : List Int} : ∀ {l l' : List Int}, l.map (ren oa) = l'.map (ren ob) → (∀ y ∈ l', y < 0 → y ∈ ob) → fillL (fun i => [ob.getD (idx oa (-1 - (i : Int))) 0]) l = l' ∧ ∀ x ∈ l, x < 0 → ∃ y ∈ l', y < 0 ∧ ob.getD (idx oa x) 0 = y
 | [], [], _, _ => ⟨rfl, fun _ h => absurd h (List.not_mem_nil)⟩
 | [], _ :: _, h, _ => by cases h
 | _ :: _, [], h, _ => by cases h
 | x :: l, y :: l', h, hm => by
  rw [List.map_cons, List.map_cons] at h
  injection h with e1 e2
  obtain ⟨f1, f2⟩ := ren_pair e2 (fun z hz => hm z (List.mem_cons_of_mem _ hz))
  by_cases hx : x < 0
  ·have hy : y < 0 := by
    by_cases hy : y < 0
    ·exact hy
    ·unfold ren at e1; rw [if_pos hx, if_neg hy] at e1; omega
   have hi : idx oa x = idx ob y := by unfold ren at e1; rw [if_pos hx, if_pos hy] at e1; omega
   have hg : ob.getD (idx oa x) 0 = y := by rw [hi]; exact idx_get (hm y (List.mem_cons_self ..) hy)
   refine ⟨?_, fun z hz h0 => ?_⟩
   ·rw [fill_cons, f1, rep_var hx]
    show [ob.getD (idx oa (-1 - ((-1 - x).toNat : Int))) 0] ++ l' = y :: l'
    rw [show (-1 - ((-1 - x).toNat : Int) : Int) = x by omega, hg]
    rfl
   ·rcases List.mem_cons.1 hz with rfl | hz
    ·exact ⟨y, List.mem_cons_self .., hy, hg⟩
    ·obtain ⟨y', g1, g2⟩ := f2 z hz h0
     exact ⟨y', List.mem_cons_of_mem _ g1, g2⟩
  ·have hy : ¬ y < 0 := by
    intro hy
    unfold ren at e1; rw [if_neg hx, if_pos hy] at e1; omega
   have e : x = y := by unfold ren at e1; rwa [if_neg hx, if_neg hy] at e1
   refine ⟨?_, fun z hz h0 => ?_⟩
   ·rw [fill_cons, f1, rep_sym (by omega), e]; rfl
   ·rcases List.mem_cons.1 hz with rfl | hz
    ·exact absurd h0 hx
    ·obtain ⟨y', g1, g2⟩ := f2 z hz h0
     exact ⟨y', List.mem_cons_of_mem _ g1, g2⟩
theorem inst_variant {sg a b : List Int} (h1 : termOkB sg a = true) (h2 : termOkB sg b = true) (h : renL a = renL b) : instB sg a b = true := by
 unfold renL at h
 obtain ⟨f1, f2⟩ := ren_pair h (fun y hy h0 => order_mem.2 ⟨hy, h0⟩)
 refine (inst_iff h1 h2).2 ⟨_, f1, fun x hx h0 => ?_⟩
 obtain ⟨y, g1, g2, g3⟩ := f2 x hx h0
 show scan sg 1 [(orderL b).getD (idx (orderL a) (-1 - ((vr x : Nat) : Int))) 0] = some _
 rw [show (-1 - ((vr x : Nat) : Int) : Int) = x by unfold vr; omega, g3]
 exact scan_one ⟨(term_mem h2 g1).1, by omega⟩
def moreB (sg a b : List Int) : Bool := instB sg a b && !instB sg b a
theorem more_parts {sg a b : List Int} (h : moreB sg a b = true) : instB sg a b = true ∧ instB sg b a = false := by
 unfold moreB at h
 simpa using h
theorem more_trans {sg a b c : List Int} (h : instB sg a b = true) (h' : moreB sg b c = true) : moreB sg a c = true := by
 obtain ⟨g1, g2⟩ := more_parts h'
 have e1 := inst_trans h g1
 have e2 : instB sg c a = false := by
  cases e : instB sg c a with
  | false => rfl
  | true => rw [inst_trans e h] at g2; cases g2
 unfold moreB
 rw [e1, e2]; rfl
theorem more_irrefl {sg a : List Int} : moreB sg a a = false := by
 unfold moreB
 cases instB sg a a <;> rfl
def bestB (sg : List Int) (ps : List (List Int)) (i : Nat) : Bool := (List.range ps.length).all fun k => !(moreB sg (ps.getD k []) (ps.getD i []) || (decide (k < i) && (termOkB sg (ps.getD k []) && (termOkB sg (ps.getD i []) && decide (renL (ps.getD k []) = renL (ps.getD i []))))))
theorem best_yes {sg : List Int} {ps : List (List Int)} {i : Nat} (h : ∀ k, k < ps.length → moreB sg (ps.getD k []) (ps.getD i []) = false ∧ (k < i → renL (ps.getD k []) ≠ renL (ps.getD i []))) : bestB sg ps i = true := by
 unfold bestB
 rw [List.all_eq_true]
 intro k hk
 rw [List.mem_range] at hk
 obtain ⟨h1, h2⟩ := h k hk
 rw [h1]
 by_cases hki : k < i
 ·rw [decide_eq_false (h2 hki)]; simp
 ·rw [decide_eq_false hki]; simp
def manyMore (sg : List Int) (ps : List (List Int)) (i : Nat) : Nat := (List.range ps.length).countP fun k => moreB sg (ps.getD k []) (ps.getD i [])
theorem count_less {l : List Nat} {f g : Nat → Bool} (h : ∀ x ∈ l, f x = true → g x = true) {y : Nat} (hy : y ∈ l) (h1 : f y = false) (h2 : g y = true) : l.countP f < l.countP g := by
 induction l with
 | nil => exact absurd hy (List.not_mem_nil)
 | cons a r ih =>
  have hr : ∀ x ∈ r, f x = true → g x = true := fun x hx => h x (List.mem_cons_of_mem _ hx)
  have hle : r.countP f ≤ r.countP g := List.countP_mono_left hr
  rw [List.countP_cons, List.countP_cons]
  rcases List.mem_cons.1 hy with rfl | hy
  ·rw [h1, h2]; simp; omega
  ·have := ih hr hy
   have ha := h a (List.mem_cons_self ..)
   cases hf : f a with
   | false => cases hg : g a <;> simp <;> omega
   | true => rw [ha hf]; simp; omega
theorem best_ex {sg : List Int} {ps : List (List Int)} (hok : ∀ k, k < ps.length → termOkB sg (ps.getD k []) = true) : ∀ (n i : Nat), manyMore sg ps i ≤ n → i < ps.length → ∃ k, k < ps.length ∧ bestB sg ps k = true ∧ instB sg (ps.getD k []) (ps.getD i []) = true := by
 intro n
 induction n with
 | zero =>
  intro i hn hi
  have hno : ∀ k, k < ps.length → moreB sg (ps.getD k []) (ps.getD i []) = false := fun k hk => by
   cases e : moreB sg (ps.getD k []) (ps.getD i []) with
   | false => rfl
   | true =>
    have : 0 < manyMore sg ps i := List.countP_pos_iff.2 ⟨k, List.mem_range.2 hk, e⟩
    omega
  -- the first variant of i
  have hfirst : ∀ m, m ≤ i → renL (ps.getD m []) = renL (ps.getD i []) → ∃ k, k ≤ i ∧ renL (ps.getD k []) = renL (ps.getD i []) ∧ ∀ j, j < k → renL (ps.getD j []) ≠ renL (ps.getD i []) := by
   intro m
   induction m using Nat.strongRecOn with
   | ind m ihm =>
    intro hm he
    by_cases hx : ∃ j, j < m ∧ renL (ps.getD j []) = renL (ps.getD i [])
    ·obtain ⟨j, j1, j2⟩ := hx
     exact ihm j j1 (by omega) j2
    ·exact ⟨m, hm, he, fun j hj e => hx ⟨j, hj, e⟩⟩
  obtain ⟨k, k1, k2, k3⟩ := hfirst i (Nat.le_refl _) rfl
  have hkn : k < ps.length := by omega
  have hki := inst_variant (hok k hkn) (hok i hi) k2
  refine ⟨k, hkn, best_yes (fun j hj => ⟨?_, fun hjk e => k3 j hjk (e.trans k2)⟩), hki⟩
  cases e : moreB sg (ps.getD j []) (ps.getD k []) with
  | false => rfl
  | true =>
   obtain ⟨g1, g2⟩ := more_parts e
   have hik := inst_variant (hok i hi) (hok k hkn) k2.symm
   have := hno j hj
   have e2 : moreB sg (ps.getD j []) (ps.getD i []) = true := by
    have a1 := inst_trans g1 hki
    have a2 : instB sg (ps.getD i []) (ps.getD j []) = false := by
     cases e3 : instB sg (ps.getD i []) (ps.getD j []) with
     | false => rfl
     | true => rw [inst_trans hki e3] at g2; cases g2
    unfold moreB
    rw [a1, a2]; rfl
   rw [this] at e2; cases e2
 | succ n ih =>
  intro i hn hi
  by_cases hx : ∃ k, k < ps.length ∧ moreB sg (ps.getD k []) (ps.getD i []) = true
  ·obtain ⟨k, k1, k2⟩ := hx
   have hlt : manyMore sg ps k < manyMore sg ps i := count_less (fun j _ hj => more_trans (more_parts hj).1 k2) (List.mem_range.2 k1) more_irrefl k2
   obtain ⟨m, m1, m2, m3⟩ := ih k (by omega) k1
   exact ⟨m, m1, m2, inst_trans m3 (more_parts k2).1⟩
  ·refine ih i ?_ hi
   have : manyMore sg ps i = 0 := by
    unfold manyMore
    rw [List.countP_eq_zero]
    intro k hk e
    exact hx ⟨k, List.mem_range.1 hk, e⟩
   omega
end matchMath
end
section
namespace whole
open Go.RowKit base segs matchMath
set_option maxRecDepth 100000
def z24 : Array Value := Array.replicate 24 (.slice none 0 0)
theorem z24_size : z24.size = 24 := by simp [z24]
section
variable {w w' : World} {B B' g : Nat} {cs : Array Value} {s : List (List Int)} {t : TypeId}
def TabR (w : World) (B : Nat) (cs : Array Value) (s : List (List Int)) : Prop :=
 cs.size = 24 ∧ s.length = 24 ∧ ∀ j, j < 24 → ∃ A n c, cs[j]? = some (.slice A n c) ∧ Seg w B A n (s.getD j []) ∧ Cap A n c
theorem TabR.new (w : World) (B : Nat) : TabR w B z24 s0 :=
 ⟨z24_size, rfl, fun j hj => ⟨none, 0, 0, by simp [z24, hj], by rw [s0_get]; exact Seg.empty, ⟨Nat.le_refl _, by omega, fun _ => rfl⟩⟩⟩
theorem TabR.keep (h : TabR w B cs s) (hk : ∀ p : Addr, p.block < B → w'.cell? p = w.cell? p) : TabR w' B cs s :=
 ⟨h.1, h.2.1, fun j hj => by obtain ⟨A, n, c, e, hs, hc⟩ := h.2.2 j hj; exact ⟨A, n, c, e, hs.keep hk, hc⟩⟩
theorem TabR.more (h : TabR w B cs s) (hB : B ≤ B') : TabR w B' cs s :=
 ⟨h.1, h.2.1, fun j hj => by obtain ⟨A, n, c, e, hs, hc⟩ := h.2.2 j hj; exact ⟨A, n, c, e, hs.more hB, hc⟩⟩
theorem TabR.below (h : TabR w B cs s) (hb : Below B w w') : TabR w' B cs s := h.keep fun _ hp => hb.cell hp
theorem TabR.put (h : TabR w B cs s) {j : Nat} (hj : j < 24) {A : Option Addr} {n c : Nat} {ys : List Int} (hs : Seg w B A n ys) (hc : Cap A n c) : TabR w B (cs.setIfInBounds j (.slice A n c)) (s.set j ys) := by
 refine ⟨by rw [Array.size_setIfInBounds]; exact h.1, by rw [List.length_set]; exact h.2.1, fun i hi => ?_⟩
 by_cases e : j = i
 ·subst e
  exact ⟨A, n, c, by rw [Array.getElem?_setIfInBounds_self_of_lt (by rw [h.1]; exact hj)], by rw [set_get, if_pos ⟨rfl, by rw [h.2.1]; exact hj⟩]; exact hs, hc⟩
 ·obtain ⟨A', n', c', e', hs', hc'⟩ := h.2.2 i hi
  exact ⟨A', n', c', by rw [Array.getElem?_setIfInBounds_ne e]; exact e', by rw [set_get, if_neg (fun hh => e hh.1)]; exact hs', hc'⟩
theorem TabR.one (h : TabR w B cs s) : cs.all (·.oneCell') = true := by
 rw [Array.all_eq_true]
 intro i hi
 obtain ⟨A, n, c, e, _⟩ := h.2.2 i (by rw [← h.1]; exact hi)
 rw [Array.getElem?_eq_getElem hi] at e
 injection e with e
 rw [e]; rfl
theorem TabR.segs (h : TabR w B cs s) (hr : Row w g t cs) (hB : B ≤ w.heap.size) : Segs w w.heap.size (some ⟨g, 0, none⟩) 24 s := by
 refine ⟨h.2.1, fun _ => ⟨g, 0, rfl, hr.lt, fun j hj => ?_⟩⟩
 obtain ⟨A, n, c, e, hs, hc⟩ := h.2.2 j hj
 exact ⟨A, n, c, by rw [Nat.zero_add, hr.cell j, e], hs.more hB, hc⟩
end
end whole
end
section
open Go.Lib (hid)
namespace inside
open Go.RowKit base ints sig term arity endOf cursor termOk endAt
set_option maxRecDepth 100000
def Tells (w : World) (b : Bool) (e : Ending) (w' : World) : Prop := e = .returned (.bool b) ∧ Below w.heap.size w w'
structure Fr (w wr : World) (A : Option Addr) (n c : Nat) (sg : List Int) (A' : Option Addr) (m : Nat) (t : List Int) : Prop where
 r : Row wr w.heap.size 26 #[.slice A n c]
 s : Seg wr w.heap.size A n sg
 s' : Seg wr w.heap.size A' m t
 b : Below w.heap.size w wr
section
variable {w wr w' : World} {A : Option Addr} {n c : Nat} {sg : List Int} {A' : Option Addr} {m : Nat} {t : List Int}
theorem Fr.start (h : Seg w w.heap.size A n sg) (h' : Seg w w.heap.size A' m t) : Fr w (w.alloc (.cells #[.slice A n c] 26)) A n c sg A' m t :=
 have b : Below w.heap.size w (w.alloc (.cells #[.slice A n c] 26)) := (Below.refl _ _).alloc (Nat.le_refl _) _
 ⟨Row.new _ _ _, h.below b, h'.below b, b⟩
theorem Fr.next (f : Fr w wr A n c sg A' m t) (hb : Below wr.heap.size wr w') : Fr w w' A n c sg A' m t :=
 have b : Below w.heap.size wr w' := hb.mono (Nat.le_of_lt f.r.lt)
 ⟨f.r.next hb, f.s.below b, f.s'.below b, f.b.trans b⟩
theorem Fr.over (f : Fr w wr A n c sg A' m t) (hb : Below (w.heap.size + 1) wr w') : Fr w w' A n c sg A' m t :=
 have b : Below w.heap.size wr w' := hb.mono (Nat.le_succ _)
 ⟨f.r.below hb (Nat.lt_succ_self _), f.s.below b, f.s'.below b, f.b.trans b⟩
theorem Fr.cell (f : Fr w wr A n c sg A' m t) : wr.cell? ⟨w.heap.size, 0, none⟩ = some (.slice A n c) := f.r.cell 0
theorem Fr.s1 (f : Fr w wr A n c sg A' m t) : Seg wr wr.heap.size A n sg := f.s.more (Nat.le_of_lt f.r.lt)
theorem Fr.t1 (f : Fr w wr A n c sg A' m t) : Seg wr wr.heap.size A' m t := f.s'.more (Nat.le_of_lt f.r.lt)
theorem Fr.size (f : Fr w wr A n c sg A' m t) : w.heap.size < wr.heap.size := f.r.lt
end
set_option maxHeartbeats 1000000 in
theorem right (A A' : Option Addr) (n c m c' : Nat) (sg t : List Int) (x : Int) (w : World) (h : Seg w w.heap.size A n sg) (h' : Seg w w.heap.size A' m t) (hn : n ≤ 1048576) (hm : m ≤ 1048576) :
  Calls Try.prog 89 #[.agg #[.slice A n c], .slice A' m c', .int .i64 x] w (Tells w (thereB sg t x)) := by
 obtain ⟨W, hW⟩ : ∃ W, W = w.alloc (.cells #[.slice A n c] 26) := ⟨_, rfl⟩
 have f : Fr w W A n c sg A' m t := by rw [hW]; exact Fr.start h h'
 have HW := hid hW
 have HL := hid h'.1
 have L := hid (specTermOk A A' n c m c' sg t W f.s1 f.t1 hn hm)
 clear hW h h'
 cases hok : termOkB sg t with
 | false =>
  have HS := hid hok
  have HT := hid (there_no (x := x) (.inl hok))
  clear hok
  go_enter Try.func89, Try.ntmps89
  go_wp2_with fail
  rw [← HW.out]
  refine L.out.mono ?_
  rintro e w1 ⟨he, bb⟩
  rw [HS.out] at he
  subst he
  have F := hid (show Tells w (thereB sg t x) (.returned (.bool false)) w1 from ⟨by rw [HT.out], (f.next bb).b⟩)
  clear f L bb HT
  go_wp2
  go_ret
  exact F.out
 | true =>
  have HS := hid hok
  obtain ⟨b, hb⟩ : ∃ b, decide (0 ≤ x ∧ x < (m : Int)) = b := ⟨_, rfl⟩
  have HD := hid hb
  have HT : thereB sg t x = b := by unfold thereB inB; rw [hok, HL.out, hb]; rfl
  replace HT := hid HT
  clear hok hb
  go_enter Try.func89, Try.ntmps89
  go_wp2_with fail
  rw [← HW.out]
  refine L.out.mono ?_
  rintro e w1 ⟨he, bb⟩
  rw [HS.out] at he
  subst he
  have F := hid (show Tells w (thereB sg t x) (.returned (.bool b)) w1 from ⟨by rw [HT.out], (f.next bb).b⟩)
  clear f L bb HT
  go_wp2_with fail
  refine (there _ _ _ x b _ hm HD.out).mono ?_
  rintro e w2 ⟨rfl, rfl⟩
  go_wp2
  go_ret
  exact F.out
end inside
end
section
open Go.Lib (hid)
namespace matchSpec
open Go.RowKit base ints sig same term termOk endAt inside marks app sym sub segs segsHelp termFacts termMath posMath plainMath plain plainOf gives cursor matchMath
set_option maxRecDepth 100000
structure Tab (w : World) (T : Nat) (s : List (List Int)) : Prop where
 len : s.length = 24
 row : ∃ cs, Row w T 24 cs ∧ cs.size = 24 ∧ ∀ j, j < 24 → ∃ A n c, cs[j]? = some (.slice A n c) ∧ Own w (T + 1) (.slice A n c) (s.getD j [])
section
variable {w w' : World} {T : Nat} {s : List (List Int)}
theorem Tab.next (h : Tab w T s) (hb : Below w.heap.size w w') : Tab w' T s := by
 obtain ⟨cs, hr, hs, hc⟩ := h.row
 exact ⟨h.len, cs, hr.next hb, hs, fun j hj => by obtain ⟨A, n, c, e, ho⟩ := hc j hj; exact ⟨A, n, c, e, Own.next ho hb⟩⟩
theorem Tab.at (h : Tab w T s) {j : Nat} (hj : j < 24) : ∃ A n c, w.cell? ⟨T, j, none⟩ = some (.slice A n c) ∧ Own w (T + 1) (.slice A n c) (s.getD j []) := by
 obtain ⟨cs, hr, hs, hc⟩ := h.row
 obtain ⟨A, n, c, e, ho⟩ := hc j hj
 exact ⟨A, n, c, by rw [hr.cell j, e], ho⟩
theorem Tab.free (h : Tab w T s) (j : Nat) : w.frozen? ⟨T, j, none⟩ = false := by obtain ⟨cs, hr, _⟩ := h.row; exact hr.free j
theorem Tab.put (h : Tab w T s) {j : Nat} (hj : j < 24) {A : Option Addr} {n c : Nat} {ys : List Int} (ho : Own w (T + 1) (.slice A n c) ys) : Tab (w.setCell ⟨T, j, none⟩ (.slice A n c)) T (s.set j ys) := by
 obtain ⟨cs, hr, hs, hc⟩ := h.row
 have hg : w.grownBy (w.setCell ⟨T, j, none⟩ (.slice A n c)) (some T) := grown_put (World.grownBy.refl _ _) _ _
 have far : ∀ {A' : Option Addr} {n' c' : Nat} {zs : List Int}, Own w (T + 1) (.slice A' n' c') zs → Own (w.setCell ⟨T, j, none⟩ (.slice A n c)) (T + 1) (.slice A' n' c') zs := fun h => Own.far h hg (fun k hk => by injection hk; omega)
 refine ⟨by rw [List.length_set]; exact h.len, cs.setIfInBounds j (.slice A n c), hr.put j _, by rw [Array.size_setIfInBounds]; exact hs, fun i hi => ?_⟩
 by_cases e : j = i
 ·subst e
  exact ⟨A, n, c, by rw [Array.getElem?_setIfInBounds_self_of_lt (by omega)], by rw [set_get, if_pos ⟨rfl, by rw [h.len]; exact hj⟩]; exact far ho⟩
 ·obtain ⟨A', n', c', e', ho'⟩ := hc i hi
  exact ⟨A', n', c', by rw [Array.getElem?_setIfInBounds_ne e]; exact e', by rw [set_get, if_neg (fun hh => e hh.1)]; exact far ho'⟩
theorem Tab.segs (h : Tab w T s) : Segs w w.heap.size (some ⟨T, 0, none⟩) 24 s := by
 obtain ⟨cs, hr, hs, hc⟩ := h.row
 refine ⟨h.len, fun _ => ⟨T, 0, rfl, hr.lt, fun j hj => ?_⟩⟩
 obtain ⟨A, n, c, e, ho⟩ := hc j hj
 refine ⟨A, n, c, by rw [Nat.zero_add, hr.cell j, e], ?_, ?_⟩
 ·have := Own.len ho; exact Own.seg ho
 ·rcases ho.form with ⟨e1, _⟩ | ⟨g, c', cur, e1, _, _, _, _⟩
  ·injection e1 with e1 e2 e3; subst e1 e2 e3; exact ⟨Nat.le_refl _, by omega, fun _ => rfl⟩
  ·exact look.own_cap ho
end
theorem Tab.new (w : World) : Tab (w.alloc (.cells (madeCells #[.slice none 0 0] 24) 24)) w.heap.size s0 := by
 refine ⟨rfl, _, Row.new _ _ _, size_madeCells _ _, fun j hj => ⟨none, 0, 0, ?_, by rw [s0_get]; exact Own.nil _ _⟩⟩
 simp [madeCells, hj, Nat.mod_one]
def resL (R : Option (List (List Int))) : List (List Int) := match R with
 | some s => plainL (givesL s) 24
 | none => []
def AnsM (w : World) (xss : List (List Int)) (b : Bool) (e : Ending) (w' : World) : Prop := ∃ A n c, e = .returned (.tuple #[.agg #[.slice A n c], .bool b]) ∧ Owns w' w.heap.size w'.heap.size A n c xss ∧ Below w.heap.size w w'
theorem ansM_no {w w' : World} {R : Option (List (List Int))} (h : R = none) (hb : Below w.heap.size w w') : AnsM w (resL R) R.isSome (.returned (.tuple #[.agg #[.slice none 0 0], .bool false])) w' :=
 ⟨none, 0, 0, by rw [h]; rfl, by rw [h]; exact Owns.nil _ _ _, hb⟩
structure Mt (w wr : World) (A : Option Addr) (n c : Nat) (sg : List Int) (P : Option Addr) (pn : Nat) (p : List Int) (Q : Option Addr) (m : Nat) (t : List Int) (s : List (List Int)) : Prop where
 r0 : Row wr w.heap.size 26 #[.slice A n c]
 r1 : Row wr (w.heap.size + 1) 31 #[.slice none 0 0]
 r3 : Row wr (w.heap.size + 1 + 1 + 1) 31 #[.slice (some ⟨w.heap.size + 1 + 1, 0, none⟩) 24 24]
 tb : Tab wr (w.heap.size + 1 + 1) s
 ss : Seg wr w.heap.size A n sg
 sp : Seg wr w.heap.size P pn p
 st : Seg wr w.heap.size Q m t
 b : Below w.heap.size w wr
section
variable {w wr w' : World} {A : Option Addr} {n c : Nat} {sg : List Int} {P : Option Addr} {pn : Nat} {p : List Int} {Q : Option Addr} {m : Nat} {t : List Int} {s : List (List Int)}
theorem Mt.next (h : Mt w wr A n c sg P pn p Q m t s) (hb : Below wr.heap.size wr w') : Mt w w' A n c sg P pn p Q m t s :=
 have b : Below w.heap.size wr w' := hb.mono h.b.size
 ⟨h.r0.next hb, h.r1.next hb, h.r3.next hb, h.tb.next hb, h.ss.below b, h.sp.below b, h.st.below b, h.b.trans b⟩
theorem Mt.put (h : Mt w wr A n c sg P pn p Q m t s) {j : Nat} (hj : j < 24) {D : Option Addr} {dn dc : Nat} {ys : List Int} (ho : Own wr (w.heap.size + 1 + 1 + 1) (.slice D dn dc) ys) : Mt w (wr.setCell ⟨w.heap.size + 1 + 1, j, none⟩ (.slice D dn dc)) A n c sg P pn p Q m t (s.set j ys) :=
 ⟨h.r0.far (show w.heap.size ≠ w.heap.size + 1 + 1 by omega) _, h.r1.far (show w.heap.size + 1 ≠ w.heap.size + 1 + 1 by omega) _, h.r3.far (show w.heap.size + 1 + 1 + 1 ≠ w.heap.size + 1 + 1 by omega) _, h.tb.put hj ho, h.ss.put (show w.heap.size ≤ w.heap.size + 1 + 1 by omega) _, h.sp.put (show w.heap.size ≤ w.heap.size + 1 + 1 by omega) _, h.st.put (show w.heap.size ≤ w.heap.size + 1 + 1 by omega) _, h.b.setCell (show w.heap.size ≤ w.heap.size + 1 + 1 by omega) _⟩
end
set_option maxHeartbeats 1000000 in
theorem l4Match (A P Q : Option Addr) (n c pn pc m mc : Nat) (sg p t : List Int) (w : World) (h : Seg w w.heap.size A n sg) (hp : Seg w w.heap.size P pn p) (ht : Seg w w.heap.size Q m t) (hn : n ≤ 1048576) (hpn : pn ≤ 60) (hm : m ≤ 60) (hmc : m ≤ mc) (hmc2 : mc ≤ 9223372036854775807)
  (hokp : termOkB sg p = true) (hokt : termOkB sg t = true) :
  Calls Try.prog 38 #[.agg #[.slice A n c], .slice P pn pc, .slice Q m mc] w (AnsM w (resL (mst sg t p 0 s0)) (mst sg t p 0 s0).isSome) := by
 obtain ⟨W0, hW0⟩ : ∃ W, W = (w.alloc (.cells #[.slice A n c] 26)).alloc (.cells #[.slice none 0 0] 31) := ⟨_, rfl⟩
 have z0 : W0.heap.size = w.heap.size + 1 + 1 := by rw [hW0]; simp
 obtain ⟨W, hW⟩ : ∃ W, W = (W0.alloc (.cells (madeCells #[.slice none 0 0] 24) 24)).alloc (.cells #[.slice (some ⟨w.heap.size + 1 + 1, 0, none⟩) 24 24] 31) := ⟨_, rfl⟩
 have b0 : Below w.heap.size w W0 := by rw [hW0]; exact ((Below.refl _ _).alloc (Nat.le_refl _) _).alloc (by simp) _
 have b1 : Below w.heap.size w W := by rw [hW]; exact (b0.alloc b0.size _).alloc (by simp; omega) _
 have hmk : ∀ W : World, (Instr.makeSlice 29 (.int .i64 24) (.int .i64 24)).run Try.prog W = .ok (.slice (some ⟨W.heap.size, 0, none⟩) 24 24) (W.alloc (.cells (madeCells #[.slice none 0 0] 24) 24)) := fun W => run_make_lists 24 (by omega) W
 have M0 : Mt w W A n c sg P pn p Q m t s0 := by
  refine ⟨?_, ?_, ?_, ?_, h.below b1, hp.below b1, ht.below b1, b1⟩
  ·rw [hW, hW0]; exact (((Row.new w _ _).alloc _).alloc _).alloc _
  ·rw [hW, hW0]
   have := (((Row.new (w.alloc (.cells #[.slice A n c] 26)) 31 #[.slice none 0 0]).alloc (.cells (madeCells #[.slice none 0 0] 24) 24)).alloc (.cells #[.slice (some ⟨w.heap.size + 1 + 1, 0, none⟩) 24 24] 31))
   simpa using this
  ·rw [hW]
   have := Row.new (W0.alloc (.cells (madeCells #[.slice none 0 0] 24) 24)) 31 #[.slice (some ⟨w.heap.size + 1 + 1, 0, none⟩) 24 24]
   have e : (W0.alloc (.cells (madeCells #[.slice none 0 0] 24) 24)).heap.size = w.heap.size + 1 + 1 + 1 := by simp; omega
   rwa [e] at this
  ·rw [hW]
   have := (Tab.new W0).next ((Below.refl _ _).alloc (Nat.le_refl _) (.cells #[.slice (some ⟨w.heap.size + 1 + 1, 0, none⟩) 24 24] 31))
   rwa [z0] at this
 have HW := hid hW
 have HW0 := hid hW0
 have HLP := hid hp.1
 have HLT := hid ht.1
 have HT := hid hokt
 have HPM : Hid (∀ i, i < pn → -24 ≤ p.getD i 0) := hid (fun i hi => (term_num hokp (by rw [hp.1]; exact hi)).1)
 have hars := (sig_arities (termOk_parts hokt).1).1
 obtain ⟨R, hR⟩ : ∃ R, mst sg t p 0 s0 = R := ⟨_, rfl⟩
 rw [hR]
 have HR := hid hR
 have HM0 := hid M0
 clear hW hW0 h hp ht b0 b1 M0 hokp hokt hR z0
 go_enter Try.func38, Try.ntmps38
 go_wp2_with fail
 clear hmk
 go_loopg [9, 10] pn (fun g k i wr => ∃ (k' i' : Nat) (s : List (List Int)), k = .int .i64 k' ∧ i = .int .i64 i' ∧ i' + g = pn ∧ k' ≤ m ∧ mst sg t (p.drop i') k' s = R ∧ (∀ j, (s.getD j []).length ≤ 60) ∧ Mt w wr A n c sg P pn p Q m t s)
 case atStart =>
  have hM := HM0.out
  rw [HW.out, HW0.out] at hM
  exact ⟨0, 0, s0, rfl, rfl, by omega, Nat.zero_le _, HR.out, fun j => by rw [s0_get]; simp, hM⟩
 case round =>
  obtain ⟨k, i, s, rfl, rfl, hi, hk, hmst, hs60, M⟩ := hrel
  clear HM0 HW HW0
  have HI := hid hi
  have HMS := hid hmst
  have HS60 := hid hs60
  clear hi hmst hs60
  by_cases hip : i < pn
  ·have hgk := hid (show gk - 1 < gk ∧ i + 1 + (gk - 1) = pn by have := HI.out; omega)
   obtain ⟨bp, op, x, rfl, hbp, hx, ex⟩ := M.sp.spot hip
   have hx24 := HPM.out i hip
   rw [ex.out] at hx24
   have HD := hid (show p.drop i = x :: p.drop (i + 1) by rw [drop_cons (by rw [HLP.out]; exact hip), ex.out])
   have cR : wr.cell? ⟨w.heap.size + 1, 0, none⟩ = some (.slice none 0 0) := M.r1.cell 0
   have fR : wr.frozen? ⟨w.heap.size + 1, 0, none⟩ = false := M.r1.free 0
   by_cases hkm : k < m
   ·obtain ⟨bt, ot, y, rfl, hbt, hy, ey⟩ := M.st.spot hkm
    have hkl : ¬ t.length ≤ k := by rw [HLT.out]; omega
    by_cases hx0 : 0 ≤ x
    ·by_cases hxy : x = y
     ·subst hxy
      have S := hid (show mst sg t (p.drop (i + 1)) (k + 1) s = R by rw [← HMS.out, HD.out, mst_sym hkl hx0 ey.out.symm])
      have HM := hid (fun d => M.next (below_drewN (Below.refl _ _) d))
      have hd : (x != x) = false := by simp
      clear M ex ey HD
      go_wp2
      go_quiet (fail)
      go_wp2
      go_roundg (gk - 1)
      case measure => exact hgk.out.1
      case rel => exact ⟨k + 1, i + 1, s, by simp, by simp, hgk.out.2, by omega, S.out, HS60.out, HM.out _⟩
     ·have HN := hid (show R = none by rw [← HMS.out, HD.out, mst_symNo hkl hx0 (by rw [ey.out]; exact hxy)])
      have HM := hid (fun d => M.next (below_drewN (Below.refl _ _) d))
      have hd : (x != y) = true := by simp [hxy]
      have F1 := hid (fun d => ansM_no (w := w) HN.out (below_drewN M.b d))
      have F2 := hid (fun d => ansM_no (w := w) HN.out ((below_drewN M.b d).setCell (p := ⟨w.heap.size + 1, 0, none⟩) (show w.heap.size ≤ w.heap.size + 1 by omega) (.slice none 0 0)))
      clear M ex ey HD HM
      go_wp2
      go_quiet (fail)
      go_wp2
      first
       | exact bodyPost_ret (v := .tuple #[.agg #[.slice none 0 0], .bool false]) (by simp [results, Try.results38, go_sem, cR]) rfl (F1.out _)
       | exact bodyPost_ret (v := .tuple #[.agg #[.slice none 0 0], .bool false]) (by simp [results, Try.results38, go_sem, cR]) rfl (F2.out _)
    ·obtain ⟨v, hv⟩ : ∃ v : Nat, x = -1 - (v : Int) := ⟨(-1 - x).toNat, by omega⟩
     subst hv
     have hv24 : v < 24 := by omega
     have hvr : vr (-1 - (v : Int)) = v := by unfold vr; omega
     obtain ⟨t1, t2, t3⟩ := term_at HT.out (show k < t.length by rw [HLT.out]; exact hkm)
     rw [HLT.out] at t3
     have hsl := (sub_len1 HT.out (show k < t.length by rw [HLT.out]; exact hkm)).1
     have cA : wr.cell? ⟨w.heap.size, 0, none⟩ = some (.slice A n c) := M.r0.cell 0
     have LS := hid (l1Sub A (some ⟨bt, ot, none⟩) n c m mc sg t k (len1 sg t k) wr (M.ss.more M.b.size) (M.st.more M.b.size) hn (by omega) hmc hmc2 hars hkm t1 t2 t3)
     obtain ⟨ys, hys⟩ : ∃ ys, subL sg t k = ys := ⟨_, rfl⟩
     rw [hys] at LS hsl
     have HYS := hid hys
     have hyl : k + ys.length ≤ m := by rw [hsl]; exact t3
     have hyl60 : ys.length ≤ 60 := by omega
     have hwr := M.b.size
     have hw3 := M.r3.lt
     clear hys t1 t2 t3 hsl hy ey cR fR
     go_wp2_with fail
     refine LS.out.mono ?_
     rintro e w1 ⟨D, dn, dc, rfl, od, bb⟩
     replace M := M.next bb
     have hx1 : w1.cell? ⟨bp, op + i, none⟩ = some (.int .i64 (-1 - (v : Int))) := (bb.cell (p := ⟨bp, op + i, none⟩) (show bp < wr.heap.size by omega)).trans hx
     obtain rfl : dn = ys.length := Own.len od
     replace od := Own.lower (base' := w.heap.size + 1 + 1 + 1) od (by omega)
     obtain ⟨Ao, no, co, hc, oo⟩ := M.tb.at hv24
     obtain ⟨os, hos⟩ : ∃ os, s.getD v [] = os := ⟨_, rfl⟩
     rw [hos] at oo
     have HOS := hid hos
     have HNO := hid (Own.len oo)
     have hno60 : no ≤ 60 := by rw [HNO.out, ← hos]; exact HS60.out v
     have c3 : w1.cell? ⟨w.heap.size + 1 + 1 + 1, 0, none⟩ = some (.slice (some ⟨w.heap.size + 1 + 1, 0, none⟩) 24 24) := M.r3.cell 0
     have hw1 : IntKind.i64.wrap (-1 - (-1 - (v : Int))) = (v : Int) := by rw [IntKind.wrap_i64]; omega
     have hw2 : IntKind.i64.wrap (v : Int) = (v : Int) := by rw [IntKind.wrap_i64]; omega
     have j0 : (0 : Int) ≤ (v : Int) := by omega
     have j1 : (v : Int) < 24 := by omega
     have HMD := hid (fun d => M.next (below_drewN (Below.refl _ _) d))
     have HOD := hid (fun d => Own.drewN od d)
     have HOO := hid (fun d => Own.drewN oo d)
     have HC := hid hc
     have HX1 := hid hx1
     have HVR := hid hvr
     clear bb hx LS M od oo hos hvr
     go_wp2
     go_quiet (fail)
     generalize hd1 : w1.drewN _ = w2
     have M : Mt w w2 A n c sg (some ⟨bp, op, none⟩) pn p (some ⟨bt, ot, none⟩) m t s := by rw [← hd1]; exact HMD.out _
     have od : Own w2 (w.heap.size + 1 + 1 + 1) (.slice D ys.length dc) ys := by rw [← hd1]; exact HOD.out _
     have oo : Own w2 (w.heap.size + 1 + 1 + 1) (.slice Ao no co) os := by rw [← hd1]; exact HOO.out _
     clear hd1 HMD HOD HOO hx1 c3 hc
     have cR : w2.cell? ⟨w.heap.size + 1, 0, none⟩ = some (.slice none 0 0) := M.r1.cell 0
     have fR : w2.frozen? ⟨w.heap.size + 1, 0, none⟩ = false := M.r1.free 0
     by_cases hn0 : no = 0
     ·have hno2 : ¬ ((s.getD (vr (-1 - (v : Int))) []).length ≠ 0 ∧ s.getD (vr (-1 - (v : Int))) [] ≠ subL sg t k) := by
       rw [HVR.out, HOS.out]
       intro h
       exact h.1 (by rw [← HNO.out]; exact hn0)
      subst hn0
      have S := hid (show mst sg t (p.drop (i + 1)) (k + ys.length) (s.set v ys) = R by rw [← HMS.out, HD.out, mst_var hkl (show ¬ 0 ≤ -1 - (v : Int) by omega) hno2, HVR.out, HYS.out])
      have hs2 := hid (show ∀ j, ((s.set v ys).getD j []).length ≤ 60 from fun j => by rw [set_get]; split; exact hyl60; exact HS60.out j)
      have hxq : w2.cell? ⟨bp, op + i, none⟩ = some (.int .i64 (-1 - (v : Int))) := by
       obtain ⟨b', o', x', e', -, hq, ex'⟩ := M.sp.spot hip
       injection e' with e'
       injection e' with e1 e2
       subst e1 e2
       rw [hq, ← ex'.out, ex.out]
      have c3q : w2.cell? ⟨w.heap.size + 1 + 1 + 1, 0, none⟩ = some (.slice (some ⟨w.heap.size + 1 + 1, 0, none⟩) 24 24) := M.r3.cell 0
      have fT : w2.frozen? ⟨w.heap.size + 1 + 1, v, none⟩ = false := M.tb.free v
      obtain ⟨A9, n9, c9, hcq, -⟩ := M.tb.at hv24
      have HM2 := hid (fun d => (M.next (below_drewN (Below.refl _ _) d)).put hv24 (Own.drewN od d))
      clear M od
      go_wp2
      go_region
      go_wp2
      go_roundg (gk - 1)
      case measure => exact hgk.out.1
      case rel => exact ⟨k + ys.length, i + 1, s.set v ys, by simp, by simp, hgk.out.2, hyl, S.out, hs2.out, HM2.out _⟩
     ·have hpos : (0 : Int) < (no : Int) := by omega
      go_wp2_with fail
      refine (specSame Ao D no ys.length co dc os ys w2 (Own.seg oo) (Own.seg od) (by omega) (by omega)).mono ?_
      rintro e w3 ⟨he, d3, rfl⟩
      replace M := M.next (below_drewN (Below.refl _ _) d3)
      replace od := Own.drewN od d3
      clear oo cR fR
      generalize w2.drewN d3 = w3 at *
      have cR : w3.cell? ⟨w.heap.size + 1, 0, none⟩ = some (.slice none 0 0) := M.r1.cell 0
      have fR : w3.frozen? ⟨w.heap.size + 1, 0, none⟩ = false := M.r1.free 0
      by_cases hoy : os = ys
      ·rw [decide_eq_true hoy] at he
       subst he
       have hno2 : ¬ ((s.getD (vr (-1 - (v : Int))) []).length ≠ 0 ∧ s.getD (vr (-1 - (v : Int))) [] ≠ subL sg t k) := by
        rw [HVR.out, HOS.out, HYS.out]
        intro h
        exact h.2 hoy
       have S := hid (show mst sg t (p.drop (i + 1)) (k + ys.length) (s.set v ys) = R by rw [← HMS.out, HD.out, mst_var hkl (show ¬ 0 ≤ -1 - (v : Int) by omega) hno2, HVR.out, HYS.out])
       have hs2 := hid (show ∀ j, ((s.set v ys).getD j []).length ≤ 60 from fun j => by rw [set_get]; split; exact hyl60; exact HS60.out j)
       have hxq : w3.cell? ⟨bp, op + i, none⟩ = some (.int .i64 (-1 - (v : Int))) := by
        obtain ⟨b', o', x', e', -, hq, ex'⟩ := M.sp.spot hip
        injection e' with e'
        injection e' with e1 e2
        subst e1 e2
        rw [hq, ← ex'.out, ex.out]
       have c3q : w3.cell? ⟨w.heap.size + 1 + 1 + 1, 0, none⟩ = some (.slice (some ⟨w.heap.size + 1 + 1, 0, none⟩) 24 24) := M.r3.cell 0
       have fT : w3.frozen? ⟨w.heap.size + 1 + 1, v, none⟩ = false := M.tb.free v
       obtain ⟨A9, n9, c9, hcq, -⟩ := M.tb.at hv24
       have HM2 := hid (fun d => (M.next (below_drewN (Below.refl _ _) d)).put hv24 (Own.drewN od d))
       clear M od
       go_wp2
       go_region
       go_wp2
       go_roundg (gk - 1)
       case measure => exact hgk.out.1
       case rel => exact ⟨k + ys.length, i + 1, s.set v ys, by simp, by simp, hgk.out.2, hyl, S.out, hs2.out, HM2.out _⟩
      ·rw [decide_eq_false hoy] at he
       subst he
       have HN := hid (show R = none by
        rw [← HMS.out, HD.out, mst_varNo hkl (show ¬ 0 ≤ -1 - (v : Int) by omega) (by
         rw [HVR.out, HOS.out, HYS.out]
         exact ⟨by rw [← HNO.out]; exact hn0, hoy⟩)])
       have F1 := hid (ansM_no (w := w) HN.out M.b)
       have F2 := hid (ansM_no (w := w) HN.out ((M.b).setCell (p := ⟨w.heap.size + 1, 0, none⟩) (show w.heap.size ≤ w.heap.size + 1 by omega) (.slice none 0 0)))
       clear M od ex HD
       go_wp2
       first
        | exact bodyPost_ret (v := .tuple #[.agg #[.slice none 0 0], .bool false]) (by simp [results, Try.results38, go_sem, cR]) rfl F1.out
        | exact bodyPost_ret (v := .tuple #[.agg #[.slice none 0 0], .bool false]) (by simp [results, Try.results38, go_sem, cR]) rfl F2.out
   ·have HN := hid (show R = none by rw [← HMS.out, HD.out, mst_out (by rw [HLT.out]; omega)])
    have hge : (m : Int) ≤ (k : Int) := by omega
    have F1 := hid (ansM_no (w := w) HN.out M.b)
    have F2 := hid (ansM_no (w := w) HN.out ((M.b).setCell (p := ⟨w.heap.size + 1, 0, none⟩) (show w.heap.size ≤ w.heap.size + 1 by omega) (.slice none 0 0)))
    clear M ex HD
    go_wp2
    first
     | exact bodyPost_ret (v := .tuple #[.agg #[.slice none 0 0], .bool false]) (by simp [results, Try.results38, go_sem, cR]) rfl F1.out
     | exact bodyPost_ret (v := .tuple #[.agg #[.slice none 0 0], .bool false]) (by simp [results, Try.results38, go_sem, cR]) rfl F2.out
  ·have hipn : i = pn := by have := HI.out; omega
   have hRs : R = some s := by rw [← HMS.out, hipn, List.drop_eq_nil_of_le (by rw [HLP.out]; exact Nat.le_refl _)]; rfl
   have HRS := hid hRs
   have hlen := M.tb.len
   have htot : tot s ≤ 1048576 := by have := tot_le (M := 60) HS60.out; rw [hlen] at this; omega
   have LP := hid (l2Plain _ 24 24 s _ M.tb.segs htot)
   have c3 : wr.cell? ⟨w.heap.size + 1 + 1 + 1, 0, none⟩ = some (.slice (some ⟨w.heap.size + 1 + 1, 0, none⟩) 24 24) := M.r3.cell 0
   have z1 := M.b.size
   have r1 := M.r1
   have hb := M.b
   have zr := M.r3.lt
   clear hRs hlen htot M hipn
   go_wp2_with fail
   refine LP.out.mono ?_
   rintro e w2 ⟨D, dn, dc, rfl, od, bb⟩
   replace r1 := r1.next bb
   replace hb := next_trans hb bb
   have cR : w2.cell? ⟨w.heap.size + 1, 0, none⟩ = some (.slice none 0 0) := r1.cell 0
   have fR : w2.frozen? ⟨w.heap.size + 1, 0, none⟩ = false := r1.free 0
   have F : AnsM w (resL R) R.isSome (.returned (.tuple #[.agg #[.slice D dn dc], .bool true])) (w2.setCell ⟨w.heap.size + 1, 0, none⟩ (.slice D dn dc)) := by
    have hbt : Btw (w.heap.size + 1) (w.heap.size + 2) w2 (w2.setCell ⟨w.heap.size + 1, 0, none⟩ (.slice D dn dc)) := Btw.of_grown (grown_put (World.grownBy.refl _ _) _ _) (fun k hk => by injection hk; omega)
    have o2 := od.btw hbt (.inr (by omega))
    refine ⟨D, dn, dc, by rw [HRS.out]; rfl, ?_, hb.setCell (p := ⟨w.heap.size + 1, 0, none⟩) (show w.heap.size ≤ w.heap.size + 1 by omega) _⟩
    rw [HRS.out]
    exact o2.wider z1 (by simp)
   have HF := hid F
   clear F od bb hb r1 LP
   go_wp2
   exact bodyPost_ret (v := .tuple #[.agg #[.slice D dn dc], .bool true]) (by simp [results, Try.results38, go_sem, cR]) rfl HF.out
structure Mr (w wr : World) (A : Option Addr) (n c : Nat) (sg : List Int) (P : Option Addr) (pn : Nat) (p : List Int) (Q : Option Addr) (m : Nat) (t : List Int) : Prop where
 r0 : Row wr w.heap.size 26 #[.slice A n c]
 r1 : Row wr (w.heap.size + 1) 31 #[.slice none 0 0]
 ss : Seg wr wr.heap.size A n sg
 sp : Seg wr wr.heap.size P pn p
 st : Seg wr wr.heap.size Q m t
 b : Below w.heap.size w wr
section
variable {w wr w' : World} {A : Option Addr} {n c : Nat} {sg : List Int} {P : Option Addr} {pn : Nat} {p : List Int} {Q : Option Addr} {m : Nat} {t : List Int}
theorem Mr.start (h : Seg w w.heap.size A n sg) (hp : Seg w w.heap.size P pn p) (ht : Seg w w.heap.size Q m t) : Mr w ((w.alloc (.cells #[.slice A n c] 26)).alloc (.cells #[.slice none 0 0] 31)) A n c sg P pn p Q m t :=
 have b : Below w.heap.size w ((w.alloc (.cells #[.slice A n c] 26)).alloc (.cells #[.slice none 0 0] 31)) := ((Below.refl _ _).alloc (Nat.le_refl _) _).alloc (by simp) _
 ⟨(Row.new w _ _).alloc _, by have := Row.new (w.alloc (.cells #[.slice A n c] 26)) 31 #[.slice none 0 0]; simpa using this, h.next b, hp.next b, ht.next b, b⟩
theorem Mr.next (h : Mr w wr A n c sg P pn p Q m t) (hb : Below wr.heap.size wr w') : Mr w w' A n c sg P pn p Q m t :=
 ⟨h.r0.next hb, h.r1.next hb, h.ss.next hb, h.sp.next hb, h.st.next hb, next_trans h.b hb⟩
end
theorem ansM_off {w w' : World} {sg p t : List Int} (h : termOkB sg p = false ∨ termOkB sg t = false) (hb : Below w.heap.size w w') : AnsM w (resL (matchO sg p t)) (instB sg p t) (.returned (.tuple #[.agg #[.slice none 0 0], .bool false])) w' := by
 have := match_no h
 unfold instB
 exact ansM_no this hb
set_option maxHeartbeats 1000000 in
theorem specMatched (A P Q : Option Addr) (n c pn pc m mc : Nat) (sg p t : List Int) (w : World) (h : Seg w w.heap.size A n sg) (hp : Seg w w.heap.size P pn p) (ht : Seg w w.heap.size Q m t) (hn : n ≤ 1048576) (hpn : pn ≤ 1048576) (hm : m ≤ 1048576) (hmc : m ≤ mc) (hmc2 : mc ≤ 9223372036854775807) :
  Calls Try.prog 10 #[.agg #[.slice A n c], .slice P pn pc, .slice Q m mc] w (AnsM w (resL (matchO sg p t)) (instB sg p t)) := by
 obtain ⟨W, hW⟩ : ∃ W, W = (w.alloc (.cells #[.slice A n c] 26)).alloc (.cells #[.slice none 0 0] 31) := ⟨_, rfl⟩
 have M : Mr w W A n c sg P pn p Q m t := by rw [hW]; exact Mr.start h hp ht
 have HW := hid hW
 have L := hid (specTermOk A P n c pn pc sg p W M.ss M.sp hn hpn)
 have c0 : W.cell? ⟨w.heap.size, 0, none⟩ = some (.slice A n c) := M.r0.cell 0
 have c00 : ((w.alloc (.cells #[.slice A n c] 26)).alloc (.cells #[.slice none 0 0] 31)).cell? ⟨w.heap.size, 0, none⟩ = some (.slice A n c) := by rw [← hW]; exact c0
 clear hW h hp ht
 cases hokp : termOkB sg p with
 | false =>
  have HS := hid hokp
  clear hokp
  go_enter Try.func10, Try.ntmps10
  go_wp2_with fail
  rw [← HW.out]
  refine L.out.mono ?_
  rintro e w1 ⟨he, bb⟩
  rw [HS.out] at he
  subst he
  replace M := M.next bb
  have cR : w1.cell? ⟨w.heap.size + 1, 0, none⟩ = some (.slice none 0 0) := M.r1.cell 0
  have fR : w1.frozen? ⟨w.heap.size + 1, 0, none⟩ = false := M.r1.free 0
  have F1 := hid (ansM_off (w := w) (t := t) (.inl HS.out) M.b)
  have F2 := hid (ansM_off (w := w) (t := t) (.inl HS.out) ((M.b).setCell (p := ⟨w.heap.size + 1, 0, none⟩) (show w.heap.size ≤ w.heap.size + 1 by omega) (.slice none 0 0)))
  clear M L bb c0 c00
  go_wp2
  first
   | exact bodyPost_ret (v := .tuple #[.agg #[.slice none 0 0], .bool false]) (by simp [results, Try.results10, go_sem, cR]) rfl F1.out
   | exact bodyPost_ret (v := .tuple #[.agg #[.slice none 0 0], .bool false]) (by simp [results, Try.results10, go_sem, cR]) rfl F2.out
 | true =>
  have HSP := hid hokp
  have hp60 : pn ≤ 60 := by have h1 := (termOk_parts hokp).2.1; rw [M.sp.1] at h1; exact h1
  clear hokp
  cases hokt : termOkB sg t with
  | false =>
   have HS := hid hokt
   clear hokt
   go_enter Try.func10, Try.ntmps10
   go_wp2_with fail
   rw [← HW.out]
   refine L.out.mono ?_
   rintro e w1 ⟨he, bb⟩
   rw [HSP.out] at he
   subst he
   replace M := M.next bb
   clear bb L c0 c00
   have c0 : w1.cell? ⟨w.heap.size, 0, none⟩ = some (.slice A n c) := M.r0.cell 0
   go_wp2_with fail
   refine (specTermOk A Q n c m mc sg t _ M.ss M.st hn hm).mono ?_
   rintro e w2 ⟨he, bb⟩
   rw [HS.out] at he
   subst he
   replace M := M.next bb
   have cR : w2.cell? ⟨w.heap.size + 1, 0, none⟩ = some (.slice none 0 0) := M.r1.cell 0
   have fR : w2.frozen? ⟨w.heap.size + 1, 0, none⟩ = false := M.r1.free 0
   have F1 := hid (ansM_off (w := w) (p := p) (.inr HS.out) M.b)
   have F2 := hid (ansM_off (w := w) (p := p) (.inr HS.out) ((M.b).setCell (p := ⟨w.heap.size + 1, 0, none⟩) (show w.heap.size ≤ w.heap.size + 1 by omega) (.slice none 0 0)))
   clear M bb c0
   go_wp2
   first
    | exact bodyPost_ret (v := .tuple #[.agg #[.slice none 0 0], .bool false]) (by simp [results, Try.results10, go_sem, cR]) rfl F1.out
    | exact bodyPost_ret (v := .tuple #[.agg #[.slice none 0 0], .bool false]) (by simp [results, Try.results10, go_sem, cR]) rfl F2.out
  | true =>
   have HST := hid hokt
   have hm60 : m ≤ 60 := by have h1 := (termOk_parts hokt).2.1; rw [M.st.1] at h1; exact h1
   have HMO := hid (match_yes HSP.out hokt)
   have HIO := hid (show instB sg p t = (mst sg t p 0 s0).isSome by unfold instB; rw [HMO.out])
   clear hokt
   go_enter Try.func10, Try.ntmps10
   go_wp2_with fail
   rw [← HW.out]
   refine L.out.mono ?_
   rintro e w1 ⟨he, bb⟩
   rw [HSP.out] at he
   subst he
   replace M := M.next bb
   clear bb L c0 c00
   have c0 : w1.cell? ⟨w.heap.size, 0, none⟩ = some (.slice A n c) := M.r0.cell 0
   go_wp2_with fail
   refine (specTermOk A Q n c m mc sg t _ M.ss M.st hn hm).mono ?_
   rintro e w2 ⟨he, bb⟩
   rw [HST.out] at he
   subst he
   replace M := M.next bb
   clear bb c0
   have c0 : w2.cell? ⟨w.heap.size, 0, none⟩ = some (.slice A n c) := M.r0.cell 0
   go_wp2_with fail
   refine (l4Match A P Q n c pn pc m mc sg p t _ M.ss M.sp M.st hn hp60 hm60 hmc hmc2 HSP.out HST.out).mono ?_
   rintro e w3 ⟨D, dn, dc, rfl, od, bb⟩
   have zw := M.r1.lt
   replace M := M.next bb
   rw [← HIO.out]
   have cR : w3.cell? ⟨w.heap.size + 1, 0, none⟩ = some (.slice none 0 0) := M.r1.cell 0
   have fR : w3.frozen? ⟨w.heap.size + 1, 0, none⟩ = false := M.r1.free 0
   obtain ⟨b, hb⟩ : ∃ b, instB sg p t = b := ⟨_, rfl⟩
   rw [hb]
   have F : AnsM w (resL (matchO sg p t)) (instB sg p t) (.returned (.tuple #[.agg #[.slice D dn dc], .bool b])) (w3.setCell ⟨w.heap.size + 1, 0, none⟩ (.slice D dn dc)) := by
    have hbt : Btw (w.heap.size + 1) (w.heap.size + 2) w3 (w3.setCell ⟨w.heap.size + 1, 0, none⟩ (.slice D dn dc)) := Btw.of_grown (grown_put (World.grownBy.refl _ _) _ _) (fun k hk => by injection hk; omega)
    have o2 := od.btw hbt (.inr (by omega))
    refine ⟨D, dn, dc, by rw [hb], ?_, (M.b).setCell (p := ⟨w.heap.size + 1, 0, none⟩) (show w.heap.size ≤ w.heap.size + 1 by omega) _⟩
    rw [HMO.out]
    exact o2.wider (by omega) (by simp)
   have F1 := hid F
   clear F od bb M c0 HIO hb
   go_wp2
   exact bodyPost_ret (v := .tuple #[.agg #[.slice D dn dc], .bool b]) (by simp [results, Try.results10, go_sem, cR]) rfl F1.out
set_option maxHeartbeats 1000000 in
theorem specInstanceIn (A P Q : Option Addr) (n c pn pc m mc : Nat) (sg p t : List Int) (w : World) (h : Seg w w.heap.size A n sg) (hp : Seg w w.heap.size P pn p) (ht : Seg w w.heap.size Q m t) (hn : n ≤ 1048576) (hpn : pn ≤ 1048576) (hm : m ≤ 1048576) (hmc : m ≤ mc) (hmc2 : mc ≤ 9223372036854775807) :
  Calls Try.prog 30 #[.agg #[.slice A n c], .slice P pn pc, .slice Q m mc] w (Tells w (instB sg p t)) := by
 obtain ⟨W, hW⟩ : ∃ W, W = w.alloc (.cells #[.slice A n c] 26) := ⟨_, rfl⟩
 have bW : Below w.heap.size w W := by rw [hW]; exact (Below.refl _ _).alloc (Nat.le_refl _) _
 have HW := hid hW
 have L := hid (specMatched A P Q n c pn pc m mc sg p t W (h.next bW) (hp.next bW) (ht.next bW) hn hpn hm hmc hmc2)
 clear hW h hp ht
 generalize instB sg p t = b at *
 go_enter Try.func30, Try.ntmps30
 go_wp2_with fail
 rw [← HW.out]
 refine L.out.mono ?_
 rintro e w1 ⟨D, dn, dc, rfl, od, bb⟩
 have F := hid (fun o => (show Tells w b (.returned (.bool b)) (w1.alloc o) from ⟨rfl, (next_trans bW bb).alloc (next_trans bW bb).size _⟩))
 clear od bb L bW
 go_wp2
 go_ret
 exact F.out _
end matchSpec
end
section
namespace whole
open Go.RowKit base cursor marks app sym segs matchMath matchSpec
set_option maxRecDepth 100000
section
variable {P : Program} {ops : Array Oper} {rest : List Oper} {o : Oper} {a : Act} {w : World} {Q : Exit → Act → World → Prop}
theorem rowAlloc (hgd : o.guard = none) (t : TypeId) (ho : o.op = .alloc t) (z : Array Value) (hz : ∀ w, (zeroValue t).run P w = .ok (.agg z) w)
  (h : wpList P ops Q rest (a.put o.dst (.pointer (some ⟨w.heap.size, 0, none⟩))) (w.alloc (.cells z t))) : wpList P ops Q (o :: rest) a w :=
 wpList_plain hgd fun _ hK => by
  unfold Oper.wp execOp
  simp only [ho, Instr.alloc, Sem.run_bind, hz, Result.andThen_ok, newVar, Value.cells]
  exact hK _ _ h
theorem rowBox (hgd : o.guard = none) (t : TypeId) (x : Operand) (ho : o.op = .box t x) (z : Array Value) (hx : a.eval x = .agg z)
  (h : wpList P ops Q rest (a.put o.dst (.pointer (some ⟨w.heap.size, 0, none⟩))) (w.alloc (.cells z t))) : wpList P ops Q (o :: rest) a w :=
 wpList_plain hgd fun _ hK => by
  unfold Oper.wp execOp
  simp only [ho, hx, Instr.box, Sem.run_bind, Result.andThen_ok, newVar, Value.cells]
  exact hK _ _ h
theorem rowBuild (hgd : o.guard = none) (t : TypeId) (ho : o.op = .build t #[]) (z : Array Value) (hz : P.built t [] = some z)
  (h : wpList P ops Q rest (a.put o.dst (.agg z)) w) : wpList P ops Q (o :: rest) a w :=
 wpList_plain hgd fun _ hK => by
  refine wp_build t #[] ho (by simp [hz]) ?_
  simp only [List.map_toArray, List.map_nil, hz, Option.getD_some]
  exact hK _ _ h
theorem rowStore (hgd : o.guard = none) (ty : TypeId) (x y : Operand) (ho : o.op = .store ty x y) (g : Nat) (cells old : Array Value) (t : TypeId) (hx : a.eval x = .pointer (some ⟨g, 0, none⟩)) (hy : a.eval y = .agg cells)
  (hg : w.heap[g]? = some (.cells old t (0, 0))) (hi : (P.info? ty).map (·.size) = some cells.size) (hs : old.size = cells.size) (h1 : cells.all (·.oneCell') = true)
  (h : wpList P ops Q rest (a.put o.dst undef) (w.setRow g cells)) : wpList P ops Q (o :: rest) a w :=
 wpList_plain hgd fun _ hK => by
  unfold Oper.wp execOp
  simp only [ho, hx, hy, Instr.storeAt, Instr.sureAddr, Sem.run_bind, Sem.run_pure, Result.andThen_ok, run_storeVar_row w g t ty old cells hg hi hs h1]
  exact hK _ _ h
theorem results_row_tmp {fn : Func} {p u : Tmp} {ty : TypeId} (h : fn.results = #[.cell p ty, .tmp u]) (tmps : Array Value) (g : Nat) (t : TypeId) (cs : Array Value) (d : TypeDesc)
  (hp : tmps.getD p undef = .pointer (some ⟨g, 0, none⟩)) (hg : w.heap[g]? = some (.cells cs t (0, 0)))
  (hu : P.underlying ty = some d) (hd : (match d with | .struct _ | .array _ _ => true | _ => false) = true) (hi : (P.info? ty).map (·.size) = some cs.size) :
  (results fn tmps).run P w = .ok (.tuple #[.agg cs, tmps.getD u undef]) w := by
 rw [results_cell_tmp h, hp]
 simp [asAddr, Result.andThen, run_loadVar_row w g t ty cs (0, 0) d hg hu hd hi]
end
theorem z24_one : z24.all (·.oneCell') = true := by kernel_rfl
theorem info_b : (Try.prog.info? 52).map (fun i => (i.zero, i.size)) = some (some (.agg z24), 24) := by kernel_rfl
theorem zero_b : ∀ w, (zeroValue 52).run Try.prog w = .ok (.agg z24) w := by
 intro w
 cases hq : Try.prog.info? 52 with
 | none => have h := info_b; simp [hq] at h
 | some i => have h := info_b; simp [hq] at h; simp [zeroValue, typeInfo, hq, h.1]
theorem size_b : (Try.prog.info? 52).map (·.size) = some 24 := by kernel_rfl
theorem built_b : Try.prog.built 52 [] = some z24 := by kernel_rfl
section
variable {w w' : World} {B B' g : Nat} {cs : Array Value} {s : List (List Int)} {t : TypeId}
theorem Row.setRow (h : Row w g t cs) (c' : Array Value) : Row (w.setRow g c') g t c' := setRow_heap w g cs c' t (0, 0) h
theorem grown_setRow (w : World) (g : Nat) (c' : Array Value) : w.grownBy (w.setRow g c') (some g) :=
 ⟨rfl, rfl, rfl, by simp, fun k _ hk => setRow_other w g k c' (fun e => hk (by rw [e]))⟩
end
end whole
end
section
namespace takeMath
open sig term termOk termFacts endAt sub termMath fillMath posMath renMath matchMath
def Sync (sg p t : List Int) (i k : Nat) : Prop := ∃ q, scan sg q (p.drop i) = some (p.length - i) ∧ ∃ j, scan sg q (t.drop k) = some j
section
variable {sg p t : List Int} {i k : Nat} {x : Int}
theorem Sync.start (h1 : termOkB sg p = true) (h2 : termOkB sg t = true) (ha : k < t.length) : Sync sg p t 0 k :=
 ⟨1, by rw [List.drop_zero, Nat.sub_zero]; exact (term_parts h1).2.2, _, (term_at h2 ha).1⟩
theorem Sync.lt (h : Sync sg p t i k) (hi : i < p.length) : k < t.length := by
 obtain ⟨q, h1, j, h2⟩ := h
 cases q with
 | zero => rw [scan_zero] at h1; injection h1 with h1; omega
 | succ q =>
  have a := scan_pos h2
  have b := scan_le h2
  rw [List.length_drop] at b
  omega
theorem Sync.sym (h : Sync sg p t i k) (hi : i < p.length) (hx : p.getD i 0 = x) (hy : t.getD k 0 = x) : Sync sg p t (i + 1) (k + 1) := by
 have hk := h.lt hi
 obtain ⟨q, h1, j, h2⟩ := h
 rw [drop_cons hi, hx] at h1
 rw [drop_cons hk, hy] at h2
 cases q with
 | zero => rw [scan_zero] at h1; injection h1 with h1; omega
 | succ q =>
  by_cases hn : ar sg x < 0
  ·rw [scan_bad hn] at h1; cases h1
  ·rw [scan_step hn, Option.map_eq_some_iff] at h1 h2
   obtain ⟨a, e1, e2⟩ := h1
   obtain ⟨b, e3, e4⟩ := h2
   exact ⟨_, by rw [e1]; congr 1; omega, b, e3⟩
theorem Sync.var (h : Sync sg p t i k) (hi : i < p.length) (hx : p.getD i 0 = x) (h0 : -24 ≤ x) (h1 : x < 0) (hok : termOkB sg t = true) : Sync sg p t (i + 1) (k + (subL sg t k).length) := by
 have hk := h.lt hi
 have hl := (sub_len1 hok hk).1
 obtain ⟨q, h1, j, h2⟩ := h
 rw [drop_cons hi, hx] at h1
 cases q with
 | zero => rw [scan_zero] at h1; injection h1 with h1; omega
 | succ q =>
  have hz : ar sg x = 0 := ar_var (by omega)
  rw [scan_step (by omega), hz, Option.map_eq_some_iff] at h1
  obtain ⟨a, e1, e2⟩ := h1
  obtain ⟨j1, g1, _, _, g2⟩ := scan_first h2
  rw [hl, len1_eq g1]
  exact ⟨q, by rw [show p.length - (i + 1) = a by omega]; exact e1, _, g2⟩
end
def termsB (sg : List Int) (ps : List (List Int)) : Bool := decide (ps.length ≤ 12) && ps.all (termOkB sg)
theorem terms_long {sg : List Int} {ps : List (List Int)} (h : 12 < ps.length) : termsB sg ps = false := by unfold termsB; rw [decide_eq_false (by omega)]; rfl
theorem terms_bad {sg : List Int} {ps : List (List Int)} {i : Nat} (hi : i < ps.length) (h : termOkB sg (ps.getD i []) = false) : termsB sg ps = false := by
 unfold termsB
 have : ps.all (termOkB sg) = false := by
  rw [List.all_eq_false]
  exact ⟨ps[i], List.getElem_mem hi, by simpa [List.getD, hi] using h⟩
 rw [this, Bool.and_false]
theorem terms_good {sg : List Int} {ps : List (List Int)} (h2 : ps.length ≤ 12) (h : ∀ i, i < ps.length → termOkB sg (ps.getD i []) = true) : termsB sg ps = true := by
 unfold termsB
 rw [decide_eq_true h2, Bool.true_and, List.all_eq_true]
 intro x hx
 obtain ⟨i, hi, rfl⟩ := List.getElem_of_mem hx
 have := h i hi
 simpa [List.getD, hi] using this
theorem terms_parts {sg : List Int} {ps : List (List Int)} (h : termsB sg ps = true) : ps.length ≤ 12 ∧ ∀ i, i < ps.length → termOkB sg (ps.getD i []) = true := by
 unfold termsB at h
 rw [Bool.and_eq_true, decide_eq_true_eq, List.all_eq_true] at h
 refine ⟨h.1, fun i hi => ?_⟩
 have := h.2 _ (List.getElem_mem hi)
 simpa [List.getD, hi] using this
end takeMath
end
section
open Go.Lib (hid)
namespace take
open Go.RowKit base ints sig same term termOk endAt marks app sym sub segs termFacts termMath posMath cursor matchMath matchSpec whole takeMath curO
set_option maxRecDepth 100000
theorem set_same {s : List (List Int)} {v : Nat} {ys : List Int} (h : s.getD v [] = ys) (hv : v < s.length) : s.set v ys = s := by
 refine List.ext_getElem (by simp) fun i h1 h2 => ?_
 rw [List.getElem_set]
 split
 ·rename_i e
  subst e
  rw [← h]
  simp [List.getD, hv]
 ·rfl
structure Tk (w : World) (g : Nat) (A : Option Addr) (n c : Nat) (Q : Option Addr) (m mc : Nat) (sg t : List Int) (k : Nat) (s : List (List Int)) : Prop where
 row : Row w (g + 1) 56 #[.slice A n c, .slice Q m mc, .int .i64 k]
 tab : ∃ cs, Row w g 52 cs ∧ TabR w g cs s
 ss : Seg w g A n sg
 st : Seg w g Q m t
 le : k ≤ m
 hn : n ≤ 1048576
 hm : m ≤ 1048576
 ars : Arities sg
 hs : ∀ j, (s.getD j []).length ≤ m
section
variable {w w' : World} {g : Nat} {A : Option Addr} {n c : Nat} {Q : Option Addr} {m mc : Nat} {sg t : List Int} {k k' : Nat} {s : List (List Int)}
theorem Tk.cur (h : Tk w g A n c Q m mc sg t k s) : Cur w (g + 1) A n c Q m mc sg t k := ⟨h.row, h.ss.more (Nat.le_succ _), h.st.more (Nat.le_succ _), h.le, h.hn, h.hm, h.ars⟩
theorem Tk.lt (h : Tk w g A n c Q m mc sg t k s) : g + 1 < w.heap.size := h.row.lt
theorem keep_of {B : Nat} {r : Option Nat} (hg : w.grownBy w' r) (hB : B ≤ w.heap.size) (hr : ∀ k, r = some k → B ≤ k) : ∀ p : Addr, p.block < B → w'.cell? p = w.cell? p :=
 fun q hq => World.cell?_of_block (hg.block q.block (by omega) (fun e => by have := hr _ e.symm; omega))
theorem Tk.move (h : Tk w g A n c Q m mc sg t k s) (hg : w.grownBy w' (some (g + 1))) (hr : Row w' (g + 1) 56 #[.slice A n c, .slice Q m mc, .int .i64 k']) (hk : k' ≤ m) : Tk w' g A n c Q m mc sg t k' s := by
 have hl := h.lt
 have hk0 := keep_of (B := g) hg (by omega) (fun k e => by injection e; omega)
 obtain ⟨cs, h1, h2⟩ := h.tab
 refine ⟨hr, ⟨cs, (hg.block g (by omega) (fun e => by injection e; omega)).trans h1, h2.keep hk0⟩, h.ss.keep hk0, h.st.keep hk0, hk, h.hn, h.hm, h.ars, h.hs⟩
theorem Tk.drewN (h : Tk w g A n c Q m mc sg t k s) (d : Nat) : Tk (w.drewN d) g A n c Q m mc sg t k s := ⟨h.row, h.tab, h.ss, h.st, h.le, h.hn, h.hm, h.ars, h.hs⟩
theorem Tk.put (h : Tk w g A n c Q m mc sg t k s) {j : Nat} (hj : j < 24) {D : Option Addr} {dn dc : Nat} {ys : List Int} (hs : Seg w g D dn ys) (hc : Cap D dn dc) (hl : ys.length ≤ m) :
  Tk (w.setCell ⟨g, j, none⟩ (.slice D dn dc)) g A n c Q m mc sg t k (s.set j ys) := by
 have hlt := h.lt
 have hg : w.grownBy (w.setCell ⟨g, j, none⟩ (.slice D dn dc)) (some g) := grown_put (World.grownBy.refl _ _) _ _
 have hk0 := keep_of (B := g) hg (by omega) (fun k e => by injection e; omega)
 obtain ⟨cs, h1, h2⟩ := h.tab
 exact ⟨h.row.far (show g + 1 ≠ g by omega) _, ⟨_, h1.put j _, (h2.put hj hs hc).keep hk0⟩, h.ss.keep hk0, h.st.keep hk0, h.le, h.hn, h.hm, h.ars, fun i => by rw [set_get]; split; exact hl; exact h.hs i⟩
theorem Tk.held (h : Tk w g A n c Q m mc sg t k s) {j : Nat} (hj : j < 24) : ∃ D dn dc, w.cell? ⟨g, j, none⟩ = some (.slice D dn dc) ∧ Seg w g D dn (s.getD j []) ∧ w.frozen? ⟨g, j, none⟩ = false := by
 obtain ⟨cs, h1, h2⟩ := h.tab
 obtain ⟨D, dn, dc, e, hs, _⟩ := h2.2.2 j hj
 exact ⟨D, dn, dc, by rw [h1.cell j, e], hs, h1.free j⟩
theorem Tk.len (h : Tk w g A n c Q m mc sg t k s) : s.length = 24 := by obtain ⟨cs, h1, h2⟩ := h.tab; exact h2.2.1
end
theorem btw_drewN (lo hi : Nat) (w : World) (d : Nat) : Btw lo hi w (w.drewN d) := ⟨rfl, rfl, rfl, Nat.le_refl _, fun _ _ _ => rfl⟩
def AnsTake (w : World) (g : Nat) (A : Option Addr) (n c : Nat) (Q : Option Addr) (m mc : Nat) (sg t : List Int) (k : Nat) (s : List (List Int)) (x : Int) (e : Ending) (w' : World) : Prop :=
 Btw g (g + 2) w w' ∧ ((∃ k' s', e = .returned (.bool true) ∧ Tk w' g A n c Q m mc sg t k' s' ∧ ((0 ≤ x ∧ t.getD k 0 = x ∧ k' = k + 1) ∨ (x < 0 ∧ k' = k + (subL sg t k).length)) ∧ ∀ r, mst sg t (x :: r) k s = mst sg t r k' s') ∨
  (e = .returned (.bool false) ∧ ∀ r, mst sg t (x :: r) k s = none))
set_option maxHeartbeats 1000000 in
theorem take (g : Nat) (A Q : Option Addr) (n c m mc : Nat) (sg t : List Int) (k : Nat) (s : List (List Int)) (x : Int) (w : World) (h : Tk w g A n c Q m mc sg t k s) (hk : k < m) (hmc : m ≤ mc) (hmc2 : mc ≤ 9223372036854775807) (hx : -24 ≤ x) (hok : termOkB sg t = true) :
  Calls Try.prog 77 #[.pointer (some ⟨g, 0, none⟩), .int .i64 x, .pointer (some ⟨g + 1, 0, none⟩)] w (AnsTake w g A n c Q m mc sg t k s x) := by
 have HT := hid hok
 have HL := hid h.st.1
 have hkt : ¬ t.length ≤ k := by rw [HL.out]; omega
 have hm := h.hm
 have c1 : w.cell? ⟨g + 1, 1, none⟩ = some (.slice Q m mc) := h.row.cell 1
 have c2 : w.cell? ⟨g + 1, 2, none⟩ = some (.int .i64 k) := h.row.cell 2
 have f2 : w.frozen? ⟨g + 1, 2, none⟩ = false := h.row.free 2
 obtain ⟨b, off, y, rfl, hbb, hy, ey⟩ := h.st.spot hk
 have i0 : (0 : Int) ≤ (k : Int) := by omega
 have i1 : (k : Int) < (m : Int) := by omega
 clear hok
 by_cases hx0 : 0 ≤ x
 ·have g0 : w.grownBy (w.setCell ⟨g + 1, 2, none⟩ (.int .i64 ((k : Int) + 1))) (some (g + 1)) := grown_put (World.grownBy.refl _ _) _ _
  have r0 := h.row.put 2 (.int .i64 ((k : Int) + 1))
  have er : (.int .i64 ((k : Int) + 1) : Value) = .int .i64 ((k + 1 : Nat) : Int) := by simp
  have r1 := r0
  rw [er] at r1
  have M := hid (h.move (k' := k + 1) g0 (by rw [← er] at r1; rw [← er]; exact r0) hk)
  clear r0 r1 er
  have B := hid (Btw.of_grown (lo := g) (hi := g + 2) g0 (fun k e => by injection e; omega))
  have hy1 : (w.setCell ⟨g + 1, 2, none⟩ (.int .i64 ((k : Int) + 1))).cell? ⟨b, off + k, none⟩ = some (.int .i64 y) := (World.cell?_setCell_far w ⟨g + 1, 2, none⟩ ⟨b, off + k, none⟩ _ (by show g + 1 ≠ b; omega)).trans hy
  by_cases hxy : x = y
  ·subst hxy
   have F := fun d => (show AnsTake w g A n c (some ⟨b, off, none⟩) m mc sg t k s x (.returned (.bool true)) ((w.setCell ⟨g + 1, 2, none⟩ (.int .i64 ((k : Int) + 1))).drewN d) from
    ⟨B.out.trans (btw_drewN _ _ _ d), .inl ⟨k + 1, s, rfl, M.out.drewN d, .inl ⟨hx0, ey.out, rfl⟩, fun r => mst_sym hkt hx0 ey.out.symm⟩⟩)
   have HF := hid F
   clear F M B g0 h ey
   go_enter Try.func77, Try.ntmps77
   go_wp2
   go_quiet (fail)
   go_wp2
   go_ret
   exact HF.out _
  ·have hd : (y == x) = false := by simp; exact fun e => hxy e.symm
   have F := fun d => (show AnsTake w g A n c (some ⟨b, off, none⟩) m mc sg t k s x (.returned (.bool false)) ((w.setCell ⟨g + 1, 2, none⟩ (.int .i64 ((k : Int) + 1))).drewN d) from
    ⟨B.out.trans (btw_drewN _ _ _ d), .inr ⟨rfl, fun r => mst_symNo hkt hx0 (by rw [ey.out]; exact hxy)⟩⟩)
   have HF := hid F
   clear F M B g0 h ey
   go_enter Try.func77, Try.ntmps77
   go_wp2
   go_quiet (fail)
   go_wp2
   go_ret
   exact HF.out _
 ·obtain ⟨v, hv⟩ : ∃ v : Nat, x = -1 - (v : Int) := ⟨(-1 - x).toNat, by omega⟩
  subst hv
  have hv24 : v < 24 := by omega
  have HVR := hid (show vr (-1 - (v : Int)) = v by unfold vr; omega)
  obtain ⟨t1, t2, t3⟩ := term_at HT.out (show k < t.length by rw [HL.out]; exact hk)
  rw [HL.out] at t3
  obtain ⟨j, hj⟩ : ∃ j, len1 sg t k = j := ⟨_, rfl⟩
  have hsl := (sub_len1 HT.out (show k < t.length by rw [HL.out]; exact hk)).1
  have hsub : subL sg t k = (t.drop k).take j := by unfold subL; rw [hj]
  rw [hj] at t1 t2 t3 hsl
  obtain ⟨ys, hys⟩ : ∃ ys, subL sg t k = ys := ⟨_, rfl⟩
  rw [hys] at hsl hsub
  have HYS := hid hys
  have HSUB := hid hsub
  have HSL := hid hsl
  have T1 := hid t1
  have C := hid h.cur
  have HH := hid h
  have HKT := hid hkt
  have a1 : (k : Int) ≤ (k : Int) + (j : Int) := by omega
  have a2 : (k : Int) + (j : Int) ≤ (mc : Int) := by omega
  have a3 : ¬ mc = k := by omega
  have a4 : k + j ≤ mc := by omega
  have w1 : IntKind.i64.wrap (-1 - (-1 - (v : Int))) = (v : Int) := by rw [IntKind.wrap_i64]; omega
  have w2 : IntKind.i64.wrap (v : Int) = (v : Int) := by rw [IntKind.wrap_i64]; omega
  have j0 : (0 : Int) ≤ (v : Int) := by omega
  have j1 : (v : Int) < 24 := by omega
  clear hj hys hsub hsl t1 hy ey f2 hkt h
  go_enter Try.func77, Try.ntmps77
  have C2 := hid (C.out.drewN 1)
  go_wp2_with fail
  go_region_held3 (fun _ => True) (trivial)
   (first
    | (go_at_call 94; refine (partC (g + 1) A n c b off m mc sg t k j w.drew C2.out T1.out t3 t2 hmc hmc2).mono ?_; rintro e w3 ⟨rfl, hg0, hc⟩))
  ·have hg : w.grownBy w3 (some (g + 1)) := grown_trans (World.grownBy.refl w _) ⟨hg0.os, hg0.tape, hg0.output, hg0.size, hg0.block⟩
   have M := HH.out.move hg hc.row t3
   have b3 := Btw.of_grown (lo := g) (hi := g + 2) hg (fun k e => by injection e; omega)
   obtain ⟨D, dn, dc, ch, sh, fh⟩ := M.held hv24
   obtain ⟨os, hos⟩ : ∃ os, s.getD v [] = os := ⟨_, rfl⟩
   have hdn : dn ≤ 1048576 := by rw [← sh.1]; exact Nat.le_trans (M.hs v) hm
   rw [hos] at sh
   have HOS := hid hos
   have HSH := hid sh
   have HM := hid M
   have HB := hid b3
   have cut := hid (Seg.cut (a := k) (j := j) M.st t3)
   clear hc hg hg0 hos sh b3 M C C2 c1 c2
   have HC := hid (show Cap (some ⟨b, off + k, none⟩) j (mc - k) from ⟨by omega, by omega, fun e => by cases e⟩)
   have hj60 : j ≤ 1048576 := by omega
   have HJ := hid (show 1 ≤ j from t2)
   by_cases hd0 : dn = 0
   ·subst hd0
    have hno : ¬ ((s.getD (vr (-1 - (v : Int))) []).length ≠ 0 ∧ s.getD (vr (-1 - (v : Int))) [] ≠ subL sg t k) := by
     rw [HVR.out, HOS.out, HSH.out.1]
     exact fun e => e.1 rfl
    have R := hid (fun r => mst_var (sg := sg) (r := r) HKT.out (show ¬ 0 ≤ -1 - (v : Int) by omega) hno)
    have P := hid (HM.out.put (j := v) (D := some ⟨b, off + k, none⟩) (dn := j) (dc := mc - k) (ys := ys) hv24 (by rw [HSUB.out]; exact cut.out) HC.out (by rw [HSL.out]; omega))
    have BP := hid (HB.out.trans (Btw.of_grown (lo := g) (hi := g + 2) (grown_put (World.grownBy.refl w3 (some g)) v (.slice (some ⟨b, off + k, none⟩) j (mc - k))) (fun k e => by injection e; omega)))
    have ce := World.cell?_setCell_same w3 ⟨g, v, none⟩ (.slice (some ⟨b, off + k, none⟩) j (mc - k)) (show w3.cell? ⟨g, v, none⟩ = some (.slice D 0 dc) from ch)
    have PS := hid (show Seg (w3.setCell ⟨g, v, none⟩ (.slice (some ⟨b, off + k, none⟩) j (mc - k))) (w3.setCell ⟨g, v, none⟩ (.slice (some ⟨b, off + k, none⟩) j (mc - k))).heap.size (some ⟨b, off + k, none⟩) j ys from by
     have q := cut.out.put (p := ⟨g, v, none⟩) (Nat.le_refl _) (.slice (some ⟨b, off + k, none⟩) j (mc - k))
     rw [← HSUB.out] at q
     exact q.more (by have := P.out.lt; omega))
    clear HM HB hno
    go_wp2_with fail
    refine (implSame _ _ j j _ _ ys ys _ PS.out PS.out hj60 hj60).mono ?_
    rintro e w5 ⟨rfl, d, rfl⟩
    rw [decide_eq_true (show ys = ys from rfl)]
    have F : AnsTake w g A n c (some ⟨b, off, none⟩) m mc sg t k s (-1 - (v : Int)) (.returned (.bool true)) ((w3.setCell ⟨g, v, none⟩ (.slice (some ⟨b, off + k, none⟩) j (mc - k))).drewN d) :=
     ⟨BP.out.trans (btw_drewN _ _ _ d), .inl ⟨k + j, s.set v ys, rfl, P.out.drewN d, .inr ⟨by omega, by rw [HYS.out, HSL.out]⟩, fun r => by rw [R.out r, HVR.out, HYS.out, HSL.out]⟩⟩
    have HF := hid F
    clear F R P BP ce PS cut
    go_wp2
    go_ret
    exact HF.out
   ·have hdz : ((dn : Int) == 0) = false := by simp; omega
    have hwg := hid (show g ≤ w3.heap.size by have := HM.out.lt; omega)
    have PS := hid (show Seg w3 w3.heap.size (some ⟨b, off + k, none⟩) j ys from by
     have q := cut.out
     rw [← HSUB.out] at q
     exact q.more hwg.out)
    have PO := hid (show Seg w3 w3.heap.size D dn os from HSH.out.more hwg.out)
    by_cases hoy : os = ys
    ·have hno : ¬ ((s.getD (vr (-1 - (v : Int))) []).length ≠ 0 ∧ s.getD (vr (-1 - (v : Int))) [] ≠ subL sg t k) := by
      rw [HVR.out, HOS.out, HYS.out]
      exact fun e => e.2 hoy
     have R := hid (fun r => mst_var (sg := sg) (r := r) HKT.out (show ¬ 0 ≤ -1 - (v : Int) by omega) hno)
     have SS := hid (show s.set v ys = s from set_same (HOS.out.trans hoy) (by rw [HM.out.len]; exact hv24))
     have DS := hid (decide_eq_true hoy)
     clear cut hno hoy
     go_wp2_with fail
     refine (implSame _ _ dn j _ _ os ys _ PO.out PS.out hdn hj60).mono ?_
     rintro e w5 ⟨rfl, d, rfl⟩
     rw [DS.out]
     have F : AnsTake w g A n c (some ⟨b, off, none⟩) m mc sg t k s (-1 - (v : Int)) (.returned (.bool true)) (w3.drewN d) :=
      ⟨HB.out.trans (btw_drewN _ _ _ d), .inl ⟨k + j, s, rfl, HM.out.drewN d, .inr ⟨by omega, by rw [HYS.out, HSL.out]⟩, fun r => by rw [R.out r, HVR.out, HYS.out, HSL.out, SS.out]⟩⟩
     have HF := hid F
     clear F R SS DS PS PO HM HB
     go_wp2
     go_ret
     exact HF.out
    ·have hyes : (s.getD (vr (-1 - (v : Int))) []).length ≠ 0 ∧ s.getD (vr (-1 - (v : Int))) [] ≠ subL sg t k := by
      rw [HVR.out, HOS.out, HYS.out]
      exact ⟨by rw [HSH.out.1]; exact hd0, hoy⟩
     have R := hid (fun r => mst_varNo (sg := sg) (r := r) HKT.out (show ¬ 0 ≤ -1 - (v : Int) by omega) hyes)
     have DS := hid (decide_eq_false hoy)
     clear cut hyes hoy
     go_wp2_with fail
     refine (implSame _ _ dn j _ _ os ys _ PO.out PS.out hdn hj60).mono ?_
     rintro e w5 ⟨rfl, d, rfl⟩
     rw [DS.out]
     have F : AnsTake w g A n c (some ⟨b, off, none⟩) m mc sg t k s (-1 - (v : Int)) (.returned (.bool false)) (w3.drewN d) :=
      ⟨HB.out.trans (btw_drewN _ _ _ d), .inr ⟨rfl, R.out⟩⟩
     have HF := hid F
     clear F R DS PS PO HM HB
     go_wp2
     go_ret
     exact HF.out
end take
end
section
open Go.Lib (hid)
namespace extended
open Go.RowKit base ints sig same term termOk endAt marks app sym sub segs termFacts termMath posMath cursor matchMath matchSpec whole takeMath take segsHelp kinds plainMath plain plainOf gives Go.Proofs.Ytgfgaeagbipobaa.look fillMath
set_option maxRecDepth 100000
def AnsExt (w : World) (R : Option (List (List Int))) (e : Ending) (w' : World) : Prop :=
 ∃ cs, e = .returned (.tuple #[.agg cs, .bool R.isSome]) ∧ TabR w' w.heap.size cs (R.getD s0) ∧ (∀ j, ((R.getD s0).getD j []).length ≤ 60) ∧ Below w.heap.size w w'
def HeadX (w : World) (A : Option Addr) (n c : Nat) (Q : Option Addr) (m mc : Nat) (sg t : List Int) (P : Option Addr) (pn : Nat) (p : List Int) (R : Option (List (List Int))) (i : Value) (wr : World) : Prop :=
 ∃ (j k : Nat) (s : List (List Int)), i = .int .i64 j ∧ j ≤ pn ∧ Tk wr w.heap.size A n c Q m mc sg t k s ∧ Row wr (w.heap.size + 1 + 1) 52 z24 ∧ Seg wr w.heap.size P pn p ∧ Below w.heap.size w wr ∧ Sync sg p t j k ∧ mst sg t (p.drop j) k s = R
theorem seg_btw {w w' : World} {lo hi : Nat} {A : Option Addr} {n : Nat} {xs : List Int} (h : Seg w lo A n xs) (hb : Btw lo hi w w') (hl : lo ≤ w.heap.size) : Seg w' lo A n xs :=
 h.keep fun p hp => World.cell?_of_block (hb.block p.block (by omega) (.inl hp))
set_option maxHeartbeats 1000000 in
theorem extended (A P Q : Option Addr) (n c pn pc m mc : Nat) (sg p t : List Int) (at_ : Nat) (cs : Array Value) (s : List (List Int)) (w : World) (h : Seg w w.heap.size A n sg) (hp : Seg w w.heap.size P pn p) (ht : Seg w w.heap.size Q m t)
  (hn : n ≤ 1048576) (hpn : pn ≤ 60) (hm : m ≤ 60) (hmc : m ≤ mc) (hmc2 : mc ≤ 9223372036854775807) (hat : at_ < m) (hokp : termOkB sg p = true) (hokt : termOkB sg t = true) (htab : TabR w w.heap.size cs s) (hs : ∀ j, (s.getD j []).length ≤ m) :
  Calls Try.prog 36 #[.agg cs, .slice P pn pc, .agg #[.slice A n c, .slice Q m mc, .int .i64 (at_ : Int)]] w (AnsExt w (mst sg t p at_ s)) := by
 obtain ⟨W, hW⟩ : ∃ W, W = ((w.alloc (.cells cs 52)).alloc (.cells #[.slice A n c, .slice Q m mc, .int .i64 (at_ : Int)] 56)).alloc (.cells z24 52) := ⟨_, rfl⟩
 have b0 : Below w.heap.size w W := by rw [hW]; exact (((Below.refl _ _).alloc (Nat.le_refl _) _).alloc (by simp) _).alloc (by simp; omega) _
 have r0 : Row W w.heap.size 52 cs := by rw [hW]; exact ((Row.new w _ _).alloc _).alloc _
 have r1 : Row W (w.heap.size + 1) 56 #[.slice A n c, .slice Q m mc, .int .i64 (at_ : Int)] := by
  rw [hW]
  have := (Row.new (w.alloc (.cells cs 52)) 56 #[.slice A n c, .slice Q m mc, .int .i64 (at_ : Int)]).alloc (.cells z24 52)
  simpa using this
 have r2 : Row W (w.heap.size + 1 + 1) 52 z24 := by
  rw [hW]
  have := Row.new ((w.alloc (.cells cs 52)).alloc (.cells #[.slice A n c, .slice Q m mc, .int .i64 (at_ : Int)] 56)) 52 z24
  simpa using this
 have HX : HeadX w A n c Q m mc sg t P pn p (mst sg t p at_ s) (.int .i64 0) W :=
  ⟨0, at_, s, rfl, Nat.zero_le _, ⟨r1, ⟨cs, r0, htab.below b0⟩, h.below b0, ht.below b0, Nat.le_of_lt hat, hn, by omega, (sig_arities (termOk_parts hokt).1).1, hs⟩, r2, hp.below b0, b0, Sync.start hokp hokt (by rw [ht.1]; exact hat), by rw [List.drop_zero]⟩
 have HH := hid HX
 have HW := hid hW
 have HT := hid hokt
 have HL := hid ht.1
 have HPL := hid hp.1
 have HPM : Hid (∀ i, i < pn → -24 ≤ p.getD i 0) := hid (fun i hi => (term_num hokp (by rw [hp.1]; exact hi)).1)
 generalize mst sg t p at_ s = R at *
 clear hW HX r0 r1 r2 b0 htab hs hokt hokp h hp ht
 go_enter Try.func36, Try.ntmps36
 go_wp2_with (first
  | (refine rowBox rfl 52 _ rfl cs rfl ?_)
  | (refine rowAlloc rfl 52 rfl z24 zero_b ?_))
 rw [← HW.out]
 go_loopw [12] (fun i wr => HeadX w A n c Q m mc sg t P pn p R i wr) (fun i _ => pn - (intOf i).toNat)
 case atStart => exact HH.out
 case round =>
  obtain ⟨j, k, s, rfl, hj, M, r2, sp, hb, hsy, hm1⟩ := hrel
  clear HH
  have HM1 := hid hm1
  have HSY := hid hsy
  clear hm1 hsy
  by_cases hlt : j < pn
  ·obtain ⟨bp, op, x, rfl, hbp, hx, ex⟩ := sp.spot hlt
   have hx24 : -24 ≤ x := by rw [← ex.out]; exact HPM.out j hlt
   have hkm : k < m := by have := HSY.out.lt (by rw [HPL.out]; exact hlt); rw [HL.out] at this; exact this
   have HD := hid (show p.drop j = x :: p.drop (j + 1) by rw [drop_cons (by rw [HPL.out]; exact hlt), ex.out])
   have LT := hid (take w.heap.size A Q n c m mc sg t k s x wr M hkm hmc hmc2 hx24 HT.out)
   have gl := M.lt
   have HR := hid r2
   have HB := hid hb
   have HP := hid sp
   clear M r2 hb sp
   go_wp2_with fail
   refine LT.out.mono ?_
   rintro e w2 ⟨bb, ⟨k', s', rfl, M, hmv, hr⟩ | ⟨rfl, hr⟩⟩
   ·have hsync : Sync sg p t (j + 1) k' := by
     rcases hmv with ⟨h0, h1, rfl⟩ | ⟨h0, rfl⟩
     ·exact HSY.out.sym (by rw [HPL.out]; exact hlt) ex.out h1
     ·exact HSY.out.var (by rw [HPL.out]; exact hlt) ex.out hx24 h0 HT.out
    have S : HeadX w A n c Q m mc sg t (some ⟨bp, op, none⟩) pn p R (.int .i64 ((j : Int) + 1)) w2 :=
     ⟨j + 1, k', s', by simp, hlt, M, segs.Row.btw HR.out bb (.inr (Nat.le_refl _)), seg_btw HP.out bb (by omega), Below.btw HB.out bb (Nat.le_refl _) (by omega), hsync, by rw [← hr, ← HD.out]; exact HM1.out⟩
    have HS := hid S
    clear S M hsync hmv hr bb HR HP HB LT ex HD hx
    go_wp2
    go_roundw
    case rel => exact HS.out
    case measure => simp [intOf]; omega
   ·have hR : R = none := by rw [← HM1.out, HD.out]; exact hr _
    have r2 := segs.Row.btw HR.out bb (.inr (Nat.le_refl _))
    have b2 := Below.btw HB.out bb (Nat.le_refl _) (by omega)
    have hz := r2
    unfold Row at hz
    have r3 := Row.setRow r2 z24
    have F : AnsExt w R (.returned (.tuple #[.agg z24, .bool false])) (w2.setRow (w.heap.size + 1 + 1) z24) :=
     ⟨z24, by rw [hR]; rfl, by rw [hR]; exact TabR.new _ _, fun i => by rw [hR]; simp only [Option.getD_none]; rw [s0_get]; simp, Below.btw b2 (Btw.of_grown (lo := w.heap.size) (hi := w.heap.size + 1 + 1 + 1) (grown_setRow w2 (w.heap.size + 1 + 1) z24) (fun k e => by injection e; omega)) (Nat.le_refl _) b2.size⟩
    have HF := hid F
    have H3 := hid r3
    have HZ := hid hz
    clear F r3 r2 b2 hz hr bb HR HP HB LT ex HD hx hR
    go_wp2_with (first
     | (refine rowBuild rfl 52 rfl z24 built_b ?_)
     | (refine rowStore rfl 52 _ _ rfl (w.heap.size + 1 + 1) z24 z24 52 rfl rfl HZ.out (by rw [z24_size]; exact size_b) rfl z24_one ?_))
    (try simp only [Exit.inBlock, Exit.then])
    refine bodyPost_ret (v := .tuple #[.agg z24, .bool false]) ?_ rfl HF.out
    exact results_row_tmp Try.results36 _ (w.heap.size + 1 + 1) 52 z24 _ rfl H3.out Try.underlying52 rfl (by rw [z24_size]; exact size_b)
  ·have hjp : j = pn := by omega
   have hR : R = some s := by rw [← HM1.out, hjp, List.drop_eq_nil_of_le (by rw [HPL.out]; exact Nat.le_refl _)]; rfl
   obtain ⟨cs', h1, h2⟩ := M.tab
   have hz1 := h1
   have hz2 := r2
   unfold Row at hz1 hz2
   have r3 := Row.setRow r2 cs'
   have hl := M.lt
   have F : AnsExt w R (.returned (.tuple #[.agg cs', .bool true])) (wr.setRow (w.heap.size + 1 + 1) cs') :=
    ⟨cs', by rw [hR]; rfl, by rw [hR]; exact h2.keep (keep_of (grown_setRow wr (w.heap.size + 1 + 1) cs') (by omega) (fun k e => by injection e; omega)), by rw [hR]; exact fun j => Nat.le_trans (M.hs j) hm,
     Below.btw hb (Btw.of_grown (lo := w.heap.size) (hi := w.heap.size + 1 + 1 + 1) (grown_setRow wr (w.heap.size + 1 + 1) cs') (fun k e => by injection e; omega)) (Nat.le_refl _) hb.size⟩
   have HF := hid F
   have H3 := hid r3
   have HZ1 := hid hz1
   have HZ2 := hid hz2
   have HSZ := hid h2.1
   have HON := hid h2.one
   clear F r3 r2 hz1 hz2 h1 h2 hR M sp hb hjp
   go_wp2_with (first
    | (refine wpList_load_row rfl 52 _ rfl w.heap.size rfl 52 cs' (0, 0) _ HZ1.out Try.underlying52 rfl (by rw [HSZ.out]; exact size_b) ?_)
    | (refine rowStore rfl 52 _ _ rfl (w.heap.size + 1 + 1) cs' z24 52 rfl rfl HZ2.out (by rw [HSZ.out]; exact size_b) (by rw [HSZ.out]; rfl) HON.out ?_))
   (try simp only [Exit.inBlock, Exit.then])
   refine bodyPost_ret (v := .tuple #[.agg cs', .bool true]) ?_ rfl HF.out
   exact results_row_tmp Try.results36 _ (w.heap.size + 1 + 1) 52 cs' _ rfl H3.out Try.underlying52 rfl (by rw [HSZ.out]; exact size_b)
set_option maxHeartbeats 1000000 in
theorem lookX (cs : Array Value) (s : List (List Int)) (w : World) (htab : TabR w w.heap.size cs s) :
  Calls Try.prog 78 #[.agg cs] w fun e w' => ∃ g, e = .returned (.func (.func 86) #[] #[.pointer (some ⟨g, 0, none⟩)]) ∧ Row w' g 31 #[.slice (some ⟨w.heap.size, 0, none⟩) 24 24] ∧ Segs w' w'.heap.size (some ⟨w.heap.size, 0, none⟩) 24 s ∧ Below w.heap.size w w' ∧ w.heap.size ≤ g := by
 obtain ⟨W, hW⟩ : ∃ W, W = w.alloc (.cells cs 52) := ⟨_, rfl⟩
 have b0 : Below w.heap.size w W := by rw [hW]; exact (Below.refl _ _).alloc (Nat.le_refl _) _
 have r0 : Row W w.heap.size 52 cs := by rw [hW]; exact Row.new w _ _
 have s1 : Segs W W.heap.size (some ⟨w.heap.size, 0, none⟩) 24 s := (htab.below b0).segs r0 b0.size
 have HW := hid hW
 clear hW htab r0
 go_enter Try.func78, Try.ntmps78
 go_wp2_with (first
  | (refine rowBox rfl 52 _ rfl cs rfl ?_))
 rw [← HW.out]
 refine (lookupIn (some ⟨w.heap.size, 0, none⟩) 24 24 W).mono ?_
 rintro e w3 ⟨rfl, hw3⟩
 have b3 : Below W.heap.size W w3 := by rw [hw3]; exact (Below.refl _ _).alloc (Nat.le_refl _) _
 have r3 : Row w3 W.heap.size 31 #[.slice (some ⟨w.heap.size, 0, none⟩) 24 24] := by rw [hw3]; exact Row.new _ _ _
 have F := hid (show ∃ g, Ending.returned (.func (.func 86) #[] #[.pointer (some ⟨W.heap.size, 0, none⟩)]) = .returned (.func (.func 86) #[] #[.pointer (some ⟨g, 0, none⟩)]) ∧ Row w3 g 31 #[.slice (some ⟨w.heap.size, 0, none⟩) 24 24] ∧ Segs w3 w3.heap.size (some ⟨w.heap.size, 0, none⟩) 24 s ∧ Below w.heap.size w w3 ∧ w.heap.size ≤ g from ⟨_, rfl, r3, s1.next b3, next_trans b0 b3, b0.size⟩)
 clear hw3 b3 r3 s1 b0
 go_wp2
 go_ret
 exact F.out
set_option maxHeartbeats 1000000 in
theorem plainB (cs : Array Value) (s : List (List Int)) (w : World) (htab : TabR w w.heap.size cs s) (hs : ∀ j, (s.getD j []).length ≤ 60) :
  Calls Try.prog 37 #[.agg cs] w (AnsSubst w (plainL (givesL s) 24)) := by
 obtain ⟨W, hW⟩ : ∃ W, W = (w.alloc (.cells cs 52)).alloc (.cells #[.slice none 0 0] 31) := ⟨_, rfl⟩
 have b0 : Below w.heap.size w W := by rw [hW]; exact ((Below.refl _ _).alloc (Nat.le_refl _) _).alloc (by simp) _
 have r0 : Row W w.heap.size 52 cs := by rw [hW]; exact (Row.new w _ _).alloc _
 have r1 : Row W (w.heap.size + 1) 31 #[.slice none 0 0] := by
  rw [hW]
  have := Row.new (w.alloc (.cells cs 52)) 31 #[.slice none 0 0]
  simpa using this
 have hz := r0
 unfold Row at hz
 rw [hW] at hz
 have HZ := hid hz
 clear hz
 have HSZ := hid htab.1
 have HW := hid hW
 have LK := hid (lookX cs s W (htab.below b0 |>.more b0.size))
 have HG := hid (show ∀ i, (givesL s i).length ≤ 60 from fun i => by
  unfold givesL
  split
  ·simp [vt]
  ·exact hs i)
 clear hW htab hs r0
 go_enter Try.func37, Try.ntmps37
 go_wp2_with (first
  | (refine rowBox rfl 52 _ rfl cs rfl ?_)
  | (refine wpList_load_row rfl 52 _ rfl w.heap.size rfl 52 cs (0, 0) _ HZ.out Try.underlying52 rfl (by rw [HSZ.out]; exact size_b) ?_))
 rw [← HW.out]
 refine LK.out.mono ?_
 rintro e w3 ⟨g, rfl, r3, s1, b3, hg⟩
 replace b0 := next_trans b0 b3
 replace r1 := r1.next b3
 have L3 := hid (plain 86 #[.pointer (some ⟨g, 0, none⟩)] (enters_of Try.func86 (by kernel_rfl) rfl) (givesL s) w3 (lookSubst g (some ⟨W.heap.size, 0, none⟩) 24 24 s w3 r3 s1 (by omega)) (gives_pos s) (fun i => Nat.le_trans (HG.out i) (by omega)))
 clear b3 r3 s1 hg LK
 go_wp2_with fail
 refine L3.out.mono ?_
 rintro e w4 ⟨O, on, oc, rfl, ho, b4⟩
 have z1 := r1.lt
 have z0 := b0.size
 replace r1 := r1.next b4
 replace b0 := next_trans b0 b4
 have cR : w4.cell? ⟨w.heap.size + 1, 0, none⟩ = some (.slice none 0 0) := r1.cell 0
 have fR : w4.frozen? ⟨w.heap.size + 1, 0, none⟩ = false := r1.free 0
 have F : AnsSubst w (plainL (givesL s) 24) (.returned (.agg #[.slice O on oc])) (w4.setCell ⟨w.heap.size + 1, 0, none⟩ (.slice O on oc)) :=
  ⟨O, on, oc, rfl, (owns_put ho r1 (by omega) 0 _).wider z0 (by simp), b0.setCell (p := ⟨w.heap.size + 1, 0, none⟩) (show w.heap.size ≤ w.heap.size + 1 by omega) _⟩
 have HF := hid F
 clear F ho r1 b0 b4 L3
 go_wp2
 exact bodyPost_ret (v := .agg #[.slice O on oc]) (by simp [results, Try.results37, go_sem, cR]) rfl HF.out
end extended
end
section
namespace pathSpec
open Go.RowKit base ints sig term arity endOf cursor termOk endAt inside marks app appAt sym args posMath
set_option maxRecDepth 100000
def PathIs (sg t : List Int) (x : Int) (pa : List Int) : Prop := (thereB sg t x = true ∧ ∃ ab, Trail sg t x.toNat 0 ab pa) ∨ (thereB sg t x = false ∧ pa = [])
theorem PathIs.one {sg t : List Int} {x : Int} {pa pa' : List Int} (h : PathIs sg t x pa) (h' : PathIs sg t x pa') : pa = pa' := by
 rcases h with ⟨e, ab, hw⟩ | ⟨e, rfl⟩ <;> rcases h' with ⟨e', ab', hw'⟩ | ⟨e', rfl⟩
 ·exact (hw.one hw').2
 ·rw [e] at e'; cases e'
 ·rw [e] at e'; cases e'
 ·rfl
theorem PathIs.len {sg t : List Int} {x : Int} {pa : List Int} (h : PathIs sg t x pa) : pa.length ≤ 60 := by
 rcases h with ⟨e, ab, hw⟩ | ⟨e, rfl⟩
 ·obtain ⟨hok, h0, h1⟩ := there_parts e
  have := hw.le
  have := (termOk_parts hok).2.1
  omega
 ·simp
theorem list_of {w w' : World} {xs ys : List Int} {A : Option Addr} {n c base : Nat} (e : ys = xs) (ho : Own w' base (.slice A n c) xs) (hB : w.heap.size ≤ base) (hb : Below w.heap.size w w') : AnsList w ys (.returned (.slice A n c)) w' :=
 ⟨A, n, c, rfl, by rw [e]; exact Own.lower ho hB, hb⟩
theorem Trail.split {sg t : List Int} {a q : Nat} {ab pa : List Int} (h : Trail sg t a q ab pa) (hne : q ≠ a) : ∃ (k : Nat) (ab' pa' : List Int), ab = (q : Int) :: ab' ∧ pa = (k : Int) :: pa' ∧ q < a ∧ k < arN sg t q ∧ argP sg t k (q + 1) ≤ a ∧ a < argP sg t k (q + 1) + len1 sg t (argP sg t k (q + 1)) ∧ q < argP sg t k (q + 1) ∧ Trail sg t a (argP sg t k (q + 1)) ab' pa' := by
 cases h with
 | here => exact absurd rfl hne
 | @down _ k ab' pa' h1 h2 h3 h4 h5 h6 hw => exact ⟨k, ab', pa', rfl, rfl, h1, h2, h3, h4, h5, hw⟩
end pathSpec
end
section
open Go.Lib (hid)
namespace matchList
open Go.RowKit base ints sig term termOk endAt inside marks app sym sub segs segsHelp termFacts termMath posMath pathSpec matchMath matchSpec
set_option maxRecDepth 100000
set_option maxHeartbeats 1000000 in
theorem specMoreGeneral (A P Q : Option Addr) (n c pn pc m mc : Nat) (sg p t : List Int) (w : World) (h : Seg w w.heap.size A n sg) (hp : Seg w w.heap.size P pn p) (ht : Seg w w.heap.size Q m t) (hn : n ≤ 1048576) (hpn : pn ≤ 1048576) (hm : m ≤ 1048576) (hpc : pn ≤ pc) (hpc2 : pc ≤ 9223372036854775807) (hmc : m ≤ mc) (hmc2 : mc ≤ 9223372036854775807) :
  Calls Try.prog 59 #[.agg #[.slice A n c], .slice P pn pc, .slice Q m mc] w (Tells w (moreB sg p t)) := by
 obtain ⟨W, hW⟩ : ∃ W, W = w.alloc (.cells #[.slice A n c] 26) := ⟨_, rfl⟩
 have f : Fr w W A n c sg Q m t := by rw [hW]; exact Fr.start h ht
 have sp : Seg W W.heap.size P pn p := (hp.below f.b).more (Nat.le_of_lt f.size)
 have HW := hid hW
 have L := hid (specInstanceIn A P Q n c pn pc m mc sg p t W f.s1 sp f.t1 hn hpn hm hmc hmc2)
 clear hW h hp ht
 obtain ⟨b1, e1⟩ : ∃ b, instB sg p t = b := ⟨_, rfl⟩
 obtain ⟨b2, e2⟩ : ∃ b, instB sg t p = b := ⟨_, rfl⟩
 have HF := hid (show moreB sg p t = (b1 && !b2) by unfold moreB; rw [e1, e2])
 rw [e1] at L
 have E2 := hid e2
 clear e1 e2
 go_enter Try.func59, Try.ntmps59
 go_wp2_with fail
 rw [← HW.out]
 refine L.out.mono ?_
 rintro e w1 ⟨rfl, bb⟩
 replace f := f.next bb
 replace sp := sp.next bb
 have cA := f.cell
 clear bb L
 cases b1 with
 | false =>
  have F := hid (show Tells w (moreB sg p t) (.returned (.bool false)) w1 from ⟨by rw [HF.out]; rfl, f.b⟩)
  clear f sp cA
  go_wp2
  go_ret
  exact F.out
 | true =>
  go_wp2_with fail
  refine (specInstanceIn A Q P n c m mc pn pc sg t p _ f.s1 f.t1 sp hn hm hpn hpc hpc2).mono ?_
  rintro e w2 ⟨he, bb⟩
  rw [E2.out] at he
  subst he
  have F := hid (show Tells w (moreB sg p t) (.returned (.bool (!b2))) w2 from ⟨by rw [HF.out]; rfl, (f.next bb).b⟩)
  clear f sp cA bb
  go_wp2
  go_ret
  exact F.out
def embN (sg p t : List Int) : Nat → List Int
 | 0 => []
 | k + 1 => embN sg p t k ++ (if instB sg p (subL sg t k) = true then [(k : Int)] else [])
theorem emb_len {sg p t : List Int} : ∀ k, (embN sg p t k).length ≤ k
 | 0 => by simp [embN]
 | k + 1 => by
  have := emb_len (sg := sg) (p := p) (t := t) k
  simp only [embN, List.length_append]
  split <;> simp <;> omega
def allB (sg : List Int) (ps : List (List Int)) : Bool := sigOkB sg && (decide (ps.length ≤ 12) && ps.all (termOkB sg))
theorem all_sig {sg : List Int} {ps : List (List Int)} (h : sigOkB sg = false) : allB sg ps = false := by unfold allB; rw [h]; rfl
theorem all_long {sg : List Int} {ps : List (List Int)} (h : 12 < ps.length) : allB sg ps = false := by unfold allB; rw [decide_eq_false (by omega)]; simp
theorem all_bad {sg : List Int} {ps : List (List Int)} {i : Nat} (hi : i < ps.length) (h : termOkB sg (ps.getD i []) = false) : allB sg ps = false := by
 unfold allB
 have : ps.all (termOkB sg) = false := by
  rw [List.all_eq_false]
  refine ⟨ps.getD i [], ?_, by rw [h]; simp⟩
  simp [List.getD, hi]
 rw [this]; simp
theorem all_good {sg : List Int} {ps : List (List Int)} (h1 : sigOkB sg = true) (h2 : ps.length ≤ 12) (h : ∀ i, i < ps.length → termOkB sg (ps.getD i []) = true) : allB sg ps = true := by
 unfold allB
 rw [h1, decide_eq_true h2]
 have : ps.all (termOkB sg) = true := by
  rw [List.all_eq_true]
  intro x hx
  obtain ⟨i, hi, rfl⟩ := List.getElem_of_mem hx
  have := h i hi
  simpa [List.getD, hi] using this
 rw [this]; rfl
theorem all_parts {sg : List Int} {ps : List (List Int)} (h : allB sg ps = true) : sigOkB sg = true ∧ ps.length ≤ 12 ∧ ∀ i, i < ps.length → termOkB sg (ps.getD i []) = true := by
 unfold allB at h
 simp only [Bool.and_eq_true, decide_eq_true_eq, List.all_eq_true] at h
 refine ⟨h.1, h.2.1, fun i hi => h.2.2 _ ?_⟩
 simp [List.getD, hi]
structure Fs (w wr : World) (A : Option Addr) (n c : Nat) (sg : List Int) (P : Option Addr) (pn : Nat) (ps : List (List Int)) : Prop where
 r : Row wr w.heap.size 26 #[.slice A n c]
 s : Seg wr w.heap.size A n sg
 s' : Segs wr w.heap.size P pn ps
 b : Below w.heap.size w wr
section
variable {w wr w' : World} {A : Option Addr} {n c : Nat} {sg : List Int} {P : Option Addr} {pn : Nat} {ps : List (List Int)}
theorem Fs.start (h : Seg w w.heap.size A n sg) (h' : Segs w w.heap.size P pn ps) : Fs w (w.alloc (.cells #[.slice A n c] 26)) A n c sg P pn ps :=
 have b : Below w.heap.size w (w.alloc (.cells #[.slice A n c] 26)) := (Below.refl _ _).alloc (Nat.le_refl _) _
 ⟨Row.new _ _ _, h.below b, h'.below b, b⟩
theorem Fs.next (f : Fs w wr A n c sg P pn ps) (hb : Below wr.heap.size wr w') : Fs w w' A n c sg P pn ps :=
 have b : Below w.heap.size wr w' := hb.mono (Nat.le_of_lt f.r.lt)
 ⟨f.r.next hb, f.s.below b, f.s'.below b, f.b.trans b⟩
theorem Fs.over (f : Fs w wr A n c sg P pn ps) (hb : Below (w.heap.size + 1) wr w') : Fs w w' A n c sg P pn ps :=
 have b : Below w.heap.size wr w' := hb.mono (Nat.le_succ _)
 ⟨f.r.below hb (Nat.lt_succ_self _), f.s.below b, f.s'.below b, f.b.trans b⟩
theorem Fs.alloc (f : Fs w wr A n c sg P pn ps) (o : Obj) : Fs w (wr.alloc o) A n c sg P pn ps := f.next ((Below.refl _ _).alloc (Nat.le_refl _) _)
theorem Fs.drew (f : Fs w wr A n c sg P pn ps) : Fs w wr.drew A n c sg P pn ps := f.over (Below.refl _ _).drew
theorem Fs.cell (f : Fs w wr A n c sg P pn ps) : wr.cell? ⟨w.heap.size, 0, none⟩ = some (.slice A n c) := f.r.cell 0
theorem Fs.s1 (f : Fs w wr A n c sg P pn ps) : Seg wr wr.heap.size A n sg := f.s.more (Nat.le_of_lt f.r.lt)
theorem Fs.size (f : Fs w wr A n c sg P pn ps) : w.heap.size < wr.heap.size := f.r.lt
end
set_option maxHeartbeats 1000000 in
theorem l4All (A P : Option Addr) (n c pn pc : Nat) (sg : List Int) (ps : List (List Int)) (w : World) (h : Seg w w.heap.size A n sg) (hp : Segs w w.heap.size P pn ps) (hn : n ≤ 1048576) (ht : tot ps ≤ 1048576) :
  Calls Try.prog 58 #[.agg #[.slice A n c], .slice P pn pc] w (Tells w (allB sg ps)) := by
 obtain ⟨W, hW⟩ : ∃ W, W = w.alloc (.cells #[.slice A n c] 26) := ⟨_, rfl⟩
 have f : Fs w W A n c sg P pn ps := by rw [hW]; exact Fs.start h hp
 have HW := hid hW
 have HL := hid hp.1
 have HE := hid (tot_each ht)
 have hpn : pn ≤ 1048576 := tot_len hp.1 ht
 have L := hid (specSigOk A n c sg W f.s1 hn)
 clear hW h hp ht
 cases hsig : sigOkB sg with
 | false =>
  have HS := hid hsig
  have HF := hid (all_sig (ps := ps) hsig)
  clear hsig
  go_enter Try.func58, Try.ntmps58
  go_wp2_with fail
  rw [← HW.out]
  refine L.out.mono ?_
  rintro e w1 ⟨he, bb⟩
  rw [HS.out] at he
  subst he
  have F := hid (show Tells w (allB sg ps) (.returned (.bool false)) w1 from ⟨by rw [HF.out], (f.next bb).b⟩)
  clear f L bb
  go_wp2
  go_ret
  exact F.out
 | true =>
  have HS := hid hsig
  clear hsig
  by_cases hlong : 12 < pn
  ·have HF := hid (all_long (sg := sg) (ps := ps) (by rw [HL.out]; exact hlong))
   have h12 : (12 : Int) < (pn : Int) := by omega
   go_enter Try.func58, Try.ntmps58
   go_wp2_with fail
   rw [← HW.out]
   refine L.out.mono ?_
   rintro e w1 ⟨he, bb⟩
   rw [HS.out] at he
   subst he
   have F := hid (show Tells w (allB sg ps) (.returned (.bool false)) w1 from ⟨by rw [HF.out], (f.next bb).b⟩)
   clear f L bb
   go_wp2
   go_ret
   exact F.out
  ·have h12 : ¬ (12 : Int) < (pn : Int) := by omega
   go_enter Try.func58, Try.ntmps58
   go_wp2_with fail
   rw [← HW.out]
   refine L.out.mono ?_
   rintro e w1 ⟨he, bb⟩
   rw [HS.out] at he
   subst he
   have HM0 := hid (f.next bb)
   clear f L bb
   go_wp2_with fail
   go_loopg [5] pn (fun g i wr => ∃ k : Nat, i = .int .i64 k ∧ k + g = pn ∧ (∀ j, j < k → termOkB sg (ps.getD j []) = true) ∧ Fs w wr A n c sg P pn ps)
   case atStart => exact ⟨0, rfl, by omega, fun j hj => absurd hj (Nat.not_lt_zero _), HM0.out⟩
   case round =>
    obtain ⟨k, rfl, hk, hall, f⟩ := hrel
    clear HM0
    have HK := hid hk
    have HA := hid hall
    clear hk hall
    by_cases hkp : k < pn
    ·obtain ⟨b, off, D, dn, dc, rfl, hbb, hc, hsg, hcap⟩ := f.s'.spot hkp
     have hdn : dn ≤ 1048576 := by have := HE.out k; rw [hsg.1] at this; exact this
     have hgk := hid (show gk - 1 < gk ∧ k + 1 + (gk - 1) = pn by have := HK.out; omega)
     obtain ⟨bk, hbk⟩ : ∃ b, termOkB sg (ps.getD k []) = b := ⟨_, rfl⟩
     have HB := hid hbk
     have sd : Seg wr.drew wr.drew.heap.size D dn (ps.getD k []) := (hsg.more (Nat.le_of_lt f.size)).drew
     obtain ⟨ys, hys⟩ : ∃ ys, ps.getD k [] = ys := ⟨_, rfl⟩
     rw [hys] at sd HB
     have HYS := hid hys
     have z0 := f.size
     replace f := f.drew
     have cA := f.cell
     have cy : wr.drew.cell? ⟨b, off + k, none⟩ = some (.slice D dn dc) := hc
     clear hsg hcap hc hbk hys
     go_wp2_with fail
     go_region_held3 (fun w' => w'.cell? ⟨w.heap.size, 0, none⟩ = some (.slice A n c) ∧ w'.cell? ⟨b, off + k, none⟩ = some (.slice D dn dc))
      (first | exact ⟨by assumption, by assumption⟩ | go_keep)
      (first
       | (go_at_call 25; refine (specTermOk A D n c dn dc sg ys _ f.s1 sd hn hdn).mono ?_; rintro e w2 ⟨he, bb⟩; rw [HB.out] at he; subst he; have f2 := f.next bb; have cA2 := f2.cell; have cy2 : w2.cell? ⟨b, off + k, none⟩ = some (.slice D dn dc) := (bb.cell (p := ⟨b, off + k, none⟩) (Nat.lt_trans hbb z0)).trans cy))
     clear cA cA2 cy cy2 f sd bb
     cases bk with
     | false =>
      have F := hid (show Tells w (allB sg ps) (.returned (.bool false)) w2 from ⟨by rw [all_bad (i := k) (by rw [HL.out]; exact hkp) (by rw [HYS.out]; exact HB.out)], f2.b⟩)
      clear f2
      go_wp2
      go_ret
      exact F.out
     | true =>
      have HM := hid f2
      clear f2
      go_wp2
      go_roundg (gk - 1)
      case measure => exact hgk.out.1
      case rel => exact ⟨k + 1, by simp, hgk.out.2, fun j hj => by
       by_cases e : j = k
       ·subst e; rw [HYS.out]; exact HB.out
       ·exact HA.out j (by omega), HM.out⟩
    ·have F := hid (show Tells w (allB sg ps) (.returned (.bool true)) wr from ⟨by rw [all_good HS.out (by rw [HL.out]; omega) (fun i hi => HA.out i (by rw [HL.out] at hi; omega))], f.b⟩)
     clear f
     go_wp2
     go_ret
     exact F.out
def maN (sg : List Int) (ps : List (List Int)) (t : List Int) : Nat → List Int
 | 0 => []
 | k + 1 => maN sg ps t k ++ (if instB sg (ps.getD k []) t = true then [(k : Int)] else [])
theorem ma_len {sg : List Int} {ps : List (List Int)} {t : List Int} : ∀ k, (maN sg ps t k).length ≤ k
 | 0 => by simp [maN]
 | k + 1 => by
  have := ma_len (sg := sg) (ps := ps) (t := t) k
  simp only [maN, List.length_append]
  split <;> simp <;> omega
def maI (sg : List Int) (ps : List (List Int)) (t : List Int) : List Int := if (allB sg ps && termOkB sg t) = true then maN sg ps t ps.length else []
theorem ma_no {sg : List Int} {ps : List (List Int)} {t : List Int} (h : allB sg ps = false ∨ termOkB sg t = false) : maI sg ps t = [] := by
 unfold maI
 rw [if_neg]
 rcases h with h | h <;> rw [h] <;> simp
theorem ma_yes {sg : List Int} {ps : List (List Int)} {t : List Int} (h1 : allB sg ps = true) (h2 : termOkB sg t = true) : maI sg ps t = maN sg ps t ps.length := by unfold maI; rw [if_pos (by rw [h1, h2]; rfl)]
def HeadMa (w : World) (A : Option Addr) (n c : Nat) (sg : List Int) (P : Option Addr) (pn : Nat) (ps : List (List Int)) (Q : Option Addr) (m : Nat) (t : List Int) (g : Nat) (out k : Value) (wr : World) : Prop :=
 ∃ (i : Nat) (O : Option Addr) (on oc : Nat), k = .int .i64 i ∧ i + g = pn ∧ out = .slice O on oc ∧ Own wr (w.heap.size + 1) (.slice O on oc) (maN sg ps t i) ∧ Fs w wr A n c sg P pn ps ∧ Seg wr w.heap.size Q m t
end matchList
end
end Go.Proofs.Ytgfgaeagbipobaa
