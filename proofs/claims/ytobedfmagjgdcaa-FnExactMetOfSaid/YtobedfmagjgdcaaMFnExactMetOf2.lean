/-
  MERGED: my texts Depth, TermMath, TermFacts, PosMath, VarsMath, FillMath, RenMath, MatchMath, PlainMath, UnifMath, UnifDom, Look, Then, AnsB, SubstOk, Gives, HeldT, one behind the other, as they are. By an AI agent.
-/
import Derived.Test.YtobedfmagjgdcaaMFnExactMetOf1
import Derived.Shelf.Abstract
import Derived.Deep.DeepCutAuto
import Derived.Laws.NewBlocks
import Derived.Laws.EntriesVeiled
import Derived.Deep.RegionHeld3
import Derived.Deep.QuietTactic
import Derived.BigQuiet
import Derived.OrdersHeld
import Derived.Deep.RegionHeld
namespace Go.Proofs.Ytobedfmagjgdcaa
section
namespace depth
open Go.RowKit base ints sig term arity endOf cursor termOk endAt marks app sym args
theorem max_any (x y : Int) (w : World) : Calls Try.prog 96 #[.int .i64 x, .int .i64 y] w fun e w' => w = w' ∧ e = .returned (.int .i64 (max x y)) := by
 by_cases h : y < x
 ·have e : max x y = x := by omega
  rw [e]
  go_enter Try.func96, Try.ntmps96
  go_wp2
  go_ret
  exact ⟨rfl, rfl⟩
 ·have e : max x y = y := by omega
  rw [e]
  go_enter Try.func96, Try.ntmps96
  go_wp2
  go_ret
  exact ⟨rfl, rfl⟩
def Deep (sg t : List Int) (f : Nat) (M d : Int) (q p : Nat) : Prop := max d (maxOver sg t (dep sg t f) q p) = M ∧ 0 ≤ d ∧ d ≤ f ∧ ∃ i, scan sg q (t.drop p) = some i ∧ i ≤ f ∧ p + i ≤ t.length
theorem Deep.first {sg t : List Int} {f : Nat} {M d : Int} {q p : Nat} (h : Deep sg t f M d (q + 1) p) : ∃ j, scan sg 1 (t.drop p) = some j ∧ j ≤ f ∧ p < t.length ∧ p + j ≤ t.length ∧ Deep sg t f M (max d (dep sg t f p)) q (p + j) := by
 obtain ⟨h1, h2, h3, i, h4, h5, h6⟩ := h
 obtain ⟨j, e1, e2, e3, e4⟩ := scan_first h4
 have hb := dep_bd (sg := sg) (t := t) f p
 refine ⟨j, e1, by omega, by omega, by omega, ?_, by omega, by omega, i - j, e4, by omega, by omega⟩
 simp only [maxOver, len1_eq e1] at h1
 omega
def depthI (sg t : List Int) : Int := if termOkB sg t = true then dep sg t t.length 0 else 0
end depth
end
section
namespace termMath
open term termOk endAt sub args depth sig
theorem scan_append {sg : List Int} : ∀ {l r : List Int} {q j : Nat}, scan sg q l = some j → scan sg q (l ++ r) = some j := by
 intro l
 induction l with
 | nil =>
  intro r q j h
  cases q with
  | zero => rw [scan_zero] at h ⊢; exact h
  | succ q => rw [scan_nil] at h; cases h
 | cons x l ih =>
  intro r q j h
  cases q with
  | zero => rw [scan_zero] at h ⊢; exact h
  | succ q =>
   by_cases ha : ar sg x < 0
   ·rw [scan_bad ha] at h; cases h
   ·rw [scan_step ha] at h
    rw [List.cons_append, scan_step ha]
    obtain ⟨j', hj', rfl⟩ := Option.map_eq_some_iff.1 h
    rw [ih hj']
    rfl
theorem scan_take {sg : List Int} : ∀ {l : List Int} {q j : Nat}, scan sg q l = some j → scan sg q (l.take j) = some j := by
 intro l
 induction l with
 | nil => intro q j h; simpa using h
 | cons x l ih =>
  intro q j h
  cases q with
  | zero => rw [scan_zero] at h ⊢; exact h
  | succ q =>
   by_cases ha : ar sg x < 0
   ·rw [scan_bad ha] at h; cases h
   ·rw [scan_step ha] at h
    obtain ⟨j', hj', rfl⟩ := Option.map_eq_some_iff.1 h
    rw [List.take_succ_cons, scan_step ha, ih hj']
    rfl
theorem scan_same {sg l l' : List Int} {q j : Nat} (h : scan sg q l = some j) (e : l.take j = l'.take j) : scan sg q l' = some j := by
 have h1 := scan_take h
 rw [e] at h1
 have h2 := scan_append (r := l'.drop j) h1
 rwa [List.take_append_drop] at h2
theorem take_less {l l' : List Int} {i j : Nat} (e : l.take i = l'.take i) (h : j ≤ i) : l.take j = l'.take j := by
 have : (l.take i).take j = (l'.take i).take j := by rw [e]
 rwa [List.take_take, List.take_take, Nat.min_eq_left h] at this
theorem drop_same {l l' : List Int} {i j : Nat} (e : l.take i = l'.take i) : (l.drop j).take (i - j) = (l'.drop j).take (i - j) := by
 rw [← List.drop_take, ← List.drop_take, e]
theorem get_same {t t' : List Int} {a a' i : Nat} (e : (t.drop a).take i = (t'.drop a').take i) (h : 1 ≤ i) : t.getD a 0 = t'.getD a' 0 := by
 have : ((t.drop a).take i)[0]? = ((t'.drop a').take i)[0]? := by rw [e]
 rw [List.getElem?_take, List.getElem?_take, if_pos (by omega), if_pos (by omega), List.getElem?_drop, List.getElem?_drop] at this
 simpa [List.getD] using congrArg (fun o => o.getD 0) this
theorem max_same {sg t t' : List Int} {f f' : Nat} (hd : ∀ a a' j, (t.drop a).take j = (t'.drop a').take j → scan sg 1 (t.drop a) = some j → j ≤ f → j ≤ f' → dep sg t f a = dep sg t' f' a') :
  ∀ q p p' i, (t.drop p).take i = (t'.drop p').take i → scan sg q (t.drop p) = some i → i ≤ f → i ≤ f' → maxOver sg t (dep sg t f) q p = maxOver sg t' (dep sg t' f') q p'
 | 0, _, _, _, _, _, _, _ => rfl
 | q + 1, p, p', i, e, h, h1, h2 => by
  obtain ⟨j, e1, e2, e3, e4⟩ := scan_first h
  have e5 := scan_same e1 (take_less e e3)
  have hdr : (t.drop (p + j)).take (i - j) = (t'.drop (p' + j)).take (i - j) := by
   have := drop_same (j := j) e
   rwa [List.drop_drop, List.drop_drop] at this
  simp only [maxOver, len1_eq e1, len1_eq e5]
  rw [hd p p' j (take_less e e3) e1 (by omega) (by omega), max_same hd q (p + j) (p' + j) (i - j) hdr e4 (by omega) (by omega)]
theorem dep_same {sg : List Int} : ∀ (f f' : Nat) (t t' : List Int) (a a' j : Nat), (t.drop a).take j = (t'.drop a').take j → scan sg 1 (t.drop a) = some j → j ≤ f → j ≤ f' → dep sg t f a = dep sg t' f' a'
 | 0, _, _, _, _, _, _, _, h, h1, _ => by have := scan_pos (q := 0) h; omega
 | _ + 1, 0, _, _, _, _, _, _, h, _, h2 => by have := scan_pos (q := 0) h; omega
 | f + 1, f' + 1, t, t', a, a', j, e, h, h1, h2 => by
  have hj := scan_pos (q := 0) h
  have hg := get_same e hj
  obtain ⟨i, e1, _, _, e2⟩ := scan_args h
  have hdr : (t.drop (a + 1)).take i = (t'.drop (a' + 1)).take i := by
   have := drop_same (j := 1) e
   rw [List.drop_drop, List.drop_drop] at this
   have e3 : j - 1 = i := by omega
   rwa [e3] at this
  simp only [dep]
  rw [← hg, max_same (fun a a' j e h h1 h2 => dep_same f f' t t' a a' j e h h1 h2) _ (a + 1) (a' + 1) i hdr e2 (by omega) (by omega)]
theorem sub_term {sg t : List Int} {a : Nat} (hok : termOkB sg t = true) (ha : a < t.length) : termOkB sg (subL sg t a) = true ∧ depthI sg (subL sg t a) = dep sg t (t.length + 1) a ∧ endI sg t a = (a : Int) + ((subL sg t a).length : Int) ∧ 1 ≤ (subL sg t a).length := by
 have hp := termOk_parts hok
 obtain ⟨j, hj, hj1, hj2⟩ := scan_at hp.2.2 ha
 have hl : len1 sg t a = j := len1_eq hj
 have hs : subL sg t a = (t.drop a).take j := by unfold subL; rw [hl]
 have hlen : (subL sg t a).length = j := by rw [hs]; simp; omega
 have hsc : scan sg 1 (subL sg t a) = some (subL sg t a).length := by rw [hlen, hs]; exact scan_take hj
 have hok2 : termOkB sg (subL sg t a) = true := by
  unfold termOkB termB
  rw [hp.1, hsc]
  simp
  omega
 refine ⟨hok2, ?_, by rw [endI_some hj, hlen], by omega⟩
 unfold depthI
 rw [if_pos hok2, hlen]
 refine (dep_same _ _ _ _ _ _ j ?_ ?_ (Nat.le_refl _) (by omega))
 ·rw [List.drop_zero, hs, List.take_take, Nat.min_self]
 ·rw [List.drop_zero, hsc, hlen]
def Loop (sg t : List Int) (a : Nat) (M : Int) (zs args : List Int) (d : Int) (k q pp : Nat) : Prop :=
 args.drop k = places sg t q pp ∧ max d (maxOver sg t (dep sg t t.length) q pp) = M ∧ 0 ≤ d ∧ d ≤ t.length ∧ ∃ i, scan sg q (t.drop pp) = some i ∧ pp + i ≤ t.length ∧ zs ++ (t.drop pp).take i = subL sg t a
theorem Loop.step {sg t : List Int} {a : Nat} {M : Int} {zs args : List Int} {d : Int} {k q pp : Nat} (hok : termOkB sg t = true) (h : Loop sg t a M zs args d k (q + 1) pp) :
  pp < t.length ∧ args.getD k 0 = (pp : Int) ∧ ∃ jj, Loop sg t a M (zs ++ subL sg t pp) args (max d (depthI sg (subL sg t pp))) (k + 1) q (pp + jj) := by
 obtain ⟨h1, h2, h3, h4, i, h5, h6, h7⟩ := h
 obtain ⟨j, e1, e2, e3, e4⟩ := scan_first h5
 have hlt : pp < t.length := by omega
 refine ⟨hlt, ?_, j, ?_⟩
 ·have : (args.drop k)[0]? = (places sg t (q + 1) pp)[0]? := by rw [h1]
  simp [places] at this
  simp [List.getD, this]
 ·have hdep : depthI sg (subL sg t pp) = dep sg t t.length pp := by
   rw [(sub_term hok hlt).2.1]
   exact dep_same _ _ _ _ _ _ j rfl e1 (by omega) (by omega)
  have hb := dep_bd (sg := sg) (t := t) t.length pp
  refine ⟨?_, ?_, by omega, by rw [hdep]; omega, i - j, e4, by omega, ?_⟩
  ·have : (args.drop k).drop 1 = (places sg t (q + 1) pp).drop 1 := by rw [h1]
   rw [List.drop_drop] at this
   simpa [places, len1_eq e1] using this
  ·rw [hdep]
   simp only [maxOver, len1_eq e1] at h2
   omega
  ·rw [← h7, List.append_assoc]
   congr 1
   unfold subL
   rw [len1_eq e1, ← List.drop_drop, ← List.drop_take]
   have := List.take_append_drop j ((t.drop pp).take i)
   rwa [List.take_take, Nat.min_eq_left e3] at this
end termMath
end
section
namespace termFacts
open sig term termOk
theorem term_parts {sg t : List Int} (h : termOkB sg t = true) : sigOkB sg = true ∧ t.length ≤ 60 ∧ scan sg 1 t = some t.length := by
 unfold termOkB termB at h
 simp only [Bool.and_eq_true, decide_eq_true_eq] at h
 exact h
theorem term_mk {sg t : List Int} (h1 : sigOkB sg = true) (h2 : t.length ≤ 60) (h3 : scan sg 1 t = some t.length) : termOkB sg t = true := by
 unfold termOkB termB
 simp [h1, h2, h3]
theorem term_len {sg t : List Int} (h : termOkB sg t = true) : 1 ≤ t.length ∧ t.length ≤ 60 := ⟨scan_pos (q := 0) (term_parts h).2.2, (term_parts h).2.1⟩
theorem term_ar {sg t : List Int} (h : termOkB sg t = true) {j : Nat} (hj : j < t.length) : ¬ ar sg (t.getD j 0) < 0 := by
 obtain ⟨i, h1, _, _⟩ := scan_at (term_parts h).2.2 hj
 obtain ⟨_, _, _, h2, _⟩ := scan_args h1
 exact h2
theorem term_num {sg t : List Int} (h : termOkB sg t = true) {j : Nat} (hj : j < t.length) : -24 ≤ t.getD j 0 ∧ t.getD j 0 < 8 := by
 have h1 := term_ar h hj
 have h2 := (sig_arities (term_parts h).1).2
 unfold ar at h1
 split at h1
 ·omega
 ·split at h1
  ·omega
  ·omega
theorem term_mem {sg t : List Int} (h : termOkB sg t = true) {x : Int} (hx : x ∈ t) : -24 ≤ x ∧ x < 8 := by
 obtain ⟨j, hj, rfl⟩ := List.getElem_of_mem hx
 have := term_num h hj
 simpa [List.getD, hj] using this
end termFacts
end
section
namespace posMath
open sig term termOk termFacts endAt sub args depth termMath
def argP (sg t : List Int) : Nat → Nat → Nat
 | 0, p => p
 | k + 1, p => argP sg t k (p + len1 sg t p)
theorem argP_succ {sg t : List Int} : ∀ k p, argP sg t (k + 1) p = argP sg t k p + len1 sg t (argP sg t k p)
 | 0, _ => rfl
 | k + 1, p => by
  show argP sg t (k + 1) (p + len1 sg t p) = _
  rw [argP_succ k]
  rfl
theorem argP_mono {sg t : List Int} {p k : Nat} : ∀ {k' : Nat}, k ≤ k' → argP sg t k p ≤ argP sg t k' p := by
 intro k' h
 induction k' with
 | zero => rw [Nat.le_zero.1 h]; exact Nat.le_refl _
 | succ k' ih =>
  by_cases e : k = k' + 1
  ·rw [e]; exact Nat.le_refl _
  ·have := ih (by omega)
   rw [argP_succ]
   omega
def arN (sg t : List Int) (p : Nat) : Nat := (ar sg (t.getD p 0)).toNat
inductive Trail (sg t : List Int) (at_ : Nat) : Nat → List Int → List Int → Prop
 | here : Trail sg t at_ at_ [] []
 | down {p k : Nat} {ab pa : List Int} (h1 : p < at_) (h2 : k < arN sg t p) (h3 : argP sg t k (p + 1) ≤ at_) (h4 : at_ < argP sg t k (p + 1) + len1 sg t (argP sg t k (p + 1))) (h5 : p < argP sg t k (p + 1)) (h6 : at_ < p + len1 sg t p) (hw : Trail sg t at_ (argP sg t k (p + 1)) ab pa) : Trail sg t at_ p ((p : Int) :: ab) ((k : Int) :: pa)
theorem Trail.len {sg t : List Int} {at_ p : Nat} {ab pa : List Int} (h : Trail sg t at_ p ab pa) : ab.length = pa.length := by
 induction h with
 | here => rfl
 | down _ _ _ _ _ _ _ ih => simp [ih]
theorem Trail.le {sg t : List Int} {at_ p : Nat} {ab pa : List Int} (h : Trail sg t at_ p ab pa) : p ≤ at_ ∧ pa.length ≤ at_ - p := by
 induction h with
 | here => simp
 | down h1 _ _ _ h5 _ _ ih => simp only [List.length_cons]; omega
def upTo (sg t : List Int) (at_ : Nat) : Nat → Nat → List Int
 | _, 0 => []
 | p, n + 1 => (if at_ < p + len1 sg t p then [(p : Int)] else []) ++ upTo sg t at_ (p + 1) n
end posMath
end
section
namespace varsMath
open term termOk
def into : List Int → Int → List Int
 | [], n => [n]
 | y :: r, n => if y < n then y :: into r n else if y = n then y :: r else n :: y :: r
theorem into_mem {xs : List Int} {n x : Int} : x ∈ into xs n ↔ x = n ∨ x ∈ xs := by
 induction xs with
 | nil => simp [into]
 | cons y r ih =>
  rw [into]
  split
  ·rw [List.mem_cons, ih, List.mem_cons]
   constructor
   ·rintro (h | h | h)
    ·exact .inr (.inl h)
    ·exact .inl h
    ·exact .inr (.inr h)
   ·rintro (h | h | h)
    ·exact .inr (.inl h)
    ·exact .inl h
    ·exact .inr (.inr h)
  ·split
   ·rename_i h1 h2
    subst h2
    simp
   ·simp
theorem into_len (xs : List Int) (n : Int) : (into xs n).length ≤ xs.length + 1 := by
 induction xs with
 | nil => simp [into]
 | cons y r ih =>
  rw [into]
  split
  ·simp; omega
  ·split <;> simp
abbrev Rises (xs : List Int) : Prop := xs.Pairwise (· < ·)
theorem into_rises {xs : List Int} {n : Int} (h : Rises xs) : Rises (into xs n) := by
 induction xs with
 | nil => simp [into, Rises]
 | cons y r ih =>
  have h1 := List.pairwise_cons.1 h
  rw [into]
  split
  ·rename_i hy
   refine List.pairwise_cons.2 ⟨fun z hz => ?_, ih h1.2⟩
   rcases into_mem.1 hz with e | e
   ·omega
   ·exact h1.1 z e
  ·split
   ·exact h
   ·rename_i a b
    refine List.pairwise_cons.2 ⟨fun z hz => ?_, h⟩
    rcases List.mem_cons.1 hz with e | e
    ·omega
    ·have := h1.1 z e; omega
theorem rises_unique : ∀ {xs ys : List Int}, Rises xs → Rises ys → (∀ x, x ∈ xs ↔ x ∈ ys) → xs = ys
 | [], [], _, _, _ => rfl
 | [], y :: r, _, _, h => by have := (h y).2 (List.mem_cons_self ..); cases this
 | x :: r, [], _, _, h => by have := (h x).1 (List.mem_cons_self ..); cases this
 | x :: r, y :: q, hx, hy, h => by
  have h1 := List.pairwise_cons.1 hx
  have h2 := List.pairwise_cons.1 hy
  have e : x = y := by
   have a := (h x).1 (List.mem_cons_self ..)
   have b := (h y).2 (List.mem_cons_self ..)
   rcases List.mem_cons.1 a with a | a
   ·exact a
   ·rcases List.mem_cons.1 b with b | b
    ·exact b.symm
    ·have := h1.1 y b
     have := h2.1 x a
     omega
  subst e
  rw [rises_unique h1.2 h2.2 (fun z => ?_)]
  constructor
  ·intro hz
   rcases List.mem_cons.1 ((h z).1 (List.mem_cons_of_mem _ hz)) with e | e
   ·have := h1.1 z hz; omega
   ·exact e
  ·intro hz
   rcases List.mem_cons.1 ((h z).2 (List.mem_cons_of_mem _ hz)) with e | e
   ·have := h2.1 z hz; omega
   ·exact e
def negs (t : List Int) : List Int := (t.filter fun n => decide (n < 0)).map fun n => -1 - n
def vars (t : List Int) : List Int := (negs t).foldl into []
theorem negs_snoc_yes {t : List Int} {x : Int} (h : x < 0) : negs (t ++ [x]) = negs t ++ [-1 - x] := by simp [negs, h]
theorem negs_snoc_no {t : List Int} {x : Int} (h : ¬ x < 0) : negs (t ++ [x]) = negs t := by simp [negs, h]
theorem take_snoc {t : List Int} {k : Nat} (hk : k < t.length) {x : Int} (hx : t.getD k 0 = x) : t.take (k + 1) = t.take k ++ [x] := by
 rw [List.take_succ_eq_append_getElem hk, ← hx]
 simp [List.getD, hk]
theorem negs_yes {t : List Int} {k : Nat} {x : Int} (hk : k < t.length) (hx : t.getD k 0 = x) (h : x < 0) : negs (t.take (k + 1)) = negs (t.take k) ++ [-1 - x] := by rw [take_snoc hk hx, negs_snoc_yes h]
theorem negs_no {t : List Int} {k : Nat} {x : Int} (hk : k < t.length) (hx : t.getD k 0 = x) (h : ¬ x < 0) : negs (t.take (k + 1)) = negs (t.take k) := by rw [take_snoc hk hx, negs_snoc_no h]
theorem negs_len (t : List Int) : (negs t).length ≤ t.length := by unfold negs; rw [List.length_map]; exact List.length_filter_le _ _
theorem fold_len : ∀ (l xs : List Int), (l.foldl into xs).length ≤ xs.length + l.length
 | [], _ => by simp
 | n :: l, xs => by have := fold_len l (into xs n); have := into_len xs n; simp; omega
theorem vars_len (t : List Int) : (vars t).length ≤ t.length := by have := fold_len (negs t) []; have := negs_len t; unfold vars; simp at *; omega
theorem fold_mem {x : Int} : ∀ {l xs : List Int}, x ∈ l.foldl into xs ↔ x ∈ xs ∨ x ∈ l
 | [], _ => by simp
 | n :: l, xs => by
  rw [List.foldl_cons, fold_mem, into_mem, List.mem_cons]
  constructor
  ·rintro ((h | h) | h)
   ·exact .inr (.inl h)
   ·exact .inl h
   ·exact .inr (.inr h)
  ·rintro (h | h | h)
   ·exact .inl (.inr h)
   ·exact .inl (.inl h)
   ·exact .inr h
theorem fold_rises : ∀ {l xs : List Int}, Rises xs → Rises (l.foldl into xs)
 | [], _, h => h
 | n :: l, xs, h => by rw [List.foldl_cons]; exact fold_rises (into_rises h)
theorem vars_mem {t : List Int} {x : Int} : x ∈ vars t ↔ x ∈ negs t := by unfold vars; rw [fold_mem]; simp
theorem vars_rises (t : List Int) : Rises (vars t) := fold_rises List.Pairwise.nil
def varsI (sg t : List Int) : List Int := if termOkB sg t = true then vars t else []
end varsMath
end
section
namespace fillMath
open sig term termOk termFacts varsMath
def vt (i : Nat) : List Int := [-1 - (i : Int)]
def rep (L : Nat → List Int) (n : Int) : List Int := if 0 ≤ n then [n] else L (-1 - n).toNat
def fillL (L : Nat → List Int) (t : List Int) : List Int := t.flatMap (rep L)
theorem rep_sym {L : Nat → List Int} {n : Int} (h : 0 ≤ n) : rep L n = [n] := by unfold rep; rw [if_pos h]
theorem rep_var {L : Nat → List Int} {n : Int} (h : n < 0) : rep L n = L (-1 - n).toNat := by unfold rep; rw [if_neg (by omega)]
theorem fill_nil (L : Nat → List Int) : fillL L [] = [] := rfl
theorem fill_cons (L : Nat → List Int) (x : Int) (r : List Int) : fillL L (x :: r) = rep L x ++ fillL L r := by simp [fillL]
theorem fill_append (L : Nat → List Int) (a b : List Int) : fillL L (a ++ b) = fillL L a ++ fillL L b := by simp [fillL]
theorem fill_take {L : Nat → List Int} {t : List Int} {k : Nat} {x : Int} (hk : k < t.length) (hx : t.getD k 0 = x) : fillL L (t.take (k + 1)) = fillL L (t.take k) ++ rep L x := by
 rw [take_snoc hk hx, fill_append, fill_cons, fill_nil, List.append_nil]
theorem rep_len {L : Nat → List Int} {M : Nat} (h1 : 1 ≤ M) (hM : ∀ i, (L i).length ≤ M) (n : Int) : (rep L n).length ≤ M := by
 unfold rep
 split
 ·simpa using h1
 ·exact hM _
theorem fill_len {L : Nat → List Int} {M : Nat} (h1 : 1 ≤ M) (hM : ∀ i, (L i).length ≤ M) : ∀ t : List Int, (fillL L t).length ≤ t.length * M
 | [] => by simp [fill_nil]
 | x :: r => by
  have h2 := rep_len h1 hM x
  have h3 := fill_len h1 hM r
  rw [fill_cons, List.length_append, List.length_cons, Nat.add_mul]
  omega
theorem fill_ge {L : Nat → List Int} (h1 : ∀ i, 1 ≤ (L i).length) : ∀ t : List Int, t.length ≤ (fillL L t).length
 | [] => by simp
 | x :: r => by
  have h3 := fill_ge h1 r
  have h2 : 1 ≤ (rep L x).length := by
   unfold rep
   split
   ·simp
   ·exact h1 _
  rw [fill_cons, List.length_append, List.length_cons]
  omega
theorem fill_ext {L L' : Nat → List Int} : ∀ {t : List Int}, (∀ x ∈ t, x < 0 → L (-1 - x).toNat = L' (-1 - x).toNat) → fillL L t = fillL L' t
 | [], _ => rfl
 | x :: r, h => by
  rw [fill_cons, fill_cons, fill_ext (fun y hy => h y (List.mem_cons_of_mem _ hy))]
  congr 1
  unfold rep
  split
  ·rfl
  ·exact h x (List.mem_cons_self ..) (by omega)
theorem fill_fill {L U : Nat → List Int} : ∀ t : List Int, fillL U (fillL L t) = fillL (fun i => fillL U (L i)) t
 | [] => rfl
 | x :: r => by
  rw [fill_cons, fill_append, fill_cons, fill_fill r]
  congr 1
  unfold rep
  by_cases h : 0 ≤ x
  ·rw [if_pos h, if_pos h, fill_cons, fill_nil, List.append_nil, rep_sym h]
  ·rw [if_neg h, if_neg h]
theorem scan_join {sg : List Int} : ∀ {l l' : List Int} {q q' j : Nat}, scan sg q l = some l.length → scan sg q' l' = some j → scan sg (q + q') (l ++ l') = some (l.length + j)
 | [], l', q, q', j, h, h' => by
  cases q with
  | zero => simpa using h'
  | succ q => rw [scan_nil] at h; cases h
 | x :: r, l', q, q', j, h, h' => by
  cases q with
  | zero => rw [scan_zero] at h; simp at h
  | succ q =>
   by_cases ha : ar sg x < 0
   ·rw [scan_bad ha] at h; cases h
   ·rw [scan_step ha] at h
    obtain ⟨i, hi, e⟩ := Option.map_eq_some_iff.1 h
    have e2 : i = r.length := by simp at e; omega
    subst e2
    have h2 := scan_join hi h'
    rw [show q + 1 + q' = (q + q') + 1 by omega, List.cons_append, scan_step ha, show q + q' + (ar sg x).toNat = q + (ar sg x).toNat + q' by omega, h2]
    simp
    omega
theorem scan_fill {sg : List Int} {L : Nat → List Int} : ∀ {t : List Int} {q : Nat}, scan sg q t = some t.length → (∀ x ∈ t, x < 0 → scan sg 1 (L (-1 - x).toNat) = some (L (-1 - x).toNat).length) → scan sg q (fillL L t) = some (fillL L t).length
 | [], q, h, _ => h
 | x :: r, q, h, hL => by
  cases q with
  | zero => rw [scan_zero] at h; simp at h
  | succ q =>
   by_cases ha : ar sg x < 0
   ·rw [scan_bad ha] at h; cases h
   ·rw [scan_step ha] at h
    obtain ⟨i, hi, e⟩ := Option.map_eq_some_iff.1 h
    have e2 : i = r.length := by simp at e; omega
    subst e2
    have h2 := scan_fill hi (fun y hy => hL y (List.mem_cons_of_mem _ hy))
    rw [fill_cons]
    by_cases hx : 0 ≤ x
    ·rw [rep_sym hx, List.singleton_append, scan_step ha, h2]
     simp
    ·have h3 := hL x (List.mem_cons_self ..) (by omega)
     have h0 : ar sg x = 0 := by
      unfold ar at ha ⊢
      split
      ·rfl
      ·rename_i h4
       rw [if_neg h4] at ha
       split at ha
       ·omega
       ·omega
     rw [h0] at h2
     rw [rep_var (by omega), Nat.add_comm q 1]
     have h4 := scan_join h3 (by simpa using h2)
     rw [h4, List.length_append]
theorem fill_term {sg t : List Int} {L : Nat → List Int} (h : termOkB sg t = true) (hL : ∀ x ∈ t, x < 0 → termOkB sg (L (-1 - x).toNat) = true) (h60 : (fillL L t).length ≤ 60) : termOkB sg (fillL L t) = true :=
 term_mk (term_parts h).1 h60 (scan_fill (term_parts h).2.2 (fun x hx h0 => (term_parts (hL x hx h0)).2.2))
theorem var_term {sg : List Int} {i : Nat} (hs : sigOkB sg = true) (hi : i < 24) : termOkB sg (vt i) = true := by
 refine term_mk hs (by simp [vt]) ?_
 have h0 : ar sg (-1 - (i : Int)) = 0 := ar_var (by omega)
 show scan sg 1 [-1 - (i : Int)] = some 1
 rw [scan_step (by omega), h0]
 rfl
def sh (k x : Int) : Int := if x < 0 then x - k else x
def shiftL (k : Int) (t : List Int) : List Int := t.map (sh k)
def shiftB (k : Int) (t : List Int) : Bool := t.all fun x => decide (-24 ≤ sh k x)
theorem shift_fill {k : Nat} : ∀ t : List Int, fillL (fun i => vt (i + k)) t = shiftL (k : Int) t
 | [] => rfl
 | x :: r => by
  rw [fill_cons, shift_fill r]
  show _ = sh k x :: shiftL k r
  unfold rep sh
  by_cases h : 0 ≤ x
  ·rw [if_pos h, if_neg (by omega)]; rfl
  ·rw [if_neg h, if_pos (by omega)]
   show [-1 - (((-1 - x).toNat + k : Nat) : Int)] ++ _ = _
   rw [show (-1 - (((-1 - x).toNat + k : Nat) : Int) : Int) = x - k by omega]
   rfl
theorem shift_len (k : Int) (t : List Int) : (shiftL k t).length = t.length := by simp [shiftL]
theorem shift_ok {sg t : List Int} {k : Nat} (h : termOkB sg t = true) : termOkB sg (shiftL (k : Int) t) = shiftB k t := by
 cases hb : shiftB (k : Int) t with
 | true =>
  unfold shiftB at hb
  rw [List.all_eq_true] at hb
  rw [← shift_fill]
  refine fill_term h (fun x hx h0 => ?_) (by rw [shift_fill, shift_len]; exact (term_len h).2)
  have h1 := hb x hx
  have h2 : -24 ≤ x - k := by simpa [sh, h0] using h1
  exact var_term (term_parts h).1 (by omega)
 | false =>
  cases ho : termOkB sg (shiftL (k : Int) t) with
  | false => rfl
  | true =>
   exfalso
   unfold shiftB at hb
   rw [List.all_eq_false] at hb
   obtain ⟨x, hx, h1⟩ := hb
   have h2 := (term_mem ho (x := sh k x) (by unfold shiftL; exact List.mem_map.2 ⟨x, hx, rfl⟩)).1
   simp at h1
   omega
theorem shift_take {k : Int} {t : List Int} {j : Nat} {x : Int} (hk : j < t.length) (hx : t.getD j 0 = x) : shiftL k (t.take (j + 1)) = shiftL k (t.take j) ++ [sh k x] := by
 rw [take_snoc hk hx]
 simp [shiftL]
theorem shiftB_no {k x : Int} {t : List Int} (hx : x ∈ t) (h : sh k x < -24) : shiftB k t = false := by
 unfold shiftB
 rw [List.all_eq_false]
 exact ⟨x, hx, by simp; omega⟩
theorem shiftB_yes {k : Int} {t : List Int} (h : ∀ j, j < t.length → -24 ≤ sh k (t.getD j 0)) : shiftB k t = true := by
 unfold shiftB
 rw [List.all_eq_true]
 intro x hx
 obtain ⟨j, hj, rfl⟩ := List.getElem_of_mem hx
 have := h j hj
 simpa [List.getD, hj] using this
def shiftedB (sg t : List Int) (k : Int) : Bool := termOkB sg t && decide (0 ≤ k ∧ k ≤ 24) && shiftB k t
def shiftedL (sg t : List Int) (k : Int) : List Int := if shiftedB sg t k = true then shiftL k t else []
end fillMath
end
section
namespace renMath
open sig term termOk termFacts varsMath fillMath
def idx : List Int → Int → Nat
 | [], _ => 0
 | y :: r, x => if y = x then 0 else idx r x + 1
theorem idx_lt : ∀ {o : List Int} {x : Int}, x ∈ o → idx o x < o.length
 | y :: r, x, h => by
  rw [idx]
  split
  ·simp
  ·rename_i h1
   rcases List.mem_cons.1 h with e | e
   ·exact absurd e.symm h1
   ·have := idx_lt e; simp; omega
theorem idx_not : ∀ {o : List Int} {x : Int}, x ∉ o → idx o x = o.length
 | [], _, _ => rfl
 | y :: r, x, h => by
  have h1 : ¬ y = x := fun e => h (by rw [e]; exact List.mem_cons_self ..)
  rw [idx, if_neg h1, idx_not (fun e => h (List.mem_cons_of_mem _ e))]
  rfl
theorem idx_get : ∀ {o : List Int} {x : Int}, x ∈ o → o.getD (idx o x) 0 = x
 | y :: r, x, h => by
  rw [idx]
  split
  ·rename_i h1; simpa using h1
  ·rename_i h1
   rcases List.mem_cons.1 h with e | e
   ·exact absurd e.symm h1
   ·simpa using idx_get e
theorem idx_first : ∀ {o : List Int} {x : Int} {k : Nat}, k < o.length → (∀ j, j < k → o.getD j 0 ≠ x) → o.getD k 0 = x → idx o x = k
 | y :: r, x, 0, _, _, h => by
  have h : y = x := by simpa using h
  rw [idx, if_pos h]
 | y :: r, x, k + 1, hk, hl, h => by
  have h0 : ¬ y = x := by simpa using hl 0 (by omega)
  rw [idx, if_neg h0, idx_first (k := k) (by simpa using hk) (fun j hj => by simpa using hl (j + 1) (by omega)) (by simpa using h)]
theorem idx_app_mem : ∀ {o q : List Int} {x : Int}, x ∈ o → idx (o ++ q) x = idx o x
 | y :: r, q, x, h => by
  rw [List.cons_append, idx, idx]
  split
  ·rfl
  ·rename_i h1
   rcases List.mem_cons.1 h with e | e
   ·exact absurd e.symm h1
   ·rw [idx_app_mem e]
theorem idx_app_new {o : List Int} {x : Int} (h : x ∉ o) : idx (o ++ [x]) x = o.length := by
 refine idx_first (by simp) (fun j hj => ?_) (by simp)
 have e : (o ++ [x]).getD j 0 = o[j] := by simp [List.getD, List.getElem?_append_left hj, hj]
 rw [e]
 exact fun e2 => h (by rw [← e2]; exact List.getElem_mem hj)
theorem idx_map {f : Int → Int} (hf : ∀ a b, f a = f b → a = b) : ∀ (o : List Int) (x : Int), idx (o.map f) (f x) = idx o x
 | [], _ => rfl
 | y :: r, x => by
  rw [List.map_cons, idx, idx]
  by_cases h : y = x
  ·rw [if_pos h, if_pos (by rw [h])]
  ·rw [if_neg h, if_neg (fun e => h (hf _ _ e)), idx_map hf r x]
theorem mem_map_inj {f : Int → Int} (hf : ∀ a b, f a = f b → a = b) {o : List Int} {x : Int} : f x ∈ o.map f ↔ x ∈ o := by
 rw [List.mem_map]
 exact ⟨fun ⟨y, hy, e⟩ => by rw [← hf _ _ e]; exact hy, fun h => ⟨x, h, rfl⟩⟩
def ext (o : List Int) (x : Int) : List Int := if x ∈ o then o else o ++ [x]
def extV (o : List Int) (x : Int) : List Int := if x < 0 then ext o x else o
def orderL (t : List Int) : List Int := t.foldl extV []
theorem order_take {t : List Int} {k : Nat} {x : Int} (hk : k < t.length) (hx : t.getD k 0 = x) : orderL (t.take (k + 1)) = extV (orderL (t.take k)) x := by
 unfold orderL
 rw [take_snoc hk hx, List.foldl_append]
 rfl
theorem ext_mem {o : List Int} {x y : Int} : y ∈ ext o x ↔ y = x ∨ y ∈ o := by
 unfold ext
 split
 ·rename_i h
  exact ⟨fun e => .inr e, fun e => by rcases e with e | e; exact e ▸ h; exact e⟩
 ·rw [List.mem_append, List.mem_singleton, or_comm]
theorem extV_mem {o : List Int} {x y : Int} : y ∈ extV o x ↔ (y = x ∧ x < 0) ∨ y ∈ o := by
 unfold extV
 split
 ·rename_i h
  rw [ext_mem]
  exact ⟨fun e => by rcases e with e | e; exact .inl ⟨e, h⟩; exact .inr e, fun e => by rcases e with e | e; exact .inl e.1; exact .inr e⟩
 ·rename_i h
  exact ⟨fun e => .inr e, fun e => by rcases e with e | e; exact absurd e.2 h; exact e⟩
theorem fold_ext_mem {y : Int} : ∀ {l o : List Int}, y ∈ l.foldl extV o ↔ (y ∈ l ∧ y < 0) ∨ y ∈ o
 | [], o => by simp
 | x :: l, o => by
  rw [List.foldl_cons, fold_ext_mem, extV_mem, List.mem_cons]
  constructor
  ·rintro (⟨h, h0⟩ | ⟨rfl, h0⟩ | h)
   ·exact .inl ⟨.inr h, h0⟩
   ·exact .inl ⟨.inl rfl, h0⟩
   ·exact .inr h
  ·rintro (⟨rfl | h, h0⟩ | h)
   ·exact .inr (.inl ⟨rfl, h0⟩)
   ·exact .inl ⟨h, h0⟩
   ·exact .inr (.inr h)
theorem order_mem {t : List Int} {y : Int} : y ∈ orderL t ↔ y ∈ t ∧ y < 0 := by unfold orderL; rw [fold_ext_mem]; simp
theorem ext_nodup {o : List Int} {x : Int} (h : o.Nodup) : (ext o x).Nodup := by
 unfold ext
 split
 ·exact h
 ·rename_i hx
  rw [List.nodup_append]
  exact ⟨h, by simp, fun a ha b hb => by simp at hb; subst hb; exact fun e => hx (e ▸ ha)⟩
theorem fold_nodup : ∀ {l o : List Int}, o.Nodup → (l.foldl extV o).Nodup
 | [], _, h => h
 | x :: l, o, h => by
  rw [List.foldl_cons]
  refine fold_nodup ?_
  unfold extV
  split
  ·exact ext_nodup h
  ·exact h
theorem order_nodup (t : List Int) : (orderL t).Nodup := fold_nodup List.nodup_nil
theorem ext_len (o : List Int) (x : Int) : (ext o x).length ≤ o.length + 1 := by unfold ext; split <;> simp
theorem fold_ext_len : ∀ (l o : List Int), (l.foldl extV o).length ≤ o.length + l.length
 | [], _ => by simp
 | x :: l, o => by
  have h1 := fold_ext_len l (extV o x)
  have h2 : (extV o x).length ≤ o.length + 1 := by unfold extV; split; exact ext_len o x; simp
  simp
  omega
theorem order_len (t : List Int) : (orderL t).length ≤ t.length := by have := fold_ext_len t []; simpa [orderL] using this
def ren (o : List Int) (n : Int) : Int := if n < 0 then -1 - (idx o n : Int) else n
def renL (t : List Int) : List Int := t.map (ren (orderL t))
theorem ren_ext {o : List Int} {x n : Int} (h : n < 0 → n ∈ o) : ren (extV o x) n = ren o n := by
 unfold ren
 split
 ·rename_i h0
  unfold extV ext
  split
  ·split
   ·rfl
   ·rw [idx_app_mem (h h0)]
  ·rfl
 ·rfl
theorem ren_len (t : List Int) : (renL t).length = t.length := by simp [renL]
def renI (sg t : List Int) : List Int := if termOkB sg t = true then renL t else []
theorem idx_nodup {o : List Int} (h : o.Nodup) {k : Nat} (hk : k < o.length) {x : Int} (hx : o.getD k 0 = x) : idx o x = k := by
 refine idx_first hk (fun j hj e => ?_) hx
 have h1 : o[j]'(by omega) = o[k] := by
  have a : o.getD j 0 = o[j]'(by omega) := by simp [List.getD, show j < o.length by omega]
  have b : o.getD k 0 = o[k] := by simp [List.getD, hk]
  rw [← a, ← b, e, hx]
 exact (List.pairwise_iff_getElem.1 h) j k (by omega) hk hj h1
end renMath
end
section
namespace matchMath
open sig term termOk termFacts endAt sub termMath fillMath posMath renMath
def vr (x : Int) : Nat := (-1 - x).toNat
section
variable {sg t : List Int} {r : List Int} {x : Int} {k : Nat} {s : List (List Int)}
end
theorem set_get {s : List (List Int)} {i j : Nat} {v : List Int} : (s.set i v).getD j [] = if i = j ∧ i < s.length then v else s.getD j [] := by
 simp only [List.getD_eq_getElem?_getD, List.getElem?_set]
 by_cases h : i = j
 ·subst h
  by_cases h2 : i < s.length
  ·simp [h2]
  ·simp [h2]
 ·simp [h]
def s0 : List (List Int) := List.replicate 24 []
theorem s0_get (i : Nat) : s0.getD i [] = [] := by
 unfold s0
 rw [List.getD_eq_getElem?_getD, List.getElem?_replicate]
 split <;> rfl
theorem fill_vt : ∀ p : List Int, fillL vt p = p
 | [] => rfl
 | x :: r => by
  rw [fill_cons, fill_vt r]
  by_cases h : 0 ≤ x
  ·rw [rep_sym h]; rfl
  ·rw [rep_var (by omega)]
   show [-1 - (((-1 - x).toNat : Nat) : Int)] ++ r = x :: r
   rw [show (-1 - (((-1 - x).toNat : Nat) : Int) : Int) = x by omega]
   rfl
theorem scan_one {sg : List Int} {y : Int} (h : -24 ≤ y ∧ y ≤ -1) : scan sg 1 [y] = some [y].length := by
 rw [scan_step (by rw [ar_var h]; omega), ar_var h]
 rfl
theorem count_less {l : List Nat} {f g : Nat → Bool} (h : ∀ x ∈ l, f x = true → g x = true) {y : Nat} (hy : y ∈ l) (h1 : f y = false) (h2 : g y = true) : l.countP f < l.countP g := by
 induction l with
 | nil => exact absurd hy (List.not_mem_nil)
 | cons a r ih =>
  have hr : ∀ x ∈ r, f x = true → g x = true := fun x hx => h x (List.mem_cons_of_mem _ hx)
  have hle : r.countP f ≤ r.countP g := List.countP_mono_left hr
  rw [List.countP_cons, List.countP_cons]
  rcases List.mem_cons.1 hy with rfl | hy
  ·rw [h1, h2]; simp; omega
  ·have := ih hr hy
   have ha := h a (List.mem_cons_self ..)
   cases hf : f a with
   | false => cases hg : g a <;> simp <;> omega
   | true => rw [ha hf]; simp; omega
end matchMath
end
section
namespace plainMath
open fillMath
def strip : List (List Int) → List (List Int)
 | [] => []
 | x :: r => if strip r = [] then (if x = [] then [] else [x]) else x :: strip r
theorem strip_snoc : ∀ (l : List (List Int)) (x : List Int), strip (l ++ [x]) = if x = [] then strip l else l ++ [x]
 | [], x => by
  show strip [x] = _
  by_cases h : x = [] <;> simp [strip, h]
 | y :: r, x => by
  rw [List.cons_append, strip, strip_snoc r x]
  by_cases h : x = []
  ·simp [h, strip]
  ·simp [h]
theorem strip_len : ∀ l : List (List Int), (strip l).length ≤ l.length
 | [] => by simp [strip]
 | x :: r => by
  have h := strip_len r
  rw [strip]
  split
  ·split <;> simp
  ·simp; omega
theorem strip_pad : ∀ l : List (List Int), strip l ++ List.replicate (l.length - (strip l).length) [] = l
 | [] => by simp [strip]
 | x :: r => by
  have h := strip_pad r
  rw [strip]
  by_cases h1 : strip r = []
  ·rw [h1] at h
   rw [if_pos h1]
   have h2 : List.replicate r.length ([] : List Int) = r := by simpa using h
   by_cases h3 : x = []
   ·rw [if_pos h3]
    subst h3
    simp only [List.length_cons, List.length_nil, Nat.sub_zero, List.nil_append]
    rw [List.replicate_succ, h2]
   ·rw [if_neg h3]
    simp only [List.length_cons, List.length_nil]
    rw [show r.length + 1 - (0 + 1) = r.length by omega, h2]
    rfl
  ·rw [if_neg h1]
   simp only [List.length_cons, List.cons_append]
   rw [show r.length + 1 - ((strip r).length + 1) = r.length - (strip r).length by omega, h]
theorem strip_last {l : List (List Int)} {q : Nat} (hq : q < l.length) (h : l.getD q [] ≠ []) : strip (l.take (q + 1)) = l.take (q + 1) := by
 have e : l.take (q + 1) = l.take q ++ [l.getD q []] := by
  rw [List.take_succ_eq_append_getElem hq]
  simp [List.getD, hq]
 rw [e, strip_snoc, if_neg h]
theorem strip_drop {l : List (List Int)} {q : Nat} (hq : q < l.length) (h : l.getD q [] = []) : strip (l.take (q + 1)) = strip (l.take q) := by
 have e : l.take (q + 1) = l.take q ++ [l.getD q []] := by
  rw [List.take_succ_eq_append_getElem hq]
  simp [List.getD, hq]
 rw [e, strip_snoc, if_pos h]
def bare (L : Nat → List Int) (i : Nat) : List Int := if L i = vt i then [] else L i
def rowsL (L : Nat → List Int) (m : Nat) : List (List Int) := (List.range m).map (bare L)
def plainL (L : Nat → List Int) (m : Nat) : List (List Int) := strip (rowsL L m)
theorem rows_len (L : Nat → List Int) (m : Nat) : (rowsL L m).length = m := by simp [rowsL]
theorem rows_get {L : Nat → List Int} {m i : Nat} (h : i < m) : (rowsL L m).getD i [] = bare L i := by simp [rowsL, List.getD, h]
theorem rows_succ (L : Nat → List Int) (m : Nat) : rowsL L (m + 1) = rowsL L m ++ [bare L m] := by simp [rowsL, List.range_succ]
theorem plain_same {L : Nat → List Int} {m : Nat} (h : L m = vt m) : plainL L (m + 1) = plainL L m := by
 unfold plainL
 rw [rows_succ, strip_snoc, if_pos (by unfold bare; rw [if_pos h])]
theorem plain_new {L : Nat → List Int} {m : Nat} (h : L m ≠ vt m) (hne : 1 ≤ (L m).length) : plainL L (m + 1) = rowsL L m ++ [L m] := by
 unfold plainL
 have hb : bare L m = L m := by unfold bare; rw [if_neg h]
 rw [rows_succ, strip_snoc, hb, if_neg (fun e => by rw [e] at hne; simp at hne)]
theorem plain_len (L : Nat → List Int) (m : Nat) : (plainL L m).length ≤ m := by have := strip_len (rowsL L m); rw [rows_len] at this; exact this
theorem plain_pad (L : Nat → List Int) (m : Nat) : plainL L m ++ List.replicate (m - (plainL L m).length) [] = rowsL L m := by
 have := strip_pad (rowsL L m)
 rw [rows_len] at this
 exact this
theorem plain_ext {L L' : Nat → List Int} {m : Nat} (h : ∀ i, i < m → L i = L' i) : plainL L m = plainL L' m := by
 unfold plainL rowsL
 congr 1
 refine List.map_congr_left (fun i hi => ?_)
 unfold bare
 rw [h i (List.mem_range.1 hi)]
theorem plain_more {L : Nat → List Int} {m : Nat} : ∀ {k : Nat}, (∀ i, m ≤ i → L i = vt i) → plainL L (m + k) = plainL L m
 | 0, _ => rfl
 | k + 1, h => by rw [← Nat.add_assoc, plain_same (h _ (by omega)), plain_more h]
theorem plain_24 {L : Nat → List Int} {m : Nat} (hm : m ≤ 24) (h : ∀ i, m ≤ i → L i = vt i) : plainL L 24 = plainL L m := by
 have := plain_more (k := 24 - m) h
 rwa [show m + (24 - m) = 24 by omega] at this
theorem plain_get (L : Nat → List Int) (m i : Nat) : (plainL L m).getD i [] = (rowsL L m).getD i [] := by
 have h := plain_pad L m
 rw [← h]
 by_cases hi : i < (plainL L m).length
 ·simp [List.getD, List.getElem?_append_left hi]
 ·have e1 : (plainL L m)[i]? = none := List.getElem?_eq_none (by omega)
  simp only [List.getD, e1, Option.getD_none]
  rw [List.getElem?_append_right (by omega)]
  by_cases h2 : i - (plainL L m).length < m - (plainL L m).length
  ·simp [List.getElem?_replicate, h2]
  ·simp [List.getElem?_replicate, h2]
theorem rows_each {L : Nat → List Int} {m M : Nat} (hM : ∀ i, (L i).length ≤ M) (i : Nat) : ((rowsL L m).getD i []).length ≤ M := by
 by_cases h : i < m
 ·rw [rows_get h]
  unfold bare
  split
  ·simp
  ·exact hM i
 ·rw [show (rowsL L m).getD i [] = [] by simp [List.getD, rows_len, h]]
  simp
theorem plain_each {L : Nat → List Int} {m M : Nat} (hM : ∀ i, (L i).length ≤ M) (i : Nat) : ((plainL L m).getD i []).length ≤ M := by rw [plain_get]; exact rows_each hM i
end plainMath
end
section
namespace unifMath
open sig term termOk termFacts endAt sub termMath fillMath posMath renMath matchMath plainMath
def Trm (sg t : List Int) : Prop := scan sg 1 t = some t.length
theorem scan_ar {sg : List Int} : ∀ {l : List Int} {q : Nat}, scan sg q l = some l.length → ∀ x ∈ l, ¬ ar sg x < 0 := by
 intro l
 induction l with
 | nil => intro q _ x hx; exact absurd hx (List.not_mem_nil)
 | cons y r ih =>
  intro q h x hx
  cases q with
  | zero => rw [scan_zero] at h; injection h with h; simp at h
  | succ q =>
   by_cases hy : ar sg y < 0
   ·rw [scan_bad hy] at h; cases h
   ·rw [scan_step hy, Option.map_eq_some_iff] at h
    obtain ⟨a, e1, e2⟩ := h
    rcases List.mem_cons.1 hx with rfl | hx
    ·exact hy
    ·exact ih (q := q + (ar sg y).toNat) (by rw [e1]; congr 1; simp at e2; omega) x hx
theorem Trm.mem {sg t : List Int} (h : Trm sg t) {x : Int} (hx : x ∈ t) : -24 ≤ x := by
 have h1 := scan_ar h x hx
 by_cases h2 : -24 ≤ x
 ·exact h2
 ·rw [ar_no (by omega) (by omega)] at h1; omega
theorem Trm.pos {sg t : List Int} (h : Trm sg t) : 1 ≤ t.length := scan_pos (q := 0) h
theorem Trm.vt {sg : List Int} {i : Nat} (hi : i < 24) : Trm sg (vt i) := scan_one (y := -1 - (i : Int)) (by omega)
theorem vr_neg {x : Int} (h : x < 0) : -1 - ((vr x : Nat) : Int) = x := by unfold vr; omega
theorem vt_vr {x : Int} (h : x < 0) : vt (vr x) = [x] := by unfold vt; rw [vr_neg h]
theorem vr_vt (i : Nat) : vr (-1 - (i : Int)) = i := by unfold vr; omega
theorem vt_inj {i j : Nat} (h : vt i = vt j) : i = j := by
 unfold vt at h
 injection h with h
 omega
theorem rep_vr {L : Nat → List Int} {x : Int} (h : x < 0) : rep L x = L (vr x) := rep_var h
theorem fill_one (L : Nat → List Int) (x : Int) : fillL L [x] = rep L x := by rw [fill_cons, fill_nil, List.append_nil]
theorem fill_vti (L : Nat → List Int) (i : Nat) : fillL L (vt i) = L i := by
 unfold vt
 rw [fill_one, rep_vr (by omega), vr_vt]
structure Sub (sg : List Int) (L : Nat → List Int) : Prop where
 trm : ∀ i, i < 24 → Trm sg (L i)
 out : ∀ i, 24 ≤ i → L i = vt i
theorem Sub.pos {sg : List Int} {L : Nat → List Int} (h : Sub sg L) (i : Nat) : 1 ≤ (L i).length := by
 by_cases hi : i < 24
 ·exact (h.trm i hi).pos
 ·rw [h.out i (by omega)]; simp [vt]
theorem Sub.vt (sg : List Int) : Sub sg vt := ⟨fun _ hi => Trm.vt hi, fun _ _ => rfl⟩
theorem Sub.fill {sg : List Int} {L : Nat → List Int} (h : Sub sg L) {t : List Int} (ht : Trm sg t) : Trm sg (fillL L t) :=
 scan_fill ht (fun x hx h0 => h.trm _ (by have := ht.mem hx; omega))
theorem Sub.comp {sg : List Int} {L M : Nat → List Int} (h : Sub sg L) (h' : Sub sg M) : Sub sg (fun i => fillL M (L i)) :=
 ⟨fun i hi => h'.fill (h.trm i hi), fun i hi => by show fillL M (L i) = _; rw [h.out i hi, fill_vti]; exact h'.out i hi⟩
structure Uni (sg a b : List Int) (L : Nat → List Int) : Prop where
 sub : Sub sg L
 eq : fillL L a = fillL L b
theorem Uni.symm {sg a b : List Int} {L : Nat → List Int} (h : Uni sg a b L) : Uni sg b a L := ⟨h.sub, h.eq.symm⟩
structure Part (sg a b : List Int) (L : Nat → List Int) : Prop where
 sub : Sub sg L
 gen : ∀ M, Uni sg a b M → ∀ i, fillL M (L i) = M i
 ide : ∀ i x, x ∈ L i → x < 0 → L (vr x) = [x]
 ord : ∀ i j, L i = vt j → j ≤ i
structure Mg (sg a b : List Int) (L : Nat → List Int) : Prop extends Part sg a b L where
 eq : fillL L a = fillL L b
theorem Mg.uni {sg a b : List Int} {L : Nat → List Int} (h : Mg sg a b L) : Uni sg a b L := ⟨h.sub, h.eq⟩
theorem Part.symm {sg a b : List Int} {L : Nat → List Int} (h : Part sg a b L) : Part sg b a L := ⟨h.sub, fun M hM => h.gen M hM.symm, h.ide, h.ord⟩
theorem Part.start (sg a b : List Int) : Part sg a b vt :=
 ⟨Sub.vt sg, fun M _ i => fill_vti M i, fun i x hx h0 => vt_vr h0, fun i j h => by rw [vt_inj h]; exact Nat.le_refl _⟩
theorem fill_fix {L : Nat → List Int} (hp : ∀ i, 1 ≤ (L i).length) : ∀ {t : List Int}, fillL L t = t → ∀ x ∈ t, x < 0 → L (vr x) = [x]
 | [], _, x, hx, _ => absurd hx (List.not_mem_nil)
 | y :: r, h, x, hx, h0 => by
  rw [fill_cons] at h
  have h1 : 1 ≤ (rep L y).length := by
   unfold rep
   split
   ·simp
   ·exact hp _
  have h2 := fill_ge hp r
  have h3 := congrArg List.length h
  rw [List.length_append, List.length_cons] at h3
  obtain ⟨z, hz⟩ : ∃ z, rep L y = [z] := List.length_eq_one_iff.1 (by omega)
  rw [hz] at h
  injection h with e1 e2
  rcases List.mem_cons.1 hx with rfl | hx
  ·rw [← rep_vr (L := L) h0, hz, e1]
  ·exact fill_fix hp e2 x hx h0
theorem fill_same {L : Nat → List Int} {t : List Int} (h : ∀ x ∈ t, x < 0 → L (vr x) = [x]) : fillL L t = t := by
 have := fill_ext (L := L) (L' := vt) (t := t) (fun x hx h0 => by rw [show (-1 - x).toNat = vr x from rfl, h x hx h0, vt_vr h0])
 rw [this, fill_vt]
theorem mg_uniq {sg a b : List Int} {S T : Nat → List Int} (hS : Mg sg a b S) (hT : Mg sg a b T) (i : Nat) : S i = T i := by
 have e1 := hS.gen T hT.uni
 have e2 := hT.gen S hS.uni
 have key : ∀ x ∈ S i, x < 0 → T (vr x) = [x] := by
  intro x hx h0
  have hfix : fillL (fun j => fillL S (T j)) (S i) = S i := by rw [← fill_fill, e1, e2]
  have h1 : fillL S (T (vr x)) = [x] := fill_fix (L := fun j => fillL S (T j)) (fun j => by
   have := fill_ge hS.sub.pos (T j); have := hT.sub.pos j; omega) hfix x hx h0
  have h2 := fill_ge hS.sub.pos (T (vr x))
  have h3 := hT.sub.pos (vr x)
  rw [h1] at h2
  obtain ⟨z, hz⟩ : ∃ z, T (vr x) = [z] := List.length_eq_one_iff.1 (by simp at h2; omega)
  rw [hz, fill_one] at h1
  by_cases hz0 : 0 ≤ z
  ·rw [rep_sym hz0] at h1
   injection h1 with h1
   omega
  ·rw [rep_vr (by omega)] at h1
   have o1 := hS.ord (vr z) (vr x) (by rw [h1, vt_vr h0])
   have o2 := hT.ord (vr x) (vr z) (by rw [hz, vt_vr (by omega)])
   have hv : vr x = vr z := by omega
   have : x = z := by unfold vr at hv; omega
   rw [hz, this]
 rw [← e1 i, fill_same key]
theorem fill_drop {L : Nat → List Int} {x y : List Int} {k : Nat} (e : x.take k = y.take k) (h : fillL L x = fillL L y) : fillL L (x.drop k) = fillL L (y.drop k) := by
 rw [← List.take_append_drop k x, ← List.take_append_drop k y, fill_append, fill_append, e] at h
 exact List.append_cancel_left h
theorem sub_trm {sg x : List Int} (hx : Trm sg x) {k : Nat} (hk : k < x.length) : Trm sg (subL sg x k) ∧ x.drop k = subL sg x k ++ x.drop (k + (subL sg x k).length) := by
 obtain ⟨j, h1, h2, h3⟩ := scan_at hx hk
 have hl : subL sg x k = (x.drop k).take j := by unfold subL; rw [len1_eq h1]
 have hlen : (subL sg x k).length = j := by rw [hl, List.length_take, List.length_drop]; omega
 refine ⟨?_, ?_⟩
 ·unfold Trm
  rw [hlen, hl]
  exact scan_take h1
 ·rw [hlen, hl, ← List.drop_drop]
  exact (List.take_append_drop _ _).symm
theorem sub_head {sg x : List Int} (hx : Trm sg x) {k : Nat} (hk : k < x.length) : ∃ r, subL sg x k = x.getD k 0 :: r := by
 obtain ⟨h1, h2⟩ := sub_trm hx hk
 have h3 := h1.pos
 obtain ⟨y, r, hyr⟩ : ∃ y r, subL sg x k = y :: r := by
  cases h : subL sg x k with
  | nil => rw [h] at h3; simp at h3
  | cons y r => exact ⟨y, r, rfl⟩
 refine ⟨r, ?_⟩
 rw [hyr, drop_cons hk] at h2
 injection h2 with h2 _
 rw [hyr, h2]
theorem sub_var {sg x : List Int} (hx : Trm sg x) {k : Nat} (hk : k < x.length) (h0 : x.getD k 0 < 0) : subL sg x k = [x.getD k 0] := by
 have hm : x.getD k 0 ∈ x := by simp [List.getD, hk]
 have h24 := hx.mem hm
 have : scan sg 1 (x.drop k) = some 1 := by
  rw [drop_cons hk, scan_step (by rw [ar_var (by omega)]; omega), ar_var (by omega)]
  show (scan sg 0 _).map (· + 1) = some 1
  rw [scan_zero]
  rfl
 unfold subL
 rw [len1_eq this, drop_cons hk]
 rfl
theorem uni_sub {sg x y : List Int} {M : Nat → List Int} (hx : Trm sg x) (hy : Trm sg y) (hM : Sub sg M) (h : fillL M x = fillL M y) {k : Nat} (e : x.take k = y.take k) (hkx : k < x.length) (hky : k < y.length) : fillL M (subL sg x k) = fillL M (subL sg y k) := by
 have h1 := fill_drop e h
 obtain ⟨tx, ex⟩ := sub_trm hx hkx
 obtain ⟨ty, ey⟩ := sub_trm hy hky
 rw [ex, ey, fill_append, fill_append] at h1
 have s1 := scan_append (r := fillL M (x.drop (k + (subL sg x k).length))) (hM.fill tx)
 have s2 := scan_append (r := fillL M (y.drop (k + (subL sg y k).length))) (hM.fill ty)
 rw [h1, s2] at s1
 injection s1 with s1
 have := congrArg (List.take (fillL M (subL sg x k)).length) h1
 rw [List.take_left' rfl, List.take_left' s1] at this
 exact this
theorem differ {sg x y : List Int} (hx : Trm sg x) (hy : Trm sg y) {k : Nat} (e : x.take k = y.take k) (hk : k ≤ x.length) (hk' : k ≤ y.length) (hend : k = x.length ∨ k = y.length) : x = y := by
 have key : ∀ {u v : List Int}, Trm sg u → Trm sg v → u.take k = v.take k → k = u.length → k ≤ v.length → u = v := by
  intro u v hu hv e hk hv'
  have h1 : v = u ++ v.drop k := by
   have := (List.take_append_drop k v).symm
   rwa [← e, hk, List.take_length, ← hk] at this
  have h2 := scan_append (r := v.drop k) hu
  rw [← h1, hv] at h2
  injection h2 with h2
  rw [h1, List.drop_eq_nil_of_le (by omega), List.append_nil]
 rcases hend with h | h
 ·exact key hx hy e h hk'
 ·exact (key hy hx e.symm h hk).symm
def ones (i : Nat) (t : List Int) (k : Nat) : List Int := if k = i then t else vt k
theorem one_sub {sg : List Int} {i : Nat} {t : List Int} (ht : Trm sg t) (hi : i < 24) : Sub sg (ones i t) :=
 ⟨fun k hk => by unfold ones; split; exact ht; exact Trm.vt hk, fun k hk => by unfold ones; rw [if_neg (by omega)]⟩
theorem one_uni {i : Nat} {t : List Int} {M : Nat → List Int} (h : M i = fillL M t) (z : List Int) : fillL M (fillL (ones i t) z) = fillL M z := by
 rw [fill_fill]
 refine fill_ext (fun x _ _ => ?_)
 show fillL M (ones i t _) = _
 unfold ones
 split
 ·rename_i e; rw [e, h]
 ·exact fill_vti M _
structure Spot (sg a b : List Int) (L : Nat → List Int) (k : Nat) : Prop where
 ta : Trm sg a
 tb : Trm sg b
 pre : (fillL L a).take k = (fillL L b).take k
 kx : k < (fillL L a).length
 ky : k < (fillL L b).length
 ne : (fillL L a).getD k 0 ≠ (fillL L b).getD k 0
theorem Spot.symm {sg a b : List Int} {L : Nat → List Int} {k : Nat} (h : Spot sg a b L k) : Spot sg b a L k := ⟨h.tb, h.ta, h.pre.symm, h.ky, h.kx, fun e => h.ne e.symm⟩
theorem part_uni {sg a b : List Int} {L M : Nat → List Int} (h : Part sg a b L) (hM : Uni sg a b M) (z : List Int) : fillL M (fillL L z) = fillL M z := by
 rw [fill_fill]
 exact fill_ext (fun x _ _ => h.gen M hM _)
theorem Spot.sub {sg a b : List Int} {L M : Nat → List Int} {k : Nat} (s : Spot sg a b L k) (h : Part sg a b L) (hM : Uni sg a b M) : fillL M (subL sg (fillL L a) k) = fillL M (subL sg (fillL L b) k) :=
 uni_sub (h.sub.fill s.ta) (h.sub.fill s.tb) hM.sub (by rw [part_uni h hM, part_uni h hM, hM.eq]) s.pre s.kx s.ky
theorem Spot.clash {sg a b : List Int} {L : Nat → List Int} {k : Nat} (s : Spot sg a b L k) (h : Part sg a b L) (h1 : 0 ≤ (fillL L a).getD k 0) (h2 : 0 ≤ (fillL L b).getD k 0) : ∀ M, ¬ Uni sg a b M := fun M hM => by
 have e := s.sub h hM
 obtain ⟨r, e1⟩ := sub_head (h.sub.fill s.ta) s.kx
 obtain ⟨r', e2⟩ := sub_head (h.sub.fill s.tb) s.ky
 rw [e1, e2, fill_cons, fill_cons, rep_sym h1, rep_sym h2] at e
 injection e with e _
 exact s.ne e
theorem mem_rep {M : Nat → List Int} {z : List Int} {x : Int} (hp : ∀ i, 1 ≤ (M i).length) (hx : x ∈ z) (h0 : x < 0) (hl : z ≠ [x]) : (M (vr x)).length < (fillL M z).length := by
 obtain ⟨u, v, rfl⟩ := List.append_of_mem hx
 rw [fill_append, fill_cons, rep_vr h0, List.length_append, List.length_append]
 have h1 := fill_ge hp u
 have h2 := fill_ge hp v
 by_cases hu : u.length = 0
 ·by_cases hv : v.length = 0
  ·rw [List.eq_nil_of_length_eq_zero hu, List.eq_nil_of_length_eq_zero hv] at hl
   exact absurd rfl hl
  ·omega
 ·omega
theorem Spot.occurs {sg a b : List Int} {L : Nat → List Int} {k : Nat} (s : Spot sg a b L k) (h : Part sg a b L) (h1 : (fillL L a).getD k 0 < 0) (h2 : (fillL L a).getD k 0 ∈ subL sg (fillL L b) k) : ∀ M, ¬ Uni sg a b M := fun M hM => by
 have e := s.sub h hM
 rw [sub_var (h.sub.fill s.ta) s.kx h1, fill_one, rep_vr h1] at e
 obtain ⟨r, e2⟩ := sub_head (h.sub.fill s.tb) s.ky
 have := mem_rep hM.sub.pos h2 h1 (fun e3 => by rw [e2] at e3; injection e3 with e3 _; exact s.ne e3.symm)
 rw [e] at this
 exact Nat.lt_irrefl _ this
theorem mem_drop {x : Int} {l : List Int} {k : Nat} (h : x ∈ l.drop k) : x ∈ l := List.mem_of_mem_drop h
theorem sub_mem {sg t : List Int} {k : Nat} {x : Int} (h : x ∈ subL sg t k) : x ∈ t := by
 unfold subL at h
 exact mem_drop (List.mem_of_mem_take h)
theorem fill_mem {L : Nat → List Int} : ∀ {t : List Int} {x : Int}, x ∈ fillL L t → x < 0 → ∃ y ∈ t, y < 0 ∧ x ∈ L (vr y)
 | [], x, h, _ => absurd h (List.not_mem_nil)
 | z :: r, x, h, h0 => by
  rw [fill_cons] at h
  rcases List.mem_append.1 h with h | h
  ·by_cases hz : 0 ≤ z
   ·rw [rep_sym hz, List.mem_singleton] at h; omega
   ·rw [rep_vr (by omega)] at h
    exact ⟨z, List.mem_cons_self .., by omega, h⟩
  ·obtain ⟨y, h1, h2⟩ := fill_mem h h0
   exact ⟨y, List.mem_cons_of_mem _ h1, h2⟩
theorem Part.fix {sg a b : List Int} {L : Nat → List Int} (h : Part sg a b L) {t : List Int} {x : Int} (hx : x ∈ fillL L t) (h0 : x < 0) : L (vr x) = [x] := by
 obtain ⟨y, _, _, hy⟩ := fill_mem hx h0
 exact h.ide _ x hy h0
theorem Spot.bind {sg a b : List Int} {L : Nat → List Int} {k : Nat} (s : Spot sg a b L k) (h : Part sg a b L) (h1 : (fillL L a).getD k 0 < 0) (h2 : (fillL L a).getD k 0 ∉ subL sg (fillL L b) k) (h3 : 0 ≤ (fillL L b).getD k 0 ∨ (fillL L a).getD k 0 < (fillL L b).getD k 0) :
  Part sg a b (fun m => fillL (ones (vr ((fillL L a).getD k 0)) (subL sg (fillL L b) k)) (L m)) := by
 obtain ⟨p, hp⟩ : ∃ p, (fillL L a).getD k 0 = p := ⟨_, rfl⟩
 obtain ⟨t, ht⟩ : ∃ t, subL sg (fillL L b) k = t := ⟨_, rfl⟩
 have hpm : p ∈ fillL L a := by rw [← hp]; have := s.kx; simp [List.getD, this]
 have hp24 := (h.sub.fill s.ta).mem hpm
 have htt : Trm sg t := by rw [← ht]; exact (sub_trm (h.sub.fill s.tb) s.ky).1
 have hpx : L (vr p) = [p] := h.fix hpm (by omega)
 rw [hp] at h1 h2 h3 ⊢
 rw [ht] at h2 ⊢
 have hi : vr p < 24 := by unfold vr; omega
 have hone := one_sub htt hi
 have tfix : ∀ x ∈ t, x < 0 → L (vr x) = [x] := fun x hx h0 => h.fix (t := b) (by rw [← ht] at hx; exact sub_mem hx) h0
 have hhead := sub_head (h.sub.fill s.tb) s.ky
 rw [ht] at hhead
 refine ⟨h.sub.comp hone, fun M hM i => ?_, fun i x hx h0 => ?_, fun i j hj => ?_⟩
 ·show fillL M (fillL _ (L i)) = M i
  rw [one_uni ?_, h.gen M hM]
  have e := s.sub h hM
  rw [sub_var (h.sub.fill s.ta) s.kx (by rw [hp]; exact h1), hp, ht, fill_one, rep_vr h1] at e
  exact e
 ·show fillL (ones (vr p) t) (L (vr x)) = [x]
  change x ∈ fillL (ones (vr p) t) (L i) at hx
  obtain ⟨y, g1, g2, g3⟩ := fill_mem hx h0
  have hxp : vr x ≠ vr p ∧ L (vr x) = [x] := by
   unfold ones at g3
   split at g3
   ·refine ⟨fun e => h2 ?_, tfix x g3 h0⟩
    have : x = p := by unfold vr at e; omega
    rw [← this]; exact g3
   ·rename_i hne
    rw [vt_vr g2, List.mem_singleton] at g3
    rw [g3]
    exact ⟨hne, h.ide i y g1 g2⟩
  rw [hxp.2, fill_one, rep_vr h0]
  unfold ones
  rw [if_neg hxp.1, vt_vr h0]
 ·change fillL (ones (vr p) t) (L i) = vt j at hj
  have hl1 := fill_ge hone.pos (L i)
  have hl2 := h.sub.pos i
  rw [hj] at hl1
  obtain ⟨z, hz⟩ : ∃ z, L i = [z] := List.length_eq_one_iff.1 (by simp [vt] at hl1; omega)
  rw [hz, fill_one] at hj
  by_cases hz0 : 0 ≤ z
  ·rw [rep_sym hz0] at hj
   unfold vt at hj
   injection hj with hj
   omega
  ·rw [rep_vr (by omega)] at hj
   have o := h.ord i (vr z) (by rw [hz, vt_vr (by omega)])
   unfold ones at hj
   split at hj
   ·rename_i e
    obtain ⟨r, hr⟩ := hhead
    rw [hr] at hj
    unfold vt at hj
    injection hj with hj _
    rcases h3 with h3 | h3
    ·omega
    ·unfold vr at e o; omega
   ·rw [vt_inj hj] at o; exact o
theorem Part.done {sg a b : List Int} {L : Nat → List Int} (h : Part sg a b L) (he : fillL L a = fillL L b) : Mg sg a b L := ⟨h, he⟩
structure Short (sg a b : List Int) (M : Nat → List Int) : Prop extends Uni sg a b M where
 each : ∀ i, (M i).length ≤ 60
 all : (fillL M a).length ≤ 60
theorem Short.symm {sg a b : List Int} {M : Nat → List Int} (h : Short sg a b M) : Short sg b a M := ⟨h.toUni.symm, h.each, by rw [← h.eq]; exact h.all⟩
theorem Part.each {sg a b : List Int} {L M : Nat → List Int} (h : Part sg a b L) (hM : Short sg a b M) (i : Nat) : (L i).length ≤ 60 := by
 have h1 := fill_ge hM.sub.pos (L i)
 rw [h.gen M hM.toUni] at h1
 exact Nat.le_trans h1 (hM.each i)
theorem Part.len {sg a b : List Int} {L M : Nat → List Int} (h : Part sg a b L) (hM : Short sg a b M) : (fillL L a).length ≤ 60 ∧ (fillL L b).length ≤ 60 := by
 have h1 := fill_ge hM.sub.pos (fillL L a)
 have h2 := fill_ge hM.sub.pos (fillL L b)
 rw [part_uni h hM.toUni] at h1 h2
 rw [← hM.eq] at h2
 exact ⟨Nat.le_trans h1 hM.all, Nat.le_trans h2 hM.all⟩
def free (L : Nat → List Int) : Nat := (List.range 24).countP fun i => decide (L i = vt i)
theorem free_le (L : Nat → List Int) : free L ≤ 24 := by
 unfold free
 exact Nat.le_trans List.countP_le_length (by simp)
theorem free_bind {sg a b : List Int} {L : Nat → List Int} {k : Nat} (s : Spot sg a b L k) (h : Part sg a b L) (h1 : (fillL L a).getD k 0 < 0) (h2 : (fillL L a).getD k 0 ∉ subL sg (fillL L b) k) :
  free (fun m => fillL (ones (vr ((fillL L a).getD k 0)) (subL sg (fillL L b) k)) (L m)) < free L := by
 obtain ⟨p, hp⟩ : ∃ p, (fillL L a).getD k 0 = p := ⟨_, rfl⟩
 obtain ⟨t, ht⟩ : ∃ t, subL sg (fillL L b) k = t := ⟨_, rfl⟩
 have hpm : p ∈ fillL L a := by rw [← hp]; have := s.kx; simp [List.getD, this]
 have hp24 := (h.sub.fill s.ta).mem hpm
 rw [hp] at h1 h2 ⊢
 rw [ht] at h2 ⊢
 have hpx : L (vr p) = [p] := h.fix hpm h1
 have htt : Trm sg t := by rw [← ht]; exact (sub_trm (h.sub.fill s.tb) s.ky).1
 have hone := one_sub (i := vr p) htt (by unfold vr; omega)
 have tfix : ∀ x ∈ t, x < 0 → L (vr x) = [x] := fun x hx h0 => h.fix (t := b) (by rw [← ht] at hx; exact sub_mem hx) h0
 unfold free
 refine count_less (y := vr p) (fun i hi hf => ?_) (List.mem_range.2 (by unfold vr; omega)) ?_ ?_
 ·rw [decide_eq_true_eq] at hf ⊢
  change fillL (ones (vr p) t) (L i) = vt i at hf
  have hl1 := fill_ge hone.pos (L i)
  have hl2 := h.sub.pos i
  rw [hf] at hl1
  obtain ⟨z, hz⟩ : ∃ z, L i = [z] := List.length_eq_one_iff.1 (by simp [vt] at hl1; omega)
  rw [hz, fill_one] at hf
  by_cases hz0 : 0 ≤ z
  ·rw [rep_sym hz0] at hf
   unfold vt at hf
   injection hf with hf
   omega
  ·rw [rep_vr (by omega)] at hf
   unfold ones at hf
   split at hf
   ·rename_i e
    have hm : (-1 - (i : Int)) ∈ t := by rw [hf]; simp [vt]
    have := tfix _ hm (by omega)
    rw [vr_vt] at this
    exact this
   ·rw [hz, ← vt_vr (by omega : z < 0)]
    exact hf
 ·rw [decide_eq_false_iff_not]
  intro e
  change fillL (ones (vr p) t) (L (vr p)) = vt (vr p) at e
  rw [hpx, fill_one, rep_vr h1, vt_vr h1] at e
  unfold ones at e
  rw [if_pos rfl] at e
  exact h2 (by rw [e]; exact List.mem_singleton.2 rfl)
 ·rw [decide_eq_true_eq, hpx, vt_vr h1]
theorem reach {sg a b : List Int} {M : Nat → List Int} (ta : Trm sg a) (tb : Trm sg b) (hM : Short sg a b M) : ∀ (n : Nat) (L : Nat → List Int), free L ≤ n → Part sg a b L → ∃ L', Mg sg a b L' := by
 have spot : ∀ {L : Nat → List Int}, Part sg a b L → fillL L a ≠ fillL L b → ∃ k, Spot sg a b L k := by
  intro L h hne
  have tx := h.sub.fill ta
  have ty := h.sub.fill tb
  have key : ∀ n k, (fillL L a).length - k ≤ n → k ≤ (fillL L a).length → k ≤ (fillL L b).length → (fillL L a).take k = (fillL L b).take k → ∃ k, Spot sg a b L k := by
   intro n
   induction n with
   | zero =>
    intro k hn h1 h2 e
    exact absurd (differ tx ty e h1 h2 (.inl (by omega))) hne
   | succ n ih =>
    intro k hn h1 h2 e
    by_cases hx : k = (fillL L a).length
    ·exact absurd (differ tx ty e h1 h2 (.inl hx)) hne
    ·by_cases hy : k = (fillL L b).length
     ·exact absurd (differ tx ty e h1 h2 (.inr hy)) hne
     ·have kx : k < (fillL L a).length := by omega
      have ky : k < (fillL L b).length := by omega
      by_cases hg : (fillL L a).getD k 0 = (fillL L b).getD k 0
      ·refine ih (k + 1) (by omega) kx ky ?_
       rw [List.take_succ_eq_append_getElem kx, List.take_succ_eq_append_getElem ky, e]
       simp [List.getD, kx, ky] at hg
       rw [hg]
      ·exact ⟨k, ta, tb, e, kx, ky, hg⟩
  exact key _ 0 (Nat.le_refl _) (Nat.zero_le _) (Nat.zero_le _) rfl
 intro n
 induction n with
 | zero =>
  intro L hn h
  by_cases he : fillL L a = fillL L b
  ·exact ⟨L, h.done he⟩
  ·obtain ⟨k, s⟩ := spot h he
   by_cases h1 : (fillL L a).getD k 0 < 0
   ·by_cases h2 : (fillL L a).getD k 0 ∈ subL sg (fillL L b) k
    ·exact absurd hM.toUni (s.occurs h h1 h2 M)
    ·have := free_bind s h h1 h2; omega
   ·by_cases h1' : (fillL L b).getD k 0 < 0
    ·by_cases h2 : (fillL L b).getD k 0 ∈ subL sg (fillL L a) k
     ·exact absurd hM.toUni.symm (s.symm.occurs h.symm h1' h2 M)
     ·have := free_bind s.symm h.symm h1' h2; omega
    ·exact absurd hM.toUni (s.clash h (by omega) (by omega) M)
 | succ n ih =>
  intro L hn h
  by_cases he : fillL L a = fillL L b
  ·exact ⟨L, h.done he⟩
  ·obtain ⟨k, s⟩ := spot h he
   by_cases h3 : (fillL L a).getD k 0 < 0 ∧ (0 ≤ (fillL L b).getD k 0 ∨ (fillL L a).getD k 0 < (fillL L b).getD k 0)
   ·by_cases h2 : (fillL L a).getD k 0 ∈ subL sg (fillL L b) k
    ·exact absurd hM.toUni (s.occurs h h3.1 h2 M)
    ·exact ih _ (by have := free_bind s h h3.1 h2; omega) (s.bind h h3.1 h2 h3.2)
   ·by_cases h1' : (fillL L b).getD k 0 < 0
    ·by_cases h2 : (fillL L b).getD k 0 ∈ subL sg (fillL L a) k
     ·exact absurd hM.toUni.symm (s.symm.occurs h.symm h1' h2 M)
     ·obtain ⟨L', hL'⟩ := ih _ (by have := free_bind s.symm h.symm h1' h2; omega) (s.symm.bind h.symm h1' h2 (by have := s.ne; omega)).symm
      exact ⟨L', hL'⟩
    ·exact absurd hM.toUni (s.clash h (by omega) (by omega) M)
def IsU (sg a b : List Int) (v : Bool) (F : List (List Int)) : Prop :=
 (v = true ∧ termOkB sg a = true ∧ termOkB sg b = true ∧ ∃ L, Mg sg a b L ∧ Short sg a b L ∧ F = plainL L 24) ∨ (v = false ∧ F = [] ∧ (termOkB sg a = false ∨ termOkB sg b = false ∨ ∀ M, ¬ Short sg a b M))
theorem isU_ex (sg a b : List Int) : ∃ v F, IsU sg a b v F := by
 cases h1 : termOkB sg a with
 | false => exact ⟨false, [], .inr ⟨rfl, rfl, .inl h1⟩⟩
 | true =>
  cases h2 : termOkB sg b with
  | false => exact ⟨false, [], .inr ⟨rfl, rfl, .inr (.inl h2)⟩⟩
  | true =>
   by_cases h : ∃ M, Short sg a b M
   ·obtain ⟨M, hM⟩ := h
    obtain ⟨L, hL⟩ := reach (term_parts h1).2.2 (term_parts h2).2.2 hM _ vt (free_le _) (Part.start sg a b)
    exact ⟨true, _, .inl ⟨rfl, h1, h2, L, hL, ⟨hL.uni, hL.toPart.each hM, (hL.toPart.len hM).1⟩, rfl⟩⟩
   ·exact ⟨false, [], .inr ⟨rfl, rfl, .inr (.inr (fun M hM => h ⟨M, hM⟩))⟩⟩
theorem isU_one {sg a b : List Int} {v v' : Bool} {F F' : List (List Int)} (h : IsU sg a b v F) (h' : IsU sg a b v' F') : v = v' ∧ F = F' := by
 rcases h with ⟨rfl, a1, a2, L, m, s, rfl⟩ | ⟨rfl, rfl, h⟩
 ·rcases h' with ⟨rfl, _, _, L', m', _, rfl⟩ | ⟨rfl, rfl, h'⟩
  ·exact ⟨rfl, plain_ext (fun i _ => mg_uniq m m' i)⟩
  ·rcases h' with h' | h' | h'
   ·rw [a1] at h'; cases h'
   ·rw [a2] at h'; cases h'
   ·exact absurd s (h' L)
 ·rcases h' with ⟨rfl, a1, a2, L, m, s, rfl⟩ | ⟨rfl, rfl, _⟩
  ·rcases h with h | h | h
   ·rw [a1] at h; cases h
   ·rw [a2] at h; cases h
   ·exact absurd s (h L)
  ·exact ⟨rfl, rfl⟩
theorem isU_mg {sg a b : List Int} {L : Nat → List Int} (h1 : termOkB sg a = true) (h2 : termOkB sg b = true) (h : Mg sg a b L) (he : ∀ i, (L i).length ≤ 60) (ha : (fillL L a).length ≤ 60) : IsU sg a b true (plainL L 24) :=
 .inl ⟨rfl, h1, h2, L, h, ⟨h.uni, he, ha⟩, rfl⟩
theorem isU_no {sg a b : List Int} (h : ∀ M, ¬ Short sg a b M) : IsU sg a b false [] := .inr ⟨rfl, rfl, .inr (.inr h)⟩
theorem isU_off {sg a b : List Int} (h : termOkB sg a = false ∨ termOkB sg b = false) : IsU sg a b false [] := .inr ⟨rfl, rfl, by rcases h with h | h; exact .inl h; exact .inr (.inl h)⟩
end unifMath
end
section
namespace unifDom
open sig term termOk termFacts endAt sub termMath fillMath posMath renMath matchMath plainMath unifMath
def InTwo (a b : List Int) (z : Int) : Prop := z ∈ a ∨ z ∈ b
structure Dom (a b : List Int) (L : Nat → List Int) : Prop where
 rng : ∀ z, InTwo a b z → z < 0 → ∀ y ∈ L (vr z), y < 0 → InTwo a b y
 out : ∀ i : Nat, ¬ InTwo a b (-1 - (i : Int)) → L i = vt i
section
variable {sg a b : List Int} {L : Nat → List Int}
theorem Dom.start (a b : List Int) : Dom a b vt := ⟨fun z hz h0 y hy _ => by rw [vt_vr h0, List.mem_singleton] at hy; rw [hy]; exact hz, fun _ _ => rfl⟩
theorem Dom.symm (h : Dom a b L) : Dom b a L := ⟨fun z hz h0 y hy h1 => (h.rng z hz.symm h0 y hy h1).symm, fun i hi => h.out i (fun e => hi e.symm)⟩
theorem Dom.fill (h : Dom a b L) {y : Int} (hy : y ∈ fillL L a ∨ y ∈ fillL L b) (h0 : y < 0) : InTwo a b y := by
 rcases hy with hy | hy
 ·obtain ⟨z, h1, h2, h3⟩ := fill_mem hy h0
  exact h.rng z (.inl h1) h2 y h3 h0
 ·obtain ⟨z, h1, h2, h3⟩ := fill_mem hy h0
  exact h.rng z (.inr h1) h2 y h3 h0
theorem Dom.bind (h : Dom a b L) {p : Int} {t : List Int} (hp : InTwo a b p) (h0 : p < 0) (ht : ∀ y ∈ t, y < 0 → InTwo a b y) : Dom a b (fun m => fillL (ones (vr p) t) (L m)) := by
 refine ⟨fun z hz hz0 y hy hy0 => ?_, fun i hi => ?_⟩
 ·change y ∈ fillL (ones (vr p) t) (L (vr z)) at hy
  obtain ⟨q, h1, h2, h3⟩ := fill_mem hy hy0
  unfold ones at h3
  split at h3
  ·exact ht y h3 hy0
  ·rw [vt_vr h2, List.mem_singleton] at h3
   rw [h3]
   exact h.rng z hz hz0 q h1 h2
 ·show fillL (ones (vr p) t) (L i) = vt i
  rw [h.out i hi, fill_vti]
  unfold ones
  rw [if_neg]
  intro e
  subst e
  exact hi (by rw [vr_neg h0]; exact hp)
theorem mem_len {x : Int} : ∀ {t : List Int}, x ∈ t → x < 0 → (L (vr x)).length ≤ (fillL L t).length
 | [], hx, _ => absurd hx (List.not_mem_nil)
 | y :: r, hx, h0 => by
  rw [fill_cons, List.length_append]
  rcases List.mem_cons.1 hx with rfl | hx
  ·rw [rep_vr h0]; omega
  ·have := mem_len hx h0; omega
theorem Dom.each (h : Dom a b L) (ha : (fillL L a).length ≤ 60) (hb : (fillL L b).length ≤ 60) (i : Nat) : (L i).length ≤ 60 := by
 by_cases hi : InTwo a b (-1 - (i : Int))
 ·rcases hi with hi | hi
  ·have := mem_len (L := L) hi (by omega)
   rw [vr_vt] at this
   omega
  ·have := mem_len (L := L) hi (by omega)
   rw [vr_vt] at this
   omega
 ·rw [h.out i hi]; simp [vt]
end
structure Wy (sg a b : List Int) (L : Nat → List Int) (x y : List Int) : Prop where
 ta : termOkB sg a = true
 tb : termOkB sg b = true
 part : Part sg a b L
 dom : Dom a b L
 ex : x = fillL L a
 ey : y = fillL L b
 lx : x.length ≤ 60
 ly : y.length ≤ 60
section
variable {sg a b x y : List Int} {L : Nat → List Int}
theorem Wy.symm (h : Wy sg a b L x y) : Wy sg b a L y x := ⟨h.tb, h.ta, h.part.symm, h.dom.symm, h.ey, h.ex, h.ly, h.lx⟩
theorem Wy.start (ha : termOkB sg a = true) (hb : termOkB sg b = true) : Wy sg a b vt a b :=
 ⟨ha, hb, Part.start sg a b, Dom.start a b, (fill_vt a).symm, (fill_vt b).symm, (term_len ha).2, (term_len hb).2⟩
theorem Wy.tx (h : Wy sg a b L x y) : Trm sg x := by rw [h.ex]; exact h.part.sub.fill (term_parts h.ta).2.2
theorem Wy.okx (h : Wy sg a b L x y) : termOkB sg x = true := term_mk (term_parts h.ta).1 h.lx h.tx
theorem Wy.each (h : Wy sg a b L x y) (i : Nat) : (L i).length ≤ 60 := h.dom.each (by rw [← h.ex]; exact h.lx) (by rw [← h.ey]; exact h.ly) i
theorem Wy.done (h : Wy sg a b L x y) (e : x = y) : IsU sg a b true (plainL L 24) :=
 isU_mg h.ta h.tb (h.part.done (by rw [← h.ex, ← h.ey]; exact e)) h.each (by rw [← h.ex]; exact h.lx)
theorem Wy.spot (h : Wy sg a b L x y) {k : Nat} (e : x.take k = y.take k) (kx : k < x.length) (ky : k < y.length) (ne : x.getD k 0 ≠ y.getD k 0) : Spot sg a b L k :=
 ⟨(term_parts h.ta).2.2, (term_parts h.tb).2.2, by rw [← h.ex, ← h.ey]; exact e, by rw [← h.ex]; exact kx, by rw [← h.ey]; exact ky, by rw [← h.ex, ← h.ey]; exact ne⟩
theorem Wy.clash (h : Wy sg a b L x y) {k : Nat} (s : Spot sg a b L k) (h1 : 0 ≤ x.getD k 0) (h2 : 0 ≤ y.getD k 0) : ∀ M, ¬ Short sg a b M := fun M hM =>
 s.clash h.part (by rw [← h.ex]; exact h1) (by rw [← h.ey]; exact h2) M hM.toUni
theorem Wy.occurs (h : Wy sg a b L x y) {k : Nat} (s : Spot sg a b L k) (h1 : x.getD k 0 < 0) (h2 : x.getD k 0 ∈ subL sg y k) : ∀ M, ¬ Short sg a b M := fun M hM =>
 s.occurs h.part (by rw [← h.ex]; exact h1) (by rw [← h.ex, ← h.ey]; exact h2) M hM.toUni
theorem Wy.step (h : Wy sg a b L x y) {k : Nat} (s : Spot sg a b L k) (h1 : x.getD k 0 < 0) (h2 : x.getD k 0 ∉ subL sg y k) (h3 : 0 ≤ y.getD k 0 ∨ x.getD k 0 < y.getD k 0) :
  (fillL (ones (vr (x.getD k 0)) (subL sg y k)) x).length ≤ 60 → (fillL (ones (vr (x.getD k 0)) (subL sg y k)) y).length ≤ 60 →
   Wy sg a b (fun m => fillL (ones (vr (x.getD k 0)) (subL sg y k)) (L m)) (fillL (ones (vr (x.getD k 0)) (subL sg y k)) x) (fillL (ones (vr (x.getD k 0)) (subL sg y k)) y) ∧
   free (fun m => fillL (ones (vr (x.getD k 0)) (subL sg y k)) (L m)) < free L := fun l1 l2 => by
 have hx := h.ex
 have hy := h.ey
 subst hx
 subst hy
 have hm : (fillL L a).getD k 0 ∈ fillL L a := by have := s.kx; simp [List.getD, this]
 exact ⟨⟨h.ta, h.tb, s.bind h.part h1 h2 h3, h.dom.bind (h.dom.fill (.inl hm) h1) h1 (fun z hz h0 => h.dom.fill (.inr (sub_mem hz)) h0), fill_fill _, fill_fill _, l1, l2⟩, free_bind s h.part h1 h2⟩
theorem Wy.long (h : Wy sg a b L x y) {k : Nat} (s : Spot sg a b L k) (h1 : x.getD k 0 < 0) (h2 : x.getD k 0 ∉ subL sg y k) (h3 : 0 ≤ y.getD k 0 ∨ x.getD k 0 < y.getD k 0)
  (hl : ¬ ((fillL (ones (vr (x.getD k 0)) (subL sg y k)) x).length ≤ 60 ∧ (fillL (ones (vr (x.getD k 0)) (subL sg y k)) y).length ≤ 60)) : ∀ M, ¬ Short sg a b M := fun M hM => by
 have hx := h.ex
 have hy := h.ey
 subst hx
 subst hy
 have hl2 := (s.bind h.part h1 h2 h3).len hM
 rw [← fill_fill, ← fill_fill] at hl2
 exact hl hl2
end
end unifDom
end
section
open Go.Lib (hid)
namespace look
open Go.RowKit base ints marks app sym segs fillMath
set_option maxRecDepth 100000
theorem varTerm (i : Int) (w : World) (h0 : 0 ≤ i) (h1 : i ≤ 1000) :
  Calls Try.prog 59 #[.int .i64 i] w (AnsList w [-1 - i]) := by
 have F : AnsList w [-1 - i] (.returned (.slice (some ⟨w.heap.size, 0, none⟩) 1 1)) (w.alloc (.cells #[.int .i64 (-1 - i)] 2)) :=
  ⟨_, 1, 1, rfl, Own.of_row (Row.new _ _ _) rfl rfl (Nat.le_refl _) (by omega) (Nat.le_refl _) (fun j hj => by
   have e : j = 0 := by omega
   subst e
   rfl), (Below.refl _ _).alloc (Nat.le_refl _) _⟩
 have HF := hid F
 clear F
 go_enter Try.func59, Try.ntmps59
 go_wp2
 go_ret
 exact HF.out
def AnsLook (B : Nat) (w : World) (ys : List Int) (e : Ending) (w' : World) : Prop := ∃ A n c, e = .returned (.slice A n c) ∧ Seg w' w'.heap.size A n ys ∧ Cap A n c ∧ (∀ k, blk A = some k → k < B ∨ w.heap.size ≤ k) ∧ Below w.heap.size w w'
def Looks (g : Nat) (lb : Array Value) (w : World) (L : Nat → List Int) (N : Nat) : Prop :=
 ∀ (W : World) (i : Nat), Below w.heap.size w W → i < N → Calls Try.prog g (#[.int .i64 (i : Int)] ++ lb) W (AnsLook w.heap.size W (L i))
theorem Looks.next {g : Nat} {lb : Array Value} {w w' : World} {L : Nat → List Int} {N : Nat} (h : Looks g lb w L N) (hb : Below w.heap.size w w') : Looks g lb w' L N :=
 fun W i hW hi => (h W i (next_trans hb hW) hi).mono fun _ _ ⟨A, n, c, he, h1, h2, h3, h4⟩ => ⟨A, n, c, he, h1, h2, fun k hk => by have := h3 k hk; have := hb.size; omega, h4⟩
theorem own_cap {w : World} {base : Nat} {A : Option Addr} {n c : Nat} {xs : List Int} (h : Own w base (.slice A n c) xs) : Cap A n c := by
 have hl := Own.len h
 rcases own_form (n := n) (vs := xs.map (Value.int .i64)) (by rw [hl]; rw [hl] at h; exact h) with ⟨rfl, h1, rfl, _⟩ | ⟨g, cur, rfl, _, _, h1, h2, h3, _⟩
 ·exact ⟨by omega, by omega, fun _ => rfl⟩
 ·exact ⟨h1, h3, fun e => by cases e⟩
theorem look_new {w w' : World} {B : Nat} {ys : List Int} {A : Option Addr} {n c : Nat} (ho : Own w' w.heap.size (.slice A n c) ys) (hb : Below w.heap.size w w') : AnsLook B w ys (.returned (.slice A n c)) w' :=
 ⟨A, n, c, rfl, Own.seg ho, own_cap ho, fun k hk => .inr (World.ownsRow.lt ho k (by cases A with | none => cases hk | some a => exact hk)).1, hb⟩
def HeadFill (w : World) (m : Nat) (t : List Int) (L : Nat → List Int) (out i : Value) (wr : World) : Prop :=
 ∃ (k : Nat) (O : Option Addr) (on oc : Nat), k ≤ m ∧ i = .int .i64 k ∧ out = .slice O on oc ∧ Own wr w.heap.size (.slice O on oc) (fillL L (t.take k)) ∧ Below w.heap.size w wr
theorem fill_bound {L : Nat → List Int} {t : List Int} {m k : Nat} (hM : ∀ i, (L i).length ≤ 4096) (hm : t.length = m) (h60 : m ≤ 60) : (fillL L (t.take k)).length ≤ 245760 := by
 have h := fill_len (M := 4096) (by omega) hM (t.take k)
 have h2 : (t.take k).length ≤ 60 := by simp; omega
 have h3 : (t.take k).length * 4096 ≤ 60 * 4096 := Nat.mul_le_mul_right _ h2
 omega
set_option maxHeartbeats 2000000 in
theorem fill (g : Nat) (lb : Array Value) (eg : ∀ args w, (callFunc g args).run Try.prog w = .ok (.enter g args) w) (A : Option Addr) (m c : Nat) (t : List Int) (L : Nat → List Int) (w : World)
  (hL : Looks g lb w L 24) (h : Seg w w.heap.size A m t) (hm : m ≤ 60) (hv : ∀ x ∈ t, -24 ≤ x) (hM : ∀ i, (L i).length ≤ 4096) :
  Calls Try.prog 79 #[.func (.func g) #[] lb, .slice A m c] w (AnsList w (fillL L t)) := by
 have HL := hid h.1
 have HV := hid hv
 have HM := hid hM
 have HK := hid hL
 have S0 : HeadFill w m t L (.slice none 0 0) (.int .i64 0) w := ⟨0, _, _, _, Nat.zero_le _, rfl, rfl, by simpa [fillL] using Own.nil w w.heap.size, Below.refl _ _⟩
 have HS0 := hid S0
 clear S0 hv hM hL
 go_enter Try.func79, Try.ntmps79
 go_wp2
 go_loopw [5, 10] (fun out i wr => HeadFill w m t L out i wr) (fun _ i _ => m - (intOf i).toNat)
 case atStart => exact HS0.out
 case round =>
  obtain ⟨k, O, on, oc, hk, rfl, rfl, ho, hb⟩ := hrel
  clear HS0
  have hon : on ≤ 245760 := by rw [Own.len ho]; exact fill_bound HM.out HL.out hm
  by_cases hlt : k < m
  ·obtain ⟨b, off, x, rfl, hbb, hx, ex⟩ := h.spot hlt
   have hx1 : wr.cell? ⟨b, off + k, none⟩ = some (.int .i64 x) := (hb.cell (p := ⟨b, off + k, none⟩) hbb).trans hx
   have hmem : x ∈ t := by
    have hkl : k < t.length := by rw [HL.out]; exact hlt
    have := ex.out
    rw [← this]
    simp [List.getD, hkl]
   have hx24 : -24 ≤ x := HV.out x hmem
   have E := hid (fill_take (L := L) (t := t) (k := k) (by rw [HL.out]; exact hlt) ex.out)
   have hsz := hb.size
   clear hmem hx h ex
   by_cases hpos : 0 ≤ x
   ·have R := hid (rep_sym (L := L) hpos)
    go_wp2_with (at_builtin; refine app1 rfl _ _ rfl w.heap.size O on oc (fillL L (t.take k)) rfl (Own.alloc ho _) wr.heap.size 1 x rfl ((Row.new _ _ _).cell 0) (by omega) (by simp; omega) ?_; intro O' oc' w2 ho2 b2)
    have S : HeadFill w m t L (.slice O' (on + 1) oc') (.int .i64 ((k : Int) + 1)) w2 := ⟨k + 1, O', on + 1, oc', hlt, by simp, rfl, by rw [E.out, R.out]; exact ho2, (hb.alloc hsz _).trans b2⟩
    replace S := hid S
    clear ho2 b2 ho hb R E
    go_wp2
    go_roundw
    case rel => exact S.out
    case measure => simp [intOf]; omega
   ·have hneg : x < 0 := by omega
    have R := hid (rep_var (L := L) hneg)
    have hcall := HK.out wr (-1 - x).toNat hb (by omega)
    rw [show (((-1 - x).toNat : Nat) : Int) = -1 - x by omega] at hcall
    have hLM : (L (-1 - x).toNat).length ≤ 4096 := HM.out _
    generalize hys : L (-1 - x).toNat = ys at hcall R hLM
    replace hcall := hid hcall
    clear hys
    go_wp2_with (first
     | (go_at_fn g; refine hcall.out.mono ?_; rintro e w1 ⟨A', n', c', rfl, s', cap', -, bb⟩; have hn' : n' ≤ 4096 := (by rw [← s'.1]; exact hLM); have ho1 := ho.next bb; have hb1 := hb.trans (bb.mono hb.size))
     | (at_builtin; refine appAll rfl _ _ rfl w.heap.size O on oc (fillL L (t.take k)) rfl ho1 A' n' c' w1.heap.size ys rfl s' cap'.2.2 (by omega) (by omega) hb1.size ?_; intro O' oc' w2 ho2 b2))
    have S : HeadFill w m t L (.slice O' (on + n') oc') (.int .i64 ((k : Int) + 1)) w2 := ⟨k + 1, O', on + n', oc', hlt, by simp, rfl, by rw [E.out, R.out]; exact ho2, hb1.trans b2⟩
    replace S := hid S
    clear ho2 b2 ho hb R E ho1 hb1 s' cap' bb hcall
    go_wp2
    go_roundw
    case rel => exact S.out
    case measure => simp [intOf]; omega
  ·have F : AnsList w (fillL L t) (.returned (.slice O on oc)) wr := by
    rw [List.take_of_length_le (by rw [HL.out]; omega)] at ho
    exact ⟨O, on, oc, rfl, ho, hb⟩
   have HF := hid F
   clear F ho hb h
   go_wp2
   go_ret
   exact HF.out
end look
end
section
open List (setIfInBounds_toArray set_cons_zero set_cons_succ getElem_toArray getElem_cons_zero getElem_cons_succ)
namespace thn
open Go.RowKit base ints cursor marks app sym segs fillMath Go.Proofs.Ytobedfmagjgdcaa.look
set_option maxRecDepth 100000
def LooksE (x : Option Nat) (g : Nat) (lb : Array Value) (w : World) (L : Nat → List Int) (N : Nat) : Prop :=
 ∀ (W : World) (i : Nat), w.grownBy W x → i < N → Calls Try.prog g (#[.int .i64 (i : Int)] ++ lb) W (AnsLook w.heap.size W (L i))
section
variable {x : Option Nat} {g : Nat} {lb : Array Value} {w w' : World} {L L' : Nat → List Int} {N : Nat}
theorem LooksE.next (h : LooksE x g lb w L N) (hg : w.grownBy w' x) : LooksE x g lb w' L N :=
 fun W i hW hi => (h W i (grown_trans hg hW) hi).mono fun _ _ ⟨A, n, c, he, h1, h2, h3, h4⟩ => ⟨A, n, c, he, h1, h2, fun k hk => by have := h3 k hk; have := hg.size; omega, h4⟩
theorem LooksE.looks (h : LooksE x g lb w L N) : Looks g lb w L N := fun W i hW hi => h W i (grown_below hW x) hi
theorem LooksE.ext (h : LooksE x g lb w L N) (e : ∀ i, i < N → L i = L' i) : LooksE x g lb w L' N := fun W i hW hi => by rw [← e i hi]; exact h W i hW hi
theorem grown_drew {a b : World} {r : Option Nat} (h : a.grownBy b r) : a.grownBy b.drew r := ⟨h.os, h.tape, h.output, h.size, h.block⟩
theorem lookVar (x : Option Nat) (w : World) : LooksE x 59 #[] w vt 24 := fun W i _ hi =>
 (varTerm (i : Int) W (by omega) (by omega)).mono fun _ _ ⟨A, n, c, he, ho, hb⟩ => by subst he; exact look_new ho hb
end
theorem lookThen (x : Option Nat) (b1 b2 g1 g2 : Nat) (lb1 lb2 : Array Value) (e1 : ∀ args w, (callFunc g1 args).run Try.prog w = .ok (.enter g1 args) w) (e2 : ∀ args w, (callFunc g2 args).run Try.prog w = .ok (.enter g2 args) w) (L1 L2 : Nat → List Int) (w : World)
  (z1 : b1 < w.heap.size) (z2 : b2 < w.heap.size) (n1 : x ≠ some b1) (n2 : x ≠ some b2) (c1 : w.cell? ⟨b1, 0, none⟩ = some (.func (.func g1) #[] lb1)) (c2 : w.cell? ⟨b2, 0, none⟩ = some (.func (.func g2) #[] lb2))
  (h1 : LooksE x g1 lb1 w L1 24) (h2 : LooksE x g2 lb2 w L2 24) (hl1 : ∀ i, i < 24 → (L1 i).length ≤ 60) (hv : ∀ i, i < 24 → ∀ y ∈ L1 i, -24 ≤ y) (hl2 : ∀ i, (L2 i).length ≤ 4096) :
  LooksE x 112 #[.pointer (some ⟨b2, 0, none⟩), .pointer (some ⟨b1, 0, none⟩)] w (fun i => fillL L2 (L1 i)) 24 := by
 intro W i hb hi
 have hsz := hb.size
 have p1 : W.cell? ⟨b1, 0, none⟩ = some (.func (.func g1) #[] lb1) := hb.cell c1 (fun e => n1 e.symm)
 have p2 : W.cell? ⟨b2, 0, none⟩ = some (.func (.func g2) #[] lb2) := hb.cell c2 (fun e => n2 e.symm)
 have HL1 := Lib.hid (h1 W.drew i (grown_drew hb) hi)
 have LU := (h2.next (grown_drew hb)).looks
 have h60 := Lib.hid (hl1 i hi)
 have HV := Lib.hid (hv i hi)
 have hM2 := Lib.hid hl2
 clear hb z1 z2 c1 c2 h1 h2 hl1 hv hl2
 show Calls Try.prog 112 #[.int .i64 (i : Int), .pointer (some ⟨b2, 0, none⟩), .pointer (some ⟨b1, 0, none⟩)] W _
 go_enter Try.func112, Try.ntmps112
 go_wp2_with fail
 refine wp_region_held_drew (S := (fun w' => w'.cell? ⟨b1, 0, none⟩ = some (.func (.func g1) #[] lb1) ∧ w'.cell? ⟨b2, 0, none⟩ = some (.func (.func g2) #[] lb2))) (by kernel_rfl) ⟨p1, p2⟩ (fun hHeld => ?_)
 refine wpAnyH_take (i := 0) (v := ?_) rfl (by kernel_rfl) (by kernel_rfl) (by kernel_rfl) (fun _ _ _ h => h) (Or.inl ⟨by rfl, ?_⟩) (by assumption) ?_
 rotate_left 1
 ·(intro w0 hSw; (try dsimp only at hSw); go_simp; try with_reducible rfl)
 try simp only [Act.put, setIfInBounds_toArray, set_cons_zero, set_cons_succ, getElem_toArray, getElem_cons_zero, getElem_cons_succ]
 refine wpAnyH_take (i := 1) (v := ?_) rfl (by kernel_rfl) (by kernel_rfl) (by kernel_rfl) (fun _ _ _ h => h) (Or.inl ⟨by rfl, ?_⟩) (by assumption) ?_
 rotate_left 1
 ·(intro w0 hSw; (try dsimp only at hSw); go_simp; try with_reducible rfl)
 try simp only [Act.put, setIfInBounds_toArray, set_cons_zero, set_cons_succ, getElem_toArray, getElem_cons_zero, getElem_cons_succ]
 refine wpAnyH_take (i := 2) (v := ?_) rfl (by kernel_rfl) (by kernel_rfl) (by kernel_rfl) (fun _ _ _ h => h) (Or.inl ⟨by rfl, ?_⟩) (by assumption) ?_
 rotate_left 1
 ·(intro w0 hSw; (try dsimp only at hSw); go_simp; try with_reducible rfl)
 try simp only [Act.put, setIfInBounds_toArray, set_cons_zero, set_cons_succ, getElem_toArray, getElem_cons_zero, getElem_cons_succ]
 refine wpAnyH_ready (rs := [3]) (by kernel_rfl) (by simp) (AllReadyH.cons rfl (fun K hK => ?_) AllReadyH.nil)
 go_simp
 refine HL1.out.mono ?_; rintro e w3 ⟨X, xn, xc, rfl, s1, -, -, b1'⟩; have x1 : w3.cell? ⟨b1, 0, none⟩ = some (.func (.func g1) #[] lb1) := (b1'.cell (p := ⟨b1, 0, none⟩) (World.block_lt_of_cell? _ _ p1)).trans p1; have x2 : w3.cell? ⟨b2, 0, none⟩ = some (.func (.func g2) #[] lb2) := (b1'.cell (p := ⟨b2, 0, none⟩) (World.block_lt_of_cell? _ _ p2)).trans p2; go_wp2_with fail
 refine hK.out _ _ ?_ (fun hHeld => ?_)
 ·first | assumption | (dsimp only; assumption) | exact ⟨by assumption, by assumption⟩
 clear hK K
 try simp only [Act.put, setIfInBounds_toArray, set_cons_zero, set_cons_succ, getElem_toArray, getElem_cons_zero, getElem_cons_succ]
 refine wpAnyH_ready (rs := [4]) (by kernel_rfl) (by simp) (AllReadyH.cons rfl (fun K hK => ?_) AllReadyH.nil)
 go_simp
 refine (fill g2 lb2 e2 X xn xc (L1 i) L2 w3 (LU.next b1') s1 (by rw [← s1.1]; exact h60.out) HV.out hM2.out).mono ?_; rintro e w4 ⟨Y, yn, yc, rfl, oy, b2'⟩; have y1 := (b2'.cell (p := ⟨b1, 0, none⟩) (World.block_lt_of_cell? _ _ x1)).trans x1; have y2 := (b2'.cell (p := ⟨b2, 0, none⟩) (World.block_lt_of_cell? _ _ x2)).trans x2; go_wp2_with fail
 refine hK.out _ _ ?_ (fun hHeld => ?_)
 ·first | assumption | (dsimp only; assumption) | exact ⟨by assumption, by assumption⟩
 clear hK K
 try simp only [Act.put, setIfInBounds_toArray, set_cons_zero, set_cons_succ, getElem_toArray, getElem_cons_zero, getElem_cons_succ]
 refine wpAnyH_take (i := 5) (v := ?_) rfl (by kernel_rfl) (by kernel_rfl) (by kernel_rfl) (fun _ _ _ h => h) (Or.inl ⟨by rfl, ?_⟩) (by assumption) ?_
 rotate_left 1
 ·(intro w0 hSw; (try dsimp only at hSw); go_simp; try with_reducible rfl)
 try simp only [Act.put, setIfInBounds_toArray, set_cons_zero, set_cons_succ, getElem_toArray, getElem_cons_zero, getElem_cons_succ]
 refine wpAnyH_done (by kernel_rfl) ?_ _
 have F : AnsLook w.heap.size W (fillL L2 (L1 i)) (.returned (.slice Y yn yc)) w4 :=
  look_new (w := W) (Own.lower oy (show W.drew.heap.size ≤ w3.heap.size from b1'.size)) (next_trans ((Below.refl _ _).drew : Below W.heap.size W W.drew) (next_trans b1' b2'))
 have HF := Lib.hid F
 clear F oy s1 b1' b2' HL1 LU p1 p2 x1 x2
 go_wp2
 go_ret
 exact HF.out
theorem thenC (g1 g2 : Nat) (lb1 lb2 : Array Value) (w : World) :
  Calls Try.prog 81 #[.func (.func g1) #[] lb1, .func (.func g2) #[] lb2] w fun e w' => e = .returned (.func (.func 112) #[] #[.pointer (some ⟨w.heap.size + 1, 0, none⟩), .pointer (some ⟨w.heap.size, 0, none⟩)]) ∧ w' = (w.alloc (.cells #[.func (.func g1) #[] lb1] 65)).alloc (.cells #[.func (.func g2) #[] lb2] 65) := by
 have hmf : ∀ (fn : Fn) (first cap : Array Value) (w : World), (Instr.makeFunc fn first cap).run Try.prog w = .ok (.func fn first cap) w := fun _ _ _ _ => rfl
 go_enter Try.func81, Try.ntmps81
 go_wp2
 go_ret
 exact ⟨rfl, rfl⟩
def AnsThen (w : World) (g1 g2 : Nat) (lb1 lb2 : Array Value) (e : Ending) (w' : World) : Prop :=
 ∃ b1 b2, e = .returned (.func (.func 112) #[] #[.pointer (some ⟨b2, 0, none⟩), .pointer (some ⟨b1, 0, none⟩)]) ∧ w.heap.size ≤ b1 ∧ w.heap.size ≤ b2 ∧ w'.cell? ⟨b1, 0, none⟩ = some (.func (.func g1) #[] lb1) ∧ w'.cell? ⟨b2, 0, none⟩ = some (.func (.func g2) #[] lb2) ∧ Below w.heap.size w w'
theorem thenB (g1 g2 : Nat) (lb1 lb2 : Array Value) (w : World) :
  Calls Try.prog 81 #[.func (.func g1) #[] lb1, .func (.func g2) #[] lb2] w (AnsThen w g1 g2 lb1 lb2) :=
 (thenC g1 g2 lb1 lb2 w).mono fun e w' ⟨h1, h2⟩ => by
  subst h2
  refine ⟨_, _, h1, Nat.le_refl _, Nat.le_succ _, ((Row.new w _ _).alloc _).cell 0, ?_, ((Below.refl _ _).alloc (Nat.le_refl _) _).alloc (by simp) _⟩
  simp
end thn
end
section
namespace varsOf
open Go.RowKit base
def AnsB (w : World) (b : Bool) (e : Ending) (w' : World) : Prop := e = .returned (.bool b) ∧ Below w.heap.size w w'
theorem ansB {w w' : World} {a b : Bool} (h : a = b) (hb : Below w.heap.size w w') : AnsB w b (.returned (.bool a)) w' := ⟨by rw [h], hb⟩
end varsOf
end
section
namespace substOk
open Go.RowKit base ints sig term termOk marks app sym sub segs segsHelp termFacts varsMath varsOf fillMath Go.Proofs.Ytobedfmagjgdcaa.look
set_option maxRecDepth 100000
def goodB (sg t : List Int) : Bool := decide (t.length = 0) || termOkB sg t
def substOkB (sg : List Int) (ss : List (List Int)) : Bool := sigOkB sg && (decide (ss.length ≤ 24) && ss.all (goodB sg))
theorem substOk_parts {sg : List Int} {ss : List (List Int)} (h : substOkB sg ss = true) : sigOkB sg = true ∧ ss.length ≤ 24 ∧ ∀ j, j < ss.length → goodB sg (ss.getD j []) = true := by
 unfold substOkB at h
 simp only [Bool.and_eq_true, decide_eq_true_eq, List.all_eq_true] at h
 refine ⟨h.1, h.2.1, fun j hj => ?_⟩
 have := h.2.2 (ss[j]) (List.getElem_mem hj)
 simpa [List.getD, hj] using this
theorem subst_sig {sg : List Int} {ss : List (List Int)} (h : sigOkB sg = false) : substOkB sg ss = false := by unfold substOkB; rw [h, Bool.false_and]
theorem subst_long {sg : List Int} {ss : List (List Int)} (h : ¬ ss.length ≤ 24) : substOkB sg ss = false := by unfold substOkB; rw [decide_eq_false h, Bool.false_and, Bool.and_false]
theorem subst_bad {sg : List Int} {ss : List (List Int)} {k : Nat} (hk : k < ss.length) (h : goodB sg (ss.getD k []) = false) : substOkB sg ss = false := by
 have : ss.all (goodB sg) = false := by
  rw [List.all_eq_false]
  refine ⟨ss[k], List.getElem_mem hk, ?_⟩
  have e : ss.getD k [] = ss[k] := by simp [List.getD, hk]
  rw [e] at h
  simp [h]
 unfold substOkB
 rw [this, Bool.and_false, Bool.and_false]
theorem subst_good {sg : List Int} {ss : List (List Int)} (h : sigOkB sg = true) (hl : ss.length ≤ 24) (hg : ∀ j, j < ss.length → goodB sg (ss.getD j []) = true) : substOkB sg ss = true := by
 have : ss.all (goodB sg) = true := by
  rw [List.all_eq_true]
  intro x hx
  obtain ⟨j, hj, rfl⟩ := List.getElem_of_mem hx
  have := hg j hj
  simpa [List.getD, hj] using this
 unfold substOkB
 rw [this, h, decide_eq_true hl]
 rfl
def HeadSO (w : World) (A : Option Addr) (n c : Nat) (S : Option Addr) (m c' : Nat) (sg : List Int) (ss : List (List Int)) (i : Value) (wr : World) : Prop :=
 ∃ k : Nat, k ≤ m ∧ i = .int .i64 k ∧ (∀ j, j < k → goodB sg (ss.getD j []) = true) ∧ Row wr w.heap.size 29 #[.slice A n c] ∧ Row wr (w.heap.size + 1) 39 #[.slice S m c'] ∧ Below w.heap.size w wr
theorem headSO_step {w wr : World} {A : Option Addr} {n c : Nat} {S : Option Addr} {m c' : Nat} {sg : List Int} {ss : List (List Int)} {k : Nat} (hk : k < m) (hlow : ∀ j, j < k → goodB sg (ss.getD j []) = true) (hg : goodB sg (ss.getD k []) = true)
  (r1 : Row wr w.heap.size 29 #[.slice A n c]) (r2 : Row wr (w.heap.size + 1) 39 #[.slice S m c']) (hb : Below w.heap.size w wr) : HeadSO w A n c S m c' sg ss (.int .i64 ((k : Int) + 1)) wr :=
 ⟨k + 1, hk, by simp, fun j hj => by
  by_cases e : j = k
  ·subst e; exact hg
  ·exact hlow j (by omega), r1, r2, hb⟩
theorem boxes2 (w : World) (A : Option Addr) (n c : Nat) (S : Option Addr) (m c' : Nat) : ∃ W, W = (w.alloc (.cells #[.slice A n c] 29)).alloc (.cells #[.slice S m c'] 39) ∧
  Row W w.heap.size 29 #[.slice A n c] ∧ Row W (w.heap.size + 1) 39 #[.slice S m c'] ∧ Below w.heap.size w W := by
 refine ⟨_, rfl, ?_, ?_, ?_⟩
 ·have := (Row.new w 29 #[.slice A n c]).alloc (.cells #[.slice S m c'] 39)
  simpa using this
 ·have := Row.new (w.alloc (.cells #[.slice A n c] 29)) 39 #[.slice S m c']
  simpa using this
 ·exact ((Below.refl _ _).alloc (Nat.le_refl _) _).alloc (by simp) _
end substOk
end
section
open Go.Lib (hid)
namespace gives
open Go.RowKit base ints sig term termOk marks app sym sub segs segsHelp termFacts varsMath varsOf fillMath Go.Proofs.Ytobedfmagjgdcaa.look substOk
set_option maxRecDepth 100000
set_option maxHeartbeats 4000000 in
theorem implSubstOk (A S : Option Addr) (n c m c' : Nat) (sg : List Int) (ss : List (List Int)) (w : World) (h : Seg w w.heap.size A n sg) (h' : Segs w w.heap.size S m ss) (hn : n ≤ 1048576) (ht : tot ss ≤ 1048576) :
  Calls Try.prog 77 #[.agg #[.slice A n c], .agg #[.slice S m c']] w (AnsB w (substOkB sg ss)) := by
 obtain ⟨W, hW, rA, rS, bel⟩ := boxes2 w A n c S m c'
 have HW := hid hW
 have HL := hid h'.1
 have hm : m ≤ 1048576 := tot_len h'.1 ht
 have HT := hid (tot_each ht)
 have L := hid (implSigOk A n c sg W (h.next bel) hn)
 have cS : W.cell? ⟨w.heap.size + 1, 0, none⟩ = some (.slice S m c') := rS.cell 0
 clear hW ht
 cases hsig : sigOkB sg with
 | false =>
  have HS := hid hsig
  clear hsig h h'
  go_enter Try.func77, Try.ntmps77
  go_wp2_with fail
  rw [← HW.out]
  refine L.out.mono ?_
  rintro e w1 ⟨he, bb⟩
  rw [HS.out] at he
  subst he
  have F := hid (ansB (b := substOkB sg ss) (a := false) (by rw [subst_sig HS.out]) (next_trans bel bb))
  clear bb bel rA rS cS
  go_wp2
  go_ret
  exact F.out
 | true =>
  have HS := hid hsig
  clear hsig
  by_cases h24 : m ≤ 24
  ·go_enter Try.func77, Try.ntmps77
   go_wp2_with fail
   rw [← HW.out]
   refine L.out.mono ?_
   rintro e w1 ⟨he, bb⟩
   rw [HS.out] at he
   subst he
   have H0 : HeadSO w A n c S m c' sg ss (.int .i64 0) w1 := ⟨0, Nat.zero_le _, rfl, fun j hj => absurd hj (Nat.not_lt_zero _), rA.next bb, rS.next bb, next_trans bel bb⟩
   have HH := hid H0
   have cS1 : w1.cell? ⟨w.heap.size + 1, 0, none⟩ = some (.slice S m c') := (rS.next bb).cell 0
   clear H0 bb bel rA rS cS L
   go_wp2_with fail
   go_loopw [19] (fun i wr => HeadSO w A n c S m c' sg ss i wr) (fun i _ => m - (intOf i).toNat)
   case atStart => exact HH.out
   case round =>
    obtain ⟨k, hk, rfl, hlow, r1, r2, hb⟩ := hrel
    have HLOW := hid hlow
    clear hlow HH cS1
    have cA : wr.cell? ⟨w.heap.size, 0, none⟩ = some (.slice A n c) := r1.cell 0
    by_cases hlt : k < m
    ·obtain ⟨b, off, A', n', cc, rfl, hbB, hx, hseg, hcap⟩ := h'.spot hlt
     have hx1 : wr.cell? ⟨b, off + k, none⟩ = some (.slice A' n' cc) := (hb.cell (p := ⟨b, off + k, none⟩) hbB).trans hx
     have hn' : n' ≤ 1048576 := by rw [← hseg.1]; exact HT.out k
     have HG := hid hseg.1
     by_cases hz : n' = 0
     ·subst hz
      have S1 : HeadSO w A n c (some ⟨b, off, none⟩) m c' sg ss (.int .i64 ((k : Int) + 1)) wr := headSO_step hlt HLOW.out (by unfold goodB; rw [HG.out]; rfl) r1 r2 hb
      have HS1 := hid S1
      clear S1 r1 r2 hb hx hseg hcap h h'
      go_wp2
      go_roundw
      case rel => exact HS1.out
      case measure => simp [intOf]; omega
     ·have hpos : 0 < n' := by omega
      have LT := hid (implTermOk A A' n c n' cc sg (ss.getD k []) wr (h.next hb) ((hseg.below hb).more hb.size) hn hn')
      cases hok : termOkB sg (ss.getD k []) with
      | false =>
       have HO := hid hok
       clear hok hx hseg hcap h h'
       go_wp2_with fail
       refine LT.out.mono ?_
       rintro e w2 ⟨he, bb⟩
       rw [HO.out] at he
       subst he
       have F := hid (ansB (b := substOkB sg ss) (a := false) (by rw [subst_bad (k := k) (by rw [HL.out]; exact hlt) (by unfold goodB; rw [HO.out, HG.out]; simp; omega)]) (next_trans hb bb))
       clear r1 r2 hb LT hx1 cA bb
       go_wp2
       go_ret
       exact F.out
      | true =>
       have HO := hid hok
       clear hok hx hseg hcap h h'
       go_wp2_with fail
       refine LT.out.mono ?_
       rintro e w2 ⟨he, bb⟩
       rw [HO.out] at he
       subst he
       have F := hid (headSO_step (sg := sg) (ss := ss) hlt HLOW.out (by unfold goodB; rw [HO.out, Bool.or_true]) (r1.next bb) (r2.next bb) (next_trans hb bb))
       clear r1 r2 hb LT hx1 cA bb
       go_wp2
       go_roundw
       case rel => exact F.out
       case measure => simp [intOf]; omega
    ·have F := hid (ansB (b := substOkB sg ss) (a := true) (by rw [subst_good HS.out (by rw [HL.out]; exact h24) (fun j hj => HLOW.out j (by rw [HL.out] at hj; omega))]) hb)
     clear r1 r2 hb h h'
     go_wp2
     go_ret
     exact F.out
  ·have i1 : (24 : Int) < (m : Int) := by omega
   go_enter Try.func77, Try.ntmps77
   go_wp2_with fail
   rw [← HW.out]
   refine L.out.mono ?_
   rintro e w1 ⟨he, bb⟩
   rw [HS.out] at he
   subst he
   have cS1 : w1.cell? ⟨w.heap.size + 1, 0, none⟩ = some (.slice S m c') := (rS.next bb).cell 0
   have F := hid (ansB (b := substOkB sg ss) (a := false) (by rw [subst_long (by rw [HL.out]; exact h24)]) (next_trans bel bb))
   clear bb bel rA rS cS h h' L
   go_wp2
   go_ret
   exact F.out
def givesL (ss : List (List Int)) (i : Nat) : List Int := if (ss.getD i []).length = 0 then vt i else ss.getD i []
theorem gives_var {ss : List (List Int)} {i : Nat} (h : (ss.getD i []).length = 0) : givesL ss i = vt i := by unfold givesL; rw [if_pos h]
theorem gives_term {ss : List (List Int)} {i : Nat} (h : ¬ (ss.getD i []).length = 0) : givesL ss i = ss.getD i [] := by unfold givesL; rw [if_neg h]
theorem gives_out {ss : List (List Int)} {i : Nat} (h : ¬ i < ss.length) : givesL ss i = vt i := gives_var (by simp [List.getD, h])
theorem gives_ok {sg : List Int} {ss : List (List Int)} (h : substOkB sg ss = true) {i : Nat} (hi : i < 24) : termOkB sg (givesL ss i) = true := by
 obtain ⟨h1, h2, h3⟩ := substOk_parts h
 by_cases hl : i < ss.length
 ·have h4 := h3 i hl
  by_cases hz : (ss.getD i []).length = 0
  ·rw [gives_var hz]; exact var_term h1 hi
  ·rw [gives_term hz]
   unfold goodB at h4
   rw [decide_eq_false hz, Bool.false_or] at h4
   exact h4
 ·rw [gives_out hl]; exact var_term h1 hi
theorem gives_len {sg : List Int} {ss : List (List Int)} (h : substOkB sg ss = true) (i : Nat) : (givesL ss i).length ≤ 60 := by
 by_cases hi : i < ss.length
 ·have h2 := (substOk_parts h).2.1
  exact (term_len (gives_ok h (show i < 24 by omega))).2
 ·rw [gives_out hi]; simp [vt]
theorem gives_pos (ss : List (List Int)) (i : Nat) : 1 ≤ (givesL ss i).length := by
 unfold givesL
 split
 ·simp [vt]
 ·omega
set_option maxHeartbeats 2000000 in
theorem l2Gives (S : Option Addr) (m c : Nat) (ss : List (List Int)) (i : Nat) (w : World) (h : Segs w w.heap.size S m ss) (ht : tot ss ≤ 1048576) (hi : i ≤ 1048576) :
  Calls Try.prog 73 #[.agg #[.slice S m c], .int .i64 (i : Int)] w (AnsList w (givesL ss i)) := by
 have hm : m ≤ 1048576 := tot_len h.1 ht
 have HT := hid (tot_each ht)
 have HL := hid h.1
 clear ht
 have bel : Below w.heap.size w (w.alloc (.cells #[.slice S m c] 39)) := (Below.refl _ _).alloc (Nat.le_refl _) _
 have i0 : (0 : Int) ≤ (i : Int) := by omega
 have var : ∀ (hv : givesL ss i = vt i), AnsList w (givesL ss i) (.returned (.slice (some ⟨w.heap.size + 1, 0, none⟩) 1 1)) ((w.alloc (.cells #[.slice S m c] 39)).alloc (.cells #[.int .i64 (-1 - (i : Int))] 2)) := fun hv => by
  refine ⟨_, 1, 1, rfl, ?_, bel.alloc (by simp) _⟩
  rw [hv]
  have := Own.of_row (base := w.heap.size) (n := 1) (c := 1) (xs := vt i) (Row.new (w.alloc (.cells #[.slice S m c] 39)) 2 #[.int .i64 (-1 - (i : Int))]) rfl rfl (Nat.le_refl _) (by omega) (by simp) (fun j hj => by
   have e : j = 0 := by omega
   subst e
   rfl)
  simpa using this
 have VAR := hid var
 clear var
 by_cases hlt : i < m
 ·obtain ⟨b, off, A', n', cc, rfl, hbB, hx, hseg, hcap⟩ := h.spot hlt
  have hx1 : (w.alloc (.cells #[.slice (some ⟨b, off, none⟩) m c] 39)).cell? ⟨b, off + i, none⟩ = some (.slice A' n' cc) := (bel.cell (p := ⟨b, off + i, none⟩) hbB).trans hx
  by_cases hz : n' = 0
  ·subst hz
   have F := hid (VAR.out (gives_var hseg.1))
   clear h hseg hcap hx bel VAR
   go_enter Try.func73, Try.ntmps73
   go_wp2
   go_ret
   exact F.out
  ·have hpos : 0 < n' := by omega
   have E := hid (gives_term (ss := ss) (i := i) (by rw [hseg.1]; exact hz))
   have L := hid (copyInts A' n' cc _ _ ((hseg.below bel).more bel.size) hcap.2.2 (by rw [← hseg.1]; exact HT.out i))
   clear h hseg hcap hx VAR
   go_enter Try.func73, Try.ntmps73
   go_wp2_with fail
   refine L.out.mono ?_
   rintro e w1 ⟨D, dn, dc, rfl, o1, b1⟩
   have F : AnsList w (givesL ss i) (.returned (.slice D dn dc)) w1 := ⟨D, dn, dc, rfl, by rw [E.out]; exact Own.lower o1 bel.size, next_trans bel b1⟩
   have HF := hid F
   clear F o1 b1 bel L
   go_wp2
   go_ret
   exact HF.out
 ·have hge : ¬ (i : Int) < (m : Int) := by omega
  have F := hid (VAR.out (gives_out (by rw [HL.out]; exact hlt)))
  clear h bel VAR
  go_enter Try.func73, Try.ntmps73
  go_wp2
  go_ret
  exact F.out
theorem lookupIn (S : Option Addr) (m c : Nat) (w : World) :
  Calls Try.prog 78 #[.agg #[.slice S m c]] w fun e w' => e = .returned (.func (.func 111) #[] #[.pointer (some ⟨w.heap.size, 0, none⟩)]) ∧ w' = w.alloc (.cells #[.slice S m c] 39) := by
 have hmf : ∀ (fn : Fn) (first cap : Array Value) (w : World), (Instr.makeFunc fn first cap).run Try.prog w = .ok (.func fn first cap) w := fun _ _ _ _ => rfl
 go_enter Try.func78, Try.ntmps78
 go_wp2
 go_ret
 exact ⟨rfl, rfl⟩
set_option maxHeartbeats 2000000 in
theorem lookSubstC (B : Nat) (S : Option Addr) (m c : Nat) (ss : List (List Int)) (w : World) (hB : B < w.heap.size) (hc : w.cell? ⟨B, 0, none⟩ = some (.slice S m c)) (h : Segs w w.heap.size S m ss) (hm : m ≤ 1048576) :
  Looks 111 #[.pointer (some ⟨B, 0, none⟩)] w (givesL ss) 24 := by
 intro W i hb hi
 have cB : W.cell? ⟨B, 0, none⟩ = some (.slice S m c) := (hb.cell (p := ⟨B, 0, none⟩) hB).trans hc
 have h1 := h.below hb
 have HL := hid h.1
 have i0 : (0 : Int) ≤ (i : Int) := by omega
 have LV := hid (varTerm (i : Int) W (by omega) (by omega))
 have hws := hb.size
 clear hB hc h hb
 show Calls Try.prog 111 #[.int .i64 (i : Int), .pointer (some ⟨B, 0, none⟩)] W _
 by_cases hlt : i < m
 ·obtain ⟨b, off, A', n', cc, rfl, hbB, hx, hseg0, hcap⟩ := h1.spot hlt
  have hseg := hseg0.more hws
  by_cases hz : n' = 0
  ·subst hz
   have E := hid (gives_var (ss := ss) (i := i) hseg.1)
   clear h1 hseg hseg0 hcap
   go_enter Try.func111, Try.ntmps111
   go_wp2_with fail
   refine LV.out.mono ?_
   rintro e w1 ⟨D, dn, dc, rfl, o1, b1⟩
   have F : AnsLook w.heap.size W (givesL ss i) (.returned (.slice D dn dc)) w1 := by rw [E.out]; exact look_new o1 b1
   have HF := hid F
   clear F o1 b1 LV
   go_wp2
   go_ret
   exact HF.out
  ·have hpos : 0 < n' := by omega
   have F : AnsLook w.heap.size W (givesL ss i) (.returned (.slice A' n' cc)) W := ⟨A', n', cc, rfl, by rw [gives_term (by rw [hseg.1]; exact hz)]; exact hseg, hcap, fun k hk => .inl (by obtain ⟨b2, off2, e2, hb2, _⟩ := hseg0.2 hpos; rw [e2] at hk; have : b2 = k := Option.some.inj hk; omega), Below.refl _ _⟩
   have HF := hid F
   clear F h1 hseg hseg0 hcap LV
   go_enter Try.func111, Try.ntmps111
   go_wp2
   go_ret
   exact HF.out
 ·have hge : ¬ (i : Int) < (m : Int) := by omega
  have E := hid (gives_out (ss := ss) (i := i) (by rw [HL.out]; exact hlt))
  clear h1
  go_enter Try.func111, Try.ntmps111
  go_wp2_with fail
  refine LV.out.mono ?_
  rintro e w1 ⟨D, dn, dc, rfl, o1, b1⟩
  have F : AnsLook w.heap.size W (givesL ss i) (.returned (.slice D dn dc)) w1 := by rw [E.out]; exact look_new o1 b1
  have HF := hid F
  clear F o1 b1 LV
  go_wp2
  go_ret
  exact HF.out
theorem lookSubst (B : Nat) (S : Option Addr) (m c : Nat) (ss : List (List Int)) (w : World) (hr : Row w B 39 #[.slice S m c]) (h : Segs w w.heap.size S m ss) (hm : m ≤ 1048576) :
  Looks 111 #[.pointer (some ⟨B, 0, none⟩)] w (givesL ss) 24 := lookSubstC B S m c ss w hr.lt (hr.cell 0) h hm
theorem tooLong (A : Option Addr) (n c : Nat) (w : World) (hn : n ≤ 9223372036854775807) :
  Calls Try.prog 80 #[.slice A n c] w fun e w' => w = w' ∧ e = .returned (.bool (decide (60 < n))) := by
 have E : decide ((60 : Int) < (n : Int)) = decide (60 < n) := decide_eq_decide.2 (by omega)
 rw [← E]
 have HE := hid E
 clear E
 generalize hz : decide ((60 : Int) < (n : Int)) = z
 have HZ := hid hz
 clear hz
 go_enter Try.func80, Try.ntmps80
 go_wp2
 go_ret
 exact ⟨rfl, by rw [← HZ.out]; rfl⟩
end gives
end
section
namespace heldT
section
variable {P : Program} {md : Region.Mode} {ops : Array Oper} {Q : Exit → Act → World → Prop} {S : World → Prop} {late : Nat → Bool}
def AnyT (P : Program) (md : Region.Mode) (ops : Array Oper) (Q : Exit → Act → World → Prop) (S : World → Prop) (late : Nat → Bool) : Nat → Array Bool → Act → World → Prop
 | 0, listed, a, w => Region.ready md ops listed = [] ∧ Q .normal a w
 | fuel + 1, listed, a, w => (Region.ready md ops listed = [] → Q .normal a w) ∧
  ∀ i ∈ Region.ready md ops listed, wpOp P ops Q i (fun a' w' => (late i = false → S w → S w') ∧ AnyT P md ops Q S late fuel (listed.setIfInBounds i true) a' w') a w
theorem AnyT.any : ∀ (fuel : Nat) (listed : Array Bool) (a : Act) (w : World), AnyT P md ops Q S late fuel listed a w → wpAny P md ops Q fuel listed a w
 | 0, _, _, _, h => h
 | fuel + 1, _, _, _, h => ⟨h.1, fun i hi => wpOp_mono (fun a' w' h' => AnyT.any fuel _ a' w' h'.2) (h.2 i hi)⟩
def Waits (md : Region.Mode) (ops : Array Oper) (late : Nat → Bool) (listed : Array Bool) (i : Nat) : Prop :=
 ∀ j o, ops[j]? = some o → late j = true → listed.getD j true = false → ∃ e ∈ o.after, Region.binds md e = true ∧ e.on = i
def waitsB (md : Region.Mode) (ops : Array Oper) (late : Nat → Bool) (listed : Array Bool) (i : Nat) : Bool :=
 (List.range ops.size).all fun j => !late j || listed.getD j true || ((ops[j]?).map fun o => o.after.any fun e => Region.binds md e && e.on == i).getD false
theorem waits_of {listed : Array Bool} {i : Nat} (h : waitsB md ops late listed i = true) : Waits md ops late listed i := by
 intro j o ho hl hu
 have hj : j < ops.size := by
  rcases Nat.lt_or_ge j ops.size with h' | h'
  ·exact h'
  ·rw [Array.getElem?_eq_none h'] at ho; cases ho
 have := List.all_eq_true.1 h j (List.mem_range.2 hj)
 rw [hl, hu, ho] at this
 simp only [Bool.not_true, Bool.false_or, Option.map_some, Option.getD_some, Array.any_eq_true', Bool.and_eq_true, beq_iff_eq] at this
 exact this
theorem AnyT.first {i : Nat} {oi : Oper} {v : Value} (hi : ops[i]? = some oi) (hsel : ∀ (j : Nat) (o : Oper) cs b, ops[j]? = some o → o.op ≠ .select cs b) (hQ : ∀ c a w, Q (.panic c) (a.put oi.dst v) w → Q (.panic c) a w) :
  ∀ (fuel : Nat) (listed : Array Bool) (a : Act) (w : World),
   (∀ j oj, ops[j]? = some oj → j ≠ i → listed.getD j true = false → (∀ e ∈ oj.after, Region.binds md e = true → e.on ≠ i) → oi.apart ops oj = true) → Waits md ops late listed i →
   i ∈ Region.ready md ops listed → YieldsIf P ops S oi v a → S w → AnyT P md ops Q S late fuel (listed.setIfInBounds i true) (a.put oi.dst v) w → AnyT P md ops Q S late (fuel + 1) listed a w := by
 intro fuel
 induction fuel with
 | zero =>
  intro listed a w _ _ hr hy hS H
  refine ⟨fun h => (by rw [h] at hr; cases hr), fun j hj => ?_⟩
  rcases Classical.em (j = i) with e | e
  ·subst e; exact hy.wpOp hi hS ⟨fun _ h => h, H⟩
  ·have := ready_mono hj e
   rw [H.1] at this
   cases this
 | succ fuel ih =>
  intro listed a w hfree hwait hr hy hS H
  refine ⟨fun h => (by rw [h] at hr; cases hr), fun j hj => ?_⟩
  rcases Classical.em (j = i) with e | hji
  ·subst e; exact hy.wpOp hi hS ⟨fun _ h => h, H⟩
  have h1 := H.2 j (ready_mono hj hji)
  obtain ⟨hjun, oj, hoj, hall⟩ := mem_ready.1 hj
  have h0 := (mem_ready.1 hr).1
  have hnot : ∀ e ∈ oj.after, Region.binds md e = true → e.on ≠ i := fun e he hb heq => by
   have h1 := hall e he hb
   rw [heq] at h1
   rcases Nat.lt_or_ge i listed.size with h' | h'
   ·simp [h'] at h0 h1; rw [h0] at h1; cases h1
   ·simp [Array.getElem?_eq_none h'] at h1
  have hlj : late j = false := by
   cases e : late j with
   | false => rfl
   | true =>
    obtain ⟨x, hx, hb, ho⟩ := hwait j oj hoj e hjun
    exact absurd ho (hnot x hx hb)
  have far : ∀ {k : Nat}, j ≠ k → (listed.setIfInBounds j true).getD k true = false → listed.getD k true = false := fun hjk h => by rwa [getD_set_ne true hjk] at h
  have same : ∀ {k : Nat}, k = j → listed.getD k true = false := fun e => by rw [e]; exact hjun
  have un : ∀ (k : Nat), (listed.setIfInBounds j true).getD k true = false → listed.getD k true = false := fun k h => by
   rcases Classical.em (k = j) with e | e
   ·exact same e
   ·exact far (fun e' => e e'.symm) h
  have h2 := wpOp_putIf hoj (hfree j oj hoj hji hjun hnot) (fun cs b => hsel i oi cs b hi) (fun cs b => hsel j oj cs b hoj) hQ hy h1
  refine wpOp_mono (fun a' w' h3 => ⟨h3.2.1, ih (listed.setIfInBounds j true) a' w' (fun k ok hk hki hun hno => hfree k ok hk hki (un k hun) hno) (fun k o hk hl hu => hwait k o hk hl (un k hu)) (ready_mono hr (Ne.symm hji)) h3.1 (h3.2.1 hlj hS) ?_⟩) h2
  rw [Array.setIfInBounds_comm _ _ hji]
  exact h3.2.2
theorem AnyT.take {i : Nat} {oi : Oper} {v : Value} {fuel : Nat} {listed : Array Bool} {a : Act} {w : World} (hi : ops[i]? = some oi) (hs : Region.noSelect ops = true) (hf : Region.free md ops listed i = true) (hw : waitsB md ops late listed i = true) (hr : (Region.ready md ops listed).contains i = true)
  (hQ : ∀ c a w, Q (.panic c) (a.put oi.dst v) w → Q (.panic c) a w) (hy : YieldsIf P ops S oi v a) (hS : S w) (h : AnyT P md ops Q S late fuel (listed.setIfInBounds i true) (a.put oi.dst v) w) : AnyT P md ops Q S late (fuel + 1) listed a w :=
 AnyT.first hi (Region.noSelect_spec hs) hQ fuel listed a w (Region.free_spec hi hf) (waits_of hw) (by simpa using hr) hy hS h
theorem AnyT.firstA {i : Nat} {oi : Oper} {v : Value} (hi : ops[i]? = some oi) (hsel : ∀ (j : Nat) (o : Oper) cs b, ops[j]? = some o → o.op ≠ .select cs b) (hQ : ∀ c a w, Q (.panic c) (a.put oi.dst v) w → Q (.panic c) a w) :
  ∀ (fuel : Nat) (listed : Array Bool) (a : Act) (w : World),
   (∀ j oj, ops[j]? = some oj → j ≠ i → listed.getD j true = false → (∀ e ∈ oj.after, Region.binds md e = true → e.on ≠ i) → oi.apart ops oj = true) →
   i ∈ Region.ready md ops listed → YieldsIf P ops (fun _ => True) oi v a → AnyT P md ops Q S late fuel (listed.setIfInBounds i true) (a.put oi.dst v) w → AnyT P md ops Q S late (fuel + 1) listed a w := by
 intro fuel
 induction fuel with
 | zero =>
  intro listed a w _ hr hy H
  refine ⟨fun h => (by rw [h] at hr; cases hr), fun j hj => ?_⟩
  rcases Classical.em (j = i) with e | e
  ·subst e; exact hy.wpOp hi trivial ⟨fun _ h => h, H⟩
  ·have := ready_mono hj e
   rw [H.1] at this
   cases this
 | succ fuel ih =>
  intro listed a w hfree hr hy H
  refine ⟨fun h => (by rw [h] at hr; cases hr), fun j hj => ?_⟩
  rcases Classical.em (j = i) with e | hji
  ·subst e; exact hy.wpOp hi trivial ⟨fun _ h => h, H⟩
  have h1 := H.2 j (ready_mono hj hji)
  obtain ⟨hjun, oj, hoj, hall⟩ := mem_ready.1 hj
  have h0 := (mem_ready.1 hr).1
  have hnot : ∀ e ∈ oj.after, Region.binds md e = true → e.on ≠ i := fun e he hb heq => by
   have h1 := hall e he hb
   rw [heq] at h1
   rcases Nat.lt_or_ge i listed.size with h' | h'
   ·simp [h'] at h0 h1; rw [h0] at h1; cases h1
   ·simp [Array.getElem?_eq_none h'] at h1
  have un : ∀ (k : Nat), (listed.setIfInBounds j true).getD k true = false → listed.getD k true = false := fun k h => by
   rcases Classical.em (k = j) with e | e
   ·rw [e]; exact hjun
   ·rwa [getD_set_ne true (fun e' => e e'.symm)] at h
  have h2 := wpOp_putIf hoj (hfree j oj hoj hji hjun hnot) (fun cs b => hsel i oi cs b hi) (fun cs b => hsel j oj cs b hoj) hQ hy h1
  refine wpOp_mono (fun a' w' h3 => ⟨h3.2.1, ih (listed.setIfInBounds j true) a' w' (fun k ok hk hki hun hno => hfree k ok hk hki (un k hun) hno) (ready_mono hr (Ne.symm hji)) h3.1 ?_⟩) h2
  rw [Array.setIfInBounds_comm _ _ hji]
  exact h3.2.2
theorem AnyT.takeA {i : Nat} {oi : Oper} {v : Value} {fuel : Nat} {listed : Array Bool} {a : Act} {w : World} (hi : ops[i]? = some oi) (hs : Region.noSelect ops = true) (hf : Region.free md ops listed i = true) (hr : (Region.ready md ops listed).contains i = true)
  (hQ : ∀ c a w, Q (.panic c) (a.put oi.dst v) w → Q (.panic c) a w) (hy : YieldsIf P ops (fun _ => True) oi v a) (h : AnyT P md ops Q S late fuel (listed.setIfInBounds i true) (a.put oi.dst v) w) : AnyT P md ops Q S late (fuel + 1) listed a w :=
 AnyT.firstA hi (Region.noSelect_spec hs) hQ fuel listed a w (Region.free_spec hi hf) (by simpa using hr) hy h
theorem AnyT.call {i : Nat} {o : Oper} {fuel : Nat} {listed : Array Bool} {a : Act} {w : World} (hr : Region.ready md ops listed = [i]) (ho : ops[i]? = some o)
  (h : ∀ K' : Act → World → Prop, Shut (∀ a w', (late i = false → S w → S w') → ((late i = false → S w → S w') → AnyT P md ops Q S late fuel (listed.setIfInBounds i true) a w') → K' a w') → if Region.wanted o (yielded ops a.tmps) = true then Oper.wp P o a w K' Q else K' (a.put o.dst undef) w) : AnyT P md ops Q S late (fuel + 1) listed a w :=
 ⟨fun h0 => absurd (hr ▸ h0) (by simp), fun j hj => by
  rw [hr, List.mem_singleton] at hj
  subst hj
  exact wpOp_step ho (fun K' hK => h K' (fun a w' hS hW => hK a w' ⟨hS, hW hS⟩))⟩
theorem AnyT.done {listed : Array Bool} {a : Act} {w : World} (hr : Region.ready md ops listed = []) (h : Q .normal a w) : ∀ fuel, AnyT P md ops Q S late fuel listed a w
 | 0 => ⟨hr, h⟩
 | _ + 1 => ⟨fun _ => h, by rw [hr]; simp⟩
theorem AnyT.start {id : Nat} {a : Act} {w : World} (late : Nat → Bool) (hm : P.follows .mixedOrders = true) (hS : S w.drew) (h : S w.drew → AnyT P .any ops Q S late ops.size (Array.replicate ops.size false) a w.drew) : (Code.region id ops true).wp P Q a w :=
 wp_region_any hm (AnyT.any _ _ _ _ (h hS))
end
end heldT
end
end Go.Proofs.Ytobedfmagjgdcaa
