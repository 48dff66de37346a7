/-
  MERGED: my texts PosMath, PathSpec, WayTo, Place, Deep, DrawSig, DrawTerm, DrawAny, DrawNew, DrawPairL, DrawOne, DrawAt, one behind the other, as they are. By an AI agent.
-/
import Derived.Test.YtfclafbdbdmlhaaMFnPaths1
import Derived.Deep.LoopGhost
import Derived.Deep.RegionHeld3
import Derived.Deep.AppendLies
import Derived.Deep.RegionLaw
namespace Go.Proofs.Ytfclafbdbdmlhaa
section
namespace posMath
open sig term termOk termFacts endAt sub args depth termMath
theorem scan_cat {sg : List Int} : ∀ {l l' : List Int} {q q' j : Nat}, scan sg q l = some l.length → scan sg q' l' = some j → scan sg (q + q') (l ++ l') = some (l.length + j)
 | [], l', q, q', j, h, h' => by
  cases q with
  | zero => simpa using h'
  | succ q => rw [scan_nil] at h; cases h
 | x :: r, l', q, q', j, h, h' => by
  cases q with
  | zero => rw [scan_zero] at h; simp at h
  | succ q =>
   by_cases ha : ar sg x < 0
   ·rw [scan_bad ha] at h; cases h
   ·rw [scan_step ha] at h
    obtain ⟨i, hi, e⟩ := Option.map_eq_some_iff.1 h
    have e2 : i = r.length := by simp at e; omega
    subst e2
    have h2 := scan_cat hi h'
    rw [show q + 1 + q' = (q + q') + 1 by omega, List.cons_append, scan_step ha, show q + q' + (ar sg x).toNat = q + (ar sg x).toNat + q' by omega, h2]
    simp
    omega
theorem term_at {sg t : List Int} (h : termOkB sg t = true) {a : Nat} (ha : a < t.length) : scan sg 1 (t.drop a) = some (len1 sg t a) ∧ 1 ≤ len1 sg t a ∧ a + len1 sg t a ≤ t.length := by
 obtain ⟨j, e, h1, h2⟩ := scan_at (term_parts h).2.2 ha
 rw [len1_eq e]
 exact ⟨e, h1, h2⟩
theorem end_at {sg t : List Int} (h : termOkB sg t = true) {a : Nat} (ha : a < t.length) : endI sg t a = ((a + len1 sg t a : Nat) : Int) := by
 rw [endI_some (term_at h ha).1]; omega
theorem nest {sg t : List Int} {q a i : Nat} (h : scan sg q (t.drop a) = some i) {p : Nat} (h1 : a ≤ p) (h2 : p < a + i) : p + len1 sg t p ≤ a + i ∧ scan sg 1 (t.drop p) = some (len1 sg t p) ∧ 1 ≤ len1 sg t p := by
 obtain ⟨q', hq⟩ := scan_tail h (show p - a < i by omega)
 rw [List.drop_drop, show a + (p - a) = p by omega] at hq
 obtain ⟨j, e, j1, j2, _⟩ := scan_first hq
 rw [len1_eq e]
 exact ⟨by omega, e, j1⟩
def argP (sg t : List Int) : Nat → Nat → Nat
 | 0, p => p
 | k + 1, p => argP sg t k (p + len1 sg t p)
theorem argP_succ {sg t : List Int} : ∀ k p, argP sg t (k + 1) p = argP sg t k p + len1 sg t (argP sg t k p)
 | 0, _ => rfl
 | k + 1, p => by
  show argP sg t (k + 1) (p + len1 sg t p) = _
  rw [argP_succ k]
  rfl
theorem argP_mono {sg t : List Int} {p k : Nat} : ∀ {k' : Nat}, k ≤ k' → argP sg t k p ≤ argP sg t k' p := by
 intro k' h
 induction k' with
 | zero => rw [Nat.le_zero.1 h]; exact Nat.le_refl _
 | succ k' ih =>
  by_cases e : k = k' + 1
  ·rw [e]; exact Nat.le_refl _
  ·have := ih (by omega)
   rw [argP_succ]
   omega
theorem argP_scan {sg t : List Int} : ∀ {k q p i : Nat}, scan sg q (t.drop p) = some i → k ≤ q → scan sg k (t.drop p) = some (argP sg t k p - p) ∧ p ≤ argP sg t k p ∧ argP sg t k p ≤ p + i := by
 intro k
 induction k with
 | zero => intro q p i _ _; exact ⟨by rw [scan_zero]; simp [argP], Nat.le_refl _, by simp [argP]⟩
 | succ k ih =>
  intro q p i h hk
  obtain ⟨q, rfl⟩ : ∃ q', q = q' + 1 := ⟨q - 1, by omega⟩
  obtain ⟨j, e1, e2, e3, e4⟩ := scan_first h
  have hj := len1_eq e1
  obtain ⟨a1, a2, a3⟩ := ih e4 (show k ≤ q by omega)
  have ea : argP sg t (k + 1) p = argP sg t k (p + j) := by show argP sg t k (p + len1 sg t p) = _; rw [hj]
  have hsc : scan sg (k + 1) (t.drop p) = some (argP sg t (k + 1) p - p) := by
   have hx := scan_cat (l := (t.drop p).take j) (l' := t.drop (p + j)) (q := 1) (q' := k) (j := argP sg t k (p + j) - (p + j))
    (by have := scan_take e1; rw [this]; have hl := scan_le this; have hl2 := scan_le e1; rw [List.length_take, Nat.min_eq_left hl2]) a1
   have hl2 := scan_le e1
   rw [← List.drop_drop, List.take_append_drop, List.length_take, Nat.min_eq_left hl2, Nat.add_comm 1 k] at hx
   rw [hx, ea]
   congr 1
   omega
  rw [ea] at hsc ⊢
  exact ⟨hsc, by omega, by omega⟩
theorem places_get {sg t : List Int} : ∀ {q p k : Nat}, k < q → (places sg t q p).getD k 0 = (argP sg t k p : Int) := by
 intro q
 induction q with
 | zero => intro p k h; omega
 | succ q ih =>
  intro p k h
  cases k with
  | zero => rfl
  | succ k =>
   show ((p : Int) :: places sg t q (p + len1 sg t p)).getD (k + 1) 0 = _
   rw [List.getD_cons_succ, ih (by omega)]
   rfl
theorem find_arg {sg t : List Int} {at_ : Nat} : ∀ {q p i : Nat}, scan sg q (t.drop p) = some i → p ≤ at_ → at_ < p + i → ∃ k, k < q ∧ argP sg t k p ≤ at_ ∧ at_ < argP sg t k p + len1 sg t (argP sg t k p) := by
 intro q
 induction q with
 | zero => intro p i h h1 h2; rw [scan_zero] at h; injection h; omega
 | succ q ih =>
  intro p i h h1 h2
  obtain ⟨j, e1, e2, e3, e4⟩ := scan_first h
  have hj := len1_eq e1
  by_cases hlt : at_ < p + j
  ·exact ⟨0, by omega, h1, by show at_ < p + len1 sg t p; omega⟩
  ·obtain ⟨k, k1, k2, k3⟩ := ih e4 (by omega) (by omega)
   have e : argP sg t (k + 1) p = argP sg t k (p + j) := by show argP sg t k (p + len1 sg t p) = _; rw [hj]
   exact ⟨k + 1, by omega, by rw [e]; exact k2, by rw [e]; exact k3⟩
def arN (sg t : List Int) (p : Nat) : Nat := (ar sg (t.getD p 0)).toNat
inductive Trail (sg t : List Int) (at_ : Nat) : Nat → List Int → List Int → Prop
 | here : Trail sg t at_ at_ [] []
 | down {p k : Nat} {ab pa : List Int} (h1 : p < at_) (h2 : k < arN sg t p) (h3 : argP sg t k (p + 1) ≤ at_) (h4 : at_ < argP sg t k (p + 1) + len1 sg t (argP sg t k (p + 1))) (h5 : p < argP sg t k (p + 1)) (h6 : at_ < p + len1 sg t p) (hw : Trail sg t at_ (argP sg t k (p + 1)) ab pa) : Trail sg t at_ p ((p : Int) :: ab) ((k : Int) :: pa)
theorem head_scan {sg t : List Int} (h : termOkB sg t = true) {p : Nat} (hp : p < t.length) : ¬ ar sg (t.getD p 0) < 0 ∧ ∃ i, len1 sg t p = i + 1 ∧ scan sg (arN sg t p) (t.drop (p + 1)) = some i := by
 obtain ⟨i, e, _, h1, h2⟩ := scan_args (term_at h hp).1
 exact ⟨h1, i, e, h2⟩
theorem arg_at {sg t : List Int} (h : termOkB sg t = true) {p : Nat} (hp : p < t.length) {k : Nat} (hk : k < arN sg t p) : p < argP sg t k (p + 1) ∧ argP sg t k (p + 1) + len1 sg t (argP sg t k (p + 1)) ≤ p + len1 sg t p ∧ argP sg t k (p + 1) < t.length := by
 obtain ⟨_, i, e, hs⟩ := head_scan h hp
 obtain ⟨_, a2, _⟩ := argP_scan hs (Nat.le_of_lt hk)
 obtain ⟨_, _, b3⟩ := argP_scan hs hk
 rw [argP_succ] at b3
 have hm := argP_scan hs (Nat.le_of_lt hk)
 have hl := (term_at h hp).2.2
 refine ⟨by omega, by omega, ?_⟩
 by_cases hx : argP sg t k (p + 1) < p + 1 + i
 ·omega
 ·exfalso
  have hsc := argP_scan hs hk
  have h0 := argP_succ (sg := sg) (t := t) k (p + 1)
  have hpos : scan sg (arN sg t p) (t.drop (p + 1)) = some (argP sg t k (p + 1) - (p + 1)) := by rw [hs]; congr 1; omega
  obtain ⟨i', _, s1, s2⟩ := scan_split (p := k) (q := arN sg t p - k - 1 + 1) (l := t.drop (p + 1)) (j := i) (by rw [← hs]; congr 1; omega)
  rw [hm.1] at s1
  injection s1 with s1
  have := scan_pos s2
  omega
theorem way_ex {sg t : List Int} (h : termOkB sg t = true) {at_ : Nat} (hat : at_ < t.length) : ∀ (n p : Nat), at_ - p ≤ n → p ≤ at_ → at_ < p + len1 sg t p → ∃ ab pa, Trail sg t at_ p ab pa := by
 intro n
 induction n with
 | zero =>
  intro p hn hp _
  obtain rfl : p = at_ := by omega
  exact ⟨[], [], .here⟩
 | succ n ih =>
  intro p hn hp hl
  by_cases he : p = at_
  ·subst he; exact ⟨[], [], .here⟩
  ·obtain ⟨_, i, e, hs⟩ := head_scan h (show p < t.length by omega)
   obtain ⟨k, k1, k2, k3⟩ := find_arg hs (show p + 1 ≤ at_ by omega) (by omega)
   have hlt := (arg_at h (show p < t.length by omega) k1).1
   obtain ⟨ab, pa, hw⟩ := ih _ (by omega) k2 k3
   exact ⟨_, _, .down (by omega) k1 k2 k3 hlt hl hw⟩
theorem root_len {sg t : List Int} (h : termOkB sg t = true) : len1 sg t 0 = t.length := by
 have := (term_parts h).2.2
 exact len1_eq (by simpa using this)
theorem way_root {sg t : List Int} (h : termOkB sg t = true) {at_ : Nat} (hat : at_ < t.length) : ∃ ab pa, Trail sg t at_ 0 ab pa :=
 way_ex h hat at_ 0 (by omega) (by omega) (by rw [root_len h]; omega)
theorem Trail.here_eq {sg t : List Int} {at_ : Nat} {ab pa : List Int} (h : Trail sg t at_ at_ ab pa) : ab = [] ∧ pa = [] := by
 cases h with
 | here => exact ⟨rfl, rfl⟩
 | down h1 => omega
theorem Trail.len {sg t : List Int} {at_ p : Nat} {ab pa : List Int} (h : Trail sg t at_ p ab pa) : ab.length = pa.length := by
 induction h with
 | here => rfl
 | down _ _ _ _ _ _ _ ih => simp [ih]
theorem Trail.le {sg t : List Int} {at_ p : Nat} {ab pa : List Int} (h : Trail sg t at_ p ab pa) : p ≤ at_ ∧ pa.length ≤ at_ - p := by
 induction h with
 | here => simp
 | down h1 _ _ _ h5 _ _ ih => simp only [List.length_cons]; omega
def upTo (sg t : List Int) (at_ : Nat) : Nat → Nat → List Int
 | _, 0 => []
 | p, n + 1 => (if at_ < p + len1 sg t p then [(p : Int)] else []) ++ upTo sg t at_ (p + 1) n
theorem upTo_add {sg t : List Int} {at_ : Nat} : ∀ n p m, upTo sg t at_ p (n + m) = upTo sg t at_ p n ++ upTo sg t at_ (p + n) m
 | 0, p, m => by simp [upTo]
 | n + 1, p, m => by
  rw [show n + 1 + m = (n + m) + 1 by omega]
  simp only [upTo]
  rw [upTo_add n (p + 1) m, List.append_assoc, show p + 1 + n = p + (n + 1) by omega]
theorem upTo_skip {sg t : List Int} {at_ : Nat} : ∀ n p, (∀ r, p ≤ r → r < p + n → ¬ at_ < r + len1 sg t r) → upTo sg t at_ p n = []
 | 0, _, _ => rfl
 | n + 1, p, h => by
  simp only [upTo]
  rw [if_neg (h p (by omega) (by omega)), upTo_skip n (p + 1) (fun r h1 h2 => h r (by omega) (by omega))]
  rfl
def aboveL (sg t : List Int) (at_ : Nat) : List Int := upTo sg t at_ 0 at_
theorem Trail.above {sg t : List Int} (hok : termOkB sg t = true) {at_ p : Nat} (hat : at_ < t.length) {ab pa : List Int} (h : Trail sg t at_ p ab pa) : upTo sg t at_ p (at_ - p) = ab := by
 induction h with
 | here => simp [upTo]
 | @down p k ab pa h1 h2 h3 h4 h5 h6 hw ih =>
  obtain ⟨_, i, e, hs⟩ := head_scan hok (show p < t.length by omega)
  obtain ⟨s1, s2, s3⟩ := argP_scan hs (Nat.le_of_lt h2)
  rw [show at_ - p = (argP sg t k (p + 1) - (p + 1)) + (at_ - argP sg t k (p + 1)) + 1 by omega]
  simp only [upTo]
  rw [if_pos h6, upTo_add, upTo_skip (argP sg t k (p + 1) - (p + 1)), show p + 1 + (argP sg t k (p + 1) - (p + 1)) = argP sg t k (p + 1) by omega, ih]
  ·rfl
  ·intro r r1 r2 r3
   have := (nest s1 r1 (by omega)).1
   omega
theorem Trail.aboveL {sg t : List Int} (hok : termOkB sg t = true) {at_ : Nat} (hat : at_ < t.length) {ab pa : List Int} (h : Trail sg t at_ 0 ab pa) : aboveL sg t at_ = ab := h.above hok hat
def walkI (sg t : List Int) : Nat → List Int → Int
 | p, [] => (p : Int)
 | p, s :: r => if 0 ≤ s ∧ s < ar sg (t.getD p 0) then walkI sg t (argP sg t s.toNat (p + 1)) r else -1
theorem walk_step {sg t : List Int} {p k : Nat} {r : List Int} (h : k < arN sg t p) : walkI sg t p ((k : Int) :: r) = walkI sg t (argP sg t k (p + 1)) r := by
 unfold arN at h
 simp only [walkI]
 rw [if_pos (by omega), Int.toNat_natCast]
theorem walk_no {sg t : List Int} {p : Nat} {s : Int} {r : List Int} (h : ¬ (0 ≤ s ∧ s < ar sg (t.getD p 0))) : walkI sg t p (s :: r) = -1 := by
 simp only [walkI]
 rw [if_neg h]
theorem Trail.walk {sg t : List Int} {at_ p : Nat} {ab pa : List Int} (h : Trail sg t at_ p ab pa) : walkI sg t p pa = (at_ : Int) := by
 induction h with
 | here => rfl
 | down _ h2 _ _ _ _ _ ih => rw [walk_step h2, ih]
theorem Trail.prefix_ {sg t : List Int} {at_ p : Nat} {ab pa : List Int} (h : Trail sg t at_ p ab pa) : ∀ i, i < ab.length → ∃ r : Nat, ab.getD i 0 = (r : Int) ∧ walkI sg t p (pa.take i) = (r : Int) ∧ r < at_ ∧ at_ < r + len1 sg t r := by
 induction h with
 | here => intro i hi; simp at hi
 | @down p k ab pa h1 h2 h3 h4 h5 h6 hw ih =>
  intro i hi
  cases i with
  | zero => exact ⟨p, rfl, rfl, h1, h6⟩
  | succ i =>
   obtain ⟨r, e1, e2, e3, e4⟩ := ih i (by simpa using hi)
   exact ⟨r, by rw [List.getD_cons_succ, e1], by rw [List.take_succ_cons, walk_step h2, e2], e3, e4⟩
def pl (sg t : List Int) (at_ : Nat) : Nat := (aboveL sg t at_).length
def deepN (sg t : List Int) : Nat → Nat
 | 0 => 0
 | k + 1 => if pl sg t (deepN sg t k) < pl sg t k then k else deepN sg t k
theorem deep_le {sg t : List Int} : ∀ k, deepN sg t k ≤ k - 1
 | 0 => by simp [deepN]
 | k + 1 => by
  have := deep_le (sg := sg) (t := t) k
  simp only [deepN]
  split <;> omega
theorem deep_most {sg t : List Int} : ∀ k r, r < k → pl sg t r ≤ pl sg t (deepN sg t k)
 | 0, r, h => by omega
 | k + 1, r, h => by
  have ih := deep_most (sg := sg) (t := t) k r
  simp only [deepN]
  by_cases e : r = k
  ·subst e; split <;> omega
  ·have := ih (by omega)
   split <;> omega
theorem over_ge {sg t : List Int} {g : Nat → Int} : ∀ {q k p : Nat}, k < q → g (argP sg t k p) ≤ maxOver sg t g q p := by
 intro q
 induction q with
 | zero => intro k p h; omega
 | succ q ih =>
  intro k p h
  cases k with
  | zero => simp only [maxOver, argP]; omega
  | succ k =>
   have := ih (k := k) (p := p + len1 sg t p) (by omega)
   simp only [maxOver, argP]
   omega
theorem over_nonneg {sg t : List Int} {g : Nat → Int} : ∀ (q p : Nat), 0 ≤ maxOver sg t g q p
 | 0, _ => by simp [maxOver]
 | q + 1, p => by
  have := over_nonneg (sg := sg) (t := t) (g := g) q (p + len1 sg t p)
  simp only [maxOver]
  omega
theorem over_max {sg t : List Int} {g : Nat → Int} : ∀ (q p : Nat), maxOver sg t g q p = 0 ∨ ∃ k, k < q ∧ g (argP sg t k p) = maxOver sg t g q p
 | 0, _ => .inl rfl
 | q + 1, p => by
  simp only [maxOver]
  rcases Int.le_total (g p) (maxOver sg t g q (p + len1 sg t p)) with h | h
  ·rw [Int.max_eq_right h]
   rcases over_max (sg := sg) (t := t) (g := g) q (p + len1 sg t p) with e | ⟨k, k1, k2⟩
   ·exact .inl e
   ·exact .inr ⟨k + 1, by omega, k2⟩
  ·rw [Int.max_eq_left h]
   exact .inr ⟨0, by omega, rfl⟩
theorem Trail.depth {sg t : List Int} {at_ p : Nat} {ab pa : List Int} (h : Trail sg t at_ p ab pa) : ∀ f, pa.length < f → (pa.length : Int) + 1 ≤ dep sg t f p := by
 induction h with
 | here =>
  intro f hf
  obtain ⟨f, rfl⟩ : ∃ f', f = f' + 1 := ⟨f - 1, by simp at hf; omega⟩
  have := over_nonneg (sg := sg) (t := t) (g := dep sg t f) (ar sg (t.getD at_ 0)).toNat (at_ + 1)
  simp only [dep, List.length_nil]
  omega
 | @down p k ab pa h1 h2 h3 h4 h5 h6 hw ih =>
  intro f hf
  simp only [List.length_cons] at hf ⊢
  obtain ⟨f, rfl⟩ : ∃ f', f = f' + 1 := ⟨f - 1, by omega⟩
  have e := ih f (by omega)
  have e2 := over_ge (sg := sg) (t := t) (g := dep sg t f) (p := p + 1) h2
  unfold arN at e2
  simp only [dep]
  omega
theorem depth_way {sg t : List Int} (hok : termOkB sg t = true) : ∀ f p, p < t.length → ∃ at_ ab pa, p ≤ at_ ∧ at_ < p + len1 sg t p ∧ Trail sg t at_ p ab pa ∧ (pa.length : Int) + 1 = dep sg t (f + 1) p := by
 intro f
 induction f with
 | zero =>
  intro p hp
  refine ⟨p, [], [], Nat.le_refl _, by have := (term_at hok hp).2.1; omega, .here, ?_⟩
  have : dep sg t (0 + 1) p = 1 := by
   have e : dep sg t (0 + 1) p = maxOver sg t (dep sg t 0) (ar sg (t.getD p 0)).toNat (p + 1) + 1 := rfl
   have h1 := (dep_bd (sg := sg) (t := t) (0 + 1) p).2
   have h0 := over_nonneg (sg := sg) (t := t) (g := dep sg t 0) (ar sg (t.getD p 0)).toNat (p + 1)
   rw [e] at h1 ⊢
   omega
  rw [this]; rfl
 | succ f ih =>
  intro p hp
  have hl := (term_at hok hp).2
  rcases over_max (sg := sg) (t := t) (g := dep sg t (f + 1)) (arN sg t p) (p + 1) with e | ⟨k, k1, k2⟩
  ·refine ⟨p, [], [], Nat.le_refl _, by omega, .here, ?_⟩
   rw [show dep sg t (f + 1 + 1) p = maxOver sg t (dep sg t (f + 1)) (arN sg t p) (p + 1) + 1 from rfl, e]
   rfl
  ·obtain ⟨a1, a2, a3⟩ := arg_at hok hp k1
   obtain ⟨at_, ab, pa, b1, b2, b3, b4⟩ := ih _ a3
   refine ⟨at_, _, _, by omega, by omega, .down (by omega) k1 b1 b2 a1 (by omega) b3, ?_⟩
   rw [show dep sg t (f + 1 + 1) p = maxOver sg t (dep sg t (f + 1)) (arN sg t p) (p + 1) + 1 from rfl, ← k2, ← b4]
   simp
theorem deep_depth {sg t : List Int} (hok : termOkB sg t = true) : (pl sg t (deepN sg t t.length) : Int) = depthI sg t - 1 := by
 have h1 := (term_len hok).1
 have hd := deep_le (sg := sg) (t := t) t.length
 have hD : depthI sg t = dep sg t t.length 0 := by unfold depthI; rw [if_pos hok]
 rw [hD]
 obtain ⟨ab, pa, hw⟩ := way_root hok (show deepN sg t t.length < t.length by omega)
 have e1 := hw.depth t.length (by have := hw.le; omega)
 have e2 : pl sg t (deepN sg t t.length) = pa.length := by unfold pl; rw [hw.aboveL hok (by omega), hw.len]
 obtain ⟨f, hf⟩ : ∃ f, t.length = f + 1 := ⟨t.length - 1, by omega⟩
 obtain ⟨at_, ab', pa', b1, b2, b3, b4⟩ := depth_way hok f 0 (by omega)
 have hat : at_ < t.length := by rw [root_len hok] at b2; omega
 have e3 : pl sg t at_ = pa'.length := by unfold pl; rw [b3.aboveL hok hat, b3.len]
 have e4 := deep_most (sg := sg) (t := t) t.length at_ hat
 rw [← hf] at b4
 omega
end posMath
end
section
open Go.Lib (hid)
namespace pathSpec
open Go.RowKit base ints sig term arity endOf cursor termOk endAt inside marks app appAt sym args posMath
set_option maxRecDepth 100000
theorem own_lt {w : World} {base : Nat} {A : Option Addr} {n c : Nat} {xs : List Int} (h : Own w base (.slice A n c) xs) : ∀ k, blk A = some k → base ≤ k ∧ k < w.heap.size := fun k hk => World.ownsRow.lt h k (by rw [blk_own]; exact hk)
def aboveI (sg t : List Int) (x : Int) : List Int := if thereB sg t x = true then aboveL sg t x.toNat else []
theorem above_no {sg t : List Int} {x : Int} (h : thereB sg t x = false) : aboveI sg t x = [] := by unfold aboveI; rw [if_neg (by rw [h]; simp)]
def PathIs (sg t : List Int) (x : Int) (pa : List Int) : Prop := (thereB sg t x = true ∧ ∃ ab, Trail sg t x.toNat 0 ab pa) ∨ (thereB sg t x = false ∧ pa = [])
theorem path_ex (sg t : List Int) (x : Int) : ∃ pa, PathIs sg t x pa := by
 cases h : thereB sg t x with
 | false => exact ⟨[], .inr ⟨h, rfl⟩⟩
 | true =>
  obtain ⟨hok, h0, h1⟩ := there_parts h
  obtain ⟨ab, pa, hw⟩ := way_root hok (show x.toNat < t.length by omega)
  exact ⟨pa, .inl ⟨h, ab, hw⟩⟩
theorem PathIs.len {sg t : List Int} {x : Int} {pa : List Int} (h : PathIs sg t x pa) : pa.length ≤ 60 := by
 rcases h with ⟨e, ab, hw⟩ | ⟨e, rfl⟩
 ·obtain ⟨hok, h0, h1⟩ := there_parts e
  have := hw.le
  have := (termOk_parts hok).2.1
  omega
 ·simp
theorem ins_nat {sg t : List Int} (hok : termOkB sg t = true) {k a : Nat} (hk : k < t.length) : insI sg t (k : Int) (a : Int) = decide (k ≤ a ∧ a < k + len1 sg t k) := by
 unfold insI
 rw [Int.toNat_natCast, end_at hok hk]
 exact decide_eq_decide.2 ⟨fun h => ⟨by omega, by omega⟩, fun h => ⟨by omega, by omega⟩⟩
theorem list_of {w w' : World} {xs ys : List Int} {A : Option Addr} {n c base : Nat} (e : ys = xs) (ho : Own w' base (.slice A n c) xs) (hB : w.heap.size ≤ base) (hb : Below w.heap.size w w') : AnsList w ys (.returned (.slice A n c)) w' :=
 ⟨A, n, c, rfl, by rw [e]; exact Own.lower ho hB, hb⟩
theorem there_dec {sg t : List Int} {x : Int} {m : Nat} (hm : t.length = m) (hok : termOkB sg t = true) : thereB sg t x = decide (0 ≤ x ∧ x < (m : Int)) := by
 unfold thereB inB
 rw [hok, hm]
 rfl
theorem app1At {w : World} {ops : Array Oper} {rest : List Oper} {o : Oper} {a : Act} {Q : Exit → Act → World → Prop} (hgd : o.guard = none) (s x : Operand)
  (ho : o.op = .call { callee := .builtin .append, args := #[s, x], argTypes := #[24, 24] })
  (base : Nat) (A : Option Addr) (n c : Nat) (xs : List Int) (hs : a.eval s = .slice A n c) (hown : Own w base (.slice A n c) xs)
  (g c2 : Nat) (y : Int) (hx : a.eval x = .slice (some ⟨g, 0, none⟩) 1 c2) (hy : w.cell? ⟨g, 0, none⟩ = some (.int .i64 y)) (hn : n ≤ 2097152) (hbase : base ≤ w.heap.size)
  (h : ∀ A' c' w', Own w' base (.slice A' (n + 1) c') (xs ++ [y]) → w.grownBy w' (blk A) → (blk A' = blk A ∨ blk A' = some w.heap.size) → wpList Try.prog ops Q rest (a.put o.dst (.slice A' (n + 1) c')) w') : wpList Try.prog ops Q (o :: rest) a w :=
 appAllAt hgd s x ho base A n c xs hs hown (some ⟨g, 0, none⟩) 1 c2 (g + 1) [y] hx ⟨rfl, fun _ => ⟨g, 0, rfl, Nat.lt_succ_self _, fun j hj => by
  obtain rfl : j = 0 := by omega
  exact hy⟩⟩ (Nat.le_refl _) hn (by omega) hbase h
theorem Trail.split {sg t : List Int} {a q : Nat} {ab pa : List Int} (h : Trail sg t a q ab pa) (hne : q ≠ a) : ∃ (k : Nat) (ab' pa' : List Int), ab = (q : Int) :: ab' ∧ pa = (k : Int) :: pa' ∧ q < a ∧ k < arN sg t q ∧ argP sg t k (q + 1) ≤ a ∧ a < argP sg t k (q + 1) + len1 sg t (argP sg t k (q + 1)) ∧ q < argP sg t k (q + 1) ∧ Trail sg t a (argP sg t k (q + 1)) ab' pa' := by
 cases h with
 | here => exact absurd rfl hne
 | @down _ k ab' pa' h1 h2 h3 h4 h5 h6 hw => exact ⟨k, ab', pa', rfl, rfl, h1, h2, h3, h4, h5, hw⟩
theorem argsL_get {sg t : List Int} {q k : Nat} (h : k < arN sg t q) : (argsL sg t q).getD k 0 = (argP sg t k (q + 1) : Int) := places_get h
theorem argsL_arN {sg t : List Int} {q : Nat} : (argsL sg t q).length = arN sg t q := places_len _ _
theorem own_cell {w : World} {base : Nat} {A : Option Addr} {n c : Nat} {xs : List Int} (h : Own w base (.slice A n c) xs) {k : Nat} (hk : k < n) : ∃ g off, A = some ⟨g, off, none⟩ ∧ base ≤ g ∧ w.cell? ⟨g, off + k, none⟩ = some (.int .i64 (xs.getD k 0)) := by
 obtain ⟨b, off, e, _, hc⟩ := (Own.seg h).round hk
 subst e
 exact ⟨b, off, rfl, (own_lt h b rfl).1, hc⟩
theorem cell_kept {w w' : World} {r : Option Nat} {p : Addr} {v : Value} (hg : w.grownBy w' r) (hr : ∀ k, r = some k → p.block ≠ k) (hp : p.block < w.heap.size) (h : w.cell? p = some v) : w'.cell? p = some v := by
 exact hg.cell h (fun e => hr _ e.symm rfl)
def HeadPa (w : World) (A : Option Addr) (n c : Nat) (sg : List Int) (A' : Option Addr) (m : Nat) (t : List Int) (a : Nat) (pa : List Int) (g : Nat) (out p : Value) (wr : World) : Prop :=
 ∃ (q : Nat) (O : Option Addr) (on oc : Nat) (ys ab' pa' : List Int), p = .int .i64 q ∧ q + g = a ∧ out = .slice O on oc ∧ Own wr (w.heap.size + 1) (.slice O on oc) ys ∧ Trail sg t a q ab' pa' ∧ ys ++ pa' = pa ∧ Fr w wr A n c sg A' m t
def InPa (w : World) (A : Option Addr) (n c : Nat) (sg : List Int) (A' : Option Addr) (m : Nat) (t : List Int) (k0 B : Nat) (O : Option Addr) (on oc : Nat) (ys : List Int) (A2 : Option Addr) (n2 c2 : Nat) (L : List Int) (g : Nat) (k : Value) (wr : World) : Prop :=
 ∃ j : Nat, k = .int .i64 j ∧ j + g = k0 ∧ Own wr (w.heap.size + 1) (.slice O on oc) ys ∧ (∀ b, blk O = some b → b < B) ∧ Own wr B (.slice A2 n2 c2) L ∧ Fr w wr A n c sg A' m t ∧ B ≤ wr.heap.size
set_option maxHeartbeats 4000000 in
theorem l3Path (A A' : Option Addr) (n c m c' : Nat) (sg t : List Int) (a : Nat) (ab pa : List Int) (w : World) (h : Seg w w.heap.size A n sg) (h' : Seg w w.heap.size A' m t) (hn : n ≤ 1048576) (hm : m ≤ 1048576) (hok : termOkB sg t = true) (hat : a < t.length) (hw : Trail sg t a 0 ab pa) :
  Calls Try.prog 78 #[.agg #[.slice A n c], .slice A' m c', .int .i64 (a : Int)] w (AnsList w pa) := by
 obtain ⟨W, hW⟩ : ∃ W, W = (w.alloc (.cells #[.slice A n c] 26)).alloc (.cells #[] 2) := ⟨_, rfl⟩
 have f : Fr w W A n c sg A' m t := by rw [hW]; exact (Fr.start h h').alloc _
 have ow : Own W (w.heap.size + 1) (.slice (some ⟨w.heap.size + 1, 0, none⟩) 0 0) [] := by
  rw [hW]
  have := own_empty (w.alloc (.cells #[.slice A n c] 26)) (w.heap.size + 1) (by simp)
  simpa using this
 have HW := hid hW
 have HL := hid h'.1
 have h60 := (termOk_parts hok).2.1
 have ha60 : a < 60 := by omega
 have HOK := hid hok
 have HAT := hid hat
 have HLP := hid hw.le.2
 have S0 : HeadPa w A n c sg A' m t a pa a (.slice (some ⟨w.heap.size + 1, 0, none⟩) 0 0) (.int .i64 0) W := ⟨0, _, 0, 0, [], ab, pa, rfl, by omega, rfl, ow, hw, rfl, f⟩
 have HS := hid S0
 clear S0 f ow hW h h' hok hat hw h60
 go_enter Try.func78, Try.ntmps78
 go_wp2_with fail
 rw [← HW.out]
 clear HW
 go_loopg [7, 8] a (fun g out p wr => HeadPa w A n c sg A' m t a pa g out p wr)
 case atStart => exact HS.out
 case round =>
  obtain ⟨q, O, on, oc, ys, ab', pa', rfl, hq, rfl, ho, htr, hpa, f⟩ := hrel
  obtain ⟨G, hG⟩ : ∃ G, G = gk := ⟨_, rfl⟩
  subst hG
  clear HS
  have hon : on ≤ 60 := by
   rw [Own.len ho]
   have h1 := HLP.out
   rw [← hpa] at h1
   simp only [List.length_append] at h1
   omega
  have HQ := hid hq
  have HPA := hid hpa
  clear hq hpa
  by_cases hqa : q = a
  ·subst hqa
   have F : AnsList w pa (.returned (.slice O on oc)) wr := list_of (by rw [← HPA.out, htr.here_eq.2, List.append_nil]) ho (Nat.le_succ _) f.b
   have HF := hid F
   clear F ho f htr
   go_wp2
   go_ret
   exact HF.out
  ·obtain ⟨k0, ab2, pa2, -, e2, hqlt, hk0, h3, h4, h5, htr'⟩ := Trail.split htr hqa
   have HE2 := hid e2
   have hok := HOK.out
   have hal := HAT.out
   have hars := (sig_arities (termOk_parts hok).1).1
   obtain ⟨s1, s2, s3⟩ := term_at hok (show q < t.length by omega)
   have hne : ¬ (q : Int) = (a : Int) := by omega
   have cA := f.cell
   obtain ⟨B, hB⟩ : ∃ B, wr.heap.size = B := ⟨_, rfl⟩
   have hL3 : (argsL sg t q).length = arN sg t q := argsL_arN
   have hars3 : arN sg t q ≤ 3 := by have := ar_bd hars (t.getD q 0); unfold arN; omega
   have LA := hid (l1Args A A' n c m c' sg t q (len1 sg t q) wr f.s1 f.t1 hn hm hars (by rw [← HL.out]; omega) s1 (by rw [← HL.out]; exact s3))
   have HX : Hid (∀ j : Nat, j ≤ k0 → thereB sg t (argP sg t j (q + 1) : Int) = true ∧ argP sg t j (q + 1) ≤ a ∧ insI sg t (argP sg t j (q + 1) : Int) (a : Int) = decide (j = k0)) := hid (fun j hj => by
    obtain ⟨b1, b2, b3⟩ := arg_at hok (show q < t.length by omega) (show j < arN sg t q by omega)
    have b4 := argP_mono (sg := sg) (t := t) (p := q + 1) hj
    refine ⟨there_yes hok (by omega) (by omega), by omega, ?_⟩
    rw [ins_nat hok b3]
    by_cases hjk : j = k0
    ·rw [decide_eq_true hjk, decide_eq_true (by subst hjk; exact ⟨h3, h4⟩)]
    ·have b5 := argP_mono (sg := sg) (t := t) (p := q + 1) (show j + 1 ≤ k0 by omega)
     rw [argP_succ] at b5
     rw [decide_eq_false hjk, decide_eq_false (by omega)])
   have HG : Hid (∀ j : Nat, j ≤ k0 → (argsL sg t q).getD j 0 = (argP sg t j (q + 1) : Int)) := hid (fun j hj => argsL_get (by omega))
   obtain ⟨L, hL⟩ : ∃ L, argsL sg t q = L := ⟨_, rfl⟩
   rw [hL] at LA HG hL3
   have HTR := hid htr'
   have H3 := hid h3
   have H5 := hid h5
   obtain ⟨z, hz⟩ : ∃ z, arN sg t q = z := ⟨_, rfl⟩
   rw [hz] at hk0 hL3 hars3
   have HL3 := hid hL3
   clear hok hal hars s1 s2 s3 htr htr' h3 h4 h5 e2 hL hL3 hz
   go_wp2_with fail
   refine LA.out.mono ?_
   rintro e w1 ⟨A2, n2, c2, rfl, o2, bb⟩
   have hbO : ∀ b, blk O = some b → b < B := fun b hb => by rw [← hB]; exact (own_lt ho b hb).2
   have hn2 : n2 = z := by rw [Own.len o2, HL3.out]
   rw [hB] at o2
   have S1 : InPa w A n c sg A' m t k0 B O on oc ys A2 n2 c2 L k0 (.int .i64 0) w1 := ⟨0, rfl, by omega, Own.next ho bb, hbO, o2, f.next bb, by rw [← hB]; exact bb.size⟩
   have HS1 := hid S1
   clear S1 ho bb o2 f cA hbO hB LA
   go_wp2_with fail
   go_loopg [7, 10] k0 (fun g out k wr => out = .slice O on oc ∧ InPa w A n c sg A' m t k0 B O on oc ys A2 n2 c2 L g k wr)
   case atStart => exact ⟨rfl, HS1.out⟩
   case round =>
    obtain ⟨rfl, j, rfl, hj, ho, hbO, o2, f, hBw⟩ := hrel
    clear HS1
    have HJ := hid hj
    have hjn : j < n2 := by omega
    obtain ⟨b2, off, rfl, hb2, hc2⟩ := own_cell o2 hjn
    obtain ⟨i1, i2, i3⟩ := HX.out j (by omega)
    rw [HG.out j (by omega)] at hc2
    have hjz : (j : Int) < (n2 : Int) := by omega
    have cA := f.cell
    obtain ⟨y, hy⟩ : ∃ y, argP sg t j (q + 1) = y := ⟨_, rfl⟩
    rw [hy] at hc2 i1 i2 i3
    obtain ⟨bj, hbj⟩ : ∃ b, decide (j = k0) = b := ⟨_, rfl⟩
    rw [hbj] at i3
    have HBJ := hid hbj
    have HY := hid hy
    have HI3 := hid i3
    have hb2w := (own_lt o2 b2 rfl).2
    have s1 : Seg wr.drew wr.heap.size A n sg := f.s1.drew
    have s1' : Seg wr.drew wr.heap.size A' m t := f.t1.drew
    replace f := f.drew
    replace ho := Own.drew ho
    replace o2 := Own.drew o2
    clear hj hy i3 hbj
    go_wp2_with fail
    go_region_held3 (fun w' => w'.cell? ⟨w.heap.size, 0, none⟩ = some (.slice A n c) ∧ w'.cell? ⟨b2, off + j, none⟩ = some (.int .i64 y))
     (go_keep)
     (first
      | (go_at_call 114; refine (l3Inside A A' n c m c' sg t (y : Int) (a : Int) _ s1 s1' hn hm i1).mono ?_; rintro e w2 ⟨he, bb⟩; replace cA : w2.cell? ⟨w.heap.size, 0, none⟩ = some (.slice A n c) := (f.next bb).cell; replace hc2 : w2.cell? ⟨b2, off + j, none⟩ = some (.int .i64 y) := (bb.cell (p := ⟨b2, off + j, none⟩) hb2w).trans hc2; rw [HI3.out] at he; subst he))
    replace f := f.next bb
    replace ho := Own.next ho bb
    replace o2 := Own.next o2 bb
    have hBw2 : B ≤ w2.heap.size := Nat.le_trans hBw bb.size
    have hb2l : b2 < w2.heap.size := (own_lt o2 b2 rfl).2
    clear bb s1 s1' hBw hb2w
    cases bj with
    | false =>
     have S : InPa w A n c sg A' m t k0 B O on oc ys (some ⟨b2, off, none⟩) n2 c2 L (gk - 1) (.int .i64 ((j : Int) + 1)) w2 := ⟨j + 1, by simp, by have h1 := HJ.out; have h2 := of_decide_eq_false HBJ.out; omega, ho, hbO, o2, f, hBw2⟩
     have HSS := hid S
     have hgk : gk - 1 < gk := by have h1 := HJ.out; have h2 := of_decide_eq_false HBJ.out; omega
     clear S ho o2 f cA hc2 i1 i2
     go_wp2
     go_roundg (gk - 1)
     case measure => exact hgk
     case rel => exact ⟨rfl, HSS.out⟩
    | true =>
     have hjk := hid (show j = k0 from of_decide_eq_true HBJ.out)
     have HC : Hid (∀ (o : Obj) (w3 : World), (w2.alloc o).grownBy w3 (blk O) → w3.cell? ⟨b2, off + j, none⟩ = some (.int .i64 y)) := hid (fun o w3 hg => cell_kept hg (fun k hk => by have := hbO k hk; show b2 ≠ k; omega) (by show b2 < (w2.alloc o).heap.size; simp; omega) ((((Below.refl w2.heap.size w2).alloc (Nat.le_refl _) o).cell (p := ⟨b2, off + j, none⟩) hb2l).trans hc2))
     have z1 : w.heap.size + 1 ≤ w2.heap.size := f.size
     clear o2 i1
     go_wp2_with (at_builtin; refine app1At rfl _ _ rfl (w.heap.size + 1) O on oc ys rfl (Own.alloc ho _) w2.heap.size 1 (j : Int) rfl ((Row.new _ _ _).cell 0) (by omega) (by simp; omega) ?_; intro O' oc' w3 ho3 hg3 hbl3; have hc3 := HC.out _ _ hg3)
     have b3 : Below (w.heap.size + 1) w2 w3 := (((Below.refl (w.heap.size + 1) w2).alloc z1 _).trans ((Below.refl _ _).grown hg3 (by simp; omega) (fun k hk => (own_lt ho k hk).1)))
     have S : HeadPa w A n c sg A' m t a pa (a - y) (.slice O' (on + 1) oc') (.int .i64 (y : Int)) w3 := ⟨y, O', on + 1, oc', ys ++ [(j : Int)], ab2, pa2, rfl, by omega, rfl, ho3, by have h1 := HTR.out; rw [← hjk.out, HY.out] at h1; exact h1, by rw [← HPA.out, HE2.out, hjk.out]; simp, f.over b3⟩
     have HSS := hid S
     have hgk : a - y < G := by have h1 := HQ.out; have h5 := H5.out; rw [← hjk.out, HY.out] at h5; omega
     clear S ho ho3 hg3 hbl3 b3 f cA hc2 HC i2
     go_wp2
     go_roundg (a - y)
     case measure => exact hgk
     case rel => exact HSS.out
set_option maxHeartbeats 1000000 in
theorem specPathOf (A A' : Option Addr) (n c m c' : Nat) (sg t : List Int) (x : Int) (pa : List Int) (w : World) (h : Seg w w.heap.size A n sg) (h' : Seg w w.heap.size A' m t) (hn : n ≤ 1048576) (hm : m ≤ 1048576) (hpa : PathIs sg t x pa) :
  Calls Try.prog 34 #[.agg #[.slice A n c], .slice A' m c', .int .i64 x] w (AnsList w pa) := by
 obtain ⟨W, hW⟩ : ∃ W, W = w.alloc (.cells #[.slice A n c] 26) := ⟨_, rfl⟩
 have f : Fr w W A n c sg A' m t := by rw [hW]; exact Fr.start h h'
 have HW := hid hW
 have L := hid (right A A' n c m c' sg t x W f.s1 f.t1 hn hm)
 clear hW h h'
 rcases hpa with ⟨hx, ab, hw⟩ | ⟨hx, rfl⟩
 ·have HX := hid hx
  have HTR := hid hw
  obtain ⟨hok, i0, i1⟩ := there_parts hx
  obtain ⟨a, rfl⟩ := Int.eq_ofNat_of_zero_le i0
  rw [Int.toNat_natCast] at HTR
  have HOK := hid hok
  have HAL := hid (show a < t.length by omega)
  clear hx hw hok i0 i1
  go_enter Try.func34, Try.ntmps34
  go_wp2_with fail
  rw [← HW.out]
  refine L.out.mono ?_
  rintro e w1 ⟨he, bb⟩
  rw [HX.out] at he
  subst he
  replace f := f.next bb
  have cA := f.cell
  clear bb L
  go_wp2_with fail
  refine (l3Path A A' n c m c' sg t a ab pa _ f.s1 f.t1 hn hm HOK.out HAL.out HTR.out).mono ?_
  rintro e w2 ⟨A2, n2, c2, rfl, o2, bb⟩
  have F := hid (list_of (w := w) rfl o2 (Nat.le_of_lt f.size) (f.next bb).b)
  clear f bb o2 cA
  go_wp2
  go_ret
  exact F.out
 ·have HX := hid hx
  clear hx
  go_enter Try.func34, Try.ntmps34
  go_wp2_with fail
  rw [← HW.out]
  refine L.out.mono ?_
  rintro e w1 ⟨he, bb⟩
  rw [HX.out] at he
  subst he
  replace f := f.next bb
  have F := hid (list_of (w := w) (xs := []) rfl (own_empty w1 w1.heap.size (Nat.le_refl _)) (Nat.le_of_lt f.size) (f.alloc _).b)
  clear f bb L
  go_wp2
  go_ret
  exact F.out
end pathSpec
end
section
open Go.Lib (hid)
namespace wayTo
open Go.RowKit base ints sig term arity endOf cursor termOk endAt inside marks app appAt sym args posMath pathSpec
set_option maxRecDepth 100000
structure Wy (w wr : World) (P : Nat) (A : Option Addr) (n c : Nat) (A' : Option Addr) (m c' : Nat) (sg t : List Int) (k : Nat) (O1 : Option Addr) (n1 c1 : Nat) (ys1 : List Int) (O2 : Option Addr) (n2 c2 : Nat) (ys2 : List Int) : Prop where
 cu : Cur wr P A n c A' m c' sg t k
 b : Below w.heap.size w wr
 hP : w.heap.size ≤ P
 o1 : Own wr (P + 1) (.slice O1 n1 c1) ys1
 o2 : Own wr (P + 1) (.slice O2 n2 c2) ys2
 dj : blk O1 = none ∨ blk O1 ≠ blk O2
section
variable {w wr w' : World} {P : Nat} {A : Option Addr} {n c : Nat} {A' : Option Addr} {m c' : Nat} {sg t : List Int} {k k' : Nat} {O1 : Option Addr} {n1 c1 : Nat} {ys1 : List Int} {O2 : Option Addr} {n2 c2 : Nat} {ys2 : List Int}
theorem Wy.lt (y : Wy w wr P A n c A' m c' sg t k O1 n1 c1 ys1 O2 n2 c2 ys2) : P < wr.heap.size := y.cu.row.lt
theorem Wy.move (y : Wy w wr P A n c A' m c' sg t k O1 n1 c1 ys1 O2 n2 c2 ys2) (hg : wr.grownBy w' (some P)) (cu : Cur w' P A n c A' m c' sg t k') : Wy w w' P A n c A' m c' sg t k' O1 n1 c1 ys1 O2 n2 c2 ys2 :=
 ⟨cu, y.b.grown hg (Nat.le_trans y.hP (Nat.le_of_lt y.lt)) (fun j hj => by injection hj with hj; rw [← hj]; exact y.hP), y.hP, Own.far y.o1 hg (fun j hj => by injection hj; omega), Own.far y.o2 hg (fun j hj => by injection hj; omega), y.dj⟩
theorem Wy.over (y : Wy w wr P A n c A' m c' sg t k O1 n1 c1 ys1 O2 n2 c2 ys2) {o : Obj} {r : Option Nat} (hg : (wr.alloc o).grownBy w' r) (hr : ∀ j, r = some j → P + 1 ≤ j) : Below (P + 1) wr w' :=
 ((Below.refl (P + 1) wr).alloc y.lt _).grown hg (by have := y.lt; simp; omega) hr
theorem Wy.app1 (y : Wy w wr P A n c A' m c' sg t k O1 n1 c1 ys1 O2 n2 c2 ys2) {o : Obj} {O1' : Option Addr} {n1' c1' : Nat} {zs : List Int} (ho : Own w' (P + 1) (.slice O1' n1' c1') zs) (hg : (wr.alloc o).grownBy w' (blk O1)) (hb : blk O1' = blk O1 ∨ blk O1' = some (wr.alloc o).heap.size) :
  Wy w w' P A n c A' m c' sg t k O1' n1' c1' zs O2 n2 c2 ys2 := by
 have hov := y.over hg (fun j hj => (own_lt y.o1 j hj).1)
 refine ⟨Cur.keep y.cu hov, y.b.trans (hov.mono (Nat.le_succ_of_le y.hP)), y.hP, ho, Own.kept (Own.alloc y.o2 _) hg ?_, ?_⟩
 ·cases h2 : blk O2 with
  | none => exact .inl rfl
  | some z =>
   refine .inr (fun e => ?_)
   rcases y.dj with h | h
   ·rw [h] at e; cases e
   ·exact h (by rw [← e, h2])
 ·rcases hb with e | e
  ·rw [e]; exact y.dj
  ·refine .inr (fun h => ?_)
   rw [e] at h
   have := (own_lt y.o2 _ h.symm).2
   simp at this
   omega
theorem Wy.app2 (y : Wy w wr P A n c A' m c' sg t k O1 n1 c1 ys1 O2 n2 c2 ys2) {o : Obj} {O2' : Option Addr} {n2' c2' : Nat} {zs : List Int} (ho : Own w' (P + 1) (.slice O2' n2' c2') zs) (hg : (wr.alloc o).grownBy w' (blk O2)) (hb : blk O2' = blk O2 ∨ blk O2' = some (wr.alloc o).heap.size) :
  Wy w w' P A n c A' m c' sg t k O1 n1 c1 ys1 O2' n2' c2' zs := by
 have hov := y.over hg (fun j hj => (own_lt y.o2 j hj).1)
 refine ⟨Cur.keep y.cu hov, y.b.trans (hov.mono (Nat.le_succ_of_le y.hP)), y.hP, Own.kept (Own.alloc y.o1 _) hg y.dj, ho, ?_⟩
 rcases hb with e | e
 ·rw [e]; exact y.dj
 ·refine .inr (fun h => ?_)
  rw [e] at h
  have := (own_lt y.o1 _ h).2
  simp at this
  omega
theorem Cur.setAt {p : Nat} (h : Cur w p A n c A' m c' sg t k) (hk : k' ≤ m) : Cur (w.setCell ⟨p, 2, none⟩ (.int .i64 (k' : Int))) p A n c A' m c' sg t k' :=
 ⟨h.row.put 2 _, h.s.put (Nat.le_refl _) _, h.s'.put (Nat.le_refl _) _, hk, h.hn, h.hm, h.ars⟩
theorem Wy.set (y : Wy w wr P A n c A' m c' sg t k O1 n1 c1 ys1 O2 n2 c2 ys2) (hk : k' ≤ m) : Wy w (wr.setCell ⟨P, 2, none⟩ (.int .i64 (k' : Int))) P A n c A' m c' sg t k' O1 n1 c1 ys1 O2 n2 c2 ys2 :=
 y.move (grown_put (World.grownBy.refl _ _) _ _) (Cur.setAt y.cu hk)
end
def AnsTwo (w : World) (ab pa : List Int) (e : Ending) (w' : World) : Prop :=
 ∃ (O1 : Option Addr) (n1 c1 : Nat) (O2 : Option Addr) (n2 c2 : Nat), e = .returned (.tuple #[.slice O1 n1 c1, .slice O2 n2 c2]) ∧ Own w' w.heap.size (.slice O1 n1 c1) ab ∧ Own w' w.heap.size (.slice O2 n2 c2) pa ∧ Below w.heap.size w w'
def TrailIs (sg t : List Int) (x : Int) (ab pa : List Int) : Prop := (thereB sg t x = true ∧ Trail sg t x.toNat 0 ab pa) ∨ (thereB sg t x = false ∧ ab = [] ∧ pa = [])
theorem PathIs.trail {sg t : List Int} {x : Int} {pa : List Int} (h : PathIs sg t x pa) : ∃ ab, TrailIs sg t x ab pa := by
 rcases h with ⟨e, ab, hw⟩ | ⟨e, rfl⟩
 ·exact ⟨ab, .inl ⟨e, hw⟩⟩
 ·exact ⟨[], .inr ⟨e, rfl, rfl⟩⟩
theorem TrailIs.above {sg t : List Int} {x : Int} {ab pa : List Int} (h : TrailIs sg t x ab pa) : ab = aboveI sg t x := by
 rcases h with ⟨e, hw⟩ | ⟨e, rfl, rfl⟩
 ·obtain ⟨hok, h0, h1⟩ := there_parts e
  unfold aboveI
  rw [if_pos e, hw.aboveL hok (by omega)]
 ·rw [above_no e]
theorem TrailIs.path {sg t : List Int} {x : Int} {ab pa : List Int} (h : TrailIs sg t x ab pa) : PathIs sg t x pa := by
 rcases h with ⟨e, hw⟩ | ⟨e, rfl, rfl⟩
 ·exact .inl ⟨e, ab, hw⟩
 ·exact .inr ⟨e, rfl⟩
def HeadWy (w : World) (P : Nat) (A : Option Addr) (n c : Nat) (A' : Option Addr) (m c' : Nat) (sg t : List Int) (a : Nat) (ab pa : List Int) (g : Nat) (s6 s7 : Value) (wr : World) : Prop :=
 ∃ (q : Nat) (O1 : Option Addr) (n1 c1 : Nat) (ys1 : List Int) (O2 : Option Addr) (n2 c2 : Nat) (ys2 ab' pa' : List Int), q + g = a ∧ s6 = .slice O1 n1 c1 ∧ s7 = .slice O2 n2 c2 ∧ Wy w wr P A n c A' m c' sg t q O1 n1 c1 ys1 O2 n2 c2 ys2 ∧ Trail sg t a q ab' pa' ∧ ys1 ++ ab' = ab ∧ ys2 ++ pa' = pa
set_option maxHeartbeats 4000000 in
theorem wayTo (A A' : Option Addr) (n c m c' : Nat) (sg t : List Int) (x : Int) (ab pa : List Int) (w : World) (h : Seg w w.heap.size A n sg) (h' : Seg w w.heap.size A' m t) (hn : n ≤ 1048576) (hm : m ≤ 1048576) (hw : TrailIs sg t x ab pa) :
  Calls Try.prog 76 #[.agg #[.slice A n c], .slice A' m c', .int .i64 x] w (AnsTwo w ab pa) := by
 obtain ⟨W, hW⟩ : ∃ W, W = w.alloc (.cells #[.slice A n c] 26) := ⟨_, rfl⟩
 have f : Fr w W A n c sg A' m t := by rw [hW]; exact Fr.start h h'
 have HW := hid hW
 have HL := hid h'.1
 have L := hid (placeIn A A' n c m c' sg t x W f.s1 f.t1 hn hm)
 clear hW h h'
 rcases hw with ⟨hx, hw⟩ | ⟨hx, rfl, rfl⟩
 ·obtain ⟨hok, i0, i1⟩ := there_parts hx
  obtain ⟨a, rfl⟩ := Int.eq_ofNat_of_zero_le i0
  rw [Int.toNat_natCast] at hw
  have hal : a < t.length := by omega
  have h60 := (termOk_parts hok).2.1
  have ha60 : a < 60 := by omega
  have hars := (sig_arities (termOk_parts hok).1).1
  have HX := hid hx
  have HOK := hid hok
  have HAL := hid hal
  have HLP := hid hw.le.2
  have HLA := hid hw.len
  have HTR := hid hw
  clear hx hok hal h60 i0 i1 hw
  go_enter Try.func76, Try.ntmps76
  go_wp2_with fail
  go_step3
  go_wp2_with fail
  rw [← HW.out]
  refine L.out.mono ?_
  rintro e w1 ⟨he, bb⟩
  rw [HX.out] at he
  subst he
  replace f := f.next bb
  have cA := f.cell
  clear bb L
  have y0 : Wy w (w1.alloc (.cells #[.slice A n c, .slice A' m c', .int .i64 (0 : Nat)] 84)) w1.heap.size A n c A' m c' sg t 0 none 0 0 [] none 0 0 [] :=
   ⟨cur_new f.s1 f.t1 hn hm hars 0 (Nat.zero_le _), (f.alloc _).b, Nat.le_of_lt f.size, Own.nil _ _, Own.nil _ _, .inl rfl⟩
  have S0 : HeadWy w w1.heap.size A n c A' m c' sg t a ab pa a (.slice none 0 0) (.slice none 0 0) (w1.alloc (.cells #[.slice A n c, .slice A' m c', .int .i64 0] 84)) := ⟨0, none, 0, 0, [], none, 0, 0, [], ab, pa, by omega, rfl, rfl, y0, HTR.out, rfl, rfl⟩
  have HS := hid S0
  clear S0 y0 f
  go_wp2
  go_step3
  go_wp2
  clear cA
  generalize w1.heap.size = P at *
  go_loopg [6, 7] a (fun g s6 s7 wr => HeadWy w P A n c A' m c' sg t a ab pa g s6 s7 wr)
  case atStart => exact HS.out
  case round =>
   obtain ⟨q, O1, n1, c1, ys1, O2, n2, c2, ys2, ab', pa', hq, rfl, rfl, y, htr, hab, hpa⟩ := hrel
   obtain ⟨G, hG⟩ : ∃ G, G = gk := ⟨_, rfl⟩
   subst hG
   clear HS
   have hn1 : n1 ≤ 60 := by
    rw [Own.len y.o1]
    have h1 := HLP.out
    have h2 := HLA.out
    rw [← hab] at h2
    simp only [List.length_append] at h2
    omega
   have hn2 : n2 ≤ 60 := by
    rw [Own.len y.o2]
    have h1 := HLP.out
    rw [← hpa] at h1
    simp only [List.length_append] at h1
    omega
   have HQ := hid hq
   have HPA := hid hpa
   have HAB := hid hab
   have cp : wr.cell? ⟨P, 2, none⟩ = some (.int .i64 (q : Int)) := y.cu.row.cell 2
   have hPw := y.lt
   clear hq hpa hab
   by_cases hqa : q = a
   ·subst hqa
    obtain ⟨rfl, rfl⟩ := htr.here_eq
    have F : AnsTwo w ab pa (.returned (.tuple #[.slice O1 n1 c1, .slice O2 n2 c2])) wr := ⟨O1, n1, c1, O2, n2, c2, rfl, by rw [← HAB.out, List.append_nil]; exact Own.lower y.o1 (Nat.le_succ_of_le y.hP), by rw [← HPA.out, List.append_nil]; exact Own.lower y.o2 (Nat.le_succ_of_le y.hP), y.b⟩
    have HF := hid F
    clear F y htr
    go_wp2
    try rw [Exit.noGoto_ret]
    go_ret2
    exact HF.out
   ·obtain ⟨k0, ab2, pa2, e1, e2, hqlt, hk0, h3, h4, h5, htr'⟩ := Trail.split htr hqa
    have HE1 := hid e1
    have HE2 := hid e2
    have hok := HOK.out
    have hal := HAL.out
    have hneg := (head_scan hok (show q < t.length by omega)).1
    have hzb := ar_bd hars (t.getD q 0)
    have HX2 : Hid (∀ j : Nat, j ≤ k0 → scan sg 1 (t.drop (argP sg t j (q + 1))) = some (len1 sg t (argP sg t j (q + 1))) ∧ decide (a < argP sg t (j + 1) (q + 1)) = decide (j = k0) ∧ argP sg t (j + 1) (q + 1) = argP sg t j (q + 1) + len1 sg t (argP sg t j (q + 1)) ∧ argP sg t j (q + 1) ≤ a) := hid (fun j hj => by
     obtain ⟨b1, b2, b3⟩ := arg_at hok (show q < t.length by omega) (show j < arN sg t q by omega)
     refine ⟨(term_at hok b3).1, ?_, argP_succ _ _, by have := argP_mono (sg := sg) (t := t) (p := q + 1) hj; omega⟩
     by_cases hjk : j = k0
     ·rw [decide_eq_true hjk, decide_eq_true (by subst hjk; rw [argP_succ]; exact h4)]
     ·have b5 := argP_mono (sg := sg) (t := t) (p := q + 1) (show j + 1 ≤ k0 by omega)
      rw [decide_eq_false hjk, decide_eq_false (by omega)])
    obtain ⟨z, hz⟩ : ∃ z, ar sg (t.getD q 0) = z := ⟨_, rfl⟩
    have hk0z : (k0 : Int) < z := by unfold arN at hk0; omega
    have HZ := hid hz
    have HTR := hid htr'
    have H3 := hid h3
    have H5 := hid h5
    have HA0 : Hid (argP sg t 0 (q + 1) = q + 1) := hid rfl
    rw [hz] at hzb hneg
    clear hok hal htr htr' h3 h4 h5 e1 e2 hz hk0
    go_wp2_with (at_builtin; refine app1At rfl _ _ rfl (P + 1) O1 n1 c1 ys1 rfl (Own.alloc y.o1 _) wr.heap.size 1 (q : Int) rfl ((Row.new _ _ _).cell 0) (by omega) (by simp; omega) ?_; intro O1' c1' w3 ho3 hg3 hb3)
    have y3 := y.app1 ho3 hg3 hb3
    clear y ho3 hg3 hb3 cp hPw
    refine (next P A n c A' m c' sg t q _ y3.cu).mono ?_
    rintro e w4 ⟨hg4, ⟨-, he, hc4⟩ | ⟨hk', -, -⟩⟩
    case inr => have := HAL.out; have := HL.out; omega
    rw [HZ.out] at he
    subst he
    have y4 := y3.move hg4 hc4
    clear y3 hg4 hc4
    have HS1 := hid y4
    clear y4
    go_wp2_with fail
    go_loopg [7, 29] k0 (fun g s7 s29 wr => s7 = .slice O2 n2 c2 ∧ ∃ j : Nat, s29 = .int .i64 j ∧ j + g = k0 ∧ Wy w wr P A n c A' m c' sg t (argP sg t j (q + 1)) O1' (n1 + 1) c1' (ys1 ++ [(q : Int)]) O2 n2 c2 ys2)
    case atStart => exact ⟨rfl, 0, rfl, by omega, by rw [HA0.out]; exact HS1.out⟩
    case round =>
     obtain ⟨rfl, j, rfl, hj, y⟩ := hrel
     clear HS1
     have HJ := hid hj
     have hjz : (j : Int) < z := by omega
     obtain ⟨i1, i2, i3, i4⟩ := HX2.out j (by omega)
     obtain ⟨r, hr⟩ : ∃ r, argP sg t j (q + 1) = r := ⟨_, rfl⟩
     rw [hr] at i1 i3 i4 y
     have HR := hid hr
     have I1 := hid i1
     have I3 := hid i3
     obtain ⟨bj, hbj⟩ : ∃ b, decide (j = k0) = b := ⟨_, rfl⟩
     rw [hbj] at i2
     have HBJ := hid hbj
     have I2 := hid i2
     have cp : wr.cell? ⟨P, 2, none⟩ = some (.int .i64 (r : Int)) := y.cu.row.cell 2
     have hj64 : j ≤ 60 := by have := hzb.2; omega
     clear hj hr i1 i2 i3 hbj
     go_wp2_with fail
     refine (pass P A n c A' m c' sg t r _ y.cu).mono ?_
     rintro e w5 ⟨hg5, ⟨j', hj', rfl, hc5⟩ | ⟨hj', -, -⟩⟩
     case inr => rw [I1.out] at hj'; cases hj'
     have hj2 : len1 sg t r = j' := len1_eq hj'
     have y5 := y.move hg5 hc5
     obtain ⟨s, hs⟩ : ∃ s, argP sg t (j + 1) (q + 1) = s := ⟨_, rfl⟩
     have hrs : r + j' = s := by rw [← hs, I3.out, hj2]
     rw [hrs] at y5
     have HS2 := hid hs
     have i2 := I2.out
     rw [hs] at i2
     clear y cp hg5 hc5 hj' hj2 hs hrs
     have cp : w5.cell? ⟨P, 2, none⟩ = some (.int .i64 (s : Int)) := y5.cu.row.cell 2
     have hPw := y5.lt
     cases bj with
     | false =>
      have hle : ¬ (a : Int) < (s : Int) := by have := of_decide_eq_false i2; omega
      have SS := hid (show Wy w w5 P A n c A' m c' sg t (argP sg t (j + 1) (q + 1)) O1' (n1 + 1) c1' (ys1 ++ [(q : Int)]) O2 n2 c2 ys2 by rw [HS2.out]; exact y5)
      have hgk : gk - 1 < gk ∧ j + 1 + (gk - 1) = k0 := by have h1 := HJ.out; have h2 := of_decide_eq_false HBJ.out; omega
      have HGK := hid hgk
      clear y5 i2 hgk i4
      go_wp2
      go_roundg (gk - 1)
      case measure => exact HGK.out.1
      case rel => exact ⟨rfl, j + 1, by simp, HGK.out.2, SS.out⟩
     | true =>
      have hlt : (a : Int) < (s : Int) := by have := of_decide_eq_true i2; omega
      have hjk := hid (show j = k0 from of_decide_eq_true HBJ.out)
      clear i2
      go_wp2_with (at_builtin; refine app1At rfl _ _ rfl (P + 1) O2 n2 c2 ys2 rfl (Own.alloc y5.o2 _) w5.heap.size 1 (j : Int) rfl ((Row.new _ _ _).cell 0) (by omega) (by simp; omega) ?_; intro O2' c2' w6 ho6 hg6 hb6; have y6 := y5.app2 ho6 hg6 hb6; have fr6 := y6.cu.row.free 2; have cp6 := y6.cu.row.cell 2)
      have hrm : r ≤ m := by have := HAL.out; have := HL.out; omega
      have y7 := y6.set (k' := r) hrm
      have S : HeadWy w P A n c A' m c' sg t a ab pa (a - r) (.slice O1' (n1 + 1) c1') (.slice O2' (n2 + 1) c2') (w6.setCell ⟨P, 2, none⟩ (.int .i64 (r : Int))) :=
       ⟨r, O1', n1 + 1, c1', ys1 ++ [(q : Int)], O2', n2 + 1, c2', ys2 ++ [(j : Int)], ab2, pa2, by omega, rfl, rfl, y7, by have h1 := HTR.out; rw [← hjk.out, HR.out] at h1; exact h1, by rw [← HAB.out, HE1.out]; simp, by rw [← HPA.out, HE2.out, hjk.out]; simp⟩
      have HSS := hid S
      have hgk := hid (show a - r < G by have h1 := HQ.out; have h5 := H5.out; rw [← hjk.out, HR.out] at h5; omega)
      clear S y7 y5 y6 cp ho6 hg6 hb6 hlt i4
      go_wp2
      go_roundg (a - r)
      case measure => exact hgk.out
      case rel => exact HSS.out
 ·have HX := hid hx
  clear hx
  go_enter Try.func76, Try.ntmps76
  go_wp2_with fail
  go_step3
  go_wp2_with fail
  rw [← HW.out]
  refine L.out.mono ?_
  rintro e w1 ⟨he, bb⟩
  rw [HX.out] at he
  subst he
  have F : AnsTwo w [] [] (.returned (.tuple #[.slice none 0 0, .slice none 0 0])) w1 := ⟨none, 0, 0, none, 0, 0, rfl, Own.nil _ _, Own.nil _ _, (f.next bb).b⟩
  replace F := hid F
  clear f bb L
  go_wp2
  try rw [Exit.noGoto_ret]
  go_ret2
  exact F.out
set_option maxHeartbeats 1000000 in
theorem implAboveOf (A A' : Option Addr) (n c m c' : Nat) (sg t : List Int) (x : Int) (w : World) (h : Seg w w.heap.size A n sg) (h' : Seg w w.heap.size A' m t) (hn : n ≤ 1048576) (hm : m ≤ 1048576) (_ : -9223372036854775808 ≤ x) (_ : x ≤ 9223372036854775807) :
  Calls Try.prog 37 #[.agg #[.slice A n c], .slice A' m c', .int .i64 x] w (AnsList w (aboveI sg t x)) := by
 obtain ⟨W, hW⟩ : ∃ W, W = w.alloc (.cells #[.slice A n c] 26) := ⟨_, rfl⟩
 have f : Fr w W A n c sg A' m t := by rw [hW]; exact Fr.start h h'
 have HW := hid hW
 obtain ⟨pa, hpa⟩ := path_ex sg t x
 obtain ⟨ab, htr⟩ := PathIs.trail hpa
 have L := hid (wayTo A A' n c m c' sg t x ab pa W f.s1 f.t1 hn hm htr)
 have HA := hid (TrailIs.above htr)
 have z := f.size
 have b0 := f.b
 clear hW h h' hpa htr f
 go_enter Try.func37, Try.ntmps37
 go_wp2_with fail
 rw [← HW.out]
 refine L.out.mono ?_
 rintro e w1 ⟨O1, n1, c1, O2, n2, c2, rfl, o1, o2, bb⟩
 have F := hid (list_of (w := w) HA.out.symm o1 (Nat.le_of_lt z) (next_trans b0 bb))
 clear bb L HA o1 o2 b0
 go_wp2
 go_ret
 exact F.out
set_option maxHeartbeats 1000000 in
theorem implPathOf (A A' : Option Addr) (n c m c' : Nat) (sg t : List Int) (x : Int) (pa : List Int) (w : World) (h : Seg w w.heap.size A n sg) (h' : Seg w w.heap.size A' m t) (hn : n ≤ 1048576) (hm : m ≤ 1048576) (hpa : PathIs sg t x pa) :
  Calls Try.prog 32 #[.agg #[.slice A n c], .slice A' m c', .int .i64 x] w (AnsList w pa) := by
 obtain ⟨W, hW⟩ : ∃ W, W = w.alloc (.cells #[.slice A n c] 26) := ⟨_, rfl⟩
 have f : Fr w W A n c sg A' m t := by rw [hW]; exact Fr.start h h'
 have HW := hid hW
 obtain ⟨ab, htr⟩ := PathIs.trail hpa
 have L := hid (wayTo A A' n c m c' sg t x ab pa W f.s1 f.t1 hn hm htr)
 have z := f.size
 have b0 := f.b
 clear hW h h' hpa htr f
 go_enter Try.func32, Try.ntmps32
 go_wp2_with fail
 rw [← HW.out]
 refine L.out.mono ?_
 rintro e w1 ⟨O1, n1, c1, O2, n2, c2, rfl, o1, o2, bb⟩
 have F := hid (list_of (w := w) rfl o2 (Nat.le_of_lt z) (next_trans b0 bb))
 clear bb L o1 o2 b0
 go_wp2
 go_ret
 exact F.out
end wayTo
end
section
open Go.Lib (hid)
namespace place
open Go.RowKit base ints sig term arity endOf cursor termOk endAt inside marks app appAt sym args posMath pathSpec wayTo
set_option maxRecDepth 100000
def placeI (sg t path : List Int) : Int := if termOkB sg t = true then walkI sg t 0 path else -1
def GivesI (w : World) (v : Int) (e : Ending) (w' : World) : Prop := e = .returned (.int .i64 v) ∧ Below w.heap.size w w'
theorem drop_step {path : List Int} {i : Nat} (h : i < path.length) : path.drop i = path.getD i 0 :: path.drop (i + 1) := drop_cons h
def HeadPl (w : World) (A : Option Addr) (n c : Nat) (sg : List Int) (A' : Option Addr) (m : Nat) (t : List Int) (Ap : Option Addr) (pn : Nat) (path : List Int) (R : Int) (g : Nat) (p i : Value) (wr : World) : Prop :=
 ∃ (q k : Nat), p = .int .i64 q ∧ i = .int .i64 k ∧ k + g = pn ∧ q < t.length ∧ walkI sg t q (path.drop k) = R ∧ Fr w wr A n c sg A' m t ∧ Seg wr w.heap.size Ap pn path
set_option maxHeartbeats 1000000 in
theorem specPlaceOf (A A' Ap : Option Addr) (n c m c' pn pc : Nat) (sg t path : List Int) (w : World) (h : Seg w w.heap.size A n sg) (h' : Seg w w.heap.size A' m t) (hp : Seg w w.heap.size Ap pn path) (hn : n ≤ 1048576) (hm : m ≤ 1048576) (hpn : pn ≤ 1048576) :
  Calls Try.prog 36 #[.agg #[.slice A n c], .slice A' m c', .slice Ap pn pc] w (GivesI w (placeI sg t path)) := by
 obtain ⟨W, hW⟩ : ∃ W, W = w.alloc (.cells #[.slice A n c] 26) := ⟨_, rfl⟩
 have f : Fr w W A n c sg A' m t := by rw [hW]; exact Fr.start h h'
 replace hp : Seg W w.heap.size Ap pn path := hp.below f.b
 have HW := hid hW
 have HL := hid h'.1
 have HLP := hid hp.1
 have L := hid (specTermOk A A' n c m c' sg t W f.s1 f.t1 hn hm)
 clear hW h h'
 cases hok : termOkB sg t with
 | false =>
  have HS := hid hok
  have HR := hid (show placeI sg t path = -1 by unfold placeI; rw [if_neg (by rw [hok]; simp)])
  clear hok hp
  go_enter Try.func36, Try.ntmps36
  go_wp2_with fail
  rw [← HW.out]
  refine L.out.mono ?_
  rintro e w1 ⟨he, bb⟩
  rw [HS.out] at he
  subst he
  have F := hid (show GivesI w (placeI sg t path) (.returned (.int .i64 (-1))) w1 from ⟨by rw [HR.out], (f.next bb).b⟩)
  clear f L bb
  go_wp2
  go_ret
  exact F.out
 | true =>
  have HS := hid hok
  have HR := hid (show placeI sg t path = walkI sg t 0 path by unfold placeI; rw [if_pos hok])
  have h60 := (termOk_parts hok).2.1
  have h1 := (root_len hok)
  have hpos : 0 < t.length := by
   by_cases e : 0 < t.length
   ·exact e
   ·have h3 := (termOk_parts hok).2.2
    have h2 := scan_pos (q := 0) h3
    omega
  obtain ⟨R, hR⟩ : ∃ R, walkI sg t 0 path = R := ⟨_, rfl⟩
  rw [hR] at HR
  have hars := (sig_arities (termOk_parts hok).1).1
  go_enter Try.func36, Try.ntmps36
  go_wp2_with fail
  rw [← HW.out]
  refine L.out.mono ?_
  rintro e w1 ⟨he, bb⟩
  rw [HS.out] at he
  subst he
  have bw : Below w.heap.size W w1 := bb.mono (Nat.le_of_lt f.size)
  have S0 : HeadPl w A n c sg A' m t Ap pn path R pn (.int .i64 0) (.int .i64 0) w1 := ⟨0, 0, rfl, rfl, by omega, hpos, hR, f.next bb, hp.below bw⟩
  have HS0 := hid S0
  clear S0 f bb bw hp L hR h1 hpos hok h60
  go_wp2_with fail
  go_loopg [7, 8] pn (fun g p i wr => HeadPl w A n c sg A' m t Ap pn path R g p i wr)
  case atStart => exact HS0.out
  case round =>
   obtain ⟨q, k, rfl, rfl, hk, hq, hwk, f, hp⟩ := hrel
   clear HS0
   have HK := hid hk
   have HWK := hid hwk
   have HQ := hid hq
   have hpnB := hpn
   clear hk hwk
   by_cases hlt : k < pn
   ·obtain ⟨b, off, s, rfl, hbb, hs, es⟩ := hp.spot hlt
    have hok := HS.out
    obtain ⟨t1, t2, t3⟩ := term_at hok hq
    have LA := hid (l1Args A A' n c m c' sg t q (len1 sg t q) wr f.s1 f.t1 hn hm hars (by rw [← HL.out]; exact hq) t1 (by rw [← HL.out]; exact t3))
    have hL3 : (argsL sg t q).length = arN sg t q := argsL_arN
    have hars3 : arN sg t q ≤ 3 := by have := ar_bd hars (t.getD q 0); unfold arN; omega
    have hz0 : ar sg (t.getD q 0) = (arN sg t q : Int) := by have := (head_scan hok hq).1; unfold arN; omega
    have HSTEP := hid (show path.drop k = s :: path.drop (k + 1) by rw [drop_step (by rw [HLP.out]; exact hlt), es.out])
    have HG : Hid (∀ j : Nat, j < arN sg t q → (argsL sg t q).getD j 0 = (argP sg t j (q + 1) : Int) ∧ argP sg t j (q + 1) < t.length) := hid (fun j hj => ⟨argsL_get hj, (arg_at hok hq hj).2.2⟩)
    obtain ⟨Ls, hLs⟩ : ∃ L, argsL sg t q = L := ⟨_, rfl⟩
    rw [hLs] at LA HG hL3
    obtain ⟨z, hz⟩ : ∃ z, arN sg t q = z := ⟨_, rfl⟩
    rw [hz] at hL3 hars3 HG hz0
    have HZ := hid hz
    have HZ0 := hid hz0
    have HL3 := hid hL3
    have cA := f.cell
    have hbs := f.size
    clear hok t1 t2 t3 hLs hz hz0 hL3 es hq
    go_wp2_with fail
    refine LA.out.mono ?_
    rintro e w2 ⟨A2, n2, c2, rfl, o2, bb⟩
    obtain rfl : n2 = z := by rw [Own.len o2, HL3.out]
    have hs2 : w2.cell? ⟨b, off + k, none⟩ = some (.int .i64 s) := (bb.cell (p := ⟨b, off + k, none⟩) (by show b < wr.heap.size; omega)).trans hs
    replace f := f.next bb
    replace hp := hp.below (bb.mono (Nat.le_of_lt hbs))
    clear LA bb cA hs hbs
    by_cases hin : 0 ≤ s ∧ s ≤ (n2 : Int) - 1
    ·obtain ⟨j, rfl⟩ := Int.eq_ofNat_of_zero_le hin.1
     have hjz : j < n2 := by omega
     obtain ⟨b2, off2, rfl, hb2, hc2⟩ := own_cell o2 (show j < n2 by omega)
     obtain ⟨g1, g2⟩ := HG.out j hjz
     rw [g1] at hc2
     have hjn : (j : Int) < (n2 : Int) := by omega
     have hIN := hid hin
     have S : HeadPl w A n c sg A' m t (some ⟨b, off, none⟩) pn path R (gk - 1) (.int .i64 (argP sg t j (q + 1) : Nat)) (.int .i64 ((k : Int) + 1)) w2 :=
      ⟨argP sg t j (q + 1), k + 1, rfl, by simp, by have := HK.out; omega, g2, by rw [← HWK.out, HSTEP.out, walk_step (by rw [HZ.out]; exact hjz)], f, hp⟩
     have HSS := hid S
     have hgk := hid (show gk - 1 < gk by have := HK.out; omega)
     generalize argP sg t j (q + 1) = y at *
     clear S f hp o2 g1 g2 hin
     go_wp2_with fail
     refine (inYes _ _ _ _ hIN.out).mono ?_
     rintro e w3 ⟨rfl, rfl⟩
     go_wp2
     go_roundg (gk - 1)
     case measure => exact hgk.out
     case rel => exact HSS.out
    ·have F := hid (show GivesI w (placeI sg t path) (.returned (.int .i64 (-1))) w2 from ⟨by rw [HR.out, ← HWK.out, HSTEP.out, walk_no (by rw [HZ0.out]; omega)], f.b⟩)
     have hIN := hid hin
     clear f hp o2 hin
     go_wp2_with fail
     refine (inNo _ _ _ _ hIN.out).mono ?_
     rintro e w3 ⟨rfl, rfl⟩
     go_wp2
     go_ret
     exact F.out
   ·have hkp : k = pn := by have := HK.out; omega
    have F := hid (show GivesI w (placeI sg t path) (.returned (.int .i64 (q : Int))) wr from ⟨by rw [HR.out, ← HWK.out, List.drop_eq_nil_of_le (by rw [HLP.out]; omega)]; rfl, f.b⟩)
    clear f hp hkp hq
    go_wp2
    go_ret
    exact F.out
def HeadPi (w : World) (P : Nat) (A : Option Addr) (n c : Nat) (A' : Option Addr) (m c' : Nat) (sg t : List Int) (Ap : Option Addr) (pn : Nat) (path : List Int) (R : Int) (g : Nat) (i : Value) (wr : World) : Prop :=
 ∃ (q k : Nat), i = .int .i64 k ∧ k + g = pn ∧ q < t.length ∧ walkI sg t q (path.drop k) = R ∧ Cur wr P A n c A' m c' sg t q ∧ Seg wr P Ap pn path ∧ Below w.heap.size w wr ∧ w.heap.size ≤ P
set_option maxHeartbeats 1000000 in
theorem implPlaceOf (A A' Ap : Option Addr) (n c m c' pn pc : Nat) (sg t path : List Int) (w : World) (h : Seg w w.heap.size A n sg) (h' : Seg w w.heap.size A' m t) (hp : Seg w w.heap.size Ap pn path) (hn : n ≤ 1048576) (hm : m ≤ 1048576) (hpn : pn ≤ 1048576) :
  Calls Try.prog 35 #[.agg #[.slice A n c], .slice A' m c', .slice Ap pn pc] w (GivesI w (placeI sg t path)) := by
 obtain ⟨W, hW⟩ : ∃ W, W = w.alloc (.cells #[.slice A n c] 26) := ⟨_, rfl⟩
 have f : Fr w W A n c sg A' m t := by rw [hW]; exact Fr.start h h'
 replace hp : Seg W W.heap.size Ap pn path := (hp.below f.b).more (Nat.le_of_lt f.size)
 have HW := hid hW
 have HL := hid h'.1
 have HLP := hid hp.1
 have L := hid (cursorAt A A' n c m c' sg t 0 W f.s1 f.t1 hn hm)
 have bel := f.b
 have hWs := f.size
 clear hW h h' f
 go_enter Try.func35, Try.ntmps35
 go_wp2_with fail
 go_step3
 go_wp2_with fail
 rw [← HW.out]
 refine L.out.mono ?_
 rintro e w1 ⟨bb, ⟨ht, P, rfl, hP, hc⟩ | ⟨ht, rfl⟩⟩
 ·obtain ⟨hok, -, hpos⟩ := there_parts ht
  have HS := hid hok
  obtain ⟨R, hR⟩ : ∃ R, walkI sg t 0 path = R := ⟨_, rfl⟩
  have HR := hid (show placeI sg t path = R by unfold placeI; rw [if_pos hok, hR])
  have hars := hc.ars
  have S0 : HeadPi w P A n c A' m c' sg t Ap pn path R pn (.int .i64 0) w1 := ⟨0, 0, rfl, by omega, by omega, hR, hc, (hp.below bb).more hP, next_trans bel bb, by omega⟩
  have HS0 := hid S0
  clear S0 bb hp hc hR ht hok hpos bel L hWs hP
  go_wp2
  go_step3
  go_wp2
  go_loopg [18] pn (fun g i wr => HeadPi w P A n c A' m c' sg t Ap pn path R g i wr)
  case atStart => exact HS0.out
  case round =>
   obtain ⟨q, k, rfl, hk, hq, hwk, hc, hp, hb, hwP⟩ := hrel
   obtain ⟨G, hG⟩ : ∃ G, G = gk := ⟨_, rfl⟩
   subst hG
   clear HS0
   have HK := hid hk
   have HWK := hid hwk
   clear hk hwk
   by_cases hlt : k < pn
   ·obtain ⟨b, off, s, rfl, hbb, hs, es⟩ := hp.spot hlt
    have hok := HS.out
    have hneg := (head_scan hok hq).1
    have hzb := ar_bd hars (t.getD q 0)
    obtain ⟨z, hz⟩ : ∃ z, arN sg t q = z := ⟨_, rfl⟩
    have hz0 : ar sg (t.getD q 0) = (z : Int) := by rw [← hz]; unfold arN; omega
    have HSTEP := hid (show path.drop k = s :: path.drop (k + 1) by rw [drop_step (by rw [HLP.out]; exact hlt), es.out])
    have HX : Hid (∀ j : Nat, j < z → scan sg 1 (t.drop (argP sg t j (q + 1))) = some (len1 sg t (argP sg t j (q + 1))) ∧ argP sg t (j + 1) (q + 1) = argP sg t j (q + 1) + len1 sg t (argP sg t j (q + 1)) ∧ argP sg t j (q + 1) < t.length) := hid (fun j hj => by
     obtain ⟨b1, b2, b3⟩ := arg_at hok hq (show j < arN sg t q by omega)
     exact ⟨(term_at hok b3).1, argP_succ _ _, b3⟩)
    have HZ := hid hz
    have HZ0 := hid hz0
    have hz3 : z ≤ 3 := by omega
    have HQL := hid hq
    have HA0 : Hid (argP sg t 0 (q + 1) = q + 1) := hid rfl
    clear hok hneg hzb hz hz0 es hq
    go_wp2_with fail
    refine (next P A n c A' m c' sg t q _ hc).mono ?_
    rintro e w2 ⟨hg, ⟨-, he, hc2⟩ | ⟨hk', -, -⟩⟩
    case inr => have := HQL.out; have := HL.out; omega
    rw [HZ0.out] at he
    subst he
    have hPw := hc.row.lt
    have hp2 := Seg.far hp hg (Nat.le_of_lt hPw) (fun j hj => by injection hj; omega)
    have hb2 := hb.grown hg (Nat.le_trans hwP (Nat.le_of_lt hPw)) (fun j hj => by injection hj; omega)
    clear hp hc hb hg hs hPw
    have HS1 := hid (show Cur w2 P A n c A' m c' sg t (argP sg t 0 (q + 1)) ∧ Seg w2 P (some ⟨b, off, none⟩) pn path ∧ Below w.heap.size w w2 from ⟨by rw [HA0.out]; exact hc2, hp2, hb2⟩)
    clear hc2 hp2 hb2
    go_wp2_with fail
    go_loopg [24] z (fun g i wr => ∃ j : Nat, i = .int .i64 j ∧ j + g = z ∧ (∀ j' : Nat, j' < j → (j' : Int) ≠ s) ∧ Cur wr P A n c A' m c' sg t (argP sg t j (q + 1)) ∧ Seg wr P (some ⟨b, off, none⟩) pn path ∧ Below w.heap.size w wr)
    case atStart => exact ⟨0, rfl, by omega, fun j' hj' => absurd hj' (Nat.not_lt_zero _), HS1.out⟩
    case round =>
     obtain ⟨j, rfl, hj, hne, hc, hp, hb⟩ := hrel
     clear HS1
     have HNE := hid hne
     have HJ := hid hj
     clear hne hj
     by_cases hjz : j < z
     ·obtain ⟨x1, x2, x3⟩ := HX.out j hjz
      have X2 := hid x2
      have X1 := hid x1
      have X3 := hid x3
      clear x1 x2 x3
      by_cases hjs : (j : Int) = s
      ·have S : HeadPi w P A n c A' m c' sg t (some ⟨b, off, none⟩) pn path R (G - 1) (.int .i64 ((k : Int) + 1)) wr :=
        ⟨argP sg t j (q + 1), k + 1, by simp, by have := HK.out; omega, X3.out, by rw [← HWK.out, HSTEP.out, ← hjs, walk_step (by rw [HZ.out]; exact hjz)], hc, hp, hb, hwP⟩
       have HSS := hid S
       have hgk := hid (show G - 1 < G by have := HK.out; omega)
       subst hjs
       clear S hc hp hb
       go_wp2
       go_roundg (G - 1)
       case measure => exact hgk.out
       case rel => exact HSS.out
      ·obtain ⟨r, hr⟩ : ∃ r, argP sg t j (q + 1) = r := ⟨_, rfl⟩
       rw [hr] at hc X1 X2
       have hd : ((j : Int) == s) = false := by simp [hjs]
       have HJS := hid hjs
       clear hjs hr
       go_wp2_with fail
       refine (pass P A n c A' m c' sg t r _ hc).mono ?_
       rintro e w5 ⟨hg5, ⟨j', hj', rfl, hc5⟩ | ⟨hj', -, -⟩⟩
       case inr => rw [X1.out] at hj'; cases hj'
       have hj2 : len1 sg t r = j' := len1_eq hj'
       have hPw := hc.row.lt
       have S := hid (show Cur w5 P A n c A' m c' sg t (argP sg t (j + 1) (q + 1)) ∧ Seg w5 P (some ⟨b, off, none⟩) pn path ∧ Below w.heap.size w w5 from ⟨by rw [X2.out, hj2]; exact hc5, Seg.far hp hg5 (Nat.le_of_lt hPw) (fun j hj => by injection hj; omega), hb.grown hg5 (Nat.le_trans hwP (Nat.le_of_lt hPw)) (fun j hj => by injection hj; omega)⟩)
       have hgk := hid (show gk - 1 < gk ∧ j + 1 + (gk - 1) = z by have := HJ.out; omega)
       clear hc hp hb hg5 hj' hc5 hj2 hPw
       go_wp2
       go_roundg (gk - 1)
       case measure => exact hgk.out.1
       case rel => exact ⟨j + 1, by simp, hgk.out.2, fun j' hj' => by
        by_cases e : j' = j
        ·subst e; exact HJS.out
        ·exact HNE.out j' (by omega), S.out⟩
     ·have F := hid (show GivesI w (placeI sg t path) (.returned (.int .i64 (-1))) wr from ⟨by
       rw [HR.out, ← HWK.out, HSTEP.out, walk_no]
       rintro ⟨e1, e2⟩
       rw [HZ0.out] at e2
       obtain ⟨jj, rfl⟩ := Int.eq_ofNat_of_zero_le e1
       exact HNE.out jj (by omega) rfl, hb⟩)
      clear hc hp hb
      go_wp2
      try rw [Exit.noGoto_ret]
      go_ret
      exact F.out
   ·have hkp : k = pn := by have := HK.out; omega
    have F := hid (show GivesI w (placeI sg t path) (.returned (.int .i64 (q : Int))) wr from ⟨by rw [HR.out, ← HWK.out, List.drop_eq_nil_of_le (by rw [HLP.out]; omega)]; rfl, hb⟩)
    have cp : wr.cell? ⟨P, 2, none⟩ = some (.int .i64 (q : Int)) := hc.row.cell 2
    clear hc hp hb hkp hq
    go_wp2
    try rw [Exit.noGoto_ret]
    go_ret
    exact F.out
 ·have hno : placeI sg t path = -1 := by
   unfold placeI
   cases hok : termOkB sg t with
   | false => rw [if_neg (by simp)]
   | true =>
    exfalso
    have h3 := (termOk_parts hok).2.2
    have h2 := scan_pos (q := 0) h3
    rw [there_yes hok (by omega) (by omega)] at ht
    cases ht
  have F := hid (show GivesI w (placeI sg t path) (.returned (.int .i64 (-1))) w1 from ⟨by rw [hno], next_trans bel bb⟩)
  clear bb L bel hp
  go_wp2
  try rw [Exit.noGoto_ret]
  go_ret
  exact F.out
end place
end
section
open Go.Lib (hid)
namespace deep
open Go.RowKit base ints sig term arity endOf cursor termOk endAt inside marks app appAt sym args posMath pathSpec wayTo place
set_option maxRecDepth 100000
def deepI (sg t : List Int) : Int := if termOkB sg t = true then (deepN sg t t.length : Nat) else -1
theorem deep_no {sg t : List Int} (h : termOkB sg t = false) : deepI sg t = -1 := by unfold deepI; rw [if_neg (by rw [h]; simp)]
theorem deep_yes {sg t : List Int} (h : termOkB sg t = true) : deepI sg t = (deepN sg t t.length : Nat) := by unfold deepI; rw [if_pos h]
theorem way_pl {sg t : List Int} (hok : termOkB sg t = true) {a : Nat} (ha : a < t.length) : ∃ ab pa, Trail sg t a 0 ab pa ∧ pa.length = pl sg t a := by
 obtain ⟨ab, pa, hw⟩ := way_root hok ha
 exact ⟨ab, pa, hw, by unfold pl; rw [hw.aboveL hok ha, hw.len]⟩
theorem deep_lt {sg t : List Int} {k : Nat} (h : 0 < t.length) (hk : k ≤ t.length) : deepN sg t k < t.length := by
 have := deep_le (sg := sg) (t := t) k
 omega
theorem deep_up {sg t : List Int} {k : Nat} (h : pl sg t (deepN sg t k) < pl sg t k) : deepN sg t (k + 1) = k := by simp only [deepN]; rw [if_pos h]
theorem deep_same {sg t : List Int} {k : Nat} (h : ¬ pl sg t (deepN sg t k) < pl sg t k) : deepN sg t (k + 1) = deepN sg t k := by simp only [deepN]; rw [if_neg h]
def HeadDi (w : World) (A : Option Addr) (n c : Nat) (sg : List Int) (A' : Option Addr) (m : Nat) (t : List Int) (g : Nat) (best long k : Value) (wr : World) : Prop :=
 ∃ i : Nat, k = .int .i64 i ∧ i + g = m ∧ best = .int .i64 (deepN sg t i : Nat) ∧ long = .int .i64 (pl sg t (deepN sg t i) : Nat) ∧ Fr w wr A n c sg A' m t
set_option maxHeartbeats 1000000 in
theorem implDeepestOf (A A' : Option Addr) (n c m c' : Nat) (sg t : List Int) (w : World) (h : Seg w w.heap.size A n sg) (h' : Seg w w.heap.size A' m t) (hn : n ≤ 1048576) (hm : m ≤ 1048576) :
  Calls Try.prog 38 #[.agg #[.slice A n c], .slice A' m c'] w (GivesI w (deepI sg t)) := by
 obtain ⟨W, hW⟩ : ∃ W, W = w.alloc (.cells #[.slice A n c] 26) := ⟨_, rfl⟩
 have f : Fr w W A n c sg A' m t := by rw [hW]; exact Fr.start h h'
 have HW := hid hW
 have HL := hid h'.1
 have L := hid (implTermOk A A' n c m c' sg t W f.s1 f.t1 hn hm)
 clear hW h h'
 cases hok : termOkB sg t with
 | false =>
  have HS := hid hok
  have HR := hid (deep_no hok)
  clear hok
  go_enter Try.func38, Try.ntmps38
  go_wp2_with fail
  rw [← HW.out]
  refine L.out.mono ?_
  rintro e w1 ⟨he, bb⟩
  rw [HS.out] at he
  subst he
  have F := hid (show GivesI w (deepI sg t) (.returned (.int .i64 (-1))) w1 from ⟨by rw [HR.out], (f.next bb).b⟩)
  clear f L bb
  go_wp2
  go_ret
  exact F.out
 | true =>
  have HS := hid hok
  have HR := hid (deep_yes hok)
  have HT := hid (termOk_parts hok).2.1
  have h60 : m ≤ 60 := by have := HT.out; have := HL.out; omega
  clear hok
  go_enter Try.func38, Try.ntmps38
  go_wp2_with fail
  rw [← HW.out]
  refine L.out.mono ?_
  rintro e w1 ⟨he, bb⟩
  rw [HS.out] at he
  subst he
  have S0 : HeadDi w A n c sg A' m t m (.int .i64 0) (.int .i64 0) (.int .i64 0) w1 := ⟨0, rfl, by omega, rfl, rfl, f.next bb⟩
  have HS0 := hid S0
  clear S0 f bb L
  go_wp2_with fail
  go_loopg [5, 6, 15] m (fun g best long k wr => HeadDi w A n c sg A' m t g best long k wr)
  case atStart => exact HS0.out
  case round =>
   obtain ⟨i, rfl, hi, rfl, rfl, f⟩ := hrel
   clear HS0
   have HI := hid hi
   clear hi
   by_cases him : i < m
   ·have hml := HL.out
    have hil : i < t.length := by omega
    obtain ⟨ab1, pa1, tr1, l1⟩ := way_pl HS.out hil
    have hbl : deepN sg t i < t.length := deep_lt (by omega) (by omega)
    have HUP := hid (deep_up (sg := sg) (t := t) (k := i))
    have HSA := hid (deep_same (sg := sg) (t := t) (k := i))
    obtain ⟨d, hd⟩ : ∃ d, deepN sg t i = d := ⟨_, rfl⟩
    rw [hd] at hbl HUP HSA
    rw [hd]
    have T1 := hid tr1
    have HP := hid (show PathIs sg t (i : Int) pa1 from .inl ⟨there_yes HS.out (by omega) (by omega), ab1, by rw [Int.toNat_natCast]; exact tr1⟩)
    have hl1 : pa1.length ≤ 60 := by have := tr1.le; omega
    have L1 := hid l1
    have hd60 : d ≤ 60 := by omega
    obtain ⟨z, hz⟩ : ∃ z, pl sg t d = z := ⟨_, rfl⟩
    rw [hz]
    have HZ := hid hz
    have cA := f.cell
    clear tr1 l1 hbl hml hd hz hil
    go_wp2_with fail
    refine (implPathOf A A' n c m c' sg t (i : Int) pa1 _ f.s1 f.t1 hn hm HP.out).mono ?_
    rintro e w2 ⟨A2, n2, c2, rfl, o2, bb⟩
    have e2 : n2 = pl sg t i := by rw [Own.len o2, L1.out]
    have E2 := hid e2
    have hgk := hid (show gk - 1 < gk ∧ i + 1 + (gk - 1) = m by have := HI.out; omega)
    replace f := f.next bb
    clear o2 bb e2 cA
    by_cases hlt : z < n2
    ·have S : HeadDi w A n c sg A' m t (gk - 1) (.int .i64 (i : Int)) (.int .i64 (n2 : Int)) (.int .i64 ((i : Int) + 1)) w2 := ⟨i + 1, by simp, hgk.out.2, by rw [HUP.out (by rw [← E2.out, HZ.out]; exact hlt)], by rw [HUP.out (by rw [← E2.out, HZ.out]; exact hlt), E2.out], f⟩
     have HSS := hid S
     clear S f
     go_wp2
     go_roundg (gk - 1)
     case measure => exact hgk.out.1
     case rel => exact HSS.out
    ·have S : HeadDi w A n c sg A' m t (gk - 1) (.int .i64 (d : Int)) (.int .i64 (z : Int)) (.int .i64 ((i : Int) + 1)) w2 := ⟨i + 1, by simp, hgk.out.2, by rw [HSA.out (by rw [← E2.out, HZ.out]; exact hlt)], by rw [HSA.out (by rw [← E2.out, HZ.out]; exact hlt), HZ.out], f⟩
     have HSS := hid S
     have hle : decide ((z : Int) < (n2 : Int)) = false := by simp; omega
     clear S f
     go_wp2
     go_roundg (gk - 1)
     case measure => exact hgk.out.1
     case rel => exact HSS.out
   ·have him2 : i = t.length := by have := HI.out; have := HL.out; omega
    have F := hid (show GivesI w (deepI sg t) (.returned (.int .i64 (deepN sg t i : Nat))) wr from ⟨by rw [HR.out, him2], f.b⟩)
    clear f him2
    generalize deepN sg t i = d at *
    go_wp2
    go_ret
    exact F.out
end deep
end
section
open Go.Lib (hid)
namespace drawSig
open Go.RowKit base ints sig cursor marks app sym dice
set_option maxRecDepth 100000
theorem stepApp1 {w : World} {ops : Array Oper} {o : Oper} {a : Act} {K : Act → World → Prop} {Q : Exit → Act → World → Prop} {E : Prop} (hgd : o.guard = none) (s x : Operand)
  (ho : o.op = .call { callee := .builtin .append, args := #[s, x], argTypes := #[24, 24] })
  (base : Nat) (A : Option Addr) (n c : Nat) (xs : List Int) (hs : a.eval s = .slice A n c) (hown : Own w base (.slice A n c) xs)
  (g c2 : Nat) (y : Int) (hx : a.eval x = .slice (some ⟨g, 0, none⟩) 1 c2) (hy : w.cell? ⟨g, 0, none⟩ = some (.int .i64 y)) (hn : n ≤ 2097152) (hbase : base ≤ w.heap.size)
  (h : ∀ g' c' w', Own w' base (.slice (some ⟨g', 0, none⟩) (n + 1) c') (xs ++ [y]) → w.grownBy w' (blk A) → (blk A = some g' ∨ g' = w.heap.size) → g' < w'.heap.size → K (a.put o.dst (.slice (some ⟨g', 0, none⟩) (n + 1) c')) w') :
  if Region.wanted o (yielded ops a.tmps) = true then Oper.wp Try.prog o a w K Q else E := by
 obtain ⟨i0, hi, hz0, hz1, hz2⟩ := info_parts info_i64
 have hl : xs.length = n := by
  obtain ⟨A', c', e⟩ := hown.slice
  injection e with _ e _
  exact e.symm
 have hob : (Value.slice A n c).ownBlock = blk A := by cases A <;> rfl
 refine step_append_lies w hgd s x 24 ho base 2 i0 (.int .i64 0) 1 8 Try.underlying24 hi hz0 hz1 hz2 rfl (by decide) (.slice A n c) n (xs.map (Value.int .i64)) hs (by rw [← hl]; rw [← hl] at hown; exact hown)
  ⟨g, 0, none⟩ 1 c2 [.int .i64 y] hx rfl (fun j u hj => ?_) (fun u hu => ?_) (by omega) (by unfold maxLen; omega) (by omega) hbase w.heap.size rfl ?_
 ·match j, hj with
  | 0, hj => simp at hj; subst hj; simpa [Addr.add] using hy
 ·simp at hu; subst hu; rfl
 ·intro g' c' w' hown' hg hat hlt
  have e : xs.map (Value.int .i64) ++ [.int .i64 y] = (xs ++ [y]).map (Value.int .i64) := by simp
  rw [e] at hown'
  rw [hob] at hg hat
  refine h g' c' w' ?_ hg hat hlt
  have hl2 : (xs ++ [y]).length = n + 1 := by simp [hl]
  unfold Own
  rw [hl2]
  exact hown'
def AnsSigD (w : World) (p : Nat) (A : Option Addr) (n c : Nat) (P : List Int → Prop) (e : Ending) (w' : World) : Prop :=
 ∃ O on oc xs, e = .returned (.agg #[.slice O on oc]) ∧ Own w' w.heap.size (.slice O on oc) xs ∧ P xs ∧ Dice w' p A n c ∧ w.grownBy w' (some p)
def Good (xs : List Int) : Prop := 1 ≤ xs.length ∧ xs.length ≤ 4 ∧ ∀ j, j < xs.length → 0 ≤ xs.getD j 0 ∧ xs.getD j 0 ≤ 2
theorem good_snoc {xs : List Int} {x : Int} (h1 : 1 ≤ xs.length) (h2 : xs.length ≤ 3) (h : ∀ j, j < xs.length → 0 ≤ xs.getD j 0 ∧ xs.getD j 0 ≤ 2) (h0 : 0 ≤ x) (hx : x ≤ 2) : Good (xs ++ [x]) := by
 refine ⟨by simp, by simp; omega, fun j hj => ?_⟩
 by_cases e : j < xs.length
 ·have := h j e
  simpa [List.getD, e, List.getElem?_append_left e] using this
 ·have e2 : j = xs.length := by simp at hj; omega
  subst e2
  simp [List.getD]
  omega
structure SigSt (w : World) (p : Nat) (A : Option Addr) (n c : Nat) (v : Nat) (wr : World) (O : Option Addr) (on oc : Nat) (xs : List Int) : Prop where
 own : Own wr w.heap.size (.slice O on oc) xs
 rV : Row wr v 26 #[.slice O on oc]
 rN : Row wr w.heap.size 26 #[.slice none 0 0]
 nV : blk O ≠ some v
 nN : blk O ≠ some w.heap.size
 hv : w.heap.size < v
 d : Dice wr p A n c
 g : w.grownBy wr (some p)
 hp : p < w.heap.size
section
variable {w : World} {p : Nat} {A : Option Addr} {n c v : Nat} {wr : World} {O : Option Addr} {on oc : Nat} {xs : List Int}
theorem SigSt.dice {w' : World} (s : SigSt w p A n c v wr O on oc xs) (d : Dice w' p A n c) (hg : wr.grownBy w' (some p)) : SigSt w p A n c v w' O on oc xs :=
 ⟨Own.far s.own hg (fun k hk => by injection hk; have := s.hp; omega), Row.away s.rV hg (fun e => by injection e; have := s.hp; have := s.hv; omega), Row.away s.rN hg (fun e => by injection e; have := s.hp; omega), s.nV, s.nN, s.hv, d, grown_trans s.g hg, s.hp⟩
theorem SigSt.alloc (s : SigSt w p A n c v wr O on oc xs) (o : Obj) : SigSt w p A n c v (wr.alloc o) O on oc xs :=
 ⟨Own.alloc s.own o, s.rV.alloc o, s.rN.alloc o, s.nV, s.nN, s.hv, s.d.alloc o, grown_trans s.g (World.grownBy_alloc wr o _), s.hp⟩
theorem SigSt.drew (s : SigSt w p A n c v wr O on oc xs) : SigSt w p A n c v wr.drew O on oc xs :=
 ⟨Own.drew s.own, s.rV.drew, s.rN.drew, s.nV, s.nN, s.hv, s.d.drewN 1, grown_drewN s.g 1, s.hp⟩
theorem SigSt.put {w' : World} {O' : Option Addr} {on' oc' : Nat} {ys : List Int} (s : SigSt w p A n c v wr O on oc xs) (ho : Own w' w.heap.size (.slice O' on' oc') ys) (hg : wr.grownBy w' (blk O)) (hat : blk O' = blk O ∨ blk O' = some wr.heap.size) (hO : ∀ k, blk O = some k → w.heap.size ≤ k) :
  SigSt w p A n c v (w'.setCell ⟨v, 0, none⟩ (.slice O' on' oc')) O' on' oc' ys := by
 have hpk : ∀ k, blk O = some k → p + 1 ≤ k := fun k hk => by have := hO k hk; have := s.hp; omega
 have zw := s.rV.lt
 have zn := s.rN.lt
 have nV' : blk O' ≠ some v := by
  rcases hat with h | h
  ·rw [h]; exact s.nV
  ·rw [h]; intro e; injection e; omega
 have nN' : blk O' ≠ some w.heap.size := by
  rcases hat with h | h
  ·rw [h]; exact s.nN
  ·rw [h]; intro e; injection e; omega
 have r1 := Row.away s.rV hg s.nV
 have r2 := Row.away s.rN hg s.nN
 have b1 : Below (p + 1) wr w' := (Below.refl _ _).grown hg (by have := s.hp; omega) hpk
 have b0 : Below w.heap.size wr w' := (Below.refl _ _).grown hg (by have := s.g.size; omega) hO
 refine ⟨?_, r1.put 0 _, r2.far (p := ⟨v, 0, none⟩) (by have := s.hv; simp; omega) _, nV', nN', s.hv, ?_, ?_, s.hp⟩
 ·have hk : w'.grownBy (w'.setCell ⟨v, 0, none⟩ (.slice O' on' oc')) (some v) := grown_put (World.grownBy.refl _ _) 0 _
  refine World.ownsRow.kept ho hk ?_
  cases O' with
  | none => exact .inl rfl
  | some a => exact .inr (fun e => nV' (by simpa [Value.ownBlock, blk] using e))
 ·have d1 := s.d.keep b1
  obtain ⟨i, h, d1⟩ := d1
  have hvp : p < v := by have := s.hp; have := s.hv; omega
  exact ⟨i, h, d1.row.far (p := ⟨v, 0, none⟩) (by simp; omega) _, d1.le, d1.s.keep fun q hq => World.cell?_setCell_other w' _ q _ (fun e => by subst e; have hq : v < p := hq; omega), d1.hn⟩
 ·refine ⟨b0.os.trans s.g.os, b0.tape.trans s.g.tape, b0.output.trans s.g.output, by have := s.g.size; have := b0.size; simp only [World.size_setCell]; omega, fun k hk hne => ?_⟩
  rw [Below.heap_setCell _ _ _ _ (by have := s.hv; intro e; have e : k = v := e; omega), b0.block k hk]
  exact s.g.block k hk hne
theorem SigSt.result {P : List Int → Prop} (s : SigSt w p A n c v wr O on oc xs) (hP : P xs) (hO : blk O ≠ some w.heap.size) : AnsSigD w p A n c P (.returned (.agg #[.slice O on oc])) (wr.setCell ⟨w.heap.size, 0, none⟩ (.slice O on oc)) := by
 refine ⟨O, on, oc, xs, rfl, ?_, hP, ?_, ?_⟩
 ·have hk : wr.grownBy (wr.setCell ⟨w.heap.size, 0, none⟩ (.slice O on oc)) (some w.heap.size) := grown_put (World.grownBy.refl _ _) 0 _
  refine World.ownsRow.kept s.own hk ?_
  cases O with
  | none => exact .inl rfl
  | some a => exact .inr (fun e => hO (by simpa [Value.ownBlock, blk] using e))
 ·obtain ⟨i, h, d1⟩ := s.d
  have hp := s.hp
  exact ⟨i, h, d1.row.far (p := ⟨w.heap.size, 0, none⟩) (by simp; omega) _, d1.le, d1.s.keep fun q hq => World.cell?_setCell_other wr _ q _ (fun e => by subst e; have hq : w.heap.size < p := hq; omega), d1.hn⟩
 ·refine ⟨s.g.os, s.g.tape, s.g.output, by simpa using s.g.size, fun k hk hne => ?_⟩
  rw [Below.heap_setCell _ _ _ _ (by intro e; have e : k = w.heap.size := e; omega)]
  exact s.g.block k hk hne
end
def HeadSigD (w : World) (p : Nat) (A : Option Addr) (n c v : Nat) (i : Value) (wr : World) : Prop :=
 ∃ (k : Nat) (O : Option Addr) (on oc : Nat) (xs : List Int), i = .int .i64 k ∧ SigSt w p A n c v wr O on oc xs ∧ 1 ≤ xs.length ∧ xs.length + k ≤ 4 ∧ ∀ j, j < xs.length → 0 ≤ xs.getD j 0 ∧ xs.getD j 0 ≤ 2
set_option maxHeartbeats 4000000 in
theorem drawSig (p : Nat) (A : Option Addr) (n c : Nat) (w : World) (hd : Dice w p A n c) :
  Calls Try.prog 123 #[.pointer (some ⟨p, 0, none⟩)] w (AnsSigD w p A n c Good) := by
 have hp := hd.lt
 obtain ⟨W, hW⟩ : ∃ W, W = ((w.alloc (.cells #[.slice none 0 0] 26)).alloc (.cells #[.int .i64 2, .int .i64 1, .int .i64 0] 2)).alloc (.cells #[.slice (some ⟨w.heap.size + 1, 0, none⟩) 3 3] 26) := ⟨_, rfl⟩
 have S0 : SigSt w p A n c (w.heap.size + 1 + 1) W (some ⟨w.heap.size + 1, 0, none⟩) 3 3 [2, 1, 0] := by
  rw [hW]
  have r1 : Row (((w.alloc (.cells #[.slice none 0 0] 26)).alloc (.cells #[.int .i64 2, .int .i64 1, .int .i64 0] 2)).alloc (.cells #[.slice (some ⟨w.heap.size + 1, 0, none⟩) 3 3] 26)) (w.heap.size + 1) 2 #[.int .i64 2, .int .i64 1, .int .i64 0] := by
   have := (Row.new (w.alloc (.cells #[.slice none 0 0] 26)) 2 #[.int .i64 2, .int .i64 1, .int .i64 0]).alloc (.cells #[.slice (some ⟨w.heap.size + 1, 0, none⟩) 3 3] 26)
   simpa using this
  refine ⟨Own.of_row r1 rfl rfl (Nat.le_refl _) (by omega) (by omega) (fun j hj => ?_), ?_, ((Row.new _ _ _).alloc _).alloc _, by simp [blk], by simp [blk], by omega, ((hd.alloc _).alloc _).alloc _, grown_trans (grown_trans (World.grownBy_alloc _ _ _) (World.grownBy_alloc _ _ _)) (World.grownBy_alloc _ _ _), hp⟩
  ·match j, hj with
   | 0, _ => rfl
   | 1, _ => rfl
   | 2, _ => rfl
  ·have := Row.new ((w.alloc (.cells #[.slice none 0 0] 26)).alloc (.cells #[.int .i64 2, .int .i64 1, .int .i64 0] 2)) 26 #[.slice (some ⟨w.heap.size + 1, 0, none⟩) 3 3]
   simpa using this
 have HW := hid hW
 clear hW
 have L := hid (once p A n c 4 W S0.d (by omega) (by omega))
 clear hd
 go_enter Try.func123, Try.ntmps123
 go_wp2_with fail
 rw [← HW.out]
 refine L.out.mono ?_
 rintro e w1 ⟨b, rfl, d1, g1⟩
 have S1 := S0.dice d1 g1
 have cV : w1.cell? ⟨w.heap.size + 1 + 1, 0, none⟩ = some (.slice (some ⟨w.heap.size + 1, 0, none⟩) 3 3) := S1.rV.cell 0
 have cN : w1.cell? ⟨w.heap.size, 0, none⟩ = some (.slice none 0 0) := S1.rN.cell 0
 have fV : w1.frozen? ⟨w.heap.size + 1 + 1, 0, none⟩ = false := S1.rV.free 0
 have fN : w1.frozen? ⟨w.heap.size, 0, none⟩ = false := S1.rN.free 0
 clear d1 g1 S0 L
 cases b with
 | false =>
  have F := hid (S1.result (P := Good) ⟨by decide, by decide, fun j hj => by match j, hj with | 0, _ => decide | 1, _ => decide | 2, _ => decide⟩ S1.nN)
  clear S1
  go_wp2
  exact bodyPost_ret (v := .agg #[.slice (some ⟨w.heap.size + 1, 0, none⟩) 3 3]) (by simp [results, Try.results123, go_sem, cN]) rfl F.out
 | true =>
  have zV : w.heap.size + 1 + 1 < w1.heap.size := S1.rV.lt
  obtain ⟨W2, hW2⟩ : ∃ W2, W2 = (w1.setCell ⟨w.heap.size + 1 + 1, 0, none⟩ (.slice (some ⟨w1.heap.size, 0, none⟩) 1 1)).alloc (.cells #[.int .i64 0] 2) := ⟨_, rfl⟩
  have S2 : SigSt w p A n c (w.heap.size + 1 + 1) W2 (some ⟨w1.heap.size, 0, none⟩) 1 1 [0] := by
   rw [hW2, ← World.setCell_alloc_past (hn := zV)]
   exact S1.put (Own.of_row (Row.new _ _ _) rfl rfl (Nat.le_refl _) (by omega) (by omega) (fun j hj => by match j, hj with | 0, _ => rfl)) (World.grownBy_alloc _ _ _) (.inr rfl) (fun k hk => by have hk : w.heap.size + 1 = k := Option.some.inj hk; omega)
  have HW2 := hid hW2
  have L2 := hid (below p A n c 4 W2 S2.d (by omega) (by omega))
  clear hW2 S1
  go_wp2_with fail
  rw [← HW2.out]
  refine L2.out.mono ?_
  rintro e w3 ⟨x, rfl, x0, x1, d3, g3⟩
  obtain ⟨k0, rfl⟩ := Int.eq_ofNat_of_zero_le x0
  have S3 := S2.dice d3 g3
  have H0 : HeadSigD w p A n c (w.heap.size + 1 + 1) (.int .i64 (k0 : Int)) w3 := ⟨k0, _, _, _, _, rfl, S3, by decide, by simp; omega, fun j hj => by match j, hj with | 0, _ => decide⟩
  have HH := hid H0
  clear H0 S3 S2 d3 g3 L2 cV cN fV fN
  go_wp2_with fail
  go_loopw [4] (fun i wr => HeadSigD w p A n c (w.heap.size + 1 + 1) i wr) (fun i _ => (intOf i).toNat)
  case atStart => exact HH.out
  case round =>
   obtain ⟨k, O, on, oc, xs, rfl, S, hx1, hx2, hxs⟩ := hrel
   clear HH
   have cV : wr.cell? ⟨w.heap.size + 1 + 1, 0, none⟩ = some (.slice O on oc) := S.rV.cell 0
   have cN : wr.cell? ⟨w.heap.size, 0, none⟩ = some (.slice none 0 0) := S.rN.cell 0
   have fV : wr.frozen? ⟨w.heap.size + 1 + 1, 0, none⟩ = false := S.rV.free 0
   have fN : wr.frozen? ⟨w.heap.size, 0, none⟩ = false := S.rN.free 0
   have zV : w.heap.size + 1 + 1 < wr.heap.size := S.rV.lt
   by_cases hk : k = 0
   ·subst hk
    have F := hid (S.result (P := Good) ⟨hx1, by omega, hxs⟩ S.nN)
    clear S
    go_wp2
    exact bodyPost_ret (v := .agg #[.slice O on oc]) (by simp [results, Try.results123, go_sem, cN]) rfl F.out
   ·have k1 : (0 : Int) < (k : Int) := by omega
    have S' := S.drew
    clear S
    go_wp2_with fail
    go_region_law (first
     | (refine stepApp1 rfl _ _ rfl w.heap.size O on oc xs (by simp [Act.eval, Act.put]) (Own.alloc S5.own _) w5.heap.size 1 x (by simp [Act.eval, Act.put]) ((Row.new _ _ _).cell 0) (by omega) (by simp; omega) ?_; intro O' oc' w6 ho6 hg6 hat6 hlt6; have r6 := Row.away (S5.alloc _).rV hg6 S5.nV; have cV6 : w6.cell? ⟨w.heap.size + 1 + 1, 0, none⟩ = some (.slice O on oc) := r6.cell 0; have fV6 : w6.frozen? ⟨w.heap.size + 1 + 1, 0, none⟩ = false := r6.free 0)
     | (go_simp; go_at_call 61; refine (below p A n c 3 _ S'.d (by omega) (by omega)).mono ?_; rintro e w5 ⟨x, rfl, x0, x1, d5, g5⟩; have S5 := S'.dice d5 g5; have cV5 : w5.cell? ⟨w.heap.size + 1 + 1, 0, none⟩ = some (.slice O on oc) := S5.rV.cell 0; have zV5 : w.heap.size + 1 + 1 < w5.heap.size := S5.rV.lt; have hon : on ≤ 4 := by have := Own.len S5.own; omega))
    all_goals
     have S6 := SigSt.put (S5.alloc (.cells #[.int .i64 x] 2)) ho6 hg6 (hat6.elim (fun h => .inl h.symm) (fun h => .inr (by rw [h]; rfl))) (Own.ge S5.own)
     have G := good_snoc hx1 (by omega) hxs x0 (by omega)
     have F : HeadSigD w p A n c (w.heap.size + 1 + 1) (.int .i64 ((k : Int) - 1)) (w6.setCell ⟨w.heap.size + 1 + 1, 0, none⟩ (.slice (some ⟨O', 0, none⟩) (on + 1) oc')) :=
      ⟨k - 1, _, _, _, _, congrArg (Value.int .i64) (by omega), S6, G.1, by simp; omega, G.2.2⟩
     have HF := hid F
     clear F G S6 S5 S' ho6 hg6 hat6 hlt6 r6 cV6 fV6 d5 g5 cV5
     go_wp2
     go_roundw
     case rel => exact HF.out
     case measure => simp [intOf]; omega
def Short (xs : List Int) : Prop := xs.length ≤ 9
theorem Own.blk_lt {w : World} {base : Nat} {O : Option Addr} {on oc : Nat} {xs : List Int} (h : Own w base (.slice O on oc) xs) : ∀ k, blk O = some k → k < w.heap.size := fun k hk => by
 refine (World.ownsRow.lt h k ?_).2
 cases O with
 | none => cases hk
 | some a => exact hk
set_option maxHeartbeats 4000000 in
theorem drawSigAny (p : Nat) (A : Option Addr) (n c : Nat) (w : World) (hd : Dice w p A n c) :
  Calls Try.prog 100 #[.pointer (some ⟨p, 0, none⟩)] w (AnsSigD w p A n c Short) := by
 have hp := hd.lt
 obtain ⟨W, hW⟩ : ∃ W, W = w.alloc (.cells #[.slice none 0 0] 26) := ⟨_, rfl⟩
 have rN : Row W w.heap.size 26 #[.slice none 0 0] := by rw [hW]; exact Row.new _ _ _
 have g0 : w.grownBy W (some p) := by rw [hW]; exact World.grownBy_alloc _ _ _
 have d0 : Dice W p A n c := by rw [hW]; exact hd.alloc _
 have zW : W.heap.size = w.heap.size + 1 := by rw [hW]; simp
 have HW := hid hW
 have L := hid (drawSig p A n c W d0)
 clear hW hd d0
 go_enter Try.func100, Try.ntmps100
 go_wp2_with fail
 rw [← HW.out]
 refine L.out.mono ?_
 rintro e w2 ⟨O, on, oc, xs, rfl, ho, hgood, d2, g2⟩
 rw [zW] at ho
 have rN2 : Row w2 w.heap.size 26 #[.slice none 0 0] := Row.away rN g2 (fun e => by injection e; omega)
 have zN := rN2.lt
 have hxs := hgood.2.1
 have hx1 := hgood.1
 obtain ⟨W3, hW3⟩ : ∃ W3, W3 = w2.alloc (.cells #[.slice O on oc] 26) := ⟨_, rfl⟩
 have S3 : SigSt w p A n c w2.heap.size W3 O on oc xs := by
  rw [hW3]
  refine ⟨Own.alloc (Own.lower ho (Nat.le_succ _)) _, Row.new _ _ _, rN2.alloc _, fun e => ?_, fun e => ?_, zN, d2.alloc _, grown_trans (grown_trans g0 g2) (World.grownBy_alloc _ _ _), hp⟩
  ·have := Own.blk_lt ho _ e; omega
  ·have := Own.ge ho _ e; omega
 have HW3 := hid hW3
 have L3 := hid (once p A n c 15 W3 S3.d (by omega) (by omega))
 obtain ⟨v, hv⟩ : ∃ v, w2.heap.size = v := ⟨_, rfl⟩
 have HV := hid hv
 clear ho hgood d2 g2 rN rN2 g0 L hW3 hv
 go_wp2_with fail
 rw [← HW3.out]
 refine L3.out.mono ?_
 rintro e w4 ⟨b, rfl, d4, g4⟩
 have S4 := S3.dice d4 g4
 rw [HV.out] at S4 ⊢
 have cV : w4.cell? ⟨v, 0, none⟩ = some (.slice O on oc) := S4.rV.cell 0
 have cN : w4.cell? ⟨w.heap.size, 0, none⟩ = some (.slice none 0 0) := S4.rN.cell 0
 have fN : w4.frozen? ⟨w.heap.size, 0, none⟩ = false := S4.rN.free 0
 have zV : v < w4.heap.size := S4.rV.lt
 have zNv := S4.hv
 clear d4 g4 S3 L3
 cases b with
 | false =>
  have F := hid (S4.result (P := Short) (by unfold Short; omega) S4.nN)
  clear S4
  go_wp2
  exact bodyPost_ret (v := .agg #[.slice O on oc]) (by simp [results, Try.results100, go_sem, cN]) rfl F.out
 | true =>
  have L4 := hid (below p A n c 3 w4 S4.d (by omega) (by omega))
  go_wp2_with fail
  refine L4.out.mono ?_
  rintro e w5 ⟨x, rfl, x0, x1, d5, g5⟩
  have S5 := S4.dice d5 g5
  replace cV : w5.cell? ⟨v, 0, none⟩ = some (.slice O on oc) := S5.rV.cell 0
  replace cN : w5.cell? ⟨w.heap.size, 0, none⟩ = some (.slice none 0 0) := S5.rN.cell 0
  replace fN : w5.frozen? ⟨w.heap.size, 0, none⟩ = false := S5.rN.free 0
  have fV : w5.frozen? ⟨v, 0, none⟩ = false := S5.rV.free 0
  replace zV : v < w5.heap.size := S5.rV.lt
  clear d5 g5 S4 L4
  by_cases hx0 : x = 0
  ·subst hx0
   have S6 := S5.drew
   clear S5 x0 x1
   go_wp2_with fail
   go_region_law (first
    | (refine stepApp1 rfl _ _ rfl w.heap.size O on oc xs (by simp [Act.eval, Act.put]) (Own.alloc S7.own _) w7.heap.size 1 y (by simp [Act.eval, Act.put]) ((Row.new _ _ _).cell 0) (by omega) (by simp; omega) ?_; intro O' oc' w8 ho8 hg8 hat8 hlt8; have r8 := Row.away (S7.alloc _).rV hg8 S7.nV; have cV8 : w8.cell? ⟨v, 0, none⟩ = some (.slice O on oc) := r8.cell 0; have fV8 : w8.frozen? ⟨v, 0, none⟩ = false := r8.free 0)
    | (go_simp; go_at_call 101; refine (fromTo p A n c (-1) 4 _ S6.d (by omega) (by omega) (by omega) (by omega)).mono ?_; rintro e w7 ⟨y, rfl, y0, y1, d7, g7⟩; have S7 := S6.dice d7 g7; have cV7 : w7.cell? ⟨v, 0, none⟩ = some (.slice O on oc) := S7.rV.cell 0; have zV7 : v < w7.heap.size := S7.rV.lt; have hon : on ≤ 4 := by have := Own.len S7.own; omega))
   all_goals
    have S8 := SigSt.put (S7.alloc (.cells #[.int .i64 y] 2)) ho8 hg8 (hat8.elim (fun h => .inl h.symm) (fun h => .inr (by rw [h]; rfl))) (Own.ge S7.own)
    have F := hid (S8.result (P := Short) (by unfold Short; simp; omega) S8.nN)
    have cN8 : (w8.setCell ⟨v, 0, none⟩ (.slice (some ⟨O', 0, none⟩) (on + 1) oc')).cell? ⟨w.heap.size, 0, none⟩ = some (.slice none 0 0) := S8.rN.cell 0
    have fN8 : (w8.setCell ⟨v, 0, none⟩ (.slice (some ⟨O', 0, none⟩) (on + 1) oc')).frozen? ⟨w.heap.size, 0, none⟩ = false := S8.rN.free 0
    clear S8 S7 S6 ho8 hg8 hat8 hlt8 r8 d7 g7 cV7
    go_wp2
    exact bodyPost_ret (v := .agg #[.slice (some ⟨O', 0, none⟩) (on + 1) oc']) (by simp [results, Try.results100, go_sem, cN8]) rfl F.out
  ·by_cases hx1' : x = 1
   ·subst hx1'
    have S6 : SigSt w p A n c v ((w5.alloc (.cells #[] 2)).setCell ⟨v, 0, none⟩ (.slice (some ⟨w5.heap.size, 0, none⟩) 0 0)) (some ⟨w5.heap.size, 0, none⟩) 0 0 [] :=
     S5.put (own_empty w5 w.heap.size (by omega)) (World.grownBy_alloc _ _ _) (.inr rfl) (Own.ge S5.own)
    have F := S6.result (P := Short) (by unfold Short; simp) S6.nN
    rw [World.setCell_alloc_past (hn := zV), World.setCell_alloc_past (hn := by simp; omega)] at F
    have HF := hid F
    have zz : w.heap.size < w5.heap.size := by omega
    have znv : ¬ w.heap.size = v := by omega
    have zvn : ¬ v = w.heap.size := by omega
    clear F S6 S5 x0 x1 hx0
    go_wp2
    exact bodyPost_ret (v := .agg #[.slice (some ⟨w5.heap.size, 0, none⟩) 0 0]) (by simp [results, Try.results100, go_sem, cN, zz, znv, zvn]) rfl HF.out
   ·have e2 : x = 2 := by omega
    subst e2
    have L6 := hid (below p A n c 2 w5 S5.d (by omega) (by omega))
    clear x0 x1 hx0 hx1'
    go_wp2_with fail
    refine L6.out.mono ?_
    rintro e w7 ⟨y, rfl, y0, y1, d7, g7⟩
    have S7 := S5.dice d7 g7
    replace cV : w7.cell? ⟨v, 0, none⟩ = some (.slice O on oc) := S7.rV.cell 0
    replace cN : w7.cell? ⟨w.heap.size, 0, none⟩ = some (.slice none 0 0) := S7.rN.cell 0
    replace fN : w7.frozen? ⟨w.heap.size, 0, none⟩ = false := S7.rN.free 0
    replace fV : w7.frozen? ⟨v, 0, none⟩ = false := S7.rV.free 0
    replace zV : v < w7.heap.size := S7.rV.lt
    obtain ⟨k, rfl⟩ := Int.eq_ofNat_of_zero_le y0
    have hmk : ∀ W : World, (Instr.makeSlice 24 (.int .i64 (8 + (k : Int))) (.int .i64 (8 + (k : Int)))).run Try.prog W = .ok (.slice (some ⟨W.heap.size, 0, none⟩) (8 + k) (8 + k)) (W.alloc (.cells (madeCells #[.int .i64 0] (8 + k)) 2)) := fun W => by
     have := run_make_i64 (8 + k) (by omega) W
     rwa [show ((8 + k : Nat) : Int) = 8 + (k : Int) by simp] at this
    have hcells : ∀ j, j < 8 + k → (madeCells #[Value.int .i64 0] (8 + k))[j]? = some (.int .i64 ((List.replicate (8 + k) (0 : Int)).getD j 0)) := fun j hj => by
     simp [madeCells, List.getD, hj, Nat.mod_one]
    have S8 : SigSt w p A n c v ((w7.alloc (.cells (madeCells #[.int .i64 0] (8 + k)) 2)).setCell ⟨v, 0, none⟩ (.slice (some ⟨w7.heap.size, 0, none⟩) (8 + k) (8 + k))) (some ⟨w7.heap.size, 0, none⟩) (8 + k) (8 + k) (List.replicate (8 + k) 0) :=
     S7.put (Own.of_row (Row.new _ _ _) (by simp) (size_madeCells _ _) (Nat.le_refl _) (by omega) (by omega) hcells) (World.grownBy_alloc _ _ _) (.inr rfl) (Own.ge S7.own)
    have F := S8.result (P := Short) (by unfold Short; simp; omega) S8.nN
    rw [World.setCell_alloc_past (hn := zV), World.setCell_alloc_past (hn := by simp; omega)] at F
    have HF := hid F
    have zz : w.heap.size < w7.heap.size := by omega
    have znv : ¬ w.heap.size = v := by omega
    have zvn : ¬ v = w.heap.size := by omega
    clear F S8 S7 S5 d7 g7 hcells L6
    go_wp2
    exact bodyPost_ret (v := .agg #[.slice (some ⟨w7.heap.size, 0, none⟩) (8 + k) (8 + k)]) (by simp [results, Try.results100, go_sem, cN, zz, znv, zvn]) rfl HF.out
end drawSig
end
section
open Go.Lib (hid)
namespace drawTerm
open Go.RowKit base ints sig term cursor marks app sym dice drawSig
set_option maxRecDepth 100000
def Rd (w : World) (p B : Nat) (A : Option Addr) (n : Nat) (xs : List Int) : Prop :=
 xs.length = n ∧ (0 < n → ∃ b off, A = some ⟨b, off, none⟩ ∧ b < B ∧ b ≠ p ∧ ∀ j, j < n → w.cell? ⟨b, off + j, none⟩ = some (.int .i64 (xs.getD j 0)))
theorem Rd.more {w : World} {p B B' : Nat} {A : Option Addr} {n : Nat} {xs : List Int} (h : Rd w p B A n xs) (hB : B ≤ B') : Rd w p B' A n xs :=
 ⟨h.1, fun hn => by obtain ⟨b, off, e, hb, hne, hc⟩ := h.2 hn; exact ⟨b, off, e, by omega, hne, hc⟩⟩
theorem Rd.keep {w w' : World} {p B : Nat} {A : Option Addr} {n : Nat} {xs : List Int} (h : Rd w p B A n xs) (hk : ∀ q : Addr, q.block < B → q.block ≠ p → w'.cell? q = w.cell? q) : Rd w' p B A n xs :=
 ⟨h.1, fun hn => by obtain ⟨b, off, e, hb, hne, hc⟩ := h.2 hn; exact ⟨b, off, e, hb, hne, fun j hj => (hk ⟨b, off + j, none⟩ hb hne).trans (hc j hj)⟩⟩
theorem Rd.grown {w w' : World} {p B : Nat} {A : Option Addr} {n : Nat} {xs : List Int} (h : Rd w p B A n xs) (hg : w.grownBy w' (some p)) (hB : B ≤ w.heap.size) : Rd w' p B A n xs :=
 h.keep fun q hq hne => World.cell?_of_block (hg.block q.block (by omega) (fun e => hne (by injection e)))
theorem Rd.below {w w' : World} {p B B' : Nat} {A : Option Addr} {n : Nat} {xs : List Int} (h : Rd w p B A n xs) (hb : Below B' w w') (hB : B ≤ B') : Rd w' p B A n xs :=
 h.keep fun q hq _ => hb.cell (by omega)
theorem Rd.seg {w : World} {p B : Nat} {A : Option Addr} {n : Nat} {xs : List Int} (h : Rd w p B A n xs) : Seg w B A n xs :=
 ⟨h.1, fun hn => by obtain ⟨b, off, e, hb, _, hc⟩ := h.2 hn; exact ⟨b, off, e, hb, hc⟩⟩
theorem Rd.of_own {w : World} {p base : Nat} {A : Option Addr} {n c : Nat} {xs : List Int} (h : Own w base (.slice A n c) xs) (hp : p < base) : Rd w p w.heap.size A n xs := by
 have hs := Own.seg h
 refine ⟨hs.1, fun hn => ?_⟩
 obtain ⟨b, off, e, hb, hc⟩ := hs.2 hn
 subst e
 exact ⟨b, off, rfl, hb, by have := Own.ge h b rfl; omega, hc⟩
theorem Own.none_cap {w : World} {base : Nat} {A : Option Addr} {n c : Nat} {xs : List Int} (h : Own w base (.slice A n c) xs) : A = none → c = 0 := by
 rintro rfl
 rcases h.form with ⟨e, _⟩ | ⟨g, c', cur, e, _⟩
 ·injection e
 ·injection e with e _ _; cases e
structure DT (w : World) (p : Nat) (A : Option Addr) (n c : Nat) (S : Option Addr) (sn sc : Nat) (sg : List Int) (wr : World) : Prop where
 d : Dice wr p A n c
 r : Row wr w.heap.size 26 #[.slice S sn sc]
 s : Rd wr p w.heap.size S sn sg
 g : w.grownBy wr (some p)
 hp : p < w.heap.size
section
variable {w : World} {p : Nat} {A : Option Addr} {n c : Nat} {S : Option Addr} {sn sc : Nat} {sg : List Int} {wr w' : World}
theorem DT.dice (t : DT w p A n c S sn sc sg wr) (d : Dice w' p A n c) (hg : wr.grownBy w' (some p)) : DT w p A n c S sn sc sg w' :=
 ⟨d, Row.away t.r hg (fun e => by injection e; have := t.hp; omega), t.s.grown hg t.g.size, grown_trans t.g hg, t.hp⟩
theorem DT.below (t : DT w p A n c S sn sc sg wr) (hb : Below (w.heap.size + 1) wr w') : DT w p A n c S sn sc sg w' :=
 ⟨t.d.keep (hb.mono (by have := t.hp; omega)), t.r.below hb (Nat.lt_succ_self _), t.s.below hb (Nat.le_succ _), ⟨hb.os.trans t.g.os, hb.tape.trans t.g.tape, hb.output.trans t.g.output, Nat.le_trans t.g.size hb.size, fun k hk hne => (hb.block k (by omega)).trans (t.g.block k hk hne)⟩, t.hp⟩
theorem DT.drew (t : DT w p A n c S sn sc sg wr) : DT w p A n c S sn sc sg wr.drew := ⟨t.d.drewN 1, t.r.drew, t.s, grown_drewN t.g 1, t.hp⟩
theorem DT.start (hd : Dice w p A n c) (hs : Rd w p w.heap.size S sn sg) : DT w p A n c S sn sc sg (w.alloc (.cells #[.slice S sn sc] 26)) :=
 ⟨hd.alloc _, Row.new _ _ _, hs.below ((Below.refl _ _).alloc (Nat.le_refl _) _) (Nat.le_refl _), World.grownBy_alloc _ _ _, hd.lt⟩
end
def AnsT (w : World) (p : Nat) (A : Option Addr) (n c L : Nat) (e : Ending) (w' : World) : Prop :=
 ∃ O on oc xs, e = .returned (.slice O on oc) ∧ Own w' w.heap.size (.slice O on oc) xs ∧ 1 ≤ on ∧ on ≤ L ∧ Dice w' p A n c ∧ w.grownBy w' (some p)
theorem leaf {w : World} {p : Nat} {A : Option Addr} {n c L : Nat} {S : Option Addr} {sn sc : Nat} {sg : List Int} {u : World} (t : DT w p A n c S sn sc sg u) (hL : 1 ≤ L) (y : Int) :
  AnsT w p A n c L (.returned (.slice (some ⟨u.heap.size, 0, none⟩) 1 1)) (u.alloc (.cells #[.int .i64 y] 2)) :=
 ⟨_, _, _, [y], rfl, Own.of_row (Row.new _ _ _) rfl rfl (Nat.le_refl _) (by omega) t.g.size (fun j hj => by match j, hj with | 0, _ => rfl), Nat.le_refl _, hL, t.d.alloc _, grown_trans t.g (World.grownBy_alloc _ _ _)⟩
def HeadT (w : World) (p : Nat) (A : Option Addr) (n c : Nat) (S : Option Addr) (sn sc : Nat) (sg : List Int) (M : Nat) (out k : Value) (wr : World) : Prop :=
 ∃ (q : Nat) (O : Option Addr) (on oc : Nat) (xs : List Int), k = .int .i64 q ∧ q ≤ 3 ∧ out = .slice O on oc ∧ Own wr (w.heap.size + 1) (.slice O on oc) xs ∧ 1 ≤ on ∧ on + q * M ≤ 1 + 3 * M ∧ DT w p A n c S sn sc sg wr
theorem one_le_four (f : Nat) : 1 ≤ 4 ^ f := Nat.one_le_pow _ _ (by omega)
set_option maxHeartbeats 4000000 in
theorem drawTerm (p : Nat) (A : Option Addr) (n c : Nat) (S : Option Addr) (sn sc : Nat) (sg : List Int) (vars : Int) (hs : Arities sg) (hn1 : 1 ≤ sn) (hn2 : sn ≤ 256) (hv0 : 1 ≤ vars) (hv1 : vars ≤ 256) : ∀ (f0 : Nat) (depth : Int) (w : World),
  Dice w p A n c → Rd w p w.heap.size S sn sg → f0 ≤ 4 → -1000 ≤ depth → depth ≤ (f0 : Int) + 1 →
  Calls Try.prog 102 #[.pointer (some ⟨p, 0, none⟩), .agg #[.slice S sn sc], .int .i64 depth, .int .i64 vars] w (AnsT w p A n c (4 ^ f0)) := by
 intro f0
 induction f0 with
 | zero =>
  intro depth w hd hr hf hlo hdep
  obtain ⟨LL, hLe⟩ : ∃ LL, 4 ^ 0 = LL := ⟨_, rfl⟩
  have hLL : 1 ≤ LL := by rw [← hLe]; exact one_le_four 0
  rw [hLe]
  clear hLe
  have T0 := DT.start (sc := sc) hd hr
  have hz : depth ≤ 1 := by omega
  obtain ⟨W, hW⟩ : ∃ W, W = w.alloc (.cells #[.slice S sn sc] 26) := ⟨_, rfl⟩
  rw [← hW] at T0
  have HW := hid hW
  clear hd hr hW
  go_enter Try.func102, Try.ntmps102
  go_wp2_with fail
  rw [← HW.out]
  have cS : W.cell? ⟨w.heap.size, 0, none⟩ = some (.slice S sn sc) := T0.r.cell 0
  go_wp2_with fail
  refine (once p A n c 2 _ T0.d (by omega) (by omega)).mono ?_
  rintro e u1 ⟨b, rfl, d1, g1⟩
  have T1 := T0.dice d1 g1
  clear d1 g1 cS T0
  cases b with
  | true =>
   go_wp2_with fail
   refine (below p A n c vars _ T1.d hv0 hv1).mono ?_
   rintro e u2 ⟨x, rfl, x0, x1, d2, g2⟩
   have F := hid (leaf (T1.dice d2 g2) hLL (-1 - x))
   clear T1 d2 g2
   go_wp2
   go_ret
   exact F.out
  | false =>
   have cS1 : u1.cell? ⟨w.heap.size, 0, none⟩ = some (.slice S sn sc) := T1.r.cell 0
   go_wp2_with fail
   go_loop [9] (fun i => ∃ k : Nat, k ≤ sn ∧ i = .int .i64 ((k : Int) - 1)) (fun i => (intOf i + 1).toNat)
   case atStart => exact ⟨sn, Nat.le_refl _, rfl⟩
   case round =>
    obtain ⟨k, hk, rfl⟩ := hrel
    by_cases hk0 : k = 0
    ·subst hk0
     have F := hid (leaf T1 hLL (-1))
     clear T1
     go_wp2
     go_ret
     exact F.out
    ·obtain ⟨k1, rfl⟩ : ∃ k1, k = k1 + 1 := ⟨k - 1, by omega⟩
     obtain ⟨b, off, y, rfl, hb, hy, ey⟩ := T1.s.seg.spot (show k1 < sn by omega)
     by_cases hy0 : y = 0
     ·subst hy0
      have F := hid (leaf T1 hLL (k1 : Int))
      clear T1 ey
      go_wp2
      go_ret
      exact F.out
     ·have e2 : (y == 0) = false := by simp [hy0]
      clear T1 ey
      go_wp2
      go_round
      case rel => exact ⟨k1, by omega, congrArg (Value.int .i64) (by omega)⟩
      case measure => first | (simp [intOf]; done) | (simp [intOf]; omega)
 | succ f ih =>
  intro depth w hd hr hf hlo hdep
  have IH := hid ih
  clear ih
  obtain ⟨M, hM⟩ : ∃ M, 4 ^ f = M := ⟨_, rfl⟩
  have hM1 : 1 ≤ M := by rw [← hM]; exact one_le_four f
  have hM2 : M ≤ 64 := by rw [← hM]; exact Nat.pow_le_pow_right (n := 4) (by omega) (show f ≤ 3 by omega)
  obtain ⟨LL, hLe⟩ : ∃ LL, 4 ^ (f + 1) = LL := ⟨_, rfl⟩
  have hLM : LL = 4 * M := by rw [← hLe, ← hM, Nat.pow_succ, Nat.mul_comm]
  have hLL : 1 ≤ LL := by omega
  rw [hLe]
  rw [hM] at IH
  clear hLe hM
  have HLM := hid hLM
  clear hLM
  have T0 := DT.start (sc := sc) hd hr
  obtain ⟨W, hW⟩ : ∃ W, W = w.alloc (.cells #[.slice S sn sc] 26) := ⟨_, rfl⟩
  rw [← hW] at T0
  have HW := hid hW
  clear hd hr hW
  by_cases hz : depth ≤ 1
  ·go_enter Try.func102, Try.ntmps102
   go_wp2_with fail
   rw [← HW.out]
   have cS : W.cell? ⟨w.heap.size, 0, none⟩ = some (.slice S sn sc) := T0.r.cell 0
   go_wp2_with fail
   refine (once p A n c 2 _ T0.d (by omega) (by omega)).mono ?_
   rintro e u1 ⟨b, rfl, d1, g1⟩
   have T1 := T0.dice d1 g1
   clear d1 g1 cS T0
   cases b with
   | true =>
    go_wp2_with fail
    refine (below p A n c vars _ T1.d hv0 hv1).mono ?_
    rintro e u2 ⟨x, rfl, x0, x1, d2, g2⟩
    have F := hid (leaf (T1.dice d2 g2) hLL (-1 - x))
    clear T1 d2 g2
    go_wp2
    go_ret
    exact F.out
   | false =>
    have cS1 : u1.cell? ⟨w.heap.size, 0, none⟩ = some (.slice S sn sc) := T1.r.cell 0
    go_wp2_with fail
    go_loop [9] (fun i => ∃ k : Nat, k ≤ sn ∧ i = .int .i64 ((k : Int) - 1)) (fun i => (intOf i + 1).toNat)
    case atStart => exact ⟨sn, Nat.le_refl _, rfl⟩
    case round =>
     obtain ⟨k, hk, rfl⟩ := hrel
     by_cases hk0 : k = 0
     ·subst hk0
      have F := hid (leaf T1 hLL (-1))
      clear T1
      go_wp2
      go_ret
      exact F.out
     ·obtain ⟨k1, rfl⟩ : ∃ k1, k = k1 + 1 := ⟨k - 1, by omega⟩
      obtain ⟨b, off, y, rfl, hb, hy, ey⟩ := T1.s.seg.spot (show k1 < sn by omega)
      by_cases hy0 : y = 0
      ·subst hy0
       have F := hid (leaf T1 hLL (k1 : Int))
       clear T1 ey
       go_wp2
       go_ret
       exact F.out
      ·have e2 : (y == 0) = false := by simp [hy0]
       clear T1 ey
       go_wp2
       go_round
       case rel => exact ⟨k1, by omega, congrArg (Value.int .i64) (by omega)⟩
       case measure => first | (simp [intOf]; done) | (simp [intOf]; omega)
  ·have hz1 : (1 : Int) < depth := by omega
   go_enter Try.func102, Try.ntmps102
   go_wp2_with fail
   rw [← HW.out]
   refine (once p A n c 4 _ T0.d (by omega) (by omega)).mono ?_
   rintro e u0 ⟨b, rfl, d0, g0⟩
   have T2 := T0.dice d0 g0
   clear d0 g0 T0
   cases b with
   | true =>
    have cS : u0.cell? ⟨w.heap.size, 0, none⟩ = some (.slice S sn sc) := T2.r.cell 0
    go_wp2_with fail
    refine (once p A n c 2 _ T2.d (by omega) (by omega)).mono ?_
    rintro e u1 ⟨b, rfl, d1, g1⟩
    have T1 := T2.dice d1 g1
    clear d1 g1 cS T2
    cases b with
    | true =>
     go_wp2_with fail
     refine (below p A n c vars _ T1.d hv0 hv1).mono ?_
     rintro e u2 ⟨x, rfl, x0, x1, d2, g2⟩
     have F := hid (leaf (T1.dice d2 g2) hLL (-1 - x))
     clear T1 d2 g2
     go_wp2
     go_ret
     exact F.out
    | false =>
     have cS1 : u1.cell? ⟨w.heap.size, 0, none⟩ = some (.slice S sn sc) := T1.r.cell 0
     go_wp2_with fail
     go_loop [9] (fun i => ∃ k : Nat, k ≤ sn ∧ i = .int .i64 ((k : Int) - 1)) (fun i => (intOf i + 1).toNat)
     case atStart => exact ⟨sn, Nat.le_refl _, rfl⟩
     case round =>
      obtain ⟨k, hk, rfl⟩ := hrel
      by_cases hk0 : k = 0
      ·subst hk0
       have F := hid (leaf T1 hLL (-1))
       clear T1
       go_wp2
       go_ret
       exact F.out
      ·obtain ⟨k1, rfl⟩ : ∃ k1, k = k1 + 1 := ⟨k - 1, by omega⟩
       obtain ⟨b, off, y, rfl, hb, hy, ey⟩ := T1.s.seg.spot (show k1 < sn by omega)
       by_cases hy0 : y = 0
       ·subst hy0
        have F := hid (leaf T1 hLL (k1 : Int))
        clear T1 ey
        go_wp2
        go_ret
        exact F.out
       ·have e2 : (y == 0) = false := by simp [hy0]
        clear T1 ey
        go_wp2
        go_round
        case rel => exact ⟨k1, by omega, congrArg (Value.int .i64) (by omega)⟩
        case measure => first | (simp [intOf]; done) | (simp [intOf]; omega)
   | false =>
    have cS : u0.cell? ⟨w.heap.size, 0, none⟩ = some (.slice S sn sc) := T2.r.cell 0
    go_wp2_with fail
    refine (below p A n c (sn : Int) _ T2.d (by omega) (by omega)).mono ?_
    rintro e u1 ⟨x, rfl, x0, x1, d1, g1⟩
    obtain ⟨k, rfl⟩ := Int.eq_ofNat_of_zero_le x0
    have T3 := T2.dice d1 g1
    have hks : k < sn := by omega
    have hsl := T3.s.1
    obtain ⟨b, off, y, rfl, hb, hy, ey⟩ := T3.s.seg.spot hks
    have hyb := hs k (by omega)
    rw [ey.out] at hyb
    obtain ⟨q, rfl⟩ := Int.eq_ofNat_of_zero_le hyb.1
    have hq3 : q ≤ 3 := by omega
    have T4 : DT w p A n c (some ⟨b, off, none⟩) sn sc sg (u1.alloc (.cells #[.int .i64 (k : Int)] 2)) := T3.below ((Below.refl _ _).alloc (by have := T3.r.lt; omega) _)
    have O4 : Own (u1.alloc (.cells #[.int .i64 (k : Int)] 2)) (w.heap.size + 1) (.slice (some ⟨u1.heap.size, 0, none⟩) 1 1) [(k : Int)] :=
     Own.of_row (Row.new _ _ _) rfl rfl (Nat.le_refl _) (by omega) (by have := T3.r.lt; omega) (fun j hj => by match j, hj with | 0, _ => rfl)
    have H0 : HeadT w p A n c (some ⟨b, off, none⟩) sn sc sg M (.slice (some ⟨u1.heap.size, 0, none⟩) 1 1) (.int .i64 (q : Int)) (u1.alloc (.cells #[.int .i64 (k : Int)] 2)) :=
     ⟨q, _, _, _, _, rfl, hq3, rfl, O4, Nat.le_refl _, by have := Nat.mul_le_mul_right M hq3; omega, T4⟩
    have HH := hid H0
    have cS1 : u1.cell? ⟨w.heap.size, 0, none⟩ = some (.slice (some ⟨b, off, none⟩) sn sc) := T3.r.cell 0
    have zN : w.heap.size < u1.heap.size := T3.r.lt
    have zb : b < u1.heap.size := by omega
    have i1 : (k : Int) < (sn : Int) := by omega
    clear H0 T4 O4 T3 T2 d1 g1 cS ey hsl hyb
    go_wp2_with fail
    go_loopw [11, 12] (fun out kk wr => HeadT w p A n c (some ⟨b, off, none⟩) sn sc sg M out kk wr) (fun _ kk _ => (intOf kk).toNat)
    case atStart => exact HH.out
    case round =>
     obtain ⟨q, O, on, oc, xs, rfl, hq3, rfl, ho, ho1, hoM, T⟩ := hrel
     clear HH
     have cS : wr.cell? ⟨w.heap.size, 0, none⟩ = some (.slice (some ⟨b, off, none⟩) sn sc) := T.r.cell 0
     cases q with
     | zero =>
      have F : AnsT w p A n c LL (.returned (.slice O on oc)) wr := ⟨O, on, oc, xs, rfl, Own.lower ho (Nat.le_succ _), ho1, by have := HLM.out; omega, T.d, T.g⟩
      have HF := hid F
      clear F T ho
      go_wp2
      go_ret
      exact HF.out
     | succ q =>
      have e0 : (0 : Int) < ((q + 1 : Nat) : Int) := by omega
      have hoM' : on + q * M + M ≤ 1 + 3 * M := by have e : (q + 1) * M = q * M + M := Nat.succ_mul q M; omega
      have hon : on ≤ 193 := by have := Nat.zero_le (q * M); omega
      go_wp2_with fail
      refine (IH.out (depth - 1) wr T.d (T.s.more T.g.size) (by omega) (by omega) (by omega)).mono ?_
      rintro e u2 ⟨O2, on2, oc2, ys, rfl, o2, h1, h2, d2, g2⟩
      have T2 := T.dice d2 g2
      have ho2 := Own.far ho g2 (fun k hk => by injection hk; have := T.hp; omega)
      have z2 := T2.r.lt
      clear ho T d2 g2 cS
      go_wp2_with (at_builtin; refine appAll rfl _ _ rfl (w.heap.size + 1) O on oc xs rfl ho2 O2 on2 oc2 u2.heap.size ys rfl (Own.seg o2) (Own.none_cap o2) (by omega) (by omega) (by omega) ?_; intro O3 oc3 u3 ho3 b3)
      have F : HeadT w p A n c (some ⟨b, off, none⟩) sn sc sg M (.slice O3 (on + on2) oc3) (.int .i64 (q : Int)) u3 := ⟨q, O3, on + on2, oc3, _, rfl, by omega, rfl, ho3, by omega, by omega, T2.below b3⟩
      have HF := hid F
      clear F ho3 b3 T2 ho2 o2
      go_wp2
      go_roundw
      case rel => first | exact HF.out | simpa using HF.out
      case measure => simp [intOf]
end drawTerm
end
section
open Go.Lib (hid)
namespace drawAny
open Go.RowKit base ints sig term cursor termOk marks app sym dice drawSig drawTerm
set_option maxRecDepth 100000
def AnsR (w : World) (p : Nat) (A : Option Addr) (n c L : Nat) (e : Ending) (w' : World) : Prop :=
 ∃ O on oc xs, e = .returned (.slice O on oc) ∧ Rd w' p w'.heap.size O on xs ∧ on ≤ oc ∧ oc ≤ 9223372036854775807 ∧ (O = none → oc = 0) ∧ on ≤ L ∧ Dice w' p A n c ∧ w.grownBy w' (some p)
theorem Own.cap {w : World} {base : Nat} {O : Option Addr} {on oc : Nat} {xs : List Int} (h : Own w base (.slice O on oc) xs) : on ≤ oc ∧ oc ≤ 9223372036854775807 := by
 rcases h.2 with ⟨e, _⟩ | ⟨g, cap, cur, e, _, _, h1, h2, _⟩
 ·injection e with _ e1 e2; omega
 ·injection e with _ e1 e2
  have := Own.len h
  unfold maxLen at h2
  omega
def AnsRN (w : World) (p : Nat) (A : Option Addr) (n c L : Nat) (e : Ending) (w' : World) : Prop :=
 ∃ O on oc xs, e = .returned (.slice O on oc) ∧ Rd w' p w'.heap.size O on xs ∧ on ≤ oc ∧ oc ≤ 9223372036854775807 ∧ (O = none → oc = 0) ∧ on ≤ L ∧ Dice w' p A n c ∧ w.grownBy w' (some p) ∧ ∀ k, blk O = some k → w.heap.size ≤ k
theorem ansRN_own {w w' : World} {p : Nat} {A : Option Addr} {n c L : Nat} {O : Option Addr} {on oc base : Nat} {xs : List Int} (h : Own w' base (.slice O on oc) xs) (hp : p < base) (hb : w.heap.size ≤ base) (hL : on ≤ L) (d : Dice w' p A n c) (g : w.grownBy w' (some p)) : AnsRN w p A n c L (.returned (.slice O on oc)) w' :=
 ⟨O, on, oc, xs, rfl, Rd.of_own h hp, (Own.cap h).1, (Own.cap h).2, Own.none_cap h, hL, d, g, fun k hk => Nat.le_trans hb (Own.ge h k hk)⟩
theorem Own.some_ {w : World} {base : Nat} {O : Option Addr} {on oc : Nat} {xs : List Int} (h : Own w base (.slice O on oc) xs) (h1 : 1 ≤ on) : ∃ g, O = some ⟨g, 0, none⟩ := by
 rcases h.2 with ⟨e, _⟩ | ⟨g, cap, cur, e, _⟩
 ·injection e with _ e1 e2; omega
 ·injection e with e _ _; exact ⟨g, e⟩
theorem Own.cellAt {w : World} {base g on oc : Nat} {xs : List Int} (h : Own w base (.slice (some ⟨g, 0, none⟩) on oc) xs) {k : Nat} (hk : k < on) : ∃ u, w.cell? ⟨g, k, none⟩ = some u := by
 have hl := Own.len h
 subst hl
 have := World.ownsRow.cellAt h k (by omega)
 exact ⟨_, this.trans (List.getElem?_eq_getElem (by simpa using hk))⟩
theorem Own.frozenAt {w : World} {base g on oc : Nat} {xs : List Int} (h : Own w base (.slice (some ⟨g, 0, none⟩) on oc) xs) (k : Nat) : w.frozen? ⟨g, k, none⟩ = false := by
 have hl := Own.len h
 subst hl
 exact World.ownsRow.frozenAt h k
theorem Own.put {w : World} {base g on oc : Nat} {xs : List Int} (h : Own w base (.slice (some ⟨g, 0, none⟩) on oc) xs) (k : Nat) (y : Int) : Own (w.setCell ⟨g, k, none⟩ (.int .i64 y)) base (.slice (some ⟨g, 0, none⟩) on oc) (xs.set k y) := by
 have hl := Own.len h
 subst hl
 have := World.ownsRow.stored h k (.int .i64 y)
 unfold Own
 rw [List.length_set, List.map_set]
 exact this.1
theorem Rd.tail {w : World} {p B b off n : Nat} {xs : List Int} (h : Rd w p B (some ⟨b, off, none⟩) n xs) (h1 : 1 ≤ n) : Rd w p B (some ⟨b, off + 1, none⟩) (n - 1) (xs.drop 1) := by
 refine ⟨by have := h.1; simp; omega, fun hn => ?_⟩
 obtain ⟨b', off', e, hb, hne, hc⟩ := h.2 (by omega)
 injection e with e
 injection e with e1 e2
 subst e1 e2
 refine ⟨_, _, rfl, hb, hne, fun j hj => ?_⟩
 rw [Nat.add_assoc, hc (1 + j) (by omega)]
 simp [List.getD, Nat.add_comm]
theorem Rd.none_ {w : World} {p B : Nat} {O : Option Addr} : Rd w p B O 0 [] := ⟨rfl, fun h => absurd h (by omega)⟩
set_option maxHeartbeats 4000000 in
theorem drawAnyN (p : Nat) (A : Option Addr) (n c : Nat) (S : Option Addr) (sn sc : Nat) (sg : List Int) (w : World) (hd : Dice w p A n c) (hr : Rd w p w.heap.size S sn sg) (hsn : sn ≤ 1048576) :
  Calls Try.prog 59 #[.pointer (some ⟨p, 0, none⟩), .agg #[.slice S sn sc]] w (AnsRN w p A n c 65) := by
 have T0 := DT.start (sc := sc) hd hr
 obtain ⟨W, hW⟩ : ∃ W, W = w.alloc (.cells #[.slice S sn sc] 26) := ⟨_, rfl⟩
 rw [← hW] at T0
 have HW := hid hW
 clear hd hr hW
 have hN := T0.hp
 by_cases hs0 : sn = 0
 ·subst hs0
  go_enter Try.func59, Try.ntmps59
  go_wp2_with fail
  rw [← HW.out]
  refine (fromTo p A n c (-2) 2 _ T0.d (by omega) (by omega) (by omega) (by omega)).mono ?_
  rintro e u1 ⟨x, rfl, x0, x1, d1, g1⟩
  obtain ⟨O, on, oc, xs, he, o1, h1, h2, d2, g2⟩ := leaf (L := 1) (T0.dice d1 g1) (Nat.le_refl _) x
  have F : AnsRN w p A n c 65 _ _ := ansRN_own o1 hN (Nat.le_refl _) (by omega) d2 g2
  rw [← he] at F
  have HF := hid F
  clear F he o1 d2 g2 T0 d1 g1
  go_wp2
  go_ret
  exact HF.out
 ·have e0 : ((sn : Int) == 0) = false := by simp; omega
  have L := hid (specSigOk S sn sc sg W (T0.s.seg.more T0.g.size) hsn)
  cases hok : sigOkB sg with
  | false =>
   have HS := hid hok
   clear hok
   go_enter Try.func59, Try.ntmps59
   go_wp2_with fail
   rw [← HW.out]
   refine L.out.mono ?_
   rintro e u0 ⟨he, bb⟩
   rw [HS.out] at he
   subst he
   have T1 := T0.below (bb.mono (by have := T0.r.lt; omega))
   clear T0 bb L
   go_wp2_with fail
   refine (fromTo p A n c (-2) 2 _ T1.d (by omega) (by omega) (by omega) (by omega)).mono ?_
   rintro e u1 ⟨x, rfl, x0, x1, d1, g1⟩
   obtain ⟨O, on, oc, xs, he, o1, h1, h2, d2, g2⟩ := leaf (L := 1) (T1.dice d1 g1) (Nat.le_refl _) x
   have F : AnsRN w p A n c 65 _ _ := ansRN_own o1 hN (Nat.le_refl _) (by omega) d2 g2
   rw [← he] at F
   have HF := hid F
   clear F he o1 d2 g2 T1 d1 g1
   go_wp2
   go_ret
   exact HF.out
  | true =>
   have HS := hid hok
   have hars := (sig_arities hok).1
   have hl8 := (sig_arities hok).2.2
   have hsl := T0.s.1
   have hs8 : sn ≤ 8 := by omega
   clear hok hsl hl8
   go_enter Try.func59, Try.ntmps59
   go_wp2_with fail
   rw [← HW.out]
   refine L.out.mono ?_
   rintro e u0 ⟨he, bb⟩
   rw [HS.out] at he
   subst he
   have T1 := (T0.below (bb.mono (by have := T0.r.lt; omega))).drew
   have cS : u0.cell? ⟨w.heap.size, 0, none⟩ = some (.slice S sn sc) := T1.r.cell 0
   clear T0 bb L
   go_wp2_with fail
   go_region_held3 (fun w' => w'.cell? ⟨w.heap.size, 0, none⟩ = some (.slice S sn sc))
    (go_keep)
    (first
     | (go_at_call 61; refine (below p A n c 4 _ T1.d (by omega) (by omega)).mono ?_; rintro e u1 ⟨x, rfl, x0, x1, d1, g1⟩; have T2 := T1.dice d1 g1; have cS2 : u1.cell? ⟨w.heap.size, 0, none⟩ = some (.slice S sn sc) := T2.r.cell 0; have hw : IntKind.i64.wrap (1 + x) = 1 + x := by rw [IntKind.wrap_i64]; omega)
     | (go_at_call 102; refine (drawTerm p A n c S sn sc sg 3 hars (by omega) (by omega) (by omega) (by omega) 3 (1 + x) u1 T2.d (T2.s.more T2.g.size) (by omega) (by clear hw; omega) (by clear hw; omega)).mono ?_; rintro e u2 ⟨O, on, oc, xs, rfl, o2, h1, h2, d2, g2⟩; have T3 := T2.dice d2 g2; have cS3 : u2.cell? ⟨w.heap.size, 0, none⟩ = some (.slice S sn sc) := T3.r.cell 0))
   have o3 : Own u2 (w.heap.size + 1) (.slice O on oc) xs := Own.lower o2 (by have := T2.r.lt; omega)
   obtain ⟨gg, rfl⟩ := Own.some_ o3 h1
   have hgg : w.heap.size + 1 ≤ gg := Own.ge o3 gg rfl
   have hL : on ≤ 64 := h2
   clear hw o2 T2 T1 d1 g1 d2 g2 cS cS2 cS3 h2 x0 x1
   have hp1 : p < w.heap.size + 1 := by omega
   go_wp2_with fail
   refine (once p A n c 12 _ T3.d (by omega) (by omega)).mono ?_
   rintro e u3 ⟨b, rfl, d1, g1⟩
   have T4 := T3.dice d1 g1
   have o4 := Own.far o3 g1 (fun k hk => by injection hk; omega)
   clear T3 o3 d1 g1
   cases b with
   | false =>
    have F : AnsRN w p A n c 65 (.returned (.slice (some ⟨gg, 0, none⟩) on oc)) u3 := ansRN_own o4 hp1 (by omega) (by omega) T4.d T4.g
    have HF := hid F
    clear F T4 o4
    go_wp2
    go_ret
    exact HF.out
   | true =>
    go_wp2_with fail
    refine (below p A n c 4 _ T4.d (by omega) (by omega)).mono ?_
    rintro e u4 ⟨x, rfl, x0, x1, d1, g1⟩
    have T5 := T4.dice d1 g1
    have o5 := Own.far o4 g1 (fun k hk => by injection hk; omega)
    clear T4 o4 d1 g1
    by_cases hx0 : x = 0
    ·subst hx0
     go_wp2_with fail
     refine (fromTo p A n c (-2) 3 _ T5.d (by omega) (by omega) (by omega) (by omega)).mono ?_
     rintro e u5 ⟨y, rfl, y0, y1, d1, g1⟩
     have T6 := T5.dice d1 g1
     have o6 := Own.far o5 g1 (fun k hk => by injection hk; omega)
     have z6 := T6.r.lt
     clear T5 o5 d1 g1 x0 x1
     go_wp2_with (at_builtin; refine app1 rfl _ _ rfl (w.heap.size + 1) (some ⟨gg, 0, none⟩) on oc xs rfl (Own.alloc o6 _) u5.heap.size 1 y rfl ((Row.new _ _ _).cell 0) (by omega) (by simp; omega) ?_; intro O' oc' u6 o7 b7)
     have T7 := (T6.below ((Below.refl _ _).alloc (by omega) (.cells #[.int .i64 y] 2))).below b7
     have F : AnsRN w p A n c 65 (.returned (.slice O' (on + 1) oc')) u6 := ansRN_own o7 hp1 (by omega) (by omega) T7.d T7.g
     have HF := hid F
     clear F T7 T6 o6 o7 b7
     go_wp2
     go_ret
     exact HF.out
    ·by_cases hx1 : x = 1
     ·subst hx1
      go_wp2_with fail
      refine (below p A n c (on : Int) _ T5.d (by omega) (by omega)).mono ?_
      rintro e u5 ⟨y, rfl, y0, y1, d1, g1⟩
      obtain ⟨k, rfl⟩ := Int.eq_ofNat_of_zero_le y0
      have T6 := T5.dice d1 g1
      have o6 := Own.far o5 g1 (fun k hk => by injection hk; omega)
      clear T5 o5 d1 g1 x0 x1 hx0
      go_wp2_with fail
      refine (fromTo p A n c (-3) 4 _ T6.d (by omega) (by omega) (by omega) (by omega)).mono ?_
      rintro e u6 ⟨z, rfl, z0, z1, d1, g1⟩
      have T7 := T6.dice d1 g1
      have o7 := Own.far o6 g1 (fun k hk => by injection hk; omega)
      have hk : k < on := by omega
      have i1 : (k : Int) < (on : Int) := by omega
      obtain ⟨u, hu⟩ := Own.cellAt o7 hk
      have hf := Own.frozenAt o7 k
      have o8 := Own.put o7 k z
      have T8 := T7.below ((Below.refl (w.heap.size + 1) u6).setCell (p := ⟨gg, k, none⟩) hgg (.int .i64 z))
      have F : AnsRN w p A n c 65 (.returned (.slice (some ⟨gg, 0, none⟩) on oc)) (u6.setCell ⟨gg, k, none⟩ (.int .i64 z)) := ansRN_own o8 hp1 (by omega) (by omega) T8.d T8.g
      have HF := hid F
      clear F T8 T7 T6 o8 o7 o6 d1 g1
      go_wp2
      go_ret
      exact HF.out
     ·by_cases hx2 : x = 2
      ·subst hx2
       have hcap := Own.cap o5
       have hrd := Rd.of_own o5 hp1
       by_cases hc1 : oc = 1
       ·subst hc1
        have e1 : on = 1 := by omega
        subst e1
        have F : AnsRN w p A n c 65 (.returned (.slice (some ⟨gg, 0, none⟩) 0 0)) u4 := ⟨_, 0, 0, [], rfl, Rd.none_, Nat.le_refl _, by omega, fun e => rfl, by omega, T5.d, T5.g, fun k hk => by (injection hk with e); have e2 : gg = k := e; omega⟩
        have HF := hid F
        clear F T5 o5 hrd x0 x1 hx0 hx1
        go_wp2
        go_ret
        exact HF.out
       ·have F : AnsRN w p A n c 65 (.returned (.slice (some ⟨gg, 0 + 1, none⟩) (on - 1) (oc - 1))) u4 := ⟨_, _, _, _, rfl, Rd.tail hrd h1, by omega, by omega, (fun e => by cases e), by omega, T5.d, T5.g, fun k hk => by (injection hk with e); have e2 : gg = k := e; omega⟩
        have HF := hid F
        have hc2 : ¬ oc = 1 := hc1
        have i1 : (1 : Int) ≤ (on : Int) := by omega
        have i2 : (1 : Int) ≤ (oc : Int) := by omega
        have i3 : (on : Int) ≤ (oc : Int) := by omega
        have i4 : 1 ≤ on := h1
        have i5 : on ≤ oc := hcap.1
        clear F T5 o5 hrd x0 x1 hx0 hx1 hc1 hcap
        go_wp2
        go_ret
        exact HF.out
      ·have e3 : x = 3 := by omega
       subst e3
       clear x0 x1 hx0 hx1 hx2
       go_wp2_with fail
       refine (odd p A n c _ T5.d).mono ?_
       rintro e u5 ⟨y, rfl, d1, g1⟩
       have T6 := T5.dice d1 g1
       have o6 := Own.far o5 g1 (fun k hk => by injection hk; omega)
       have z6 := T6.r.lt
       clear T5 o5 d1 g1
       go_wp2_with (at_builtin; refine app1 rfl _ _ rfl (w.heap.size + 1) (some ⟨gg, 0, none⟩) on oc xs rfl (Own.alloc o6 _) u5.heap.size 1 y rfl ((Row.new _ _ _).cell 0) (by omega) (by simp; omega) ?_; intro O' oc' u6 o7 b7)
       have T7 := (T6.below ((Below.refl _ _).alloc (by omega) (.cells #[.int .i64 y] 2))).below b7
       have F : AnsRN w p A n c 65 (.returned (.slice O' (on + 1) oc')) u6 := ansRN_own o7 hp1 (by omega) (by omega) T7.d T7.g
       have HF := hid F
       clear F T7 T6 o6 o7 b7
       go_wp2
       go_ret
       exact HF.out
theorem drawAny (p : Nat) (A : Option Addr) (n c : Nat) (S : Option Addr) (sn sc : Nat) (sg : List Int) (w : World) (hd : Dice w p A n c) (hr : Rd w p w.heap.size S sn sg) (hsn : sn ≤ 1048576) :
  Calls Try.prog 59 #[.pointer (some ⟨p, 0, none⟩), .agg #[.slice S sn sc]] w (AnsR w p A n c 65) :=
 (drawAnyN p A n c S sn sc sg w hd hr hsn).mono fun _ _ ⟨O, on, oc, xs, h1, h2, h3, h4, h5, h6, h7, h8, _⟩ => ⟨O, on, oc, xs, h1, h2, h3, h4, h5, h6, h7, h8⟩
end drawAny
end
section
namespace drawTwo
open Go.RowKit base ints sig term cursor termOk marks app sym dice drawSig drawTerm drawAny
set_option maxRecDepth 100000
def AnsNew (w : World) (A : Option Addr) (n c : Nat) (e : Ending) (w' : World) : Prop := ∃ p, e = .returned (.pointer (some ⟨p, 0, none⟩)) ∧ w.heap.size ≤ p ∧ Dice w' p A n c ∧ Below w.heap.size w w'
set_option maxHeartbeats 1000000 in
theorem new_ (A : Option Addr) (n c : Nat) (w : World) (h : SegB w w.heap.size A n) (hn : n ≤ 4096) :
  Calls Try.prog 56 #[.slice A n c] w (AnsNew w A n c) := by
 go_enter Try.func56, Try.ntmps56
 go_wp2_with fail
 go_loop [3, 4] (fun hh i => ∃ (k : Nat) (h0 : Int), k ≤ n ∧ i = .int .i64 k ∧ hh = .int .i64 h0) (fun _ i => n - (intOf i).toNat)
 case atStart => exact ⟨0, _, Nat.zero_le _, rfl, rfl⟩
 case round =>
  obtain ⟨k, h0, hk, rfl, rfl⟩ := hrel
  by_cases hlt : k < n
  ·obtain ⟨b, off, rfl, hb, hc⟩ := h (by omega)
   obtain ⟨y, hy0, hy1, hy⟩ := hc k hlt
   clear hc h
   go_wp2
   go_round
   case rel => exact ⟨k + 1, _, hlt, by go_num, rfl⟩
   case measure => simp [intOf]; omega
  ·have F : AnsNew w A n c (.returned (.pointer (some ⟨w.heap.size, 0, none⟩))) (w.alloc (.cells #[.slice A n c, .int .i64 0, .int .i64 h0] 98)) :=
    ⟨_, rfl, Nat.le_refl _, ⟨0, h0, Row.new _ _ _, Nat.zero_le _, h.keep (fun q hq => World.cell?_alloc_lt w _ q hq), hn⟩, (Below.refl _ _).alloc (Nat.le_refl _) _⟩
   have HF := Lib.hid F
   clear F h
   go_wp2
   go_ret
   exact HF.out
end drawTwo
end
section
namespace drawPair
open Go.RowKit base ints sig term cursor termOk marks app sym dice drawSig drawTerm drawAny drawTwo
set_option maxRecDepth 100000
theorem Rd.other {w : World} {p B N : Nat} {O : Option Addr} {on : Nat} {xs : List Int} {a : Option Addr} {l k : Nat} (h : Rd w p B O on xs) (hN : w.cell? ⟨N, 0, none⟩ = some (.slice a l k)) (u : Value) : Rd (w.setCell ⟨N, 0, none⟩ u) p B O on xs :=
 ⟨h.1, fun hn => by
  obtain ⟨b, off, e, hb, hne, hc⟩ := h.2 hn
  refine ⟨b, off, e, hb, hne, fun j hj => ?_⟩
  rw [World.cell?_setCell_other w _ _ _ (fun e => by rw [e] at hN; rw [hc j hj] at hN; cases hN)]
  exact hc j hj⟩
theorem Dice.other {w : World} {p N : Nat} {A : Option Addr} {n c : Nat} {a : Option Addr} {l k : Nat} (d : Dice w p A n c) (hN : w.cell? ⟨N, 0, none⟩ = some (.slice a l k)) (hp : p ≠ N) (u : Value) : Dice (w.setCell ⟨N, 0, none⟩ u) p A n c := by
 obtain ⟨i, h, d⟩ := d
 refine ⟨i, h, d.row.far (p := ⟨N, 0, none⟩) hp u, d.le, fun hn => ?_, d.hn⟩
 obtain ⟨b, off, e, hb, hc⟩ := d.s hn
 refine ⟨b, off, e, hb, fun j hj => ?_⟩
 obtain ⟨x, x0, x1, hx⟩ := hc j hj
 refine ⟨x, x0, x1, ?_⟩
 rw [World.cell?_setCell_other w _ _ _ (fun e => by rw [e] at hN; rw [hx] at hN; cases hN)]
 exact hx
end drawPair
end
section
namespace drawOne
open Go.RowKit base ints sig term cursor termOk marks app sym dice drawSig drawTerm drawAny drawPair
theorem grown_set {a b : World} {r : Option Nat} (h : a.grownBy b r) {q : Nat} (hq : a.heap.size ≤ q) (i : Nat) (u : Value) : a.grownBy (b.setCell ⟨q, i, none⟩ u) r :=
 ⟨h.os, h.tape, h.output, by simpa [World.setCell] using h.size, fun k hk hn => (Below.heap_setCell _ _ _ _ (by show k ≠ q; omega)).trans (h.block k hk hn)⟩
theorem Rd.drew {w : World} {p B : Nat} {A : Option Addr} {n : Nat} {xs : List Int} (h : Rd w p B A n xs) : Rd w.drew p B A n xs := h
end drawOne
end
section
namespace drawAt
open Go.RowKit base ints sig term cursor termOk marks app sym dice drawSig drawTerm drawAny drawPair drawOne
def AnsDAt (w : World) (p : Nat) (A : Option Addr) (n c : Nat) (e : Ending) (w' : World) : Prop :=
 ∃ S sn sc sg O on oc xs x, e = .returned (.tuple #[.agg #[.slice S sn sc], .slice O on oc, .int .i64 x]) ∧ Rd w' p w'.heap.size S sn sg ∧ Rd w' p w'.heap.size O on xs ∧ sn ≤ 9 ∧ on ≤ 65 ∧ on ≤ oc ∧ oc ≤ 9223372036854775807 ∧ (O = none → oc = 0) ∧ -1 ≤ x ∧ x ≤ on ∧ Dice w' p A n c ∧ w.grownBy w' (some p)
theorem at_of {w u : World} {p : Nat} {A : Option Addr} {n c : Nat} {S : Option Addr} {sn sc : Nat} {sg : List Int} {O : Option Addr} {on oc : Nat} {xs : List Int} {x : Int} {B B' : Nat} {a : Option Addr} {l k : Nat} (hs : Rd u p B S sn sg) (hB : B ≤ u.heap.size) (ho : Rd u p B' O on xs) (hB' : B' ≤ u.heap.size)
  (h1 : sn ≤ 9) (h2 : on ≤ 65) (h3 : on ≤ oc) (h4 : oc ≤ 9223372036854775807) (h5 : O = none → oc = 0) (h6 : -1 ≤ x) (h7 : x ≤ on) (d : Dice u p A n c) (hp : p < w.heap.size) (hg : w.grownBy u (some p)) (hN : u.cell? ⟨w.heap.size, 0, none⟩ = some (.slice a l k)) :
  AnsDAt w p A n c (.returned (.tuple #[.agg #[.slice S sn sc], .slice O on oc, .int .i64 x])) (u.setCell ⟨w.heap.size, 0, none⟩ (.slice S sn sc)) :=
 ⟨S, sn, sc, sg, O, on, oc, xs, x, rfl, (Rd.other (Rd.more hs hB) hN _).more (by simp), (Rd.other (Rd.more ho hB') hN _).more (by simp), h1, h2, h3, h4, h5, h6, h7, Dice.other d hN (by omega) _, grown_set hg (Nat.le_refl _) _ _⟩
set_option maxHeartbeats 2000000 in
theorem drawAt (p : Nat) (A : Option Addr) (n c : Nat) (w : World) (hd : Dice w p A n c) :
  Calls Try.prog 75 #[.pointer (some ⟨p, 0, none⟩)] w (AnsDAt w p A n c) := by
 have hp := hd.lt
 obtain ⟨W0, hW0⟩ : ∃ W0, W0 = w.alloc (.cells #[.slice none 0 0] 26) := ⟨_, rfl⟩
 have rN : Row W0 w.heap.size 26 #[.slice none 0 0] := by rw [hW0]; exact Row.new _ _ _
 have d0 : Dice W0 p A n c := by rw [hW0]; exact hd.alloc _
 have g0 : w.grownBy W0 (some p) := by rw [hW0]; exact World.grownBy_alloc _ _ _
 have L2 := Lib.hid (drawSigAny p A n c W0 d0)
 have hp1 := d0.lt
 have zp : ¬ p = w.heap.size := by omega
 have HW0 := Lib.hid hW0
 clear hd d0 hW0
 go_enter Try.func75, Try.ntmps75
 go_wp2_with fail
 rw [← HW0.out]
 refine L2.out.mono ?_
 rintro e w2 ⟨S, sn, sc, sg, rfl, o2, hshort, d2, g2⟩
 have hsn : sn ≤ 9 := by rw [Own.len o2]; exact hshort
 have z0 := rN.lt
 have z2 := g2.size
 replace rN := Row.away rN g2 (fun e => by injection e; omega)
 have G2 := grown_trans g0 g2
 have T0 := DT.start (sc := sc) d2 (Rd.of_own o2 hp1)
 obtain ⟨W, hW⟩ : ∃ W, W = w2.alloc (.cells #[.slice S sn sc] 26) := ⟨_, rfl⟩
 replace rN : Row W w.heap.size 26 #[.slice none 0 0] := by rw [hW]; exact rN.alloc _
 rw [← hW] at T0
 have HW := Lib.hid hW
 have cV : W.cell? ⟨w2.heap.size, 0, none⟩ = some (.slice S sn sc) := T0.r.cell 0
 have zNv : w.heap.size < w2.heap.size := by omega
 have zne1 : ¬ w2.heap.size = w.heap.size := by omega
 have zne2 : ¬ w.heap.size = w2.heap.size := by omega
 have cV0 : (w2.alloc (.cells #[.slice S sn sc] 26)).cell? ⟨w2.heap.size, 0, none⟩ = some (.slice S sn sc) := by rw [← hW]; exact cV
 clear o2 hshort d2 g2 g0 hW L2
 go_wp2_with fail
 rw [← HW.out]
 refine (drawAny p A n c S sn sc sg W T0.d (T0.s.more T0.g.size) (by omega)).mono ?_
 rintro e w3 ⟨O, on, oc, xs, rfl, ra, h1, h2, h3, h4, d3, g3⟩
 have T2 := T0.dice d3 g3
 have rN1 := (Row.away rN g3 (fun e => by injection e; omega)).drew
 have ra1 : Rd w3.drew p w3.heap.size O on xs := Rd.drew ra
 have T3 := T2.drew
 clear cV cV0 rN T0 ra d3 g3 T2
 have cV : w3.drew.cell? ⟨w2.heap.size, 0, none⟩ = some (.slice S sn sc) := T3.r.cell 0
 have cN : w3.drew.cell? ⟨w.heap.size, 0, none⟩ = some (.slice none 0 0) := rN1.cell 0
 have fN : w3.drew.frozen? ⟨w.heap.size, 0, none⟩ = false := rN1.free 0
 have L3 := Lib.hid (fromTo p A n c (-1) (on : Int) w3.drew T3.d (by omega) (by omega) (by omega) (by omega))
 go_wp2_with fail
 go_region_held3 (fun w' => w'.cell? ⟨w2.heap.size, 0, none⟩ = some (.slice S sn sc))
  (go_keep)
  (first
   | (go_at_call 101; refine L3.out.mono ?_; rintro e w4 ⟨x, rfl, x0, x1, d4, g4⟩; have T4 := T3.dice d4 g4; have cV4 : w4.cell? ⟨w2.heap.size, 0, none⟩ = some (.slice S sn sc) := T4.r.cell 0; have rN4 := Row.away rN1 g4 (fun e => by injection e; omega); have cN4 : w4.cell? ⟨w.heap.size, 0, none⟩ = some (.slice none 0 0) := rN4.cell 0; have fN4 : w4.frozen? ⟨w.heap.size, 0, none⟩ = false := rN4.free 0; have F := Lib.hid (at_of (sc := sc) (p := p) T4.s T4.g.size (ra1.grown g4 (Nat.le_refl _)) g4.size hsn h4 h1 h2 h3 x0 x1 T4.d hp (grown_trans G2 T4.g) cN4)))
 clear cV4 rN4 T4 d4 g4 rN1 T3 G2 fN4 ra1
 go_wp2
 exact bodyPost_ret (v := .tuple #[.agg #[.slice S sn sc], .slice O on oc, .int .i64 x]) (by simp [results, Try.results75, go_sem, cN4]) rfl F.out
end drawAt
end
end Go.Proofs.Ytfclafbdbdmlhaa
