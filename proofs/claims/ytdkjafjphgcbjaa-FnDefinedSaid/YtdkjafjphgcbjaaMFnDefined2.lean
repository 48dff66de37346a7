/-
  MERGED: my texts VarsMath, FillMath, DrawTermW, AppAt, Segs, SegsHelp, SegsMark, Kinds, Shape, Shape2, DrawAny, one behind the other, as they are. By an AI agent.
-/
import Derived.Test.YtdkjafjphgcbjaaMFnDefined1
import Derived.Maps.AppendAt
import Derived.Deep.QuietTactic
import Derived.BigQuiet
import Derived.Deep.RegionHeld3
section
/-
  PLAIN MATHEMATICS of the variables of a term: a number put into a rising list ('into'), all of them ('vars'); sorted and compacted it is the same list. Conditions: none. By an AI agent.
-/
namespace Go.Proofs.Ytdkjafjphgcbjaa.varsMath
open Go.Proofs.Ytdkjafjphgcbjaa.term Go.Proofs.Ytdkjafjphgcbjaa.termOk

/-- with one more, rising -/
def into : List Int → Int → List Int
  | [], n => [n]
  | y :: r, n => if y < n then y :: into r n else if y = n then y :: r else n :: y :: r
theorem into_end : ∀ {xs : List Int} {n : Int}, (∀ j, j < xs.length → xs.getD j 0 < n) → into xs n = xs ++ [n]
  | [], _, _ => rfl
  | y :: r, n, h => by
    have h0 : y < n := by simpa using h 0 (by simp)
    rw [into, if_pos h0, into_end (fun j hj => by simpa using h (j + 1) (by simpa using hj))]
    rfl
theorem into_at : ∀ {xs : List Int} {n : Int} {k : Nat}, k < xs.length → (∀ j, j < k → xs.getD j 0 < n) → xs.getD k 0 = n → into xs n = xs
  | [], _, _, hk, _, _ => absurd hk (Nat.not_lt_zero _)
  | y :: r, n, 0, _, _, e => by
    have e : y = n := by simpa using e
    rw [into, if_neg (by omega), if_pos e]
  | y :: r, n, k + 1, hk, h, e => by
    have h0 : y < n := by simpa using h 0 (by simp)
    rw [into, if_pos h0, into_at (k := k) (by simpa using hk) (fun j hj => by simpa using h (j + 1) (by omega)) (by simpa using e)]
theorem into_mid : ∀ {xs : List Int} {n : Int} {k : Nat}, k < xs.length → (∀ j, j < k → xs.getD j 0 < n) → n < xs.getD k 0 → into xs n = (xs.take k ++ [n]) ++ xs.drop k
  | [], _, _, hk, _, _ => absurd hk (Nat.not_lt_zero _)
  | y :: r, n, 0, _, _, e => by
    have e : n < y := by simpa using e
    rw [into, if_neg (by omega), if_neg (by omega)]
    rfl
  | y :: r, n, k + 1, hk, h, e => by
    have h0 : y < n := by simpa using h 0 (by simp)
    rw [into, if_pos h0, into_mid (k := k) (by simpa using hk) (fun j hj => by simpa using h (j + 1) (by omega)) (by simpa using e)]
    rfl
theorem into_mem {xs : List Int} {n x : Int} : x ∈ into xs n ↔ x = n ∨ x ∈ xs := by
  induction xs with
  | nil => simp [into]
  | cons y r ih =>
    rw [into]
    split
    · rw [List.mem_cons, ih, List.mem_cons]
      constructor
      · rintro (h | h | h)
        · exact .inr (.inl h)
        · exact .inl h
        · exact .inr (.inr h)
      · rintro (h | h | h)
        · exact .inr (.inl h)
        · exact .inl h
        · exact .inr (.inr h)
    · split
      · rename_i h1 h2
        subst h2
        simp
      · simp
theorem into_len (xs : List Int) (n : Int) : (into xs n).length ≤ xs.length + 1 := by
  induction xs with
  | nil => simp [into]
  | cons y r ih =>
    rw [into]
    split
    · simp; omega
    · split <;> simp
/-- rising -/
abbrev Rises (xs : List Int) : Prop := xs.Pairwise (· < ·)
theorem into_rises {xs : List Int} {n : Int} (h : Rises xs) : Rises (into xs n) := by
  induction xs with
  | nil => simp [into, Rises]
  | cons y r ih =>
    have h1 := List.pairwise_cons.1 h
    rw [into]
    split
    · rename_i hy
      refine List.pairwise_cons.2 ⟨fun z hz => ?_, ih h1.2⟩
      rcases into_mem.1 hz with e | e
      · omega
      · exact h1.1 z e
    · split
      · exact h
      · rename_i a b
        refine List.pairwise_cons.2 ⟨fun z hz => ?_, h⟩
        rcases List.mem_cons.1 hz with e | e
        · omega
        · have := h1.1 z e; omega
/-- two rising lists of the same numbers are one -/
theorem rises_unique : ∀ {xs ys : List Int}, Rises xs → Rises ys → (∀ x, x ∈ xs ↔ x ∈ ys) → xs = ys
  | [], [], _, _, _ => rfl
  | [], y :: r, _, _, h => by have := (h y).2 (List.mem_cons_self ..); cases this
  | x :: r, [], _, _, h => by have := (h x).1 (List.mem_cons_self ..); cases this
  | x :: r, y :: q, hx, hy, h => by
    have h1 := List.pairwise_cons.1 hx
    have h2 := List.pairwise_cons.1 hy
    have e : x = y := by
      have a := (h x).1 (List.mem_cons_self ..)
      have b := (h y).2 (List.mem_cons_self ..)
      rcases List.mem_cons.1 a with a | a
      · exact a
      · rcases List.mem_cons.1 b with b | b
        · exact b.symm
        · have := h1.1 y b
          have := h2.1 x a
          omega
    subst e
    rw [rises_unique h1.2 h2.2 (fun z => ?_)]
    constructor
    · intro hz
      rcases List.mem_cons.1 ((h z).1 (List.mem_cons_of_mem _ hz)) with e | e
      · have := h1.1 z hz; omega
      · exact e
    · intro hz
      rcases List.mem_cons.1 ((h z).2 (List.mem_cons_of_mem _ hz)) with e | e
      · have := h2.1 z hz; omega
      · exact e

/-- the variables' numbers, in the order in which they stand -/
def negs (t : List Int) : List Int := (t.filter fun n => decide (n < 0)).map fun n => -1 - n
/-- the variables' numbers, rising -/
def vars (t : List Int) : List Int := (negs t).foldl into []
theorem negs_snoc_yes {t : List Int} {x : Int} (h : x < 0) : negs (t ++ [x]) = negs t ++ [-1 - x] := by simp [negs, h]
theorem negs_snoc_no {t : List Int} {x : Int} (h : ¬ x < 0) : negs (t ++ [x]) = negs t := by simp [negs, h]
theorem take_snoc {t : List Int} {k : Nat} (hk : k < t.length) {x : Int} (hx : t.getD k 0 = x) : t.take (k + 1) = t.take k ++ [x] := by
  rw [List.take_succ_eq_append_getElem hk, ← hx]
  simp [List.getD, hk]
theorem negs_yes {t : List Int} {k : Nat} {x : Int} (hk : k < t.length) (hx : t.getD k 0 = x) (h : x < 0) : negs (t.take (k + 1)) = negs (t.take k) ++ [-1 - x] := by rw [take_snoc hk hx, negs_snoc_yes h]
theorem negs_no {t : List Int} {k : Nat} {x : Int} (hk : k < t.length) (hx : t.getD k 0 = x) (h : ¬ x < 0) : negs (t.take (k + 1)) = negs (t.take k) := by rw [take_snoc hk hx, negs_snoc_no h]
theorem vars_yes {t : List Int} {k : Nat} {x : Int} (hk : k < t.length) (hx : t.getD k 0 = x) (h : x < 0) : vars (t.take (k + 1)) = into (vars (t.take k)) (-1 - x) := by
  unfold vars; rw [negs_yes hk hx h, List.foldl_append]; rfl
theorem vars_no {t : List Int} {k : Nat} {x : Int} (hk : k < t.length) (hx : t.getD k 0 = x) (h : ¬ x < 0) : vars (t.take (k + 1)) = vars (t.take k) := by unfold vars; rw [negs_no hk hx h]
theorem negs_len (t : List Int) : (negs t).length ≤ t.length := by unfold negs; rw [List.length_map]; exact List.length_filter_le _ _
theorem fold_len : ∀ (l xs : List Int), (l.foldl into xs).length ≤ xs.length + l.length
  | [], _ => by simp
  | n :: l, xs => by have := fold_len l (into xs n); have := into_len xs n; simp; omega
theorem vars_len (t : List Int) : (vars t).length ≤ t.length := by have := fold_len (negs t) []; have := negs_len t; unfold vars; simp at *; omega
theorem fold_mem {x : Int} : ∀ {l xs : List Int}, x ∈ l.foldl into xs ↔ x ∈ xs ∨ x ∈ l
  | [], _ => by simp
  | n :: l, xs => by
    rw [List.foldl_cons, fold_mem, into_mem, List.mem_cons]
    constructor
    · rintro ((h | h) | h)
      · exact .inr (.inl h)
      · exact .inl h
      · exact .inr (.inr h)
    · rintro (h | h | h)
      · exact .inl (.inr h)
      · exact .inl (.inl h)
      · exact .inr h
theorem fold_rises : ∀ {l xs : List Int}, Rises xs → Rises (l.foldl into xs)
  | [], _, h => h
  | n :: l, xs, h => by rw [List.foldl_cons]; exact fold_rises (into_rises h)
theorem vars_mem {t : List Int} {x : Int} : x ∈ vars t ↔ x ∈ negs t := by unfold vars; rw [fold_mem]; simp
theorem vars_rises (t : List Int) : Rises (vars t) := fold_rises List.Pairwise.nil

/-! ### sorted and compacted -/
/-- what VarsOf answers -/
def varsI (sg t : List Int) : List Int := if termOkB sg t = true then vars t else []
theorem varsI_len {sg t : List Int} {m : Nat} (h : t.length = m) (hm : m ≤ 1048576) : (varsI sg t).length ≤ 1048576 := by
  unfold varsI
  split
  · have := vars_len t; omega
  · simp
end Go.Proofs.Ytdkjafjphgcbjaa.varsMath
end

section
/-
  PLAIN MATHEMATICS of replacing: a list with each variable replaced ('fillL'), by a substitution ('gives'), by a shift; terms stay terms. Conditions: none. By an AI agent.
-/
namespace Go.Proofs.Ytdkjafjphgcbjaa.fillMath
open Go.Proofs.Ytdkjafjphgcbjaa.sig Go.Proofs.Ytdkjafjphgcbjaa.term Go.Proofs.Ytdkjafjphgcbjaa.termOk Go.Proofs.Ytdkjafjphgcbjaa.termFacts Go.Proofs.Ytdkjafjphgcbjaa.varsMath

/-- the term that is variable i -/
def vt (i : Nat) : List Int := [-1 - (i : Int)]
/-- one number replaced -/
def rep (L : Nat → List Int) (n : Int) : List Int := if 0 ≤ n then [n] else L (-1 - n).toNat
/-- a list with each variable replaced -/
def fillL (L : Nat → List Int) (t : List Int) : List Int := t.flatMap (rep L)
theorem rep_sym {L : Nat → List Int} {n : Int} (h : 0 ≤ n) : rep L n = [n] := by unfold rep; rw [if_pos h]
theorem rep_var {L : Nat → List Int} {n : Int} (h : n < 0) : rep L n = L (-1 - n).toNat := by unfold rep; rw [if_neg (by omega)]
theorem fill_nil (L : Nat → List Int) : fillL L [] = [] := rfl
theorem fill_cons (L : Nat → List Int) (x : Int) (r : List Int) : fillL L (x :: r) = rep L x ++ fillL L r := by simp [fillL]
theorem fill_append (L : Nat → List Int) (a b : List Int) : fillL L (a ++ b) = fillL L a ++ fillL L b := by simp [fillL]
theorem fill_take {L : Nat → List Int} {t : List Int} {k : Nat} {x : Int} (hk : k < t.length) (hx : t.getD k 0 = x) : fillL L (t.take (k + 1)) = fillL L (t.take k) ++ rep L x := by
  rw [take_snoc hk hx, fill_append, fill_cons, fill_nil, List.append_nil]
theorem rep_len {L : Nat → List Int} {M : Nat} (h1 : 1 ≤ M) (hM : ∀ i, (L i).length ≤ M) (n : Int) : (rep L n).length ≤ M := by
  unfold rep
  split
  · simpa using h1
  · exact hM _
theorem fill_len {L : Nat → List Int} {M : Nat} (h1 : 1 ≤ M) (hM : ∀ i, (L i).length ≤ M) : ∀ t : List Int, (fillL L t).length ≤ t.length * M
  | [] => by simp [fill_nil]
  | x :: r => by
    have h2 := rep_len h1 hM x
    have h3 := fill_len h1 hM r
    rw [fill_cons, List.length_append, List.length_cons, Nat.add_mul]
    omega
/-- nothing grows shorter -/
theorem fill_ge {L : Nat → List Int} (h1 : ∀ i, 1 ≤ (L i).length) : ∀ t : List Int, t.length ≤ (fillL L t).length
  | [] => by simp
  | x :: r => by
    have h3 := fill_ge h1 r
    have h2 : 1 ≤ (rep L x).length := by
      unfold rep
      split
      · simp
      · exact h1 _
    rw [fill_cons, List.length_append, List.length_cons]
    omega
theorem fill_ext {L L' : Nat → List Int} : ∀ {t : List Int}, (∀ x ∈ t, x < 0 → L (-1 - x).toNat = L' (-1 - x).toNat) → fillL L t = fillL L' t
  | [], _ => rfl
  | x :: r, h => by
    rw [fill_cons, fill_cons, fill_ext (fun y hy => h y (List.mem_cons_of_mem _ hy))]
    congr 1
    unfold rep
    split
    · rfl
    · exact h x (List.mem_cons_self ..) (by omega)
/-- one after the other -/
theorem fill_fill {L U : Nat → List Int} : ∀ t : List Int, fillL U (fillL L t) = fillL (fun i => fillL U (L i)) t
  | [] => rfl
  | x :: r => by
    rw [fill_cons, fill_append, fill_cons, fill_fill r]
    congr 1
    unfold rep
    by_cases h : 0 ≤ x
    · rw [if_pos h, if_pos h, fill_cons, fill_nil, List.append_nil, rep_sym h]
    · rw [if_neg h, if_neg h]

/-! ### terms stay terms -/
theorem scan_join {sg : List Int} : ∀ {l l' : List Int} {q q' j : Nat}, scan sg q l = some l.length → scan sg q' l' = some j → scan sg (q + q') (l ++ l') = some (l.length + j)
  | [], l', q, q', j, h, h' => by
    cases q with
    | zero => simpa using h'
    | succ q => rw [scan_nil] at h; cases h
  | x :: r, l', q, q', j, h, h' => by
    cases q with
    | zero => rw [scan_zero] at h; simp at h
    | succ q =>
      by_cases ha : ar sg x < 0
      · rw [scan_bad ha] at h; cases h
      · rw [scan_step ha] at h
        obtain ⟨i, hi, e⟩ := Option.map_eq_some_iff.1 h
        have e2 : i = r.length := by simp at e; omega
        subst e2
        have h2 := scan_join hi h'
        rw [show q + 1 + q' = (q + q') + 1 by omega, List.cons_append, scan_step ha, show q + q' + (ar sg x).toNat = q + (ar sg x).toNat + q' by omega, h2]
        simp
        omega
theorem scan_fill {sg : List Int} {L : Nat → List Int} : ∀ {t : List Int} {q : Nat}, scan sg q t = some t.length → (∀ x ∈ t, x < 0 → scan sg 1 (L (-1 - x).toNat) = some (L (-1 - x).toNat).length) → scan sg q (fillL L t) = some (fillL L t).length
  | [], q, h, _ => h
  | x :: r, q, h, hL => by
    cases q with
    | zero => rw [scan_zero] at h; simp at h
    | succ q =>
      by_cases ha : ar sg x < 0
      · rw [scan_bad ha] at h; cases h
      · rw [scan_step ha] at h
        obtain ⟨i, hi, e⟩ := Option.map_eq_some_iff.1 h
        have e2 : i = r.length := by simp at e; omega
        subst e2
        have h2 := scan_fill hi (fun y hy => hL y (List.mem_cons_of_mem _ hy))
        rw [fill_cons]
        by_cases hx : 0 ≤ x
        · rw [rep_sym hx, List.singleton_append, scan_step ha, h2]
          simp
        · have h3 := hL x (List.mem_cons_self ..) (by omega)
          have h0 : ar sg x = 0 := by
            unfold ar at ha ⊢
            split
            · rfl
            · rename_i h4
              rw [if_neg h4] at ha
              split at ha
              · omega
              · omega
          rw [h0] at h2
          rw [rep_var (by omega), Nat.add_comm q 1]
          have h4 := scan_join h3 (by simpa using h2)
          rw [h4, List.length_append]
theorem fill_term {sg t : List Int} {L : Nat → List Int} (h : termOkB sg t = true) (hL : ∀ x ∈ t, x < 0 → termOkB sg (L (-1 - x).toNat) = true) (h60 : (fillL L t).length ≤ 60) : termOkB sg (fillL L t) = true :=
  term_mk (term_parts h).1 h60 (scan_fill (term_parts h).2.2 (fun x hx h0 => (term_parts (hL x hx h0)).2.2))
theorem var_term {sg : List Int} {i : Nat} (hs : sigOkB sg = true) (hi : i < 24) : termOkB sg (vt i) = true := by
  refine term_mk hs (by simp [vt]) ?_
  have h0 : ar sg (-1 - (i : Int)) = 0 := ar_var (by omega)
  show scan sg 1 [-1 - (i : Int)] = some 1
  rw [scan_step (by omega), h0]
  rfl

/-! ### a shift -/
def sh (k x : Int) : Int := if x < 0 then x - k else x
def shiftL (k : Int) (t : List Int) : List Int := t.map (sh k)
def shiftB (k : Int) (t : List Int) : Bool := t.all fun x => decide (-24 ≤ sh k x)
theorem shift_fill {k : Nat} : ∀ t : List Int, fillL (fun i => vt (i + k)) t = shiftL (k : Int) t
  | [] => rfl
  | x :: r => by
    rw [fill_cons, shift_fill r]
    show _ = sh k x :: shiftL k r
    unfold rep sh
    by_cases h : 0 ≤ x
    · rw [if_pos h, if_neg (by omega)]; rfl
    · rw [if_neg h, if_pos (by omega)]
      show [-1 - (((-1 - x).toNat + k : Nat) : Int)] ++ _ = _
      rw [show (-1 - (((-1 - x).toNat + k : Nat) : Int) : Int) = x - k by omega]
      rfl
theorem shift_len (k : Int) (t : List Int) : (shiftL k t).length = t.length := by simp [shiftL]
theorem shift_ok {sg t : List Int} {k : Nat} (h : termOkB sg t = true) : termOkB sg (shiftL (k : Int) t) = shiftB k t := by
  cases hb : shiftB (k : Int) t with
  | true =>
    unfold shiftB at hb
    rw [List.all_eq_true] at hb
    rw [← shift_fill]
    refine fill_term h (fun x hx h0 => ?_) (by rw [shift_fill, shift_len]; exact (term_len h).2)
    have h1 := hb x hx
    have h2 : -24 ≤ x - k := by simpa [sh, h0] using h1
    exact var_term (term_parts h).1 (by omega)
  | false =>
    cases ho : termOkB sg (shiftL (k : Int) t) with
    | false => rfl
    | true =>
      exfalso
      unfold shiftB at hb
      rw [List.all_eq_false] at hb
      obtain ⟨x, hx, h1⟩ := hb
      have h2 := (term_mem ho (x := sh k x) (by unfold shiftL; exact List.mem_map.2 ⟨x, hx, rfl⟩)).1
      simp at h1
      omega
theorem shift_take {k : Int} {t : List Int} {j : Nat} {x : Int} (hk : j < t.length) (hx : t.getD j 0 = x) : shiftL k (t.take (j + 1)) = shiftL k (t.take j) ++ [sh k x] := by
  rw [take_snoc hk hx]
  simp [shiftL]
theorem shiftB_no {k x : Int} {t : List Int} (hx : x ∈ t) (h : sh k x < -24) : shiftB k t = false := by
  unfold shiftB
  rw [List.all_eq_false]
  exact ⟨x, hx, by simp; omega⟩
theorem shiftB_yes {k : Int} {t : List Int} (h : ∀ j, j < t.length → -24 ≤ sh k (t.getD j 0)) : shiftB k t = true := by
  unfold shiftB
  rw [List.all_eq_true]
  intro x hx
  obtain ⟨j, hj, rfl⟩ := List.getElem_of_mem hx
  have := h j hj
  simpa [List.getD, hj] using this
/-- what Shifted answers -/
def shiftedB (sg t : List Int) (k : Int) : Bool := termOkB sg t && decide (0 ≤ k ∧ k ≤ 24) && shiftB k t
def shiftedL (sg t : List Int) (k : Int) : List Int := if shiftedB sg t k = true then shiftL k t else []
theorem shifted_len {sg t : List Int} {k : Int} {m : Nat} (h : t.length = m) (hm : m ≤ 1048576) : (shiftedL sg t k).length ≤ 1048576 := by
  unfold shiftedL
  split
  · rw [shift_len]; omega
  · simp
end Go.Proofs.Ytdkjafjphgcbjaa.fillMath
end

section
/-
  CONTRACTS: spec.l1DrawTerm: what it draws is a term (scan). Conditions: the cursor ('Dice'), the signature's arities ('Arities'), 1 to 24 variables. Written by a program of mine (mkdrawtermw.py) out of DrawTerm. By an AI agent.
-/
namespace Go.Proofs.Ytdkjafjphgcbjaa.drawTermW
open Go.RowKit Go.Proofs.Ytdkjafjphgcbjaa.base Go.Proofs.Ytdkjafjphgcbjaa.ints Go.Proofs.Ytdkjafjphgcbjaa.sig Go.Proofs.Ytdkjafjphgcbjaa.term Go.Proofs.Ytdkjafjphgcbjaa.cursor Go.Proofs.Ytdkjafjphgcbjaa.marks Go.Proofs.Ytdkjafjphgcbjaa.app Go.Proofs.Ytdkjafjphgcbjaa.sym Go.Proofs.Ytdkjafjphgcbjaa.dice Go.Proofs.Ytdkjafjphgcbjaa.drawSig Go.Proofs.Ytdkjafjphgcbjaa.drawTerm Go.Proofs.Ytdkjafjphgcbjaa.fillMath

/-- xs lacks q terms to be a term -/
def PartT (sg xs : List Int) (q : Nat) : Prop := ∀ (ys : List Int) (j : Nat), scan sg q ys = some j → scan sg 1 (xs ++ ys) = some (xs.length + j)
theorem part_one {sg : List Int} {x : Int} {q : Nat} (h : ar sg x = (q : Int)) : PartT sg [x] q := fun ys j hj => by
  show scan sg (0 + 1) (x :: ys) = _
  rw [scan_step (by omega), h, Int.toNat_natCast, Nat.zero_add, hj]
  simp [Nat.add_comm]
theorem PartT.step {sg xs ys : List Int} {q : Nat} (h : PartT sg xs (q + 1)) (hy : scan sg 1 ys = some ys.length) : PartT sg (xs ++ ys) q := fun zs j hj => by
  have h1 := scan_join hy hj
  rw [Nat.add_comm 1 q] at h1
  have h2 := h _ _ h1
  rw [List.append_assoc, h2, List.length_append]
  simp [Nat.add_assoc]
theorem PartT.done {sg xs : List Int} (h : PartT sg xs 0) : scan sg 1 xs = some xs.length := by simpa using h [] 0 (scan_zero _ _)
/-- what l1DrawTerm leaves: a term of the call's own -/
def AnsTW (w : World) (p : Nat) (A : Option Addr) (n c L : Nat) (sg : List Int) (e : Ending) (w' : World) : Prop :=
  ∃ O on oc xs, e = .returned (.slice O on oc) ∧ Own w' w.heap.size (.slice O on oc) xs ∧ 1 ≤ on ∧ on ≤ L ∧ scan sg 1 xs = some xs.length ∧ Dice w' p A n c ∧ w.grownBy w' (some p)
theorem leafW {w : World} {p : Nat} {A : Option Addr} {n c L : Nat} {S : Option Addr} {sn sc : Nat} {sg : List Int} {u : World} (t : DT w p A n c S sn sc sg u) (hL : 1 ≤ L) (y : Int) (hy : ar sg y = 0) :
    AnsTW w p A n c L sg (.returned (.slice (some ⟨u.heap.size, 0, none⟩) 1 1)) (u.alloc (.cells #[.int .i64 y] 2)) := by
  have hz := t.g.size
  refine ⟨_, _, _, [y], rfl, Own.of_row (Row.new _ _ _) rfl rfl (Nat.le_refl _) (by omega) hz (fun j hj => by match j, hj with | 0, _ => rfl), Nat.le_refl _, hL, (part_one (q := 0) hy).done, t.d.alloc _, ?_⟩
  exact ⟨t.g.os, t.g.tape, t.g.output, by simp; omega, fun i hi hne => (Below.heap_alloc u _ i (by omega)).trans (t.g.block i hi hne)⟩
/-- the head of the loop over the arguments -/
def HeadTW (w : World) (p : Nat) (A : Option Addr) (n c : Nat) (S : Option Addr) (sn sc : Nat) (sg : List Int) (M : Nat) (out k : Value) (wr : World) : Prop :=
  ∃ (q : Nat) (O : Option Addr) (on oc : Nat) (xs : List Int), k = .int .i64 q ∧ q ≤ 3 ∧ out = .slice O on oc ∧ Own wr (w.heap.size + 1) (.slice O on oc) xs ∧ 1 ≤ on ∧ on + q * M ≤ 1 + 3 * M ∧ PartT sg xs q ∧ DT w p A n c S sn sc sg wr

set_option maxHeartbeats 4000000 in
theorem drawTermW (p : Nat) (A : Option Addr) (n c : Nat) (S : Option Addr) (sn sc : Nat) (sg : List Int) (vars : Int) (hs : Arities sg) (hn1 : 1 ≤ sn) (hn2 : sn ≤ 256) (hv0 : 1 ≤ vars) (hv1 : vars ≤ 24) : ∀ (f0 : Nat) (depth : Int) (w : World),
    Dice w p A n c → Rd w p w.heap.size S sn sg → f0 ≤ 4 → -1000 ≤ depth → depth ≤ (f0 : Int) + 1 →
    Calls Try.prog 117 #[.pointer (some ⟨p, 0, none⟩), .agg #[.slice S sn sc], .int .i64 depth, .int .i64 vars] w (AnsTW w p A n c (4 ^ f0) sg) := by
  intro f0
  induction f0 with
  | zero =>
    intro depth w hd hr hf hlo hdep
    obtain ⟨LL, hLe⟩ : ∃ LL, 4 ^ 0 = LL := ⟨_, rfl⟩
    have hLL : 1 ≤ LL := by rw [← hLe]; exact one_le_four 0
    rw [hLe]
    clear hLe
    have T0 := DT.start (sc := sc) hd hr
    have hz : depth ≤ 1 := by omega
    obtain ⟨W, hW⟩ : ∃ W, W = w.alloc (.cells #[.slice S sn sc] 26) := ⟨_, rfl⟩
    rw [← hW] at T0
    have HW := Lib.hid hW
    clear hd hr hW
    go_enter Try.func117, Try.ntmps117
    go_wp2_with fail
    rw [← HW.out]
    have cS : W.cell? ⟨w.heap.size, 0, none⟩ = some (.slice S sn sc) := T0.r.cell 0
    go_wp2_with fail
    refine (once p A n c 2 _ T0.d (by omega) (by omega)).mono ?_
    rintro e u1 ⟨b, rfl, d1, g1⟩
    have T1 := T0.dice d1 g1
    clear d1 g1 cS T0
    cases b with
    | true =>
      go_wp2_with fail
      refine (below p A n c vars _ T1.d hv0 (by omega)).mono ?_
      rintro e u2 ⟨x, rfl, x0, x1, d2, g2⟩
      have F := Lib.hid (leafW (T1.dice d2 g2) hLL (-1 - x) (ar_var (by omega)))
      clear T1 d2 g2
      go_wp2
      go_ret
      exact F.out
    | false =>
      have cS1 : u1.cell? ⟨w.heap.size, 0, none⟩ = some (.slice S sn sc) := T1.r.cell 0
      go_wp2_with fail
      go_loop [9] (fun i => ∃ k : Nat, k ≤ sn ∧ i = .int .i64 ((k : Int) - 1)) (fun i => (intOf i + 1).toNat)
      case atStart => exact ⟨sn, Nat.le_refl _, rfl⟩
      case round =>
        obtain ⟨k, hk, rfl⟩ := hrel
        by_cases hk0 : k = 0
        · subst hk0
          have F := Lib.hid (leafW T1 hLL (-1) (ar_var (by omega)))
          clear T1
          go_wp2
          go_ret
          exact F.out
        · obtain ⟨k1, rfl⟩ : ∃ k1, k = k1 + 1 := ⟨k - 1, by omega⟩
          obtain ⟨b, off, y, rfl, hb, hy, ey⟩ := T1.s.seg.spot (show k1 < sn by omega)
          by_cases hy0 : y = 0
          · subst hy0
            have F := Lib.hid (leafW T1 hLL (k1 : Int) (by rw [ar_sym (by omega) (by have := T1.s.1; omega)]; simpa using ey.out))
            clear T1 ey
            go_wp2
            go_ret
            exact F.out
          · have e2 : (y == 0) = false := by simp [hy0]
            clear T1 ey
            go_wp2
            go_round
            case rel => exact ⟨k1, by omega, congrArg (Value.int .i64) (by omega)⟩
            case measure => first | (simp [intOf]; done) | (simp [intOf]; omega)
  | succ f ih =>
    intro depth w hd hr hf hlo hdep
    have IH := Lib.hid ih
    clear ih
    obtain ⟨M, hM⟩ : ∃ M, 4 ^ f = M := ⟨_, rfl⟩
    have hM1 : 1 ≤ M := by rw [← hM]; exact one_le_four f
    have hM2 : M ≤ 64 := by rw [← hM]; exact Nat.pow_le_pow_right (n := 4) (by omega) (show f ≤ 3 by omega)
    obtain ⟨LL, hLe⟩ : ∃ LL, 4 ^ (f + 1) = LL := ⟨_, rfl⟩
    have hLM : LL = 4 * M := by rw [← hLe, ← hM, Nat.pow_succ, Nat.mul_comm]
    have hLL : 1 ≤ LL := by omega
    rw [hLe]
    rw [hM] at IH
    clear hLe hM
    have HLM := Lib.hid hLM
    clear hLM
    have T0 := DT.start (sc := sc) hd hr
    obtain ⟨W, hW⟩ : ∃ W, W = w.alloc (.cells #[.slice S sn sc] 26) := ⟨_, rfl⟩
    rw [← hW] at T0
    have HW := Lib.hid hW
    clear hd hr hW
    by_cases hz : depth ≤ 1
    · go_enter Try.func117, Try.ntmps117
      go_wp2_with fail
      rw [← HW.out]
      have cS : W.cell? ⟨w.heap.size, 0, none⟩ = some (.slice S sn sc) := T0.r.cell 0
      go_wp2_with fail
      refine (once p A n c 2 _ T0.d (by omega) (by omega)).mono ?_
      rintro e u1 ⟨b, rfl, d1, g1⟩
      have T1 := T0.dice d1 g1
      clear d1 g1 cS T0
      cases b with
      | true =>
        go_wp2_with fail
        refine (below p A n c vars _ T1.d hv0 (by omega)).mono ?_
        rintro e u2 ⟨x, rfl, x0, x1, d2, g2⟩
        have F := Lib.hid (leafW (T1.dice d2 g2) hLL (-1 - x) (ar_var (by omega)))
        clear T1 d2 g2
        go_wp2
        go_ret
        exact F.out
      | false =>
        have cS1 : u1.cell? ⟨w.heap.size, 0, none⟩ = some (.slice S sn sc) := T1.r.cell 0
        go_wp2_with fail
        go_loop [9] (fun i => ∃ k : Nat, k ≤ sn ∧ i = .int .i64 ((k : Int) - 1)) (fun i => (intOf i + 1).toNat)
        case atStart => exact ⟨sn, Nat.le_refl _, rfl⟩
        case round =>
          obtain ⟨k, hk, rfl⟩ := hrel
          by_cases hk0 : k = 0
          · subst hk0
            have F := Lib.hid (leafW T1 hLL (-1) (ar_var (by omega)))
            clear T1
            go_wp2
            go_ret
            exact F.out
          · obtain ⟨k1, rfl⟩ : ∃ k1, k = k1 + 1 := ⟨k - 1, by omega⟩
            obtain ⟨b, off, y, rfl, hb, hy, ey⟩ := T1.s.seg.spot (show k1 < sn by omega)
            by_cases hy0 : y = 0
            · subst hy0
              have F := Lib.hid (leafW T1 hLL (k1 : Int) (by rw [ar_sym (by omega) (by have := T1.s.1; omega)]; simpa using ey.out))
              clear T1 ey
              go_wp2
              go_ret
              exact F.out
            · have e2 : (y == 0) = false := by simp [hy0]
              clear T1 ey
              go_wp2
              go_round
              case rel => exact ⟨k1, by omega, congrArg (Value.int .i64) (by omega)⟩
              case measure => first | (simp [intOf]; done) | (simp [intOf]; omega)
    · have hz1 : (1 : Int) < depth := by omega
      go_enter Try.func117, Try.ntmps117
      go_wp2_with fail
      rw [← HW.out]
      refine (once p A n c 4 _ T0.d (by omega) (by omega)).mono ?_
      rintro e u0 ⟨b, rfl, d0, g0⟩
      have T2 := T0.dice d0 g0
      clear d0 g0 T0
      cases b with
      | true =>
        have cS : u0.cell? ⟨w.heap.size, 0, none⟩ = some (.slice S sn sc) := T2.r.cell 0
        go_wp2_with fail
        refine (once p A n c 2 _ T2.d (by omega) (by omega)).mono ?_
        rintro e u1 ⟨b, rfl, d1, g1⟩
        have T1 := T2.dice d1 g1
        clear d1 g1 cS T2
        cases b with
        | true =>
          go_wp2_with fail
          refine (below p A n c vars _ T1.d hv0 (by omega)).mono ?_
          rintro e u2 ⟨x, rfl, x0, x1, d2, g2⟩
          have F := Lib.hid (leafW (T1.dice d2 g2) hLL (-1 - x) (ar_var (by omega)))
          clear T1 d2 g2
          go_wp2
          go_ret
          exact F.out
        | false =>
          have cS1 : u1.cell? ⟨w.heap.size, 0, none⟩ = some (.slice S sn sc) := T1.r.cell 0
          go_wp2_with fail
          go_loop [9] (fun i => ∃ k : Nat, k ≤ sn ∧ i = .int .i64 ((k : Int) - 1)) (fun i => (intOf i + 1).toNat)
          case atStart => exact ⟨sn, Nat.le_refl _, rfl⟩
          case round =>
            obtain ⟨k, hk, rfl⟩ := hrel
            by_cases hk0 : k = 0
            · subst hk0
              have F := Lib.hid (leafW T1 hLL (-1) (ar_var (by omega)))
              clear T1
              go_wp2
              go_ret
              exact F.out
            · obtain ⟨k1, rfl⟩ : ∃ k1, k = k1 + 1 := ⟨k - 1, by omega⟩
              obtain ⟨b, off, y, rfl, hb, hy, ey⟩ := T1.s.seg.spot (show k1 < sn by omega)
              by_cases hy0 : y = 0
              · subst hy0
                have F := Lib.hid (leafW T1 hLL (k1 : Int) (by rw [ar_sym (by omega) (by have := T1.s.1; omega)]; simpa using ey.out))
                clear T1 ey
                go_wp2
                go_ret
                exact F.out
              · have e2 : (y == 0) = false := by simp [hy0]
                clear T1 ey
                go_wp2
                go_round
                case rel => exact ⟨k1, by omega, congrArg (Value.int .i64) (by omega)⟩
                case measure => first | (simp [intOf]; done) | (simp [intOf]; omega)
      | false =>
        have cS : u0.cell? ⟨w.heap.size, 0, none⟩ = some (.slice S sn sc) := T2.r.cell 0
        go_wp2_with fail
        refine (below p A n c (sn : Int) _ T2.d (by omega) (by omega)).mono ?_
        rintro e u1 ⟨x, rfl, x0, x1, d1, g1⟩
        obtain ⟨k, rfl⟩ := Int.eq_ofNat_of_zero_le x0
        have T3 := T2.dice d1 g1
        have hks : k < sn := by omega
        have hsl := T3.s.1
        obtain ⟨b, off, y, rfl, hb, hy, ey⟩ := T3.s.seg.spot hks
        have hyb := hs k (by omega)
        rw [ey.out] at hyb
        obtain ⟨q, rfl⟩ := Int.eq_ofNat_of_zero_le hyb.1
        have hq3 : q ≤ 3 := by omega
        have T4 : DT w p A n c (some ⟨b, off, none⟩) sn sc sg (u1.alloc (.cells #[.int .i64 (k : Int)] 2)) := T3.below ((Below.refl _ _).alloc (by have := T3.r.lt; omega) _)
        have O4 : Own (u1.alloc (.cells #[.int .i64 (k : Int)] 2)) (w.heap.size + 1) (.slice (some ⟨u1.heap.size, 0, none⟩) 1 1) [(k : Int)] :=
          Own.of_row (Row.new _ _ _) rfl rfl (Nat.le_refl _) (by omega) (by have := T3.r.lt; omega) (fun j hj => by match j, hj with | 0, _ => rfl)
        have H0 : HeadTW w p A n c (some ⟨b, off, none⟩) sn sc sg M (.slice (some ⟨u1.heap.size, 0, none⟩) 1 1) (.int .i64 (q : Int)) (u1.alloc (.cells #[.int .i64 (k : Int)] 2)) :=
          ⟨q, _, _, _, _, rfl, hq3, rfl, O4, Nat.le_refl _, by have := Nat.mul_le_mul_right M hq3; omega, part_one (by rw [ar_sym (by omega) (by omega)]; simpa using ey.out), T4⟩
        have HH := Lib.hid H0
        have cS1 : u1.cell? ⟨w.heap.size, 0, none⟩ = some (.slice (some ⟨b, off, none⟩) sn sc) := T3.r.cell 0
        have zN : w.heap.size < u1.heap.size := T3.r.lt
        have zb : b < u1.heap.size := by omega
        have i1 : (k : Int) < (sn : Int) := by omega
        clear H0 T4 O4 T3 T2 d1 g1 cS ey hsl hyb
        go_wp2_with fail
        go_loopw [11, 12] (fun out kk wr => HeadTW w p A n c (some ⟨b, off, none⟩) sn sc sg M out kk wr) (fun _ kk _ => (intOf kk).toNat)
        case atStart => exact HH.out
        case round =>
          obtain ⟨q, O, on, oc, xs, rfl, hq3, rfl, ho, ho1, hoM, PT, T⟩ := hrel
          have PP := Lib.hid PT
          clear PT
          clear HH
          have cS : wr.cell? ⟨w.heap.size, 0, none⟩ = some (.slice (some ⟨b, off, none⟩) sn sc) := T.r.cell 0
          cases q with
          | zero =>
            have F : AnsTW w p A n c LL sg (.returned (.slice O on oc)) wr := ⟨O, on, oc, xs, rfl, Own.lower ho (Nat.le_succ _), ho1, by have := HLM.out; omega, PP.out.done, T.d, T.g⟩
            have HF := Lib.hid F
            clear F T ho
            go_wp2
            go_ret
            exact HF.out
          | succ q =>
            have e0 : (0 : Int) < ((q + 1 : Nat) : Int) := by omega
            have hoM' : on + q * M + M ≤ 1 + 3 * M := by have e : (q + 1) * M = q * M + M := Nat.succ_mul q M; omega
            have hon : on ≤ 193 := by have := Nat.zero_le (q * M); omega
            go_wp2_with fail
            refine (IH.out (depth - 1) wr T.d (T.s.more T.g.size) (by omega) (by omega) (by omega)).mono ?_
            rintro e u2 ⟨O2, on2, oc2, ys, rfl, o2, h1, h2, sc2, d2, g2⟩
            have PP2 := Lib.hid (PP.out.step sc2)
            clear sc2
            have T2 := T.dice d2 g2
            have ho2 := Own.far ho g2 (fun k hk => by injection hk; have := T.hp; omega)
            have z2 := T2.r.lt
            clear ho T d2 g2 cS
            go_wp2_with (at_builtin; refine appAll rfl _ _ rfl (w.heap.size + 1) O on oc xs rfl ho2 O2 on2 oc2 u2.heap.size ys rfl (Own.seg o2) (Own.none_cap o2) (by omega) (by omega) (by omega) ?_; intro O3 oc3 u3 ho3 b3)
            have F : HeadTW w p A n c (some ⟨b, off, none⟩) sn sc sg M (.slice O3 (on + on2) oc3) (.int .i64 (q : Int)) u3 := ⟨q, O3, on + on2, oc3, _, rfl, by omega, rfl, ho3, by omega, by omega, PP2.out, T2.below b3⟩
            have HF := Lib.hid F
            clear F ho3 b3 T2 ho2 o2
            go_wp2
            go_roundw
            case rel => first | exact HF.out | simpa using HF.out
            case measure => simp [intOf]
end Go.Proofs.Ytdkjafjphgcbjaa.drawTermW
end

section
/-
  append OF A WHOLE SLICE, AND WHERE THE NEW ONE LIES. Conditions: lengths up to 2097152. By an AI agent.
-/
namespace Go.Proofs.Ytdkjafjphgcbjaa.appAt
open Go.RowKit Go.Proofs.Ytdkjafjphgcbjaa.base Go.Proofs.Ytdkjafjphgcbjaa.ints Go.Proofs.Ytdkjafjphgcbjaa.marks Go.Proofs.Ytdkjafjphgcbjaa.app
set_option maxRecDepth 100000

theorem blk_own (A : Option Addr) (n c : Nat) : (Value.slice A n c).ownBlock = blk A := by cases A <;> rfl

theorem appAllAt {w : World} {ops : Array Oper} {rest : List Oper} {o : Oper} {a : Act} {Q : Exit → Act → World → Prop} (hgd : o.guard = none) (s x : Operand)
    (ho : o.op = .call { callee := .builtin .append, args := #[s, x], argTypes := #[24, 24] })
    (base : Nat) (A : Option Addr) (n c : Nat) (xs : List Int) (hs : a.eval s = .slice A n c) (hown : Own w base (.slice A n c) xs)
    (S : Option Addr) (m c2 B : Nat) (ys : List Int) (hx : a.eval x = .slice S m c2) (hseg : Seg w B S m ys) (hm1 : 1 ≤ m) (hn : n ≤ 2097152) (hm : m ≤ 2097152) (hbase : base ≤ w.heap.size)
    (h : ∀ A' c' w', Own w' base (.slice A' (n + m) c') (xs ++ ys) → w.grownBy w' (blk A) → (blk A' = blk A ∨ blk A' = some w.heap.size) → wpList Try.prog ops Q rest (a.put o.dst (.slice A' (n + m) c')) w') : wpList Try.prog ops Q (o :: rest) a w := by
  obtain ⟨i0, hi, hz0, hz1, hz2⟩ := info_parts info_i64
  have hl : xs.length = n := by
    obtain ⟨A', c', e⟩ := hown.slice
    injection e with _ e _
    exact e.symm
  have ho1 : w.ownsRow base 2 1 (.slice A n c) n (xs.map (Value.int .i64)) := by rw [← hl]; rw [← hl] at hown; exact hown
  obtain ⟨b, off, e, _, hc⟩ := hseg.2 (by omega)
  subst e
  refine wpList_append_own_at w hgd s x 24 ho base 2 i0 (.int .i64 0) 1 8 Try.underlying24 hi hz0 hz1 hz2 rfl (by decide) (.slice A n c) n (xs.map (Value.int .i64)) hs ho1
    ⟨b, off, none⟩ m c2 (ys.map (Value.int .i64)) hx (by simp [hseg.1]) (fun j u hj => ?_) (fun u hu => ?_) (by unfold maxLen; omega) (by omega) hbase ?_
  · have hjl : j < m := by
      have := (List.getElem?_eq_some_iff.1 hj).1
      simp at this
      have := hseg.1
      omega
    have hcj := hc j hjl
    have e2 : (⟨b, off, none⟩ : Addr).add j = ⟨b, off + j, none⟩ := by unfold Addr.add; split <;> simp_all
    rw [e2, hcj, ← hj]
    have := hseg.1
    simp [List.getD, show j < ys.length by omega]
  · obtain ⟨y, _, rfl⟩ := List.mem_map.1 hu
    rfl
  · intro v' w' hown' hg _ hat
    rw [← List.map_append] at hown'
    obtain ⟨A', c', rfl, ho'⟩ := own_of hown'
    rw [blk_own] at hg
    rw [blk_own, blk_own] at hat
    exact h A' c' w' ho' hg hat
theorem Own.kept {w w' : World} {base : Nat} {A : Option Addr} {n c : Nat} {xs : List Int} {r : Option Nat} (h : Own w base (.slice A n c) xs) (hg : w.grownBy w' r) (hne : blk A = none ∨ blk A ≠ r) : Own w' base (.slice A n c) xs :=
  World.ownsRow.kept h hg (by rw [blk_own]; exact hne)
end Go.Proofs.Ytdkjafjphgcbjaa.appAt
end

section
/-
  WORDS FOR MEMORY, slices of slices of int64: one that reads as a list of lists ('Segs'), one that is the call's own ('Owns'); what lies outside an interval of blocks stays ('Btw'). Conditions: none; plain lemmas. By an AI agent.
-/
namespace Go.Proofs.Ytdkjafjphgcbjaa.segs
open Go.RowKit Go.Proofs.Ytdkjafjphgcbjaa.base Go.Proofs.Ytdkjafjphgcbjaa.ints Go.Proofs.Ytdkjafjphgcbjaa.marks Go.Proofs.Ytdkjafjphgcbjaa.app Go.Proofs.Ytdkjafjphgcbjaa.sym Go.Proofs.Ytdkjafjphgcbjaa.appAt
set_option maxRecDepth 100000

/-- what a slice's value keeps to -/
def Cap (A : Option Addr) (n c : Nat) : Prop := n ≤ c ∧ c ≤ 9223372036854775807 ∧ (A = none → c = 0)

/-- The slice value '.slice A n c' holds n slices of int64, which read as xss; all blocks lie below B. -/
def Segs (w : World) (B : Nat) (A : Option Addr) (n : Nat) (xss : List (List Int)) : Prop :=
  xss.length = n ∧ (0 < n → ∃ b off, A = some ⟨b, off, none⟩ ∧ b < B ∧ ∀ j, j < n → ∃ A' n' c', w.cell? ⟨b, off + j, none⟩ = some (.slice A' n' c') ∧ Seg w B A' n' (xss.getD j []) ∧ Cap A' n' c')

section
variable {w w' : World} {B B' n : Nat} {A : Option Addr} {xss : List (List Int)}
theorem Segs.empty : Segs w B A 0 [] := ⟨rfl, fun h => absurd h (by omega)⟩
theorem Segs.spot (h : Segs w B A n xss) {k : Nat} (hk : k < n) : ∃ b off A' n' c', A = some ⟨b, off, none⟩ ∧ b < B ∧ w.cell? ⟨b, off + k, none⟩ = some (.slice A' n' c') ∧ Seg w B A' n' (xss.getD k []) ∧ Cap A' n' c' := by
  obtain ⟨b, off, e, hb, hc⟩ := h.2 (by omega)
  obtain ⟨A', n', c', h1, h2, h3⟩ := hc k hk
  exact ⟨b, off, A', n', c', e, hb, h1, h2, h3⟩
theorem Segs.keep (h : Segs w B A n xss) (hk : ∀ p : Addr, p.block < B → w'.cell? p = w.cell? p) : Segs w' B A n xss :=
  ⟨h.1, fun hn => by
    obtain ⟨b, off, e, hb, hc⟩ := h.2 hn
    refine ⟨b, off, e, hb, fun j hj => ?_⟩
    obtain ⟨A', n', c', h1, h2, h3⟩ := hc j hj
    exact ⟨A', n', c', (hk ⟨b, off + j, none⟩ hb).trans h1, h2.keep hk, h3⟩⟩
theorem Segs.more (h : Segs w B A n xss) (hB : B ≤ B') : Segs w B' A n xss :=
  ⟨h.1, fun hn => by
    obtain ⟨b, off, e, hb, hc⟩ := h.2 hn
    refine ⟨b, off, e, by omega, fun j hj => ?_⟩
    obtain ⟨A', n', c', h1, h2, h3⟩ := hc j hj
    exact ⟨A', n', c', h1, h2.more hB, h3⟩⟩
theorem Segs.below (h : Segs w B A n xss) (hb : Below B w w') : Segs w' B A n xss := h.keep fun _ hp => hb.cell hp
theorem Segs.next (h : Segs w w.heap.size A n xss) (hb : Below w.heap.size w w') : Segs w' w'.heap.size A n xss := (h.below hb).more hb.size
theorem Segs.drew (h : Segs w B A n xss) : Segs w.drew B A n xss := h
theorem Segs.drewN (h : Segs w B A n xss) (k : Nat) : Segs (w.drewN k) B A n xss := h
theorem Segs.alloc (h : Segs w B A n xss) (hB : B ≤ w.heap.size) (o : Obj) : Segs (w.alloc o) B A n xss := h.keep fun p hp => World.cell?_alloc_lt w o p (by omega)

/-- what lies outside the blocks from lo on and below hi stays as it was -/
structure Btw (lo hi : Nat) (w w' : World) : Prop where
  os : w'.os = w.os
  tape : w'.tape = w.tape
  output : w'.output = w.output
  size : w.heap.size ≤ w'.heap.size
  block : ∀ k, k < w.heap.size → (k < lo ∨ hi ≤ k) → w'.heap[k]? = w.heap[k]?
theorem Btw.refl (lo hi : Nat) (w : World) : Btw lo hi w w := ⟨rfl, rfl, rfl, Nat.le_refl _, fun _ _ _ => rfl⟩
theorem Btw.trans {lo hi : Nat} {a b c : World} (h : Btw lo hi a b) (k : Btw lo hi b c) : Btw lo hi a c :=
  ⟨k.os.trans h.os, k.tape.trans h.tape, k.output.trans h.output, Nat.le_trans h.size k.size, fun i hi' ho => (k.block i (Nat.lt_of_lt_of_le hi' h.size) ho).trans (h.block i hi' ho)⟩
theorem Btw.of_grown {lo hi : Nat} {r : Option Nat} (h : w.grownBy w' r) (hr : ∀ k, r = some k → lo ≤ k ∧ k < hi) : Btw lo hi w w' :=
  ⟨h.os, h.tape, h.output, h.size, fun k hk ho => h.block k hk (fun e => by have := hr k e.symm; omega)⟩
theorem Btw.of_below {lo hi : Nat} (h : Below w.heap.size w w') : Btw lo hi w w' := ⟨h.os, h.tape, h.output, h.size, fun k hk _ => h.block k hk⟩
theorem Btw.below {lo hi : Nat} (h : Btw lo hi w w') (hB : B ≤ lo) (hs : B ≤ w.heap.size) : Below B w w' := ⟨h.os, h.tape, h.output, h.size, fun k hk => h.block k (by omega) (.inl (by omega))⟩
theorem Btw.wider {lo hi lo' hi' : Nat} (h : Btw lo hi w w') (h1 : lo' ≤ lo) (h2 : hi ≤ hi') : Btw lo' hi' w w' := ⟨h.os, h.tape, h.output, h.size, fun k hk ho => h.block k hk (by omega)⟩
theorem Below.btw {a : World} {lo hi : Nat} (h : Below B a w) (k : Btw lo hi w w') (hB : B ≤ lo) (hs : B ≤ w.heap.size) : Below B a w' := h.trans (k.below hB hs)
/-- a row outside stays -/
theorem Row.btw {g : Nat} {t : TypeId} {cs : Array Value} {lo hi : Nat} (h : Row w g t cs) (hb : Btw lo hi w w') (hg : g < lo ∨ hi ≤ g) : Row w' g t cs := (hb.block g h.lt hg).trans h

/-- rows of different element types are different blocks -/
theorem Row.ne_ {g g' : Nat} {t t' : TypeId} {cs cs' : Array Value} (h : Row w g t cs) (h' : Row w g' t' cs') (hne : t ≠ t') : g ≠ g' := by
  rintro rfl
  unfold Row at h h'
  rw [h] at h'
  injection h' with h'
  injection h' with _ ht
  exact hne ht
end

/-- a slice of int64 of the call's own in a block from lo on and below hi -/
def Inn (w : World) (lo hi : Nat) (v : Value) (xs : List Int) : Prop := ∃ A c, v = .slice A xs.length c ∧ Own w lo v xs ∧ ∀ k, blk A = some k → k < hi
/-- no block is that of two slices -/
def Apart (n : Nat) (vs : List Value) : Prop := ∀ i j k, i < j → j < n → (vs.getD i undef).ownBlock = some k → (vs.getD j undef).ownBlock ≠ some k

/-- The slice value '.slice A n c' and its n slices of int64 are the call's own, in blocks from lo on and below hi, no two in one; they read as xss. -/
structure Owns (w : World) (lo hi : Nat) (A : Option Addr) (n c : Nat) (xss : List (List Int)) : Prop where
  len : xss.length = n
  row : ∃ vs : List Value, w.ownsRow lo 24 1 (.slice A n c) n vs ∧ (∀ j, j < n → Inn w lo hi (vs.getD j undef) (xss.getD j [])) ∧ Apart n vs
  top : ∀ k, blk A = some k → k < hi

section
variable {w w' : World} {lo hi n c : Nat} {A : Option Addr} {xss : List (List Int)}

theorem own_form {base n c : Nat} {A : Option Addr} {vs : List Value} {t : TypeId} (h : w.ownsRow base t 1 (.slice A n c) n vs) : (A = none ∧ n = 0 ∧ c = 0 ∧ vs = []) ∨
    ∃ g cur, A = some ⟨g, 0, none⟩ ∧ base ≤ g ∧ Row w g t cur ∧ n ≤ c ∧ cur.size = c ∧ c ≤ 9223372036854775807 ∧ vs.length = n ∧ ∀ j, j < n → cur[j]? = some (vs.getD j undef) := by
  have hl : vs.length = n := by have := h.1; omega
  obtain ⟨h1, h2⟩ := h
  rcases h2 with ⟨e, h0⟩ | ⟨g, cap, cur, e, hb, hg, hn, hm, hs, ht⟩
  · have e1 := (Value.slice.inj e)
    obtain ⟨rfl, rfl, rfl⟩ := e1
    exact .inl ⟨rfl, rfl, rfl, List.eq_nil_of_length_eq_zero hl⟩
  · have e1 := (Value.slice.inj e)
    obtain ⟨rfl, -, rfl⟩ := e1
    refine .inr ⟨g, cur, rfl, hb, hg, hn, by omega, by unfold maxLen at hm; omega, hl, fun j hj => ?_⟩
    have h3 : (cur.toList.take (n * 1))[j]? = vs[j]? := by rw [ht]
    rw [List.getElem?_take, if_pos (by omega)] at h3
    rw [← Array.getElem?_toList, h3]
    simp [List.getD, show j < vs.length by omega]

theorem Inn.blk {v : Value} {xs : List Int} (h : Inn w lo hi v xs) : ∀ k, v.ownBlock = some k → lo ≤ k ∧ k < hi ∧ k < w.heap.size := fun k hk => by
  obtain ⟨A, c, rfl, ho, ht⟩ := h
  have h1 := World.ownsRow.lt ho k hk
  rw [blk_own] at hk
  exact ⟨h1.1, ht k hk, h1.2⟩
theorem Inn.kept {v : Value} {xs : List Int} {r : Option Nat} (h : Inn w lo hi v xs) (hg : w.grownBy w' r) (hne : v.ownBlock = none ∨ v.ownBlock ≠ r) : Inn w' lo hi v xs := by
  obtain ⟨A, c, rfl, ho, ht⟩ := h
  exact ⟨A, c, rfl, World.ownsRow.kept ho hg hne, ht⟩
theorem Inn.next {v : Value} {xs : List Int} (h : Inn w lo hi v xs) (hb : Below w.heap.size w w') : Inn w' lo hi v xs := by
  obtain ⟨A, c, rfl, ho, ht⟩ := h
  exact ⟨A, c, rfl, ho.next hb, ht⟩
theorem Inn.cap {v : Value} {xs : List Int} (h : Inn w lo hi v xs) : ∃ A c, v = .slice A xs.length c ∧ Own w lo v xs ∧ Cap A xs.length c := by
  obtain ⟨A, c, rfl, ho, ht⟩ := h
  refine ⟨A, c, rfl, ho, ?_⟩
  rcases own_form (n := xs.length) (vs := xs.map (Value.int .i64)) ho with ⟨rfl, h1, rfl, _⟩ | ⟨g, cur, rfl, _, _, h1, h2, h3, _⟩
  · exact ⟨by omega, by omega, fun _ => rfl⟩
  · exact ⟨h1, h3, fun e => by cases e⟩

theorem Owns.segs (h : Owns w lo hi A n c xss) : Segs w w.heap.size A n xss := by
  obtain ⟨vs, hr, hi', _⟩ := h.row
  refine ⟨h.len, fun hn => ?_⟩
  rcases own_form hr with ⟨_, e, _⟩ | ⟨g, cur, rfl, _, hrow, _, _, _, _, hc⟩
  · omega
  · refine ⟨g, 0, rfl, hrow.lt, fun j hj => ?_⟩
    obtain ⟨A', c', e, ho, hcap⟩ := (hi' j hj).cap
    refine ⟨A', _, c', ?_, Own.seg (by rw [← e]; exact ho), hcap⟩
    rw [Nat.zero_add, hrow.cell j, hc j hj, e]
theorem Owns.rd (h : Owns w lo hi A n c xss) : Segs w w.heap.size A n xss := h.segs
theorem Owns.cap (h : Owns w lo hi A n c xss) : Cap A n c := by
  obtain ⟨vs, hr, _⟩ := h.row
  rcases own_form hr with ⟨rfl, h1, rfl, _⟩ | ⟨g, cur, rfl, _, _, h1, h2, h3, _⟩
  · exact ⟨by omega, by omega, fun _ => rfl⟩
  · exact ⟨h1, h3, fun e => by cases e⟩
theorem Owns.next (h : Owns w lo hi A n c xss) (hb : Below w.heap.size w w') : Owns w' lo hi A n c xss := by
  obtain ⟨h1, ⟨vs, hr, hi', ha⟩, h3⟩ := h
  refine ⟨h1, ⟨vs, ?_, fun j hj => (hi' j hj).next hb, ha⟩, h3⟩
  exact World.ownsRow.kept hr ⟨hb.os, hb.tape, hb.output, hb.size, fun k hk _ => hb.block k hk⟩ (row := none) (by cases (Value.slice A n c).ownBlock <;> simp)
theorem Owns.drewN (h : Owns w lo hi A n c xss) (d : Nat) : Owns (w.drewN d) lo hi A n c xss := h.next ⟨rfl, rfl, rfl, Nat.le_refl _, fun _ _ => rfl⟩
theorem Owns.drew (h : Owns w lo hi A n c xss) : Owns w.drew lo hi A n c xss := h.next ⟨rfl, rfl, rfl, Nat.le_refl _, fun _ _ => rfl⟩
theorem Owns.wider {lo' hi' : Nat} (h : Owns w lo hi A n c xss) (h1 : lo' ≤ lo) (h2 : hi ≤ hi') : Owns w lo' hi' A n c xss := by
  obtain ⟨h3, ⟨vs, hr, hin, ha⟩, h5⟩ := h
  have low : ∀ {t : TypeId} {v : Value} {m : Nat} {us : List Value}, w.ownsRow lo t 1 v m us → w.ownsRow lo' t 1 v m us := fun {t v m us} ho => by
    obtain ⟨q1, q2⟩ := ho
    refine ⟨q1, ?_⟩
    rcases q2 with q2 | ⟨g, cap, cur, hv, hg, r⟩
    · exact .inl q2
    · exact .inr ⟨g, cap, cur, hv, Nat.le_trans h1 hg, r⟩
  refine ⟨h3, ⟨vs, low hr, fun j hj => ?_, ha⟩, fun k hk => Nat.lt_of_lt_of_le (h5 k hk) h2⟩
  obtain ⟨A', c', e, ho, ht⟩ := hin j hj
  exact ⟨A', c', e, low ho, fun k hk => Nat.lt_of_lt_of_le (ht k hk) h2⟩
/-- it stays, where blocks outside are written -/
theorem Owns.btw {lo' hi' : Nat} (h : Owns w lo hi A n c xss) (hb : Btw lo' hi' w w') (ho : hi ≤ lo' ∨ hi' ≤ lo) : Owns w' lo hi A n c xss := by
  obtain ⟨h1, ⟨vs, hr, hin, ha⟩, h3⟩ := h
  have key : ∀ {t : TypeId} {m : Nat} {v : Value} {us : List Value}, w.ownsRow lo t 1 v m us → (∀ k, v.ownBlock = some k → k < hi) → w'.ownsRow lo t 1 v m us := fun {t m v us} hr ht => by
    obtain ⟨q1, q2⟩ := hr
    refine ⟨q1, ?_⟩
    rcases q2 with q2 | ⟨g, cap, cur, hv, hg, hh, r⟩
    · exact .inl q2
    · have h5 := ht g (by rw [hv]; rfl)
      refine .inr ⟨g, cap, cur, hv, hg, ?_, r⟩
      have hlt : g < w.heap.size := (Array.getElem?_eq_some_iff.1 hh).1
      exact (hb.block g hlt (by omega)).trans hh
  refine ⟨h1, ⟨vs, key hr (fun k hk => h3 k (by rw [blk_own] at hk; exact hk)), fun j hj => ?_, ha⟩, h3⟩
  obtain ⟨A', c', e, ho', ht⟩ := hin j hj
  exact ⟨A', c', e, key ho' (fun k hk => ht k (by rw [e, blk_own] at hk; exact hk)), ht⟩
theorem Owns.nil (w : World) (lo hi : Nat) : Owns w lo hi none 0 0 [] :=
  ⟨rfl, ⟨[], World.ownsRow_nil w lo 24 1, fun j hj => absurd hj (Nat.not_lt_zero _), fun i j k _ hj => absurd hj (Nat.not_lt_zero _)⟩, fun k hk => by cases hk⟩

/-- one of its slices is written anew -/
theorem Owns.set {j : Nat} {v : Value} {ys : List Int} (h : Owns w lo hi A n c xss) (hj : j < n) (hg : w.grownBy w' v.ownBlock) (ho : Own w' lo v ys) (hl : ys.length = (xss.getD j []).length)
    (hv : ∀ b, A = some ⟨b, 0, none⟩ → w.cell? ⟨b, j, none⟩ = some v) : Owns w' lo hi A n c (xss.set j ys) := by
  obtain ⟨h1, ⟨vs, hr, hin, ha⟩, h3⟩ := h
  rcases own_form hr with ⟨_, e, _⟩ | ⟨g, cur, rfl, hlo, hrow, hnc, hsz, hmax, hlen, hc⟩
  · omega
  have e1 : v = vs.getD j undef := by
    have h4 := hv g rfl
    rw [hrow.cell j, hc j hj] at h4
    injection h4 with h4
    exact h4.symm
  subst e1
  have hgj : ∀ k, (vs.getD j undef).ownBlock = some k → k ≠ g := fun k hk => by
    obtain ⟨A', c', e, ho', _⟩ := hin j hj
    rw [e] at ho' hk
    rcases own_form (n := (xss.getD j []).length) ho' with ⟨rfl, _⟩ | ⟨g', cur', rfl, _, hrow', _⟩
    · cases hk
    · have e2 : g' = k := by simpa [Value.ownBlock] using hk
      subst e2
      exact (Row.ne_ hrow hrow' (by decide)).symm
  refine ⟨by rw [List.length_set]; exact h1, ⟨vs, World.ownsRow.kept hr hg (.inr (fun e => hgj g e.symm rfl)), fun i hi' => ?_, ha⟩, h3⟩
  by_cases e : j = i
  · subst e
    obtain ⟨A', c', e, _, ht⟩ := hin j hj
    have e3 : (xss.set j ys).getD j [] = ys := by simp [List.getD, show j < xss.length by omega]
    rw [e3]
    exact ⟨A', c', by rw [hl]; exact e, ho, ht⟩
  · have e3 : (xss.set j ys).getD i [] = xss.getD i [] := by simp [List.getD, List.getElem?_set_ne e]
    rw [e3]
    refine (hin i hi').kept hg ?_
    cases hb : (vs.getD i undef).ownBlock with
    | none => exact .inl rfl
    | some k =>
      right
      intro e4
      rcases Nat.lt_or_gt_of_ne e with h5 | h5
      · exact ha j i k h5 hi' e4.symm hb
      · exact ha i j k h5 hj hb e4.symm
end
theorem Inn.ne {w : World} {lo hi g : Nat} {v : Value} {xs : List Int} {cs : Array Value} (h : Inn w lo hi v xs) (hr : Row w g 24 cs) : v.ownBlock ≠ some g := by
  obtain ⟨A, c, rfl, ho, _⟩ := h
  rcases own_form (n := xs.length) ho with ⟨rfl, _⟩ | ⟨g', cur', rfl, _, hrow', _⟩
  · intro e; cases e
  · intro e
    have e2 : g' = g := by simpa [Value.ownBlock] using e
    exact Row.ne_ hr hrow' (by decide) e2.symm
theorem Inn.wider {w : World} {lo hi lo' hi' : Nat} {v : Value} {xs : List Int} (h : Inn w lo hi v xs) (h1 : lo' ≤ lo) (h2 : hi ≤ hi') : Inn w lo' hi' v xs := by
  obtain ⟨A, c, rfl, ho, ht⟩ := h
  exact ⟨A, c, rfl, Own.lower ho h1, fun k hk => Nat.lt_of_lt_of_le (ht k hk) h2⟩
theorem rowsOf {w : World} {base g n c : Nat} {t : TypeId} {cs : Array Value} (hr : Row w g t cs) (hs : cs.size = c) (hn : n ≤ c) (hm : c ≤ 9223372036854775807) (hb : base ≤ g) : w.ownsRow base t 1 (.slice (some ⟨g, 0, none⟩) n c) n (cs.toList.take n) :=
  ⟨by simp; omega, .inr ⟨g, c, cs, rfl, hb, hr, hn, by unfold maxLen; omega, by omega, by simp⟩⟩

end Go.Proofs.Ytdkjafjphgcbjaa.segs
end

section
/-
  CONTRACTS on slices of slices of int64 and on substitutions: the laws' helpers szInt64SS, toInt64SS, eqInt64SS, markInt64SS, heldInt64SS and those for Subst. Conditions: the slices read as lists of lists ('Segs'), at most 1048576 slices of at most 1048576 numbers. By an AI agent.
-/
namespace Go.Proofs.Ytdkjafjphgcbjaa.segsHelp
open Go.RowKit Go.Proofs.Ytdkjafjphgcbjaa.base Go.Proofs.Ytdkjafjphgcbjaa.ints Go.Proofs.Ytdkjafjphgcbjaa.sig Go.Proofs.Ytdkjafjphgcbjaa.cursor Go.Proofs.Ytdkjafjphgcbjaa.marks Go.Proofs.Ytdkjafjphgcbjaa.app Go.Proofs.Ytdkjafjphgcbjaa.sym Go.Proofs.Ytdkjafjphgcbjaa.appAt Go.Proofs.Ytdkjafjphgcbjaa.segs
set_option maxRecDepth 100000

theorem info_list : (Try.prog.info? 24).map (fun i => (i.zero, i.size, i.bytes)) = some (some (.slice none 0 0), 1, 24) := by kernel_rfl

/-- make([][]int64, n) -/
theorem run_make_lists (n : Nat) (hn : n ≤ 1048576) (W : World) : (Instr.makeSlice 157 (.int .i64 (n : Int)) (.int .i64 (n : Int))).run Try.prog W =
    .ok (.slice (some ⟨W.heap.size, 0, none⟩) n n) (W.alloc (.cells (madeCells #[.slice none 0 0] n) 24)) := by
  obtain ⟨i0, hi, hz0, hz1, hz2⟩ := info_parts info_list
  have hr := run_make (P := Try.prog) W 157 24 i0 _ Try.underlying157 hi hz0 .i64 .i64 n n (by omega) (by omega) (by rw [hz2]; omega) (by omega)
  simpa [hz1, Value.cells] using hr

/-! ### toInt64SS -/
/-- the first k slices are copied -/
def HeadTo (w : World) (n : Nat) (xss : List (List Int)) (i : Value) (wr : World) : Prop :=
  ∃ (k : Nat) (cs : Array Value), k ≤ n ∧ i = .int .i64 k ∧ Row wr w.heap.size 24 cs ∧ cs.size = n ∧ (∀ j, j < k → Inn wr (w.heap.size + 1) wr.heap.size (cs.toList.getD j undef) (xss.getD j [])) ∧ Apart k cs.toList ∧ Below w.heap.size w wr
theorem headTo_step {w wr w1 : World} {n k m : Nat} {xss : List (List Int)} {cs cs1 : Array Value} (hk : k < n) (hr : Row wr w.heap.size 24 cs) (hs : cs.size = n)
    (hi : ∀ j, j < k → Inn wr (w.heap.size + 1) wr.heap.size (cs.toList.getD j undef) (xss.getD j [])) (ha : Apart k cs.toList) (hb : Below w.heap.size w wr)
    (hm : (xss.getD k []).length = m) (h2 : m ≤ 9223372036854775807) (r1 : Row w1 wr.heap.size 2 cs1) (s1 : cs1.size = m) (c1 : ∀ j, j < m → cs1[j]? = some (.int .i64 ((xss.getD k []).getD j 0))) (bb : Below wr.heap.size wr w1) :
    HeadTo w n xss (.int .i64 ((k : Int) + 1)) (w1.setCell ⟨w.heap.size, k, none⟩ (.slice (some ⟨wr.heap.size, 0, none⟩) m m)) := by
  obtain ⟨v, hv⟩ : ∃ v, v = Value.slice (some ⟨wr.heap.size, 0, none⟩) m m := ⟨_, rfl⟩
  have hz := hr.lt
  have hr1 := hr.next bb
  have hg : w1.grownBy (w1.setCell ⟨w.heap.size, k, none⟩ v) (some w.heap.size) := grown_put (World.grownBy.refl _ _) _ _
  have hin : Inn w1 wr.heap.size w1.heap.size v (xss.getD k []) := by
    refine ⟨some ⟨wr.heap.size, 0, none⟩, m, by rw [hv, hm], ?_, fun q hq => ?_⟩
    · rw [hv]
      have := Own.of_row (base := wr.heap.size) (n := m) (c := m) (xs := xss.getD k []) r1 hm s1 (Nat.le_refl _) h2 (Nat.le_refl _) c1
      exact this
    · have : wr.heap.size = q := Option.some.inj hq
      have := r1.lt
      omega
  rw [← hv]
  refine ⟨k + 1, cs.setIfInBounds k v, hk, by simp, hr1.put k v, by simp [hs], fun j hj => ?_, fun i j q hij hj e1 e2 => ?_, ((hb.trans (bb.mono hb.size))).setCell (Nat.le_refl _) _⟩
  · by_cases e : j = k
    · subst e
      have e3 : (cs.setIfInBounds j v).toList.getD j undef = v := by simp [List.getD, hs, hk]
      rw [e3]
      have h5 := (hin.kept hg (.inr (Inn.ne hin hr1)))
      exact Inn.wider h5 (by omega) (by simp)
    · have e3 : (cs.setIfInBounds k v).toList.getD j undef = cs.toList.getD j undef := by
        simp [List.getD, Array.getElem?_setIfInBounds, show ¬ k = j by omega]
      rw [e3]
      have h5 := (hi j (by omega)).next bb
      have h6 := h5.kept hg (.inr (Inn.ne h5 hr1))
      exact Inn.wider h6 (Nat.le_refl _) (by simpa using bb.size)
  · have gi : ∀ i, i < k → (cs.setIfInBounds k v).toList.getD i undef = cs.toList.getD i undef := fun i hi => by
      simp [List.getD, Array.getElem?_setIfInBounds, show ¬ k = i by omega]
    by_cases e : j = k
    · subst e
      rw [gi i hij] at e1
      have e3 : (cs.setIfInBounds j v).toList.getD j undef = v := by simp [List.getD, hs, hk]
      rw [e3] at e2
      have h5 := ((hi i hij).blk q e1).2.1
      have h6 := (hin.blk q e2).1
      omega
    · rw [gi i (by omega)] at e1
      rw [gi j (by omega)] at e2
      exact ha i j q hij (by omega) e1 e2

/-- a copy: all of it new -/
def CopySS (w : World) (n : Nat) (xss : List (List Int)) (e : Ending) (w' : World) : Prop :=
  ∃ g, e = .returned (.slice (some ⟨g, 0, none⟩) n n) ∧ Owns w' w.heap.size w'.heap.size (some ⟨g, 0, none⟩) n n xss ∧ w.heap.size < w'.heap.size ∧ Below w.heap.size w w'
theorem copySS_end {w wr : World} {n : Nat} {xss : List (List Int)} {cs : Array Value} (hl : xss.length = n) (hn : n ≤ 1048576) (hr : Row wr w.heap.size 24 cs) (hs : cs.size = n)
    (hi : ∀ j, j < n → Inn wr (w.heap.size + 1) wr.heap.size (cs.toList.getD j undef) (xss.getD j [])) (ha : Apart n cs.toList) (hb : Below w.heap.size w wr) : CopySS w n xss (.returned (.slice (some ⟨w.heap.size, 0, none⟩) n n)) wr := by
  have e : cs.toList.take n = cs.toList := List.take_of_length_le (by simp [hs])
  refine ⟨w.heap.size, rfl, ⟨hl, ⟨cs.toList, by rw [← e]; exact rowsOf hr hs (Nat.le_refl _) (by omega) (Nat.le_refl _), fun j hj => (hi j hj).wider (by omega) (Nat.le_refl _), ha⟩, fun k hk => ?_⟩, hr.lt, hb⟩
  have : w.heap.size = k := Option.some.inj hk
  have := hr.lt
  omega

/-! ### szInt64SS -/
/-- how many values: the slices and their numbers -/
def sumL (xss : List (List Int)) (k : Nat) : Nat := ((xss.take k).map List.length).sum
def tot (xss : List (List Int)) : Nat := xss.length + sumL xss xss.length
theorem sumL_succ {xss : List (List Int)} {k : Nat} (h : k < xss.length) : sumL xss (k + 1) = sumL xss k + (xss.getD k []).length := by
  unfold sumL
  rw [List.take_succ_eq_append_getElem h, List.map_append, List.sum_append]
  simp [List.getD, h]
theorem sumL_mono {xss : List (List Int)} : ∀ {k m : Nat}, k ≤ m → m ≤ xss.length → sumL xss k ≤ sumL xss m
  | k, 0, h, _ => by rw [show k = 0 by omega]; exact Nat.le_refl _
  | k, m + 1, h, hm => by
    by_cases e : k = m + 1
    · rw [e]; exact Nat.le_refl _
    · have := sumL_mono (xss := xss) (show k ≤ m by omega) (by omega)
      rw [sumL_succ (by omega)]
      omega
theorem tot_each {xss : List (List Int)} {L : Nat} (h : tot xss ≤ L) : ∀ j, (xss.getD j []).length ≤ L := fun j => by
  by_cases hj : j < xss.length
  · have h1 := sumL_succ hj
    have h2 := sumL_mono (xss := xss) (show j + 1 ≤ xss.length by omega) (Nat.le_refl _)
    unfold tot at h
    omega
  · rw [show xss.getD j [] = [] by simp [List.getD, hj]]
    simp
theorem tot_len {xss : List (List Int)} {L n : Nat} (hl : xss.length = n) (h : tot xss ≤ L) : n ≤ L := by unfold tot at h; omega

def AnsSz (w : World) (left : Int) (t : Nat) (e : Ending) (w' : World) : Prop := w = w' ∧ e = .returned (.int .i64 (if left - t < 0 then -1 else left - t))
def HeadSz (n : Nat) (xss : List (List Int)) (left : Int) (l i : Value) : Prop := ∃ k : Nat, k ≤ n ∧ i = .int .i64 k ∧ l = .int .i64 (left - n - sumL xss k) ∧ 0 ≤ left - n - sumL xss k
theorem sz_bad {w : World} {xss : List (List Int)} {n k m : Nat} {left : Int} (hl : xss.length = n) (hk : k < n) (hm : (xss.getD k []).length = m) (h : left - n - sumL xss k - m < 0) : AnsSz w left (tot xss) (.returned (.int .i64 (-1))) w := by
  refine ⟨rfl, ?_⟩
  have h1 := sumL_succ (xss := xss) (k := k) (by omega)
  have h2 := sumL_mono (xss := xss) (show k + 1 ≤ xss.length by omega) (Nat.le_refl _)
  rw [if_pos (by unfold tot; omega)]
theorem sz_short {w : World} {xss : List (List Int)} {n : Nat} {left : Int} (hl : xss.length = n) (h : left - n < 0) : AnsSz w left (tot xss) (.returned (.int .i64 (-1))) w := ⟨rfl, by rw [if_pos (by unfold tot; omega)]⟩
theorem sz_good {w : World} {xss : List (List Int)} {n k : Nat} {left : Int} (hl : xss.length = n) (hk : k = n) (h : 0 ≤ left - n - sumL xss k) : AnsSz w left (tot xss) (.returned (.int .i64 (left - n - sumL xss k))) w := by
  subst hk
  refine ⟨rfl, ?_⟩
  have e : (left - tot xss : Int) = left - k - sumL xss k := by unfold tot; rw [hl]; omega
  rw [e, if_neg (by omega)]

/-! ### eqInt64SS -/
end Go.Proofs.Ytdkjafjphgcbjaa.segsHelp
end

section
/-
  CONTRACTS on slices of slices of int64 that are the call's own: markInt64SS writes marks into them, heldInt64SS finds them again. Conditions: at most 1048576 values, marks from 0 to 1099511627776. By an AI agent.
-/
namespace Go.Proofs.Ytdkjafjphgcbjaa.segsMark
open Go.RowKit Go.Proofs.Ytdkjafjphgcbjaa.base Go.Proofs.Ytdkjafjphgcbjaa.ints Go.Proofs.Ytdkjafjphgcbjaa.sig Go.Proofs.Ytdkjafjphgcbjaa.cursor Go.Proofs.Ytdkjafjphgcbjaa.marks Go.Proofs.Ytdkjafjphgcbjaa.app Go.Proofs.Ytdkjafjphgcbjaa.sym Go.Proofs.Ytdkjafjphgcbjaa.appAt Go.Proofs.Ytdkjafjphgcbjaa.segs Go.Proofs.Ytdkjafjphgcbjaa.segsHelp
set_option maxRecDepth 100000

/-- what marking leaves -/
def AnsMarkO (w : World) (base : Nat) (A : Option Addr) (n c : Nat) (k : Int) (e : Ending) (w' : World) : Prop :=
  e = .returned (.int .i64 (k + (n : Int))) ∧ w.grownBy w' (blk A) ∧ Own w' base (.slice A n c) (marks k n)

set_option maxHeartbeats 1000000 in
theorem markOwn (base : Nat) (A : Option Addr) (n c : Nat) (xs : List Int) (k : Int) (w : World) (h : Own w base (.slice A n c) xs) (hn : n ≤ 1048576) (hk0 : 0 ≤ k) (hk : k ≤ 1099511627776) :
    Calls Try.prog 50 #[.slice A n c, .int .i64 k] w (AnsMarkO w base A n c k) := by
  have hl := Own.len h
  by_cases h0 : n = 0
  · subst h0
    have hx : xs = [] := List.eq_nil_of_length_eq_zero hl.symm
    subst hx
    have HO := Lib.hid h
    clear h hl
    go_enter Try.func50, Try.ntmps50
    go_wp2
    go_loop [1, 5] (fun kk i => kk = .int .i64 k ∧ i = .int .i64 0) (fun _ _ => 0)
    case atStart => exact ⟨rfl, rfl⟩
    case round =>
      obtain ⟨rfl, rfl⟩ := hrel
      go_wp2
      go_ret
      exact ⟨by simp, World.grownBy.refl _ _, by simpa [marks] using HO.out⟩
  · rcases own_form (n := n) (vs := xs.map (Value.int .i64)) (by rw [hl]; rw [hl] at h; exact h) with ⟨_, e, _⟩ | ⟨g, cs0, rfl, hb, hr0, hnc, hz0, hmax, _, _⟩
    · exact absurd e h0
    have S0 : HeadMark w g n k c (.int .i64 k) (.int .i64 0) w := ⟨0, cs0, Nat.zero_le _, rfl, by simp, hr0, hz0, fun q hq => absurd hq (Nat.not_lt_zero _), World.grownBy.refl _ _⟩
    have HS0 := Lib.hid S0
    clear S0 hz0 hr0 hl h
    go_enter Try.func50, Try.ntmps50
    go_wp2
    go_loopw [1, 5] (fun kk i wr => HeadMark w g n k c kk i wr) (fun _ i _ => n - (intOf i).toNat)
    case atStart => exact HS0.out
    case round =>
      obtain ⟨j, cs, hj, rfl, rfl, hr, hs, hc, hg⟩ := hrel
      clear HS0
      by_cases hlt : j < n
      · have S := Lib.hid (headMark_step (k := k) hlt hnc hr hs hc hg)
        obtain ⟨u, hu⟩ : ∃ u, wr.cell? ⟨g, j, none⟩ = some u := ⟨_, (hr.cell j).trans (Array.getElem?_eq_getElem (by omega))⟩
        have hf : wr.frozen? ⟨g, j, none⟩ = false := hr.free j
        clear hr hs hc hg
        go_wp2
        go_roundw
        case rel => exact S.out
        case measure => simp [intOf]; omega
      · have e : j = n := by omega
        subst e
        have F : AnsMarkO w base (some ⟨g, 0, none⟩) j c k (.returned (.int .i64 (k + (j : Int)))) wr :=
          ⟨rfl, hg, Own.of_row hr (marks_len _ _) hs hnc hmax hb (fun q hq => by rw [marks_get hq]; exact hc q hq)⟩
        have HF := Lib.hid F
        clear F hr hs hc hg
        go_wp2
        go_ret
        exact HF.out

/-- the marks of a list of lists, from k on -/
def marksL (k : Int) (xss : List (List Int)) : List (List Int) := (List.range xss.length).map fun j => marks (k + sumL xss j) (xss.getD j []).length
theorem marksL_get {k : Int} {xss : List (List Int)} {j : Nat} (h : j < xss.length) : (marksL k xss).getD j [] = marks (k + sumL xss j) (xss.getD j []).length := by simp [marksL, List.getD, h]
theorem marksL_len {k : Int} {xss : List (List Int)} : (marksL k xss).length = xss.length := by simp [marksL]

/-- the first j slices are marked -/
def HeadMarkS (w : World) (lo hi : Nat) (A : Option Addr) (n c : Nat) (xss : List (List Int)) (k : Int) (kk i : Value) (wr : World) : Prop :=
  ∃ (j : Nat) (yss : List (List Int)), j ≤ n ∧ i = .int .i64 j ∧ kk = .int .i64 (k + sumL xss j) ∧ Owns wr lo hi A n c yss ∧ (∀ q, (yss.getD q []).length = (xss.getD q []).length) ∧ (∀ q, q < j → yss.getD q [] = marks (k + sumL xss q) (xss.getD q []).length) ∧ Btw lo hi w wr
theorem headMarkS_step {w wr w1 : World} {lo hi : Nat} {A : Option Addr} {n c j m : Nat} {xss yss : List (List Int)} {k : Int} {B : Option Addr} {q : Nat} (hxl : xss.length = n) (hj : j < n) (h : Owns wr lo hi A n c yss)
    (hl : ∀ q, (yss.getD q []).length = (xss.getD q []).length) (hm : ∀ q, q < j → yss.getD q [] = marks (k + sumL xss q) (xss.getD q []).length) (hb : Btw lo hi w wr)
    (hv : ∀ b, A = some ⟨b, 0, none⟩ → wr.cell? ⟨b, j, none⟩ = some (.slice B m q)) (hlen : (xss.getD j []).length = m) (hblk : ∀ k, blk B = some k → lo ≤ k ∧ k < hi)
    (hg : wr.grownBy w1 (blk B)) (ho : Own w1 lo (.slice B m q) (marks (k + sumL xss j) m)) :
    HeadMarkS w lo hi A n c xss k (.int .i64 (k + sumL xss j + m)) (.int .i64 ((j : Int) + 1)) w1 := by
  refine ⟨j + 1, yss.set j (marks (k + sumL xss j) m), hj, by simp, ?_, ?_, fun p => ?_, fun p hp => ?_, hb.trans (Btw.of_grown hg hblk)⟩
  · rw [sumL_succ (by omega), hlen]
    exact congrArg (Value.int .i64) (by omega)
  · refine h.set hj (by rw [blk_own]; exact hg) ho ?_ hv
    rw [marks_len, hl, hlen]
  · by_cases e : j = p
    · subst e
      have : j < yss.length := by rw [h.len]; exact hj
      simp [List.getD, this, marks_len, ← hlen]
    · have e3 : (yss.set j (marks (k + sumL xss j) m)).getD p [] = yss.getD p [] := by simp [List.getD, List.getElem?_set_ne e]
      rw [e3]; exact hl p
  · by_cases e : j = p
    · subst e
      have : j < yss.length := by rw [h.len]; exact hj
      rw [hlen]
      simp [List.getD, this]
    · have e3 : (yss.set j (marks (k + sumL xss j) m)).getD p [] = yss.getD p [] := by simp [List.getD, List.getElem?_set_ne e]
      rw [e3]; exact hm p (by omega)

/-- what marking leaves -/
def AnsMarkS (w : World) (lo hi : Nat) (A : Option Addr) (n c : Nat) (xss : List (List Int)) (k : Int) (e : Ending) (w' : World) : Prop :=
  e = .returned (.int .i64 (k + sumL xss n)) ∧ Owns w' lo hi A n c (marksL k xss) ∧ Btw lo hi w w'
theorem lists_same {a b : List (List Int)} {n : Nat} (ha : a.length = n) (hb : b.length = n) (h : ∀ j, j < n → a.getD j [] = b.getD j []) : a = b := by
  refine List.ext_getElem (by omega) fun j h1 h2 => ?_
  have := h j (by omega)
  simpa [List.getD, h1, h2] using this
theorem markS_end {w wr : World} {lo hi : Nat} {A : Option Addr} {n c j : Nat} {xss yss : List (List Int)} {k : Int} (hxl : xss.length = n) (hj : ¬ j < n) (hj' : j ≤ n) (h : Owns wr lo hi A n c yss)
    (hm : ∀ q, q < j → yss.getD q [] = marks (k + sumL xss q) (xss.getD q []).length) (hb : Btw lo hi w wr) : AnsMarkS w lo hi A n c xss k (.returned (.int .i64 (k + sumL xss j))) wr := by
  have e : j = n := by omega
  subst e
  have e2 : yss = marksL k xss := lists_same h.len (by rw [marksL_len, hxl]) (fun q hq => by rw [hm q hq, marksL_get (by omega)])
  subst e2
  exact ⟨rfl, h, hb⟩

/-- the marks are found again -/
theorem segs_marks {w : World} {A : Option Addr} {n : Nat} {xss : List (List Int)} {k : Int} (h : Segs w w.heap.size A n (marksL k xss)) : xss.length = n := by rw [← marksL_len (k := k)]; exact h.1
end Go.Proofs.Ytdkjafjphgcbjaa.segsMark
end

section
/-
  THE LAWS' HELPERS IN ONE FORM, for each kind of argument (ints, Sig, Subst): copy, compare, mark, find the marks, measure. Used by the walks that gen_exact.py writes. Conditions: at most 1048576 values. By an AI agent.
-/
namespace Go.Proofs.Ytdkjafjphgcbjaa.kinds
open Go.RowKit Go.Proofs.Ytdkjafjphgcbjaa.base Go.Proofs.Ytdkjafjphgcbjaa.ints Go.Proofs.Ytdkjafjphgcbjaa.sig Go.Proofs.Ytdkjafjphgcbjaa.cursor Go.Proofs.Ytdkjafjphgcbjaa.marks Go.Proofs.Ytdkjafjphgcbjaa.app Go.Proofs.Ytdkjafjphgcbjaa.sym Go.Proofs.Ytdkjafjphgcbjaa.appAt Go.Proofs.Ytdkjafjphgcbjaa.segs Go.Proofs.Ytdkjafjphgcbjaa.segsHelp Go.Proofs.Ytdkjafjphgcbjaa.segsMark
set_option maxRecDepth 100000

/-- a slice of int64 of the call's own, in a block from lo on and below hi -/
def Ownd (w : World) (lo hi : Nat) (A : Option Addr) (n c : Nat) (xs : List Int) : Prop := Own w lo (.slice A n c) xs ∧ ∀ k, blk A = some k → k < hi
section
variable {w w' : World} {lo hi n c : Nat} {A : Option Addr} {xs : List Int}
theorem Ownd.rd (h : Ownd w lo hi A n c xs) : Seg w w.heap.size A n xs := Own.seg h.1
theorem Ownd.next (h : Ownd w lo hi A n c xs) (hb : Below w.heap.size w w') : Ownd w' lo hi A n c xs := ⟨h.1.next hb, h.2⟩
theorem Ownd.drewN (h : Ownd w lo hi A n c xs) (d : Nat) : Ownd (w.drewN d) lo hi A n c xs := h
theorem Ownd.drew (h : Ownd w lo hi A n c xs) : Ownd w.drew lo hi A n c xs := h
theorem Ownd.wider {lo' hi' : Nat} (h : Ownd w lo hi A n c xs) (h1 : lo' ≤ lo) (h2 : hi ≤ hi') : Ownd w lo' hi' A n c xs := ⟨Own.lower h.1 h1, fun k hk => Nat.lt_of_lt_of_le (h.2 k hk) h2⟩
theorem Ownd.btw {lo' hi' : Nat} (h : Ownd w lo hi A n c xs) (hb : Btw lo' hi' w w') (ho : hi ≤ lo' ∨ hi' ≤ lo) : Ownd w' lo hi A n c xs := by
  obtain ⟨⟨q1, q2⟩, ht⟩ := h
  refine ⟨⟨q1, ?_⟩, ht⟩
  rcases q2 with q2 | ⟨g, cap, cur, hv, hg, hh, r⟩
  · exact .inl q2
  · have h5 := ht g (by rw [← blk_own A n c, hv]; rfl)
    refine .inr ⟨g, cap, cur, hv, hg, ?_, r⟩
    have hlt : g < w.heap.size := (Array.getElem?_eq_some_iff.1 hh).1
    exact (hb.block g hlt (by omega)).trans hh
theorem Ownd.of_own (h : Own w lo (.slice A n c) xs) : Ownd w lo w.heap.size A n c xs := ⟨h, fun k hk => (World.ownsRow.lt h k (by rw [blk_own]; exact hk)).2⟩
theorem Ownd.cap (h : Ownd w lo hi A n c xs) : Cap A n c := by
  have hl := Own.len h.1
  rcases own_form (n := n) (vs := xs.map (Value.int .i64)) (by rw [hl]; have := h.1; rw [hl] at this; exact this) with ⟨rfl, h1, rfl, _⟩ | ⟨g, cur, rfl, _, _, h1, h2, h3, _⟩
  · exact ⟨by omega, by omega, fun _ => rfl⟩
  · exact ⟨h1, h3, fun e => by cases e⟩
theorem drew_below (w : World) : Below w.heap.size w w.drew := ⟨rfl, rfl, rfl, Nat.le_refl _, fun _ _ => rfl⟩
theorem drewN_below (w : World) (d : Nat) : Below w.heap.size w (w.drewN d) := ⟨rfl, rfl, rfl, Nat.le_refl _, fun _ _ => rfl⟩
end

/-! ### ints -/
def CopyInts (w : World) (n : Nat) (xs : List Int) (e : Ending) (w' : World) : Prop := ∃ g, e = .returned (.slice (some ⟨g, 0, none⟩) n n) ∧ Ownd w' w.heap.size w'.heap.size (some ⟨g, 0, none⟩) n n xs ∧ w.heap.size < w'.heap.size ∧ Below w.heap.size w w'
theorem intsTo (A : Option Addr) (n c : Nat) (xs : List Int) (w : World) (h : Seg w w.heap.size A n xs) (hn : n ≤ 1048576) :
    Calls Try.prog 83 #[.slice A n c] w (CopyInts w n xs) :=
  (toInts A n c xs w h hn).mono fun _ _ ⟨cs, he, hr, hs, hc, hz, hb⟩ => ⟨w.heap.size, he, Ownd.of_own (Own.of_row hr h.1 hs (Nat.le_refl _) (by omega) (Nat.le_refl _) hc), by omega, hb⟩
theorem intsEq (A A' : Option Addr) (n n' c c' : Nat) (xs : List Int) (w : World) (h : Seg w w.heap.size A n xs) (h' : Seg w w.heap.size A' n' xs) (hn : n ≤ 1048576) :
    Calls Try.prog 48 #[.slice A n c, .slice A' n' c'] w fun e w' => e = .returned (.bool true) ∧ Below w.heap.size w w' := by
  obtain rfl : n = n' := by rw [← h.1, ← h'.1]
  exact (eqYes A A' n c c' xs w h h' hn).mono fun _ _ ⟨he, d, hd⟩ => ⟨he, by rw [hd]; exact drewN_below _ _⟩
def AnsMarkI (w : World) (lo hi : Nat) (A : Option Addr) (n c : Nat) (k : Int) (e : Ending) (w' : World) : Prop := e = .returned (.int .i64 (k + (n : Int))) ∧ Ownd w' lo hi A n c (marks k n) ∧ Btw lo hi w w'
theorem intsMark (lo hi : Nat) (A : Option Addr) (n c : Nat) (xs : List Int) (k : Int) (w : World) (h : Ownd w lo hi A n c xs) (hn : n ≤ 1048576) (hk0 : 0 ≤ k) (hk : k ≤ 8388608) :
    Calls Try.prog 50 #[.slice A n c, .int .i64 k] w (AnsMarkI w lo hi A n c k) :=
  (markOwn lo A n c xs k w h.1 hn hk0 (by omega)).mono fun _ _ ⟨he, hg, ho⟩ => ⟨he, ⟨ho, h.2⟩, Btw.of_grown hg (fun q hq => ⟨Own.ge h.1 q hq, h.2 q hq⟩)⟩
theorem intsHeld (A : Option Addr) (n c : Nat) (k : Int) (w : World) (h : Seg w w.heap.size A n (marks k n)) (hn : n ≤ 1048576) (hk0 : 0 ≤ k) (hk : k ≤ 8388608) :
    Calls Try.prog 51 #[.slice A n c, .int .i64 k] w fun e w' => e = .returned (.int .i64 (k + (n : Int))) ∧ Below w.heap.size w w' :=
  (heldInts A n c k w h hn hk0 (by omega)).mono fun _ _ ⟨hw, he⟩ => ⟨he, by rw [← hw]; exact Below.refl _ _⟩

/-! ### Sig -/
def CopySigK (w : World) (n : Nat) (xs : List Int) (e : Ending) (w' : World) : Prop := ∃ g, e = .returned (.agg #[.slice (some ⟨g, 0, none⟩) n n]) ∧ Ownd w' w.heap.size w'.heap.size (some ⟨g, 0, none⟩) n n xs ∧ w.heap.size < w'.heap.size ∧ Below w.heap.size w w'
theorem sigTo (A : Option Addr) (n c : Nat) (xs : List Int) (w : World) (h : Seg w w.heap.size A n xs) (hn : n ≤ 1048576) :
    Calls Try.prog 40 #[.agg #[.slice A n c]] w (CopySigK w n xs) :=
  (toSig A n c xs w h hn).mono fun _ _ ⟨g, cs, he, hg, hr, hs, hc, hb⟩ => ⟨g, he, Ownd.of_own (Own.of_row hr h.1 hs (Nat.le_refl _) (by omega) hg hc), Nat.lt_of_le_of_lt hg hr.lt, hb⟩
theorem sigEq (A A' : Option Addr) (n n' c c' : Nat) (xs : List Int) (w : World) (h : Seg w w.heap.size A n xs) (h' : Seg w w.heap.size A' n' xs) (hn : n ≤ 1048576) :
    Calls Try.prog 42 #[.agg #[.slice A n c], .agg #[.slice A' n' c']] w fun e w' => e = .returned (.bool true) ∧ Below w.heap.size w w' := by
  obtain rfl : n = n' := by rw [← h.1, ← h'.1]
  exact eqSigYes A A' n c c' xs w h h' hn

set_option maxHeartbeats 1000000 in
theorem sigMark (lo hi : Nat) (A : Option Addr) (n c : Nat) (xs : List Int) (k : Int) (w : World) (h : Ownd w lo hi A n c xs) (hn : n ≤ 1048576) (hk0 : 0 ≤ k) (hk : k ≤ 8388608) :
    Calls Try.prog 53 #[.agg #[.slice A n c], .int .i64 k] w (AnsMarkI w lo hi A n c k) := by
  have b : Below w.heap.size w (w.alloc (.cells #[.slice A n c] 26)) := (Below.refl _ _).alloc (Nat.le_refl _) _
  have L := Lib.hid (intsMark lo hi A n c xs k _ (h.next b) hn hk0 hk)
  clear h
  go_enter Try.func53, Try.ntmps53
  go_wp2_with fail
  refine L.out.mono ?_
  rintro e w' ⟨rfl, ho, hb⟩
  have F : AnsMarkI w lo hi A n c k (.returned (.int .i64 (k + (n : Int)))) w' := ⟨rfl, ho, (Btw.of_below b).trans hb⟩
  have HF := Lib.hid F
  clear F ho hb b L
  go_wp2
  go_ret
  exact HF.out

/-! ### Subst -/
def CopySubst (w : World) (n : Nat) (xss : List (List Int)) (e : Ending) (w' : World) : Prop := ∃ g, e = .returned (.agg #[.slice (some ⟨g, 0, none⟩) n n]) ∧ Owns w' w.heap.size w'.heap.size (some ⟨g, 0, none⟩) n n xss ∧ w.heap.size < w'.heap.size ∧ Below w.heap.size w w'
theorem owns_put {w : World} {lo hi n c b : Nat} {A : Option Addr} {xss : List (List Int)} {t : TypeId} {cs : Array Value} (h : Owns w lo hi A n c xss) (hr : Row w b t cs) (hb : b < lo) (i : Nat) (u : Value) : Owns (w.setCell ⟨b, i, none⟩ u) lo hi A n c xss :=
  h.btw (lo' := b) (hi' := b + 1) (Btw.of_grown (grown_put (World.grownBy.refl _ _) _ _) (fun k hk => by injection hk; omega)) (.inr (by omega))

end Go.Proofs.Ytdkjafjphgcbjaa.kinds
end

section
/-
  WORDS FOR MEMORY OVER SHAPES: a value of any type that is made of int64, bool, slices and structs, reads as data ('Rd'); it and all that it reaches is the call's own ('Ow' with its blocks, 'Owned' between two blocks); how many numbers it holds ('sz'), the laws' marks ('cntv', 'mkv'). Conditions: none; plain lemmas. By an AI agent.
-/
namespace Go.Proofs.Ytdkjafjphgcbjaa.shape
open Go.RowKit Go.Proofs.Ytdkjafjphgcbjaa.base Go.Proofs.Ytdkjafjphgcbjaa.ints Go.Proofs.Ytdkjafjphgcbjaa.sig Go.Proofs.Ytdkjafjphgcbjaa.cursor Go.Proofs.Ytdkjafjphgcbjaa.marks Go.Proofs.Ytdkjafjphgcbjaa.app Go.Proofs.Ytdkjafjphgcbjaa.sym Go.Proofs.Ytdkjafjphgcbjaa.appAt Go.Proofs.Ytdkjafjphgcbjaa.segs Go.Proofs.Ytdkjafjphgcbjaa.segsHelp Go.Proofs.Ytdkjafjphgcbjaa.segsMark Go.Proofs.Ytdkjafjphgcbjaa.kinds

/-- a type's shape; a struct is its fields, one behind the other; 'row' names the elements' type -/
inductive Sh where
  | num : Sh
  | bit : Sh
  | row : TypeId → Sh → Sh
  | cat : Sh → Sh → Sh
@[reducible] def Dat : Sh → Type
  | .num => Int
  | .bit => Bool
  | .row _ s => List (Dat s)
  | .cat a b => Dat a × Dat b
/-- how many cells -/
def nc : Sh → Nat
  | .num => 1
  | .bit => 1
  | .row _ _ => 1
  | .cat a b => nc a + nc b
def dft : (s : Sh) → Dat s
  | .num => (0 : Int)
  | .bit => false
  | .row _ _ => []
  | .cat a b => (dft a, dft b)
/-- the cells es lie in block b from off on -/
def Piece (w : World) (b off : Nat) (es : List Value) : Prop := ∀ i, i < es.length → w.cell? ⟨b, off + i, none⟩ = es[i]?
theorem nc_pos : ∀ s : Sh, 1 ≤ nc s
  | .num => Nat.le_refl _
  | .bit => Nat.le_refl _
  | .row _ _ => Nat.le_refl _
  | .cat a b => Nat.le_trans (nc_pos a) (Nat.le_add_right _ _)

/-- the cells cs read as d; all blocks lie below B -/
def Rd (w : World) (B : Nat) : (s : Sh) → List Value → Dat s → Prop
  | .num, cs, (x : Int) => cs = [.int .i64 x]
  | .bit, cs, (x : Bool) => cs = [.bool x]
  | .row _ s, cs, (d : List (Dat s)) => ∃ A n c, cs = [.slice A n c] ∧ Cap A n c ∧ d.length = n ∧
      (0 < n → ∃ b off, A = some ⟨b, off, none⟩ ∧ b < B ∧ ∀ j, j < n → ∃ es, es.length = nc s ∧ Piece w b (off + j * nc s) es ∧ Rd w B s es (d.getD j (dft s)))
  | .cat a b, cs, d => ∃ ca cb, cs = ca ++ cb ∧ Rd w B a ca d.1 ∧ Rd w B b cb d.2

/-- the cells cs read as d, and all that they reach is the call's own: it lies in the blocks F -/
def Ow (w : World) : (s : Sh) → List Value → Dat s → List Nat → Prop
  | .num, cs, (x : Int), F => cs = [.int .i64 x] ∧ F = []
  | .bit, cs, (x : Bool), F => cs = [.bool x] ∧ F = []
  | .row e s, cs, (d : List (Dat s)), F => ∃ A n c, cs = [.slice A n c] ∧ d.length = n ∧
      ((A = none ∧ n = 0 ∧ c = 0 ∧ F = []) ∨ ∃ (g : Nat) (cur : Array Value) (E : Nat → List Value) (G : Nat → List Nat), A = some ⟨g, 0, none⟩ ∧ Row w g e cur ∧ n ≤ c ∧ c ≤ 9223372036854775807 ∧ cur.size = c * nc s ∧
        F = g :: (List.range n).flatMap G ∧ ∀ j, j < n → (E j).length = nc s ∧ (∀ i, i < nc s → cur[j * nc s + i]? = (E j)[i]?) ∧ Ow w s (E j) (d.getD j (dft s)) (G j))
  | .cat a b, cs, d, F => ∃ ca cb Fa Fb, cs = ca ++ cb ∧ F = Fa ++ Fb ∧ Ow w a ca d.1 Fa ∧ Ow w b cb d.2 Fb

section
variable {w w' : World} {B B' : Nat}
theorem Rd.len : ∀ {s : Sh} {cs : List Value} {d : Dat s}, Rd w B s cs d → cs.length = nc s
  | .num, _, _, h => by have h : _ = _ := h; rw [h]; rfl
  | .bit, _, _, h => by have h : _ = _ := h; rw [h]; rfl
  | .row _ _, _, _, h => by obtain ⟨A, n, c, e, _⟩ := h; rw [e]; rfl
  | .cat a b, _, _, h => by
    obtain ⟨ca, cb, e, h1, h2⟩ := h
    rw [e, List.length_append, h1.len, h2.len]; rfl
theorem Piece.keep {b off : Nat} {es : List Value} (h : Piece w b off es) (hk : ∀ p : Addr, p.block = b → w'.cell? p = w.cell? p) : Piece w' b off es := fun i hi => (hk _ rfl).trans (h i hi)
theorem Rd.keep (hk : ∀ p : Addr, p.block < B → w'.cell? p = w.cell? p) : ∀ {s : Sh} {cs : List Value} {d : Dat s}, Rd w B s cs d → Rd w' B s cs d
  | .num, _, _, h => h
  | .bit, _, _, h => h
  | .row _ s, _, _, h => by
    obtain ⟨A, n, c, e, hc, hl, h1⟩ := h
    refine ⟨A, n, c, e, hc, hl, fun hn => ?_⟩
    obtain ⟨b, off, e2, hb, h2⟩ := h1 hn
    refine ⟨b, off, e2, hb, fun j hj => ?_⟩
    obtain ⟨es, he, hp, hr⟩ := h2 j hj
    exact ⟨es, he, hp.keep (fun p hp => hk p (by rw [hp]; exact hb)), hr.keep hk⟩
  | .cat a b, _, _, h => by
    obtain ⟨ca, cb, e, h1, h2⟩ := h
    exact ⟨ca, cb, e, h1.keep hk, h2.keep hk⟩
theorem Rd.more (hB : B ≤ B') : ∀ {s : Sh} {cs : List Value} {d : Dat s}, Rd w B s cs d → Rd w B' s cs d
  | .num, _, _, h => h
  | .bit, _, _, h => h
  | .row _ s, _, _, h => by
    obtain ⟨A, n, c, e, hc, hl, h1⟩ := h
    refine ⟨A, n, c, e, hc, hl, fun hn => ?_⟩
    obtain ⟨b, off, e2, hb, h2⟩ := h1 hn
    refine ⟨b, off, e2, by omega, fun j hj => ?_⟩
    obtain ⟨es, he, hp, hr⟩ := h2 j hj
    exact ⟨es, he, hp, hr.more hB⟩
  | .cat a b, _, _, h => by
    obtain ⟨ca, cb, e, h1, h2⟩ := h
    exact ⟨ca, cb, e, h1.more hB, h2.more hB⟩
theorem Rd.below {s : Sh} {cs : List Value} {d : Dat s} (h : Rd w B s cs d) (hb : Below B w w') : Rd w' B s cs d := h.keep fun _ hp => hb.cell hp
theorem Rd.next {s : Sh} {cs : List Value} {d : Dat s} (h : Rd w w.heap.size s cs d) (hb : Below w.heap.size w w') : Rd w' w'.heap.size s cs d := (h.below hb).more hb.size

theorem Ow.len : ∀ {s : Sh} {cs : List Value} {d : Dat s} {F : List Nat}, Ow w s cs d F → cs.length = nc s
  | .num, _, _, _, h => by obtain ⟨e, _⟩ := h; rw [e]; rfl
  | .bit, _, _, _, h => by obtain ⟨e, _⟩ := h; rw [e]; rfl
  | .row _ _, _, _, _, h => by obtain ⟨A, n, c, e, _⟩ := h; rw [e]; rfl
  | .cat a b, _, _, _, h => by
    obtain ⟨ca, cb, Fa, Fb, e, _, h1, h2⟩ := h
    rw [e, List.length_append, h1.len, h2.len]; rfl
theorem Ow.keep : ∀ {s : Sh} {cs : List Value} {d : Dat s} {F : List Nat}, Ow w s cs d F → (∀ k ∈ F, w'.heap[k]? = w.heap[k]?) → Ow w' s cs d F
  | .num, _, _, _, h, _ => h
  | .bit, _, _, _, h, _ => h
  | .row e s, _, _, F, h, hk => by
    obtain ⟨A, n, c, e1, hl, h1⟩ := h
    refine ⟨A, n, c, e1, hl, ?_⟩
    rcases h1 with h1 | ⟨g, cur, E, G, e2, hr, h2, h3, h4, h5, h6⟩
    · exact .inl h1
    · subst h5
      refine .inr ⟨g, cur, E, G, e2, (hk g (List.mem_cons_self ..)).trans hr, h2, h3, h4, rfl, fun j hj => ?_⟩
      obtain ⟨q1, q2, q3⟩ := h6 j hj
      exact ⟨q1, q2, q3.keep fun k hkG => hk k (List.mem_cons_of_mem _ (List.mem_flatMap.2 ⟨j, List.mem_range.2 hj, hkG⟩))⟩
  | .cat a b, _, _, F, h, hk => by
    obtain ⟨ca, cb, Fa, Fb, e, e2, h1, h2⟩ := h
    subst e2
    exact ⟨ca, cb, Fa, Fb, e, rfl, h1.keep fun k h => hk k (List.mem_append_left _ h), h2.keep fun k h => hk k (List.mem_append_right _ h)⟩
theorem Ow.lt : ∀ {s : Sh} {cs : List Value} {d : Dat s} {F : List Nat}, Ow w s cs d F → ∀ k ∈ F, k < w.heap.size
  | .num, _, _, _, h, k, hk => by obtain ⟨_, e⟩ := h; rw [e] at hk; cases hk
  | .bit, _, _, _, h, k, hk => by obtain ⟨_, e⟩ := h; rw [e] at hk; cases hk
  | .row e s, _, _, F, h, k, hk => by
    obtain ⟨A, n, c, e1, hl, h1⟩ := h
    rcases h1 with ⟨_, _, _, h1⟩ | ⟨g, cur, E, G, e2, hr, h2, h3, h4, h5, h6⟩
    · rw [h1] at hk; cases hk
    · rw [h5] at hk
      rcases List.mem_cons.1 hk with hk | hk
      · rw [hk]; exact hr.lt
      · obtain ⟨j, hj, hk⟩ := List.mem_flatMap.1 hk
        exact (h6 j (List.mem_range.1 hj)).2.2.lt k hk
  | .cat a b, _, _, F, h, k, hk => by
    obtain ⟨ca, cb, Fa, Fb, e, e2, h1, h2⟩ := h
    rw [e2] at hk
    rcases List.mem_append.1 hk with hk | hk
    · exact h1.lt k hk
    · exact h2.lt k hk
theorem Ow.next {s : Sh} {cs : List Value} {d : Dat s} {F : List Nat} (h : Ow w s cs d F) (hb : Below w.heap.size w w') : Ow w' s cs d F := h.keep fun k hk => hb.block k (h.lt k hk)
theorem Ow.rd : ∀ {s : Sh} {cs : List Value} {d : Dat s} {F : List Nat}, Ow w s cs d F → Rd w w.heap.size s cs d
  | .num, _, _, _, h => h.1
  | .bit, _, _, _, h => h.1
  | .row e s, _, _, F, h => by
    obtain ⟨A, n, c, e1, hl, h1⟩ := h
    rcases h1 with ⟨rfl, rfl, rfl, _⟩ | ⟨g, cur, E, G, e2, hr, h2, h3, h4, h5, h6⟩
    · exact ⟨none, 0, 0, e1, ⟨by omega, by omega, fun _ => rfl⟩, hl, fun h => absurd h (by omega)⟩
    · refine ⟨A, n, c, e1, ⟨h2, h3, fun e => by rw [e] at e2; cases e2⟩, hl, fun hn => ⟨g, 0, e2, hr.lt, fun j hj => ?_⟩⟩
      obtain ⟨q1, q2, q3⟩ := h6 j hj
      refine ⟨E j, q1, fun i hi => ?_, q3.rd⟩
      rw [Nat.zero_add, hr.cell, q2 i (by omega)]
  | .cat a b, _, _, F, h => by
    obtain ⟨ca, cb, Fa, Fb, e, e2, h1, h2⟩ := h
    exact ⟨ca, cb, e, h1.rd, h2.rd⟩

/-! ### the call's own, in blocks from lo on and below hi -/
def Owned (w : World) (lo hi : Nat) (s : Sh) (cs : List Value) (d : Dat s) : Prop := ∃ F, Ow w s cs d F ∧ F.Nodup ∧ ∀ k ∈ F, lo ≤ k ∧ k < hi
variable {lo hi : Nat} {s : Sh} {cs : List Value} {d : Dat s}
theorem Owned.rd (h : Owned w lo hi s cs d) : Rd w w.heap.size s cs d := by obtain ⟨F, h, _⟩ := h; exact h.rd
theorem Owned.next (h : Owned w lo hi s cs d) (hb : Below w.heap.size w w') : Owned w' lo hi s cs d := by obtain ⟨F, h, h2⟩ := h; exact ⟨F, h.next hb, h2⟩
theorem Owned.drew (h : Owned w lo hi s cs d) : Owned w.drew lo hi s cs d := h.next (drew_below w)
theorem Owned.drewN (h : Owned w lo hi s cs d) (k : Nat) : Owned (w.drewN k) lo hi s cs d := h.next (drewN_below w k)
theorem Owned.wider {lo' hi' : Nat} (h : Owned w lo hi s cs d) (h1 : lo' ≤ lo) (h2 : hi ≤ hi') : Owned w lo' hi' s cs d := by
  obtain ⟨F, h, h3, h4⟩ := h
  exact ⟨F, h, h3, fun k hk => by have := h4 k hk; omega⟩
theorem Owned.btw {lo' hi' : Nat} (h : Owned w lo hi s cs d) (hb : Btw lo' hi' w w') (ho : hi ≤ lo' ∨ hi' ≤ lo) : Owned w' lo hi s cs d := by
  obtain ⟨F, h, h3, h4⟩ := h
  exact ⟨F, h.keep fun k hk => hb.block k (h.lt k hk) (by have := h4 k hk; omega), h3, h4⟩
theorem Owned.put {g i : Nat} {u : Value} (h : Owned w lo hi s cs d) (hg : g < lo ∨ hi ≤ g) : Owned (w.setCell ⟨g, i, none⟩ u) lo hi s cs d := by
  obtain ⟨F, h, h3, h4⟩ := h
  exact ⟨F, h.keep fun k hk => Below.heap_setCell w _ u k (by have := h4 k hk; show k ≠ g; omega), h3, h4⟩
theorem Owned.cat {mid mid' : Nat} {a b : Sh} {ca cb : List Value} {da : Dat a} {db : Dat b} (h1 : Owned w lo mid a ca da) (h2 : Owned w mid' hi b cb db) (hm : mid ≤ mid') (hl : lo ≤ mid') (hh : mid ≤ hi) : Owned w lo hi (.cat a b) (ca ++ cb) (da, db) := by
  obtain ⟨F, h1, n1, b1⟩ := h1
  obtain ⟨G, h2, n2, b2⟩ := h2
  refine ⟨F ++ G, ⟨ca, cb, F, G, rfl, rfl, h1, h2⟩, List.nodup_append.2 ⟨n1, n2, fun x hx y hy e => ?_⟩, fun k hk => ?_⟩
  · have := b1 x hx; have := b2 y hy; omega
  · rcases List.mem_append.1 hk with hk | hk
    · have := b1 k hk; omega
    · have := b2 k hk; omega
end

/-! ### slices of int64 -/
abbrev sI : Sh := .row 2 .num
section
variable {w w' : World} {B : Nat}
theorem rd_ints {v : Value} {xs : List Int} : Rd w B sI [v] xs ↔ ∃ A n c, v = .slice A n c ∧ Seg w B A n xs ∧ Cap A n c := by
  constructor
  · rintro ⟨A, n, c, e, hc, hl, h⟩
    refine ⟨A, n, c, by injection e, ⟨hl, fun hn => ?_⟩, hc⟩
    obtain ⟨b, off, e2, hb, h2⟩ := h hn
    refine ⟨b, off, e2, hb, fun j hj => ?_⟩
    obtain ⟨es, he, hp, hr⟩ := h2 j hj
    have hr : es = [.int .i64 (xs.getD j 0)] := hr
    have := hp 0 (by rw [hr]; simp)
    rw [hr] at this
    simpa [nc] using this
  · rintro ⟨A, n, c, rfl, h, hc⟩
    refine ⟨A, n, c, rfl, hc, h.1, fun hn => ?_⟩
    obtain ⟨b, off, e2, hb, h2⟩ := h.2 hn
    refine ⟨b, off, e2, hb, fun j hj => ⟨[.int .i64 (xs.getD j 0)], rfl, fun i hi => ?_, rfl⟩⟩
    have hi : i = 0 := by simpa using hi
    subst hi
    simpa [nc] using h2 j hj
theorem Rd.seg {A : Option Addr} {n c : Nat} {xs : List Int} (h : Rd w B sI [.slice A n c] xs) : Seg w B A n xs := by
  obtain ⟨A', n', c', e, h, _⟩ := rd_ints.1 h
  injection e with e1 e2 e3
  subst e1 e2
  exact h
theorem ow_ints {lo hi : Nat} {A : Option Addr} {n c : Nat} {xs : List Int} : Owned w lo hi sI [.slice A n c] xs ↔ Ownd w lo hi A n c xs := by
  constructor
  · rintro ⟨F, ⟨A', n', c', e, hl, h⟩, _, hb⟩
    injection e with e
    injection e with e1 e2 e3
    subst e1 e2 e3
    rcases h with ⟨rfl, rfl, rfl, rfl⟩ | ⟨g, cur, E, G, rfl, hr, h2, h3, h4, rfl, h6⟩
    · have hx : xs = [] := List.eq_nil_of_length_eq_zero hl
      subst hx
      exact ⟨Own.nil _ _, fun k hk => by cases hk⟩
    · have hg := hb g (List.mem_cons_self ..)
      refine ⟨Own.of_row hr hl (by simpa [nc] using h4) h2 h3 hg.1 fun j hj => ?_, fun k hk => by have : g = k := Option.some.inj hk; omega⟩
      obtain ⟨q1, q2, q3⟩ := h6 j hj
      have q3 : E j = [.int .i64 (xs.getD j 0)] := q3.1
      have := q2 0 (by simp [nc])
      rw [q3] at this
      simpa [nc] using this
  · rintro ⟨ho, hb⟩
    have hl := Own.len ho
    rcases own_form (n := n) (vs := xs.map (Value.int .i64)) (by rw [hl]; rw [hl] at ho; exact ho) with ⟨rfl, h1, rfl, _⟩ | ⟨g, cur, rfl, hlo, hr, h1, h2, h3, _, h5⟩
    · subst h1
      exact ⟨[], ⟨none, 0, 0, rfl, hl.symm, .inl ⟨rfl, rfl, rfl, rfl⟩⟩, List.nodup_nil, fun k hk => by cases hk⟩
    · have hg := hb g rfl
      refine ⟨[g], ⟨some ⟨g, 0, none⟩, n, c, rfl, hl.symm, .inr ⟨g, cur, fun j => [.int .i64 (xs.getD j 0)], fun _ => [], rfl, hr, h1, h3, by simp [nc, h2], ?_, fun j hj => ⟨rfl, fun i hi => ?_, rfl, rfl⟩⟩⟩, by simp, fun k hk => ?_⟩
      · have : ∀ l : List Nat, l.flatMap (fun _ => ([] : List Nat)) = [] := fun l => by induction l <;> simp_all
        rw [this]
      · have hi : i = 0 := by simpa [nc] using hi
        subst hi
        have := h5 j hj
        simp only [nc, Nat.mul_one, Nat.add_zero]
        rw [this]
        have hj' : j < xs.length := by omega
        simp [List.getD, hj']
      · rw [List.mem_singleton.1 hk]; exact ⟨hlo, hg⟩
end

/-! ### how many numbers -/
def sz : (s : Sh) → Dat s → Nat
  | .num, _ => 0
  | .bit, _ => 0
  | .row _ s, (d : List (Dat s)) => d.length + (d.map (sz s)).sum
  | .cat a b, d => sz a d.1 + sz b d.2
/-- the first k elements of a slice -/
def szs (s : Sh) (d : List (Dat s)) (k : Nat) : Nat := ((d.take k).map (sz s)).sum
theorem szs_succ {s : Sh} {d : List (Dat s)} {k : Nat} (h : k < d.length) : szs s d (k + 1) = szs s d k + sz s (d.getD k (dft s)) := by
  unfold szs
  rw [List.take_succ_eq_append_getElem h, List.map_append, List.sum_append]
  simp [List.getD, h]
theorem szs_mono {s : Sh} {d : List (Dat s)} : ∀ {k m : Nat}, k ≤ m → m ≤ d.length → szs s d k ≤ szs s d m
  | k, 0, h, _ => by rw [show k = 0 by omega]; exact Nat.le_refl _
  | k, m + 1, h, hm => by
    by_cases e : k = m + 1
    · rw [e]; exact Nat.le_refl _
    · have := szs_mono (d := d) (show k ≤ m by omega) (by omega)
      rw [szs_succ (by omega)]
      omega
theorem szs_all {s : Sh} {d : List (Dat s)} {n : Nat} (h : d.length = n) : szs s d n = (d.map (sz s)).sum := by unfold szs; rw [List.take_of_length_le (by omega)]
theorem sz_row {e : TypeId} {s : Sh} {d : List (Dat s)} : sz (.row e s) d = d.length + szs s d d.length := by rw [szs_all rfl]; rfl
theorem sz_each {e : TypeId} {s : Sh} {d : List (Dat s)} {L : Nat} (h : sz (.row e s) d ≤ L) {j : Nat} (hj : j < d.length) : sz s (d.getD j (dft s)) ≤ L := by
  have h1 := szs_succ hj
  have h2 := szs_mono (d := d) (show j + 1 ≤ d.length by omega) (Nat.le_refl _)
  rw [sz_row] at h
  omega
theorem sz_len {e : TypeId} {s : Sh} {d : List (Dat s)} {L : Nat} (h : sz (.row e s) d ≤ L) : d.length ≤ L := by rw [sz_row] at h; omega
theorem sz_ints (xs : List Int) : sz sI xs = xs.length := by
  have : ∀ l : List Int, (l.map (sz .num)).sum = 0 := fun l => by induction l <;> simp_all [sz]
  show xs.length + (xs.map (sz .num)).sum = _
  rw [this]; rfl

/-! ### marks -/
/-- how many numbers are marked in cells -/
def cnt : (s : Sh) → Dat s → Nat
  | .num, _ => 1
  | .bit, _ => 1
  | .row _ s, (d : List (Dat s)) => (d.map (cnt s)).sum
  | .cat a b, d => cnt a d.1 + cnt b d.2
/-- how many are marked behind a value -/
def cntv : (s : Sh) → Dat s → Nat
  | .num, _ => 0
  | .bit, _ => 0
  | .row _ s, (d : List (Dat s)) => (d.map (cnt s)).sum
  | .cat a b, d => cntv a d.1 + cntv b d.2
def cnts (s : Sh) (d : List (Dat s)) (k : Nat) : Nat := ((d.take k).map (cnt s)).sum
theorem cnts_succ {s : Sh} {d : List (Dat s)} {k : Nat} (h : k < d.length) : cnts s d (k + 1) = cnts s d k + cnt s (d.getD k (dft s)) := by
  unfold cnts
  rw [List.take_succ_eq_append_getElem h, List.map_append, List.sum_append]
  simp [List.getD, h]
theorem cnts_zero {s : Sh} {d : List (Dat s)} : cnts s d 0 = 0 := rfl
theorem cnts_mono {s : Sh} {d : List (Dat s)} : ∀ {k m : Nat}, k ≤ m → m ≤ d.length → cnts s d k ≤ cnts s d m
  | k, 0, h, _ => by rw [show k = 0 by omega]; exact Nat.le_refl _
  | k, m + 1, h, hm => by
    by_cases e : k = m + 1
    · rw [e]; exact Nat.le_refl _
    · have := cnts_mono (d := d) (show k ≤ m by omega) (by omega)
      rw [cnts_succ (by omega)]
      omega
theorem cnts_all {s : Sh} {d : List (Dat s)} {n : Nat} (h : d.length = n) : cnts s d n = (d.map (cnt s)).sum := by unfold cnts; rw [List.take_of_length_le (by omega)]
def mkc : (s : Sh) → Int → Dat s → Dat s
  | .num, k, _ => k
  | .bit, k, _ => decide (k % 3 = 0)
  | .row _ s, k, (d : List (Dat s)) => (List.range d.length).map fun j => mkc s (k + (cnts s d j : Int)) (d.getD j (dft s))
  | .cat a b, k, d => (mkc a k d.1, mkc b (k + (cnt a d.1 : Int)) d.2)
def mkv : (s : Sh) → Int → Dat s → Dat s
  | .num, _, d => d
  | .bit, _, d => d
  | .row _ s, k, (d : List (Dat s)) => (List.range d.length).map fun j => mkc s (k + (cnts s d j : Int)) (d.getD j (dft s))
  | .cat a b, k, d => (mkv a k d.1, mkv b (k + (cntv a d.1 : Int)) d.2)
theorem mk_len {e : TypeId} {s : Sh} {k : Int} {d : List (Dat s)} : List.length (mkv (.row e s) k d : List (Dat s)) = d.length := by
  show ((List.range d.length).map _).length = _
  simp
theorem mk_get {e : TypeId} {s : Sh} {k : Int} {d : List (Dat s)} {j : Nat} (h : j < d.length) : (mkv (.row e s) k d : List (Dat s)).getD j (dft s) = mkc s (k + (cnts s d j : Int)) (d.getD j (dft s)) := by
  show ((List.range d.length).map _).getD j _ = _
  simp [List.getD, h]
theorem cnt_ints : ∀ xs : List Int, (xs.map (cnt .num)).sum = xs.length
  | [] => rfl
  | x :: xs => by rw [List.map_cons, List.sum_cons, cnt_ints xs, List.length_cons]; show 1 + xs.length = _; omega
theorem cnts_ints (xs : List Int) {j : Nat} (h : j ≤ xs.length) : cnts .num xs j = j := by
  unfold cnts
  rw [cnt_ints, List.length_take]
  omega
theorem mk_ints (k : Int) (xs : List Int) : mkv sI k xs = marks k xs.length := by
  show (List.range xs.length).map _ = (List.range xs.length).map _
  refine List.map_congr_left fun j hj => ?_
  show k + ((cnts .num xs j : Nat) : Int) = k + (j : Int)
  rw [cnts_ints xs (Nat.le_of_lt (List.mem_range.1 hj))]
/-- how many fields at most -/
def wd : Sh → Nat
  | .num => 1
  | .bit => 1
  | .row _ s => wd s
  | .cat a b => wd a + wd b
theorem sum_le {α : Type} {f g : α → Nat} {C : Nat} : ∀ {l : List α}, (∀ x ∈ l, f x ≤ C * (1 + g x)) → (l.map f).sum ≤ C * (l.length + (l.map g).sum)
  | [], _ => Nat.zero_le _
  | x :: l, h => by
    have h1 := h x (List.mem_cons_self ..)
    have h2 := sum_le (l := l) fun y hy => h y (List.mem_cons_of_mem _ hy)
    simp only [List.map_cons, List.sum_cons, List.length_cons]
    have e : C * (l.length + 1 + (g x + (l.map g).sum)) = C * (1 + g x) + C * (l.length + (l.map g).sum) := by rw [← Nat.mul_add]; congr 1; omega
    omega
theorem cnt_le : ∀ (s : Sh) (d : Dat s), cnt s d ≤ wd s * (1 + sz s d)
  | .num, _ => by simp [cnt, wd]
  | .bit, _ => by simp [cnt, wd]
  | .row _ s, (d : List (Dat s)) => by
    have h := sum_le (f := cnt s) (g := sz s) (C := wd s) (l := d) fun x _ => cnt_le s x
    show (d.map (cnt s)).sum ≤ wd s * (1 + (d.length + (d.map (sz s)).sum))
    have : wd s * (d.length + (d.map (sz s)).sum) ≤ wd s * (1 + (d.length + (d.map (sz s)).sum)) := Nat.mul_le_mul_left _ (by omega)
    omega
  | .cat a b, d => by
    have h1 := cnt_le a d.1
    have h2 := cnt_le b d.2
    show cnt a d.1 + cnt b d.2 ≤ (wd a + wd b) * (1 + (sz a d.1 + sz b d.2))
    have h3 : wd a * (1 + sz a d.1) ≤ wd a * (1 + (sz a d.1 + sz b d.2)) := Nat.mul_le_mul_left _ (by omega)
    have h4 : wd b * (1 + sz b d.2) ≤ wd b * (1 + (sz a d.1 + sz b d.2)) := Nat.mul_le_mul_left _ (by omega)
    rw [Nat.add_mul]
    omega
theorem cntv_le : ∀ (s : Sh) (d : Dat s), cntv s d ≤ wd s * sz s d
  | .num, _ => Nat.zero_le _
  | .bit, _ => Nat.zero_le _
  | .row _ s, (d : List (Dat s)) => sum_le (f := cnt s) (g := sz s) (C := wd s) (l := d) fun x _ => cnt_le s x
  | .cat a b, d => by
    have h1 := cntv_le a d.1
    have h2 := cntv_le b d.2
    show cntv a d.1 + cntv b d.2 ≤ (wd a + wd b) * (sz a d.1 + sz b d.2)
    have h3 : wd a * sz a d.1 ≤ wd a * (sz a d.1 + sz b d.2) := Nat.mul_le_mul_left _ (by omega)
    have h4 : wd b * sz b d.2 ≤ wd b * (sz a d.1 + sz b d.2) := Nat.mul_le_mul_left _ (by omega)
    rw [Nat.add_mul]
    omega
end Go.Proofs.Ytdkjafjphgcbjaa.shape
end

section
/-
  SHAPES, the steps of the laws' helpers: an element of a slice, a slice that is being copied, an element that turns, the forms of the contracts. Conditions: none; plain lemmas. By an AI agent.
-/
namespace Go.Proofs.Ytdkjafjphgcbjaa.shape
open Go.RowKit Go.Proofs.Ytdkjafjphgcbjaa.base Go.Proofs.Ytdkjafjphgcbjaa.ints Go.Proofs.Ytdkjafjphgcbjaa.sig Go.Proofs.Ytdkjafjphgcbjaa.cursor Go.Proofs.Ytdkjafjphgcbjaa.marks Go.Proofs.Ytdkjafjphgcbjaa.app Go.Proofs.Ytdkjafjphgcbjaa.sym Go.Proofs.Ytdkjafjphgcbjaa.appAt Go.Proofs.Ytdkjafjphgcbjaa.segs Go.Proofs.Ytdkjafjphgcbjaa.segsHelp Go.Proofs.Ytdkjafjphgcbjaa.segsMark Go.Proofs.Ytdkjafjphgcbjaa.kinds

/-- only the blocks F, and what is new, have turned -/
structure Only (F : List Nat) (w w' : World) : Prop where
  os : w'.os = w.os
  tape : w'.tape = w.tape
  output : w'.output = w.output
  size : w.heap.size ≤ w'.heap.size
  block : ∀ k, k < w.heap.size → k ∉ F → w'.heap[k]? = w.heap[k]?
section
variable {w w' w2 : World} {B : Nat} {s : Sh} {e : TypeId} {v : Value} {F G : List Nat}
theorem Only.refl (F : List Nat) (w : World) : Only F w w := ⟨rfl, rfl, rfl, Nat.le_refl _, fun _ _ _ => rfl⟩
theorem Only.of_below (h : Below w.heap.size w w') : Only F w w' := ⟨h.os, h.tape, h.output, h.size, fun k hk _ => h.block k hk⟩
theorem Only.trans (h : Only F w w') (k : Only F w' w2) : Only F w w2 :=
  ⟨k.os.trans h.os, k.tape.trans h.tape, k.output.trans h.output, Nat.le_trans h.size k.size, fun i hi ho => (k.block i (Nat.lt_of_lt_of_le hi h.size) ho).trans (h.block i hi ho)⟩
theorem Only.wider (h : Only F w w') (hF : ∀ k ∈ F, k ∈ G) : Only G w w' := ⟨h.os, h.tape, h.output, h.size, fun k hk ho => h.block k hk fun hk2 => ho (hF k hk2)⟩
theorem Only.btw {lo hi : Nat} (h : Only F w w') (hF : ∀ k ∈ F, lo ≤ k ∧ k < hi) : Btw lo hi w w' := ⟨h.os, h.tape, h.output, h.size, fun k hk ho => h.block k hk fun hk2 => by have := hF k hk2; omega⟩
theorem Only.put {g i : Nat} {u : Value} (hg : g ∈ F) : Only F w (w.setCell ⟨g, i, none⟩ u) :=
  ⟨rfl, rfl, rfl, by simp, fun k _ hk => Below.heap_setCell w _ u k (fun e => by
    have e : k = g := e
    rw [e] at hk
    exact hk hg)⟩
theorem Ow.only {cs : List Value} {d : Dat s} (h : Ow w s cs d F) (ho : Only G w w') (hd : ∀ k ∈ F, k ∉ G) : Ow w' s cs d F := h.keep fun k hk => ho.block k (h.lt k hk) (hd k hk)

/-- an element of a slice -/
theorem Rd.elem {D : List (Dat s)} {j : Nat} (h : Rd w B (.row e s) [v] D) (hj : j < D.length) : ∃ b off n c es, v = .slice (some ⟨b, off, none⟩) n c ∧ D.length = n ∧ n ≤ c ∧ b < B ∧ es.length = nc s ∧ Piece w b (off + j * nc s) es ∧ Rd w B s es (D.getD j (dft s)) := by
  obtain ⟨A, n, c, e1, hc, hl, h1⟩ := h
  injection e1 with e1
  subst hl
  obtain ⟨b, off, e2, hb, h2⟩ := h1 (by omega)
  obtain ⟨es, he, hp, hr⟩ := h2 j hj
  exact ⟨b, off, _, c, es, by rw [e1, e2], rfl, hc.1, hb, he, hp, hr⟩
theorem Rd.slice {D : List (Dat s)} (h : Rd w B (.row e s) [v] D) : ∃ A c, v = .slice A D.length c ∧ Cap A D.length c := by
  obtain ⟨A, n, c, e1, hc, hl, h1⟩ := h
  injection e1 with e1
  subst hl
  exact ⟨A, c, e1, hc⟩
theorem rd_cat {a b : Sh} {cs : List Value} {x : Dat a} {y : Dat b} (h : Rd w B (.cat a b) cs (x, y)) : ∃ ca cb, cs = ca ++ cb ∧ ca.length = nc a ∧ cb.length = nc b ∧ Rd w B a ca x ∧ Rd w B b cb y := by
  obtain ⟨ca, cb, e, h1, h2⟩ := h
  exact ⟨ca, cb, e, h1.len, h2.len, h1, h2⟩
theorem ow_cat {a b : Sh} {cs : List Value} {d : Dat (.cat a b)} (h : Ow w (.cat a b) cs d F) : ∃ ca cb Fa Fb, cs = ca ++ cb ∧ F = Fa ++ Fb ∧ ca.length = nc a ∧ cb.length = nc b ∧ Ow w a ca d.1 Fa ∧ Ow w b cb d.2 Fb := by
  obtain ⟨ca, cb, Fa, Fb, e, e2, h1, h2⟩ := h
  exact ⟨ca, cb, Fa, Fb, e, e2, h1.len, h2.len, h1, h2⟩

theorem nodup_flat {G : Nat → List Nat} {n : Nat} (h : ((List.range n).flatMap G).Nodup) {i j : Nat} (hi : i < n) (hj : j < n) (hne : i ≠ j) {k : Nat} (hk : k ∈ G i) : k ∉ G j := by
  induction n with
  | zero => omega
  | succ n ih =>
    rw [List.range_succ, List.flatMap_append, List.nodup_append] at h
    obtain ⟨h1, _, h3⟩ := h
    intro hk2
    by_cases e1 : i = n
    · subst e1
      exact h3 k (List.mem_flatMap.2 ⟨j, List.mem_range.2 (by omega), hk2⟩) k (by simpa using hk) rfl
    · by_cases e2 : j = n
      · subst e2
        exact h3 k (List.mem_flatMap.2 ⟨i, List.mem_range.2 (by omega), hk⟩) k (by simpa using hk2) rfl
      · exact ih h1 (by omega) (by omega) hk2
theorem nodup_part {G : Nat → List Nat} {n : Nat} (h : ((List.range n).flatMap G).Nodup) {j : Nat} (hj : j < n) : (G j).Nodup := by
  induction n with
  | zero => omega
  | succ n ih =>
    rw [List.range_succ, List.flatMap_append, List.nodup_append] at h
    obtain ⟨h1, h2, h3⟩ := h
    by_cases e : j = n
    · subst e; simpa using h2
    · exact ih h1 (by omega)

/-- an element of a slice of the call's own, and what becomes of the slice when the element turns -/
theorem Ow.elem {D : List (Dat s)} {j : Nat} (h : Ow w (.row e s) [v] D F) (hF : F.Nodup) (hj : j < D.length) :
    ∃ g n c es Gj, v = .slice (some ⟨g, 0, none⟩) n c ∧ D.length = n ∧ es.length = nc s ∧ Piece w g (j * nc s) es ∧ (∀ i, w.frozen? ⟨g, i, none⟩ = false) ∧ Ow w s es (D.getD j (dft s)) Gj ∧ g ∈ F ∧ Gj.Nodup ∧ g ∉ Gj ∧ (∀ k ∈ Gj, k ∈ F) ∧
      ∀ (w2 : World) (es2 : List Value) (d2 : Dat s), es2.length = nc s → Piece w2 g (j * nc s) es2 → Ow w2 s es2 d2 Gj → Only (g :: Gj) w w2 →
        (∀ cur, Row w g e cur → ∃ cur2, Row w2 g e cur2 ∧ cur2.size = cur.size ∧ ∀ q, (q < j * nc s ∨ j * nc s + nc s ≤ q) → cur2[q]? = cur[q]?) → Ow w2 (.row e s) [v] (D.set j d2) F := by
  obtain ⟨A, n, c, e1, hl, h1⟩ := h
  injection e1 with e1
  rcases h1 with ⟨_, e2, _⟩ | ⟨g, cur, E, G, e2, hr, h2, h3, h4, h5, h6⟩
  · omega
  subst e1 e2 h5
  rw [List.nodup_cons] at hF
  obtain ⟨q1, q2, q3⟩ := h6 j (by omega)
  refine ⟨g, n, c, E j, G j, rfl, hl, q1, fun i hi => by rw [hr.cell]; exact q2 i (by omega), fun i => hr.free i, q3, List.mem_cons_self .., nodup_part hF.2 (by omega), fun hg => hF.1 (List.mem_flatMap.2 ⟨j, List.mem_range.2 (by omega), hg⟩),
    fun k hk => List.mem_cons_of_mem _ (List.mem_flatMap.2 ⟨j, List.mem_range.2 (by omega), hk⟩), fun w2 es2 d2 hl2 hp2 ho2 hon hcur => ?_⟩
  obtain ⟨cur2, hr2, hs2, hc2⟩ := hcur cur hr
  refine ⟨_, n, c, rfl, by simpa using hl, .inr ⟨g, cur2, fun i => if i = j then es2 else E i, G, rfl, hr2, h2, h3, by rw [hs2]; exact h4, rfl, fun i hi => ?_⟩⟩
  by_cases ei : i = j
  · subst ei
    dsimp only
    rw [if_pos rfl]
    refine ⟨hl2, fun q hq => by rw [← hr2.cell, hp2 q (by omega)], ?_⟩
    have : (D.set i d2).getD i (dft s) = d2 := by simp [List.getD, hj]
    rw [this]; exact ho2
  · dsimp only
    rw [if_neg ei]
    obtain ⟨p1, p2, p3⟩ := h6 i hi
    refine ⟨p1, fun q hq => ?_, ?_⟩
    · have : i * nc s + q < j * nc s ∨ j * nc s + nc s ≤ i * nc s + q := by
        rcases Nat.lt_or_ge i j with h | h
        · left
          have := Nat.mul_le_mul_right (nc s) (show i + 1 ≤ j by omega)
          rw [Nat.add_mul] at this
          omega
        · right
          have := Nat.mul_le_mul_right (nc s) (show j + 1 ≤ i by omega)
          rw [Nat.add_mul] at this
          omega
      rw [hc2 _ this]
      exact p2 q hq
    · have : (D.set j d2).getD i (dft s) = D.getD i (dft s) := by simp [List.getD, List.getElem?_set_ne (show j ≠ i by omega)]
      rw [this]
      refine p3.only hon fun k hk hk2 => ?_
      rcases List.mem_cons.1 hk2 with hk2 | hk2
      · subst hk2
        exact hF.1 (List.mem_flatMap.2 ⟨i, List.mem_range.2 hi, hk⟩)
      · exact nodup_flat hF.2 hi (by omega) ei hk hk2
/-- the same where the element's own cells stay -/
theorem Ow.elem' {D : List (Dat s)} {j : Nat} (h : Ow w (.row e s) [v] D F) (hF : F.Nodup) (hj : j < D.length) :
    ∃ g n c es Gj, v = .slice (some ⟨g, 0, none⟩) n c ∧ D.length = n ∧ es.length = nc s ∧ Piece w g (j * nc s) es ∧ g < w.heap.size ∧ Ow w s es (D.getD j (dft s)) Gj ∧ Gj.Nodup ∧ g ∉ Gj ∧ (∀ k ∈ Gj, k ∈ F) ∧
      ∀ (w2 : World) (d2 : Dat s), Ow w2 s es d2 Gj → Only Gj w w2 → Ow w2 (.row e s) [v] (D.set j d2) F := by
  obtain ⟨g, n, c, es, Gj, h1, h2, h3, h4, h5, h6, h7, h8, h9, h10, h11⟩ := h.elem hF hj
  have hg := h.lt g h7
  refine ⟨g, n, c, es, Gj, h1, h2, h3, h4, hg, h6, h8, h9, h10, fun w2 d2 ho hon => h11 w2 es d2 h3 (h4.keep fun p hp => ?_) ho (hon.wider fun k hk => List.mem_cons_of_mem _ hk) fun cur hr => ⟨cur, (hon.block g hg h9).trans hr, rfl, fun _ _ => rfl⟩⟩
  exact World.cell?_of_block (by rw [hp]; exact hon.block g hg h9)

/-! ### the contracts' forms -/
def Copy1 (w : World) (s : Sh) (d : Dat s) (e : Ending) (w' : World) : Prop := ∃ A n c, e = .returned (.slice A n c) ∧ Owned w' w.heap.size w'.heap.size s [.slice A n c] d ∧ Below w.heap.size w w'
def AnsSzK (w : World) (left : Int) (t : Nat) (e : Ending) (w' : World) : Prop := e = .returned (.int .i64 (if left - t < 0 then -1 else left - t)) ∧ Below w.heap.size w w'
def Yes (w : World) (e : Ending) (w' : World) : Prop := e = .returned (.bool true) ∧ Below w.heap.size w w'
def AnsMarkF (w : World) (s : Sh) (cs : List Value) (d : Dat s) (k : Int) (F : List Nat) (e : Ending) (w' : World) : Prop := e = .returned (.int .i64 (k + (cntv s d : Int))) ∧ Ow w' s cs (mkv s k d) F ∧ Only F w w'
def AnsHeld (w : World) (z : Int) (e : Ending) (w' : World) : Prop := e = .returned (.int .i64 z) ∧ Below w.heap.size w w'

/-! ### slices of int64 -/
theorem szK_ints (v : Value) (xs : List Int) (left : Int) (w : World) (h : Rd w w.heap.size sI [v] xs) (h0 : 0 ≤ left) (h1 : left ≤ 1048576) :
    Calls Try.prog 82 #[v, .int .i64 left] w (AnsSzK w left (sz sI xs)) := by
  obtain ⟨A, n, c, rfl, hs, hc⟩ := rd_ints.1 h
  rw [sz_ints, hs.1]
  exact (szInts A n c left w (Nat.le_trans hc.1 hc.2.1) h0 h1).mono fun _ _ ⟨e1, e2⟩ => ⟨e2, e1 ▸ Below.refl _ _⟩
theorem toK_ints (v : Value) (xs : List Int) (w : World) (h : Rd w w.heap.size sI [v] xs) (hz : sz sI xs ≤ 1048576) :
    Calls Try.prog 83 #[v] w (Copy1 w sI xs) := by
  obtain ⟨A, n, c, rfl, hs, hc⟩ := rd_ints.1 h
  rw [sz_ints, hs.1] at hz
  exact (intsTo A n c xs w hs hz).mono fun _ _ ⟨g, e, ho, _, hb⟩ => ⟨_, _, _, e, ow_ints.2 ho, hb⟩
theorem eqK_ints (v v' : Value) (xs : List Int) (w : World) (h : Rd w w.heap.size sI [v] xs) (h' : Rd w w.heap.size sI [v'] xs) (hz : sz sI xs ≤ 1048576) :
    Calls Try.prog 48 #[v, v'] w (Yes w) := by
  obtain ⟨A, n, c, rfl, hs, hc⟩ := rd_ints.1 h
  obtain ⟨A', n', c', rfl, hs', hc'⟩ := rd_ints.1 h'
  rw [sz_ints, hs.1] at hz
  exact intsEq A A' n n' c c' xs w hs hs' hz
theorem ow_ints' {w : World} {A : Option Addr} {n c : Nat} {xs : List Int} {F : List Nat} (h : Ow w sI [.slice A n c] xs F) : Own w 0 (.slice A n c) xs ∧ ((blk A = none ∧ F = []) ∨ ∃ g, blk A = some g ∧ F = [g]) := by
  have h0 := h
  obtain ⟨A', n', c', e, hl, h⟩ := h
  injection e with e
  injection e with e1 e2 e3
  subst e1 e2 e3
  rcases h with ⟨rfl, rfl, rfl, rfl⟩ | ⟨g, cur, E, G, rfl, hr, h2, h3, h4, rfl, h6⟩
  · have hx : xs = [] := List.eq_nil_of_length_eq_zero hl
    subst hx
    exact ⟨Own.nil _ _, .inl ⟨rfl, rfl⟩⟩
  · have hG : (List.range n).flatMap G = [] := List.eq_nil_iff_forall_not_mem.2 fun k hk => by
      obtain ⟨j, hj, hk⟩ := List.mem_flatMap.1 hk
      have q3 := (h6 j (List.mem_range.1 hj)).2.2
      have q3 : _ ∧ G j = [] := q3
      rw [q3.2] at hk
      cases hk
    rw [hG] at h0 ⊢
    exact ⟨(ow_ints.1 ⟨[g], h0, by simp, fun k hk => ⟨Nat.zero_le _, h0.lt k hk⟩⟩ : Ownd w 0 w.heap.size _ _ _ _).1, .inr ⟨g, rfl, rfl⟩⟩
theorem ow_of {w : World} {A : Option Addr} {n c : Nat} {xs : List Int} {F : List Nat} (h : Own w 0 (.slice A n c) xs) (hF : (blk A = none ∧ F = []) ∨ ∃ g, blk A = some g ∧ F = [g]) : Ow w sI [.slice A n c] xs F := by
  obtain ⟨F', h1, _, _⟩ := (ow_ints (w := w) (lo := 0) (hi := w.heap.size)).2 (Ownd.of_own h)
  have h2 := (ow_ints' h1).2
  rcases hF with ⟨e1, rfl⟩ | ⟨g, e1, rfl⟩
  · rcases h2 with ⟨_, rfl⟩ | ⟨g, e2, _⟩
    · exact h1
    · rw [e1] at e2; cases e2
  · rcases h2 with ⟨e2, _⟩ | ⟨g', e2, rfl⟩
    · rw [e1] at e2; cases e2
    · rw [e1] at e2; injection e2 with e2; subst e2; exact h1
theorem markK_ints (v : Value) (xs : List Int) (k : Int) (F : List Nat) (w : World) (h : Ow w sI [v] xs F) (hz : sz sI xs ≤ 1048576) (hk0 : 0 ≤ k) (hk : k ≤ 1099511627776) :
    Calls Try.prog 50 #[v, .int .i64 k] w (AnsMarkF w sI [v] xs k F) := by
  obtain ⟨A, n, c, rfl, hs, hc⟩ := rd_ints.1 h.rd
  rw [sz_ints, hs.1] at hz
  obtain ⟨ho, hF⟩ := ow_ints' h
  refine (markOwn 0 A n c xs k w ho hz hk0 hk).mono fun _ _ ⟨e, hg, ho2⟩ => ⟨?_, ?_, ?_⟩
  · rw [e]
    have : cntv sI xs = n := by rw [← hs.1]; exact cnt_ints xs
    rw [this]
  · rw [mk_ints, hs.1]
    exact ow_of ho2 hF
  · rcases hF with ⟨e1, rfl⟩ | ⟨g, e1, rfl⟩
    · rw [e1] at hg
      exact ⟨hg.os, hg.tape, hg.output, hg.size, fun k hk _ => hg.block k hk (by simp)⟩
    · rw [e1] at hg
      exact ⟨hg.os, hg.tape, hg.output, hg.size, fun k hk hn => hg.block k hk (fun e => hn (by injection e with e; rw [e]; simp))⟩
theorem heldK_ints (v : Value) (xs : List Int) (k : Int) (w : World) (h : Rd w w.heap.size sI [v] (mkv sI k xs)) (hz : sz sI xs ≤ 1048576) (hk0 : 0 ≤ k) (hk : k ≤ 1099511627776) :
    Calls Try.prog 51 #[v, .int .i64 k] w (AnsHeld w (k + (cntv sI xs : Int))) := by
  rw [mk_ints] at h
  obtain ⟨A, n, c, rfl, hs, hc⟩ := rd_ints.1 h
  have hl : n = xs.length := by rw [← hs.1, marks_len]
  subst hl
  rw [sz_ints] at hz
  have : cntv sI xs = xs.length := cnt_ints xs
  rw [this]
  exact (heldInts A _ c k w hs hz hk0 (by omega)).mono fun _ _ ⟨e1, e2⟩ => ⟨e2, e1 ▸ Below.refl _ _⟩
end

/-! ### a slice that is being copied: its first k elements are there -/
section
variable {s : Sh} {e : TypeId}
def HeadCp (w : World) (e : TypeId) (s : Sh) (n : Nat) (D : List (Dat s)) (i : Value) (wr : World) : Prop :=
  ∃ (k : Nat) (cs : Array Value) (E : Nat → List Value) (G : Nat → List Nat), k ≤ n ∧ i = .int .i64 k ∧ Row wr w.heap.size e cs ∧ cs.size = n * nc s ∧ ((List.range k).flatMap G).Nodup ∧
    (∀ j, j < k → (E j).length = nc s ∧ (∀ i, i < nc s → cs[j * nc s + i]? = (E j)[i]?) ∧ Ow wr s (E j) (D.getD j (dft s)) (G j) ∧ ∀ q ∈ G j, w.heap.size < q) ∧ Below w.heap.size w wr
theorem headCp_zero {w : World} {n : Nat} {D : List (Dat s)} {cs : Array Value} (hs : cs.size = n * nc s) : HeadCp w e s n D (.int .i64 0) (w.alloc (.cells cs e)) :=
  ⟨0, cs, fun _ => [], fun _ => [], Nat.zero_le _, rfl, Row.new _ _ _, hs, by simp, fun j hj => absurd hj (Nat.not_lt_zero _), (Below.refl _ _).alloc (Nat.le_refl _) _⟩
/-- the cells es are laid into block g from off on -/
def putAll (w : World) (g : Nat) : Nat → List Value → World
  | _, [] => w
  | off, u :: r => putAll (w.setCell ⟨g, off, none⟩ u) g (off + 1) r
def rowPut (cs : Array Value) : Nat → List Value → Array Value
  | _, [] => cs
  | off, u :: r => rowPut (cs.setIfInBounds off u) (off + 1) r
theorem rowPut_size : ∀ {es : List Value} {cs : Array Value} {off : Nat}, (rowPut cs off es).size = cs.size
  | [], _, _ => rfl
  | u :: r, cs, off => by rw [rowPut, rowPut_size]; simp
theorem rowPut_get : ∀ {es : List Value} {cs : Array Value} {off q : Nat}, off + es.length ≤ cs.size → (rowPut cs off es)[q]? = if off ≤ q ∧ q < off + es.length then es[q - off]? else cs[q]?
  | [], cs, off, q, _ => by rw [rowPut, if_neg (by simp only [List.length_nil]; omega)]
  | u :: r, cs, off, q, h => by
    simp only [List.length_cons] at h
    rw [rowPut, rowPut_get (by simp; omega)]
    simp only [List.length_cons]
    by_cases e1 : q = off
    · subst e1
      rw [if_neg (by omega), if_pos (by omega), Array.getElem?_setIfInBounds, if_pos rfl, if_pos (by omega)]
      simp
    · by_cases e2 : off ≤ q ∧ q < off + (r.length + 1)
      · rw [if_pos (by omega), if_pos e2]
        obtain ⟨m, rfl⟩ : ∃ m, q = off + 1 + m := ⟨q - off - 1, by omega⟩
        rw [show off + 1 + m - (off + 1) = m by omega, show off + 1 + m - off = m + 1 by omega, List.getElem?_cons_succ]
      · rw [if_neg (by omega), if_neg e2, Array.getElem?_setIfInBounds, if_neg (by omega)]
theorem putAll_row {g : Nat} {t : TypeId} : ∀ {es : List Value} {w : World} {cs : Array Value} {off : Nat}, Row w g t cs → Row (putAll w g off es) g t (rowPut cs off es)
  | [], _, _, _, h => h
  | u :: r, w, cs, off, h => by rw [putAll, rowPut]; exact putAll_row (h.put off u)
theorem putAll_keep {g : Nat} : ∀ {es : List Value} {w : World} {off : Nat} {k : Nat}, k ≠ g → (putAll w g off es).heap[k]? = w.heap[k]?
  | [], _, _, _, _ => rfl
  | u :: r, w, off, k, h => by rw [putAll, putAll_keep h]; exact Below.heap_setCell w _ u k h
theorem putAll_size {g : Nat} : ∀ {es : List Value} {w : World} {off : Nat}, (putAll w g off es).heap.size = w.heap.size
  | [], _, _ => rfl
  | u :: r, w, off => by rw [putAll, putAll_size]; simp
theorem putAll_below {g B : Nat} {a : World} : ∀ {es : List Value} {w : World} {off : Nat}, Below B a w → B ≤ g → Below B a (putAll w g off es)
  | [], _, _, h, _ => h
  | u :: r, w, off, h, hg => by rw [putAll]; exact putAll_below (h.setCell hg u) hg
theorem headCp_step {w wr w1 : World} {n k : Nat} {D : List (Dat s)} {cs : Array Value} {E : Nat → List Value} {G : Nat → List Nat} (hk : k < n) (hr : Row wr w.heap.size e cs) (hs : cs.size = n * nc s) (hn : ((List.range k).flatMap G).Nodup)
    (hi : ∀ j, j < k → (E j).length = nc s ∧ (∀ i, i < nc s → cs[j * nc s + i]? = (E j)[i]?) ∧ Ow wr s (E j) (D.getD j (dft s)) (G j) ∧ ∀ q ∈ G j, w.heap.size < q) (hb : Below w.heap.size w wr)
    {es : List Value} (ho : Owned w1 wr.heap.size w1.heap.size s es (D.getD k (dft s))) (bb : Below wr.heap.size wr w1) : HeadCp w e s n D (.int .i64 ((k : Int) + 1)) (putAll w1 w.heap.size (k * nc s) es) := by
  obtain ⟨F, ho, hnF, hF⟩ := ho
  have hz := hr.lt
  have hle : k * nc s + nc s ≤ cs.size := by
    have := Nat.mul_le_mul_right (nc s) (show k + 1 ≤ n by omega)
    rw [Nat.add_mul] at this
    omega
  have hel := ho.len
  have hfr : ∀ j, j < k → ∀ q ∈ G j, q < wr.heap.size := fun j hj => (hi j hj).2.2.1.lt
  refine ⟨k + 1, _, fun j => if j = k then es else E j, fun j => if j = k then F else G j, hk, by simp, putAll_row (hr.next bb), by rw [rowPut_size]; exact hs, ?_, fun j hj => ?_, putAll_below (hb.trans (bb.mono hb.size)) (Nat.le_refl _)⟩
  · rw [List.range_succ, List.flatMap_append]
    have e1 : (List.range k).flatMap (fun j => if j = k then F else G j) = (List.range k).flatMap G := by
      rw [List.flatMap_def, List.flatMap_def]
      congr 1
      exact List.map_congr_left fun j hj => if_neg (by have := List.mem_range.1 hj; omega)
    rw [e1]
    refine List.nodup_append.2 ⟨hn, by simpa using hnF, fun x hx y hy e => ?_⟩
    obtain ⟨j, hj, hx⟩ := List.mem_flatMap.1 hx
    have h1 := hfr j (List.mem_range.1 hj) x hx
    have h2 := hF y (by simpa using hy)
    omega
  · by_cases ej : j = k
    · subst ej
      simp only [if_pos]
      refine ⟨hel, fun i hi2 => ?_, ho.keep fun q hq => putAll_keep (by have := hF q hq; omega), fun q hq => by have := hF q hq; omega⟩
      rw [rowPut_get (by omega), if_pos (by omega)]
      congr 1
      omega
    · simp only [if_neg ej]
      obtain ⟨q1, q2, q3, q4⟩ := hi j (by omega)
      refine ⟨q1, fun i hi2 => ?_, (q3.next bb).keep fun q hq => putAll_keep (by have := q4 q hq; omega), q4⟩
      rw [rowPut_get (by omega), if_neg ?_]
      · exact q2 i hi2
      · have := Nat.mul_le_mul_right (nc s) (show j + 1 ≤ k by omega)
        rw [Nat.add_mul] at this
        omega
theorem headCp_end {w wr : World} {n : Nat} {D : List (Dat s)} {cs : Array Value} {E : Nat → List Value} {G : Nat → List Nat} (hl : D.length = n) (hm : n ≤ 1048576) (hr : Row wr w.heap.size e cs) (hs : cs.size = n * nc s) (hn : ((List.range n).flatMap G).Nodup)
    (hi : ∀ j, j < n → (E j).length = nc s ∧ (∀ i, i < nc s → cs[j * nc s + i]? = (E j)[i]?) ∧ Ow wr s (E j) (D.getD j (dft s)) (G j) ∧ ∀ q ∈ G j, w.heap.size < q) (hb : Below w.heap.size w wr) :
    Copy1 w (.row e s) D (.returned (.slice (some ⟨w.heap.size, 0, none⟩) n n)) wr := by
  refine ⟨_, _, _, rfl, ⟨w.heap.size :: (List.range n).flatMap G, ⟨_, n, n, rfl, hl, .inr ⟨w.heap.size, cs, E, G, rfl, hr, Nat.le_refl _, by omega, hs, rfl, fun j hj => ⟨(hi j hj).1, (hi j hj).2.1, (hi j hj).2.2.1⟩⟩⟩, List.nodup_cons.2 ⟨fun h => ?_, hn⟩, fun k hk => ?_⟩, hb⟩
  · obtain ⟨j, hj, h⟩ := List.mem_flatMap.1 h
    have := (hi j (List.mem_range.1 hj)).2.2.2 _ h
    omega
  · rcases List.mem_cons.1 hk with hk | hk
    · rw [hk]; exact ⟨Nat.le_refl _, hr.lt⟩
    · obtain ⟨j, hj, h⟩ := List.mem_flatMap.1 hk
      have h1 := (hi j (List.mem_range.1 hj)).2.2.2 _ h
      have h2 := (hi j (List.mem_range.1 hj)).2.2.1.lt _ h
      omega

/-! ### a slice that is being marked -/
def mixed (s : Sh) (k : Int) (D : List (Dat s)) (j : Nat) : List (Dat s) := (List.range D.length).map fun q => if q < j then mkc s (k + (cnts s D q : Int)) (D.getD q (dft s)) else D.getD q (dft s)
theorem mixed_len {k : Int} {D : List (Dat s)} {j : Nat} : (mixed s k D j).length = D.length := by simp [mixed]
theorem mixed_get {k : Int} {D : List (Dat s)} {j : Nat} (h : j < D.length) : (mixed s k D j).getD j (dft s) = D.getD j (dft s) := by simp [mixed, List.getD, h]
theorem mixed_zero {k : Int} {D : List (Dat s)} : mixed s k D 0 = D := by
  refine List.ext_getElem (by rw [mixed_len]) fun j h1 h2 => ?_
  simp [mixed, List.getD, h2]
theorem mixed_succ {k : Int} {D : List (Dat s)} {j : Nat} (h : j < D.length) : (mixed s k D j).set j (mkc s (k + (cnts s D j : Int)) (D.getD j (dft s))) = mixed s k D (j + 1) := by
  refine List.ext_getElem (by rw [List.length_set, mixed_len, mixed_len]) fun q h1 h2 => ?_
  rw [mixed_len] at h2
  rw [List.getElem_set]
  by_cases e : j = q
  · subst e; simp [mixed]
  · rw [if_neg e]
    simp only [mixed, List.getElem_map, List.getElem_range]
    by_cases h3 : q < j
    · rw [if_pos h3, if_pos (by omega)]
    · rw [if_neg h3, if_neg (by omega)]
theorem mixed_all {k : Int} {D : List (Dat s)} {e : TypeId} : mixed s k D D.length = (mkv (.row e s) k D : List (Dat s)) := by
  show (List.range D.length).map _ = (List.range D.length).map _
  exact List.map_congr_left fun q hq => if_pos (List.mem_range.1 hq)
theorem headMk_cnt {e : TypeId} {s : Sh} {D : List (Dat s)} {j : Nat} (hj : j < D.length) : cnts s D j + cnt s (D.getD j (dft s)) ≤ cntv (.row e s) D := by
  rw [← cnts_succ hj]
  have := cnts_mono (d := D) (show j + 1 ≤ D.length by omega) (Nat.le_refl _)
  rw [cnts_all rfl] at this
  exact this
def HeadMk (w : World) (e : TypeId) (s : Sh) (v : Value) (D : List (Dat s)) (k : Int) (F : List Nat) (kk i : Value) (wr : World) : Prop :=
  ∃ j : Nat, j ≤ D.length ∧ i = .int .i64 j ∧ kk = .int .i64 (k + (cnts s D j : Int)) ∧ Ow wr (.row e s) [v] (mixed s k D j) F ∧ Only F w wr
theorem headMk_zero {w : World} {v : Value} {D : List (Dat s)} {k : Int} {F : List Nat} (h : Ow w (.row e s) [v] D F) : HeadMk w e s v D k F (.int .i64 k) (.int .i64 0) w :=
  ⟨0, Nat.zero_le _, rfl, by simp [cnts], by rw [mixed_zero]; exact h, Only.refl _ _⟩
theorem headMk_step {w wr w2 : World} {v : Value} {D : List (Dat s)} {k : Int} {F : List Nat} {j z : Nat} (hj : j < D.length) (hb : Only F w wr) (ho : Only F wr w2) (hz : cnt s (D.getD j (dft s)) = z) {d2 : Dat s} (hd : d2 = mkc s (k + (cnts s D j : Int)) (D.getD j (dft s)))
    (h : Ow w2 (.row e s) [v] ((mixed s k D j).set j d2) F) : HeadMk w e s v D k F (.int .i64 (k + (cnts s D j : Int) + z)) (.int .i64 ((j : Int) + 1)) w2 := by
  subst hd
  rw [mixed_succ hj] at h
  exact ⟨j + 1, hj, by simp, by rw [cnts_succ hj, hz]; exact congrArg (Value.int .i64) (by omega), h, hb.trans ho⟩
theorem headMk_end {w wr : World} {v : Value} {D : List (Dat s)} {k : Int} {F : List Nat} {j : Nat} (hj : ¬ j < D.length) (hj' : j ≤ D.length) (h : Ow wr (.row e s) [v] (mixed s k D j) F) (ho : Only F w wr) : AnsMarkF w (.row e s) [v] D k F (.returned (.int .i64 (k + (cnts s D j : Int)))) wr := by
  have e1 : j = D.length := by omega
  subst e1
  rw [mixed_all (e := e)] at h
  exact ⟨by rw [cnts_all rfl]; rfl, h, ho⟩
end
theorem cnts_bd {s : Sh} {e : TypeId} {D : List (Dat s)} {j C : Nat} (hz : sz (.row e s) D ≤ 1048576) (hj : j ≤ D.length) (hC : wd s = C) : cnts s D j ≤ C * 1048576 := by
  have h1 := cnts_mono (d := D) hj (Nat.le_refl _)
  rw [cnts_all rfl] at h1
  have h2 := cntv_le (.row e s) D
  have h3 : cntv (.row e s) D = (D.map (cnt s)).sum := rfl
  have h4 : wd (.row e s) = C := hC
  rw [h3, h4] at h2
  have h5 := Nat.mul_le_mul_left C hz
  omega

theorem Rd.split {w : World} {B : Nat} {a b : Sh} {ca cb : List Value} {d : Dat (.cat a b)} (h : Rd w B (.cat a b) (ca ++ cb) d) (hl : ca.length = nc a) : Rd w B a ca d.1 ∧ Rd w B b cb d.2 := by
  obtain ⟨ca', cb', e, h1, h2⟩ := h
  obtain ⟨rfl, rfl⟩ := List.append_inj e (by rw [hl, h1.len])
  exact ⟨h1, h2⟩
theorem Ow.split {w : World} {a b : Sh} {ca cb : List Value} {d : Dat (.cat a b)} {F : List Nat} (h : Ow w (.cat a b) (ca ++ cb) d F) (hl : ca.length = nc a) : ∃ Fa Fb, F = Fa ++ Fb ∧ Ow w a ca d.1 Fa ∧ Ow w b cb d.2 Fb := by
  obtain ⟨ca', cb', Fa, Fb, e, e2, h1, h2⟩ := h
  obtain ⟨rfl, rfl⟩ := List.append_inj e (by rw [hl, h1.len])
  exact ⟨Fa, Fb, e2, h1, h2⟩

theorem Row.only {w w' : World} {g : Nat} {t : TypeId} {cs : Array Value} {F : List Nat} (h : Row w g t cs) (ho : Only F w w') (hg : g ∉ F) : Row w' g t cs := (ho.block g h.lt hg).trans h
theorem Ow.join {w : World} {a b : Sh} {ca cb : List Value} {x : Dat a} {y : Dat b} {Fa Fb : List Nat} (h1 : Ow w a ca x Fa) (h2 : Ow w b cb y Fb) : Ow w (.cat a b) (ca ++ cb) (x, y) (Fa ++ Fb) := ⟨ca, cb, Fa, Fb, rfl, rfl, h1, h2⟩
theorem dis_app {F G : List Nat} (h : (F ++ G).Nodup) : F.Nodup ∧ G.Nodup ∧ (∀ k ∈ F, k ∉ G) ∧ ∀ k ∈ G, k ∉ F := by
  obtain ⟨h1, h2, h3⟩ := List.nodup_append.1 h
  exact ⟨h1, h2, fun k hk hk2 => h3 k hk k hk2 rfl, fun k hk hk2 => h3 k hk2 k hk rfl⟩
theorem dis_l {F A B : List Nat} (h : ∀ k ∈ F, k ∉ A ++ B) : (∀ k ∈ F, k ∉ A) ∧ ∀ k ∈ F, k ∉ B := ⟨fun k hk h2 => h k hk (List.mem_append_left _ h2), fun k hk h2 => h k hk (List.mem_append_right _ h2)⟩
theorem dis_r {F A B : List Nat} (h : ∀ k ∈ A ++ B, k ∉ F) : (∀ k ∈ A, k ∉ F) ∧ ∀ k ∈ B, k ∉ F := ⟨fun k hk => h k (List.mem_append_left _ hk), fun k hk => h k (List.mem_append_right _ hk)⟩

/-! ### the sizes of a slice's elements -/
section
variable {s : Sh} {e : TypeId}
def HeadSzK (w : World) (n : Nat) (s : Sh) (D : List (Dat s)) (left : Int) (l i : Value) (wr : World) : Prop := ∃ k : Nat, k ≤ n ∧ i = .int .i64 k ∧ l = .int .i64 (left - n - szs s D k) ∧ 0 ≤ left - n - szs s D k ∧ Below w.heap.size w wr
theorem headSzK_zero {w : World} {n : Nat} {D : List (Dat s)} {left : Int} (h : 0 ≤ left - n) : HeadSzK w n s D left (.int .i64 (left - n)) (.int .i64 0) w := ⟨0, Nat.zero_le _, rfl, by simp [szs], by simp [szs]; omega, Below.refl _ _⟩
theorem headSzK_bad {n k t : Nat} {D : List (Dat s)} {left : Int} (hn : D.length = n) (hk : k < n) (hs : szs s D (k + 1) = szs s D k + t) (q : left - n - szs s D k - t < 0) : Ending.returned (.int .i64 (-1)) = .returned (.int .i64 (if left - (sz (.row e s) D : Nat) < 0 then -1 else left - (sz (.row e s) D : Nat))) := by
  have h2 := szs_mono (d := D) (show k + 1 ≤ D.length by omega) (Nat.le_refl _)
  rw [if_pos (by rw [sz_row]; omega)]
theorem headSzK_step {w w1 : World} {n k t : Nat} {D : List (Dat s)} {left l : Int} (hk : k < n) (hs : szs s D (k + 1) = szs s D k + t) (hl : left - n - szs s D k = l) (q : ¬ l - t < 0) (hb : Below w.heap.size w w1) : HeadSzK w n s D left (.int .i64 (l - t)) (.int .i64 ((k : Int) + 1)) w1 :=
  ⟨k + 1, hk, by simp, by rw [hs, ← hl]; exact congrArg (Value.int .i64) (by omega), by rw [hs]; omega, hb⟩
theorem headSzK_end {w wr : World} {n k : Nat} {D : List (Dat s)} {left : Int} (hn : D.length = n) (hk : ¬ k < n) (hk' : k ≤ n) (h : 0 ≤ left - n - szs s D k) (hb : Below w.heap.size w wr) : AnsSzK w left (sz (.row e s) D) (.returned (.int .i64 (left - n - szs s D k))) wr := by
  have e1 : k = n := by omega
  subst e1
  have e2 : (left - (sz (.row e s) D : Nat) : Int) = left - k - szs s D k := by rw [sz_row, hn]; omega
  exact ⟨by rw [e2, if_neg (by omega)], hb⟩
end

/-! ### a struct that is being copied: its box, the result's, the copy's -/
structure CpS (w : World) (tL tI : TypeId) (cs zs part : Array Value) (wr : World) : Prop where
  box : Row wr w.heap.size tL cs
  res : Row wr (w.heap.size + 1) tI zs
  cur : Row wr (w.heap.size + 1 + 1) tI part
  bel : Below w.heap.size w wr
  size : w.heap.size + 1 + 1 + 1 ≤ wr.heap.size
section
variable {w wr w1 : World} {tL tI : TypeId} {cs zs part : Array Value}
theorem CpS.zero (w : World) (tL tI : TypeId) (cs zs : Array Value) : CpS w tL tI cs zs zs (((w.alloc (.cells cs tL)).alloc (.cells zs tI)).alloc (.cells zs tI)) where
  box := by have := ((Row.new w tL cs).alloc (.cells zs tI)).alloc (.cells zs tI); simpa using this
  res := by have := (Row.new (w.alloc (.cells cs tL)) tI zs).alloc (.cells zs tI); simpa using this
  cur := by have := Row.new ((w.alloc (.cells cs tL)).alloc (.cells zs tI)) tI zs; simpa using this
  bel := (((Below.refl _ _).alloc (Nat.le_refl _) _).alloc (by simp) _).alloc (by simp; omega) _
  size := by simp
theorem CpS.next (h : CpS w tL tI cs zs part wr) (bb : Below wr.heap.size wr w1) : CpS w tL tI cs zs part w1 :=
  ⟨h.box.next bb, h.res.next bb, h.cur.next bb, h.bel.trans (bb.mono h.bel.size), Nat.le_trans h.size bb.size⟩
theorem CpS.put (h : CpS w tL tI cs zs part wr) (i : Nat) (u : Value) : CpS w tL tI cs zs (part.setIfInBounds i u) (wr.setCell ⟨w.heap.size + 1 + 1, i, none⟩ u) :=
  ⟨h.box.far (by show _ ≠ w.heap.size + 1 + 1; omega) _, h.res.far (by show _ ≠ w.heap.size + 1 + 1; omega) _, h.cur.put i u, h.bel.setCell (by show _ ≤ w.heap.size + 1 + 1; omega) _, by simpa using h.size⟩
theorem CpS.fin (h : CpS w tL tI cs zs part wr) (i : Nat) (u : Value) : CpS w tL tI cs (zs.setIfInBounds i u) part (wr.setCell ⟨w.heap.size + 1, i, none⟩ u) :=
  ⟨h.box.far (by show _ ≠ w.heap.size + 1; omega) _, h.res.put i u, h.cur.far (by show _ ≠ w.heap.size + 1; omega) _, h.bel.setCell (by show _ ≤ w.heap.size + 1; omega) _, by simpa using h.size⟩
end
end Go.Proofs.Ytdkjafjphgcbjaa.shape
end

section
/-
  CONTRACT: spec.l1DrawAny draws a term, bent sometimes. Conditions: a drawing cursor ('Dice'). By an AI agent.
-/
namespace Go.Proofs.Ytdkjafjphgcbjaa.drawAny
open Go.RowKit Go.Proofs.Ytdkjafjphgcbjaa.base Go.Proofs.Ytdkjafjphgcbjaa.ints Go.Proofs.Ytdkjafjphgcbjaa.sig Go.Proofs.Ytdkjafjphgcbjaa.term Go.Proofs.Ytdkjafjphgcbjaa.cursor Go.Proofs.Ytdkjafjphgcbjaa.termOk Go.Proofs.Ytdkjafjphgcbjaa.marks Go.Proofs.Ytdkjafjphgcbjaa.app Go.Proofs.Ytdkjafjphgcbjaa.sym Go.Proofs.Ytdkjafjphgcbjaa.dice Go.Proofs.Ytdkjafjphgcbjaa.drawSig Go.Proofs.Ytdkjafjphgcbjaa.drawTerm
set_option maxRecDepth 100000

/-- a drawn list of at most L numbers -/
def AnsR (w : World) (p : Nat) (A : Option Addr) (n c L : Nat) (e : Ending) (w' : World) : Prop :=
  ∃ O on oc xs, e = .returned (.slice O on oc) ∧ Rd w' p w'.heap.size O on xs ∧ on ≤ oc ∧ oc ≤ 9223372036854775807 ∧ (O = none → oc = 0) ∧ on ≤ L ∧ Dice w' p A n c ∧ w.grownBy w' (some p)

theorem Own.cap {w : World} {base : Nat} {O : Option Addr} {on oc : Nat} {xs : List Int} (h : Own w base (.slice O on oc) xs) : on ≤ oc ∧ oc ≤ 9223372036854775807 := by
  rcases h.2 with ⟨e, _⟩ | ⟨g, cap, cur, e, _, _, h1, h2, _⟩
  · injection e with _ e1 e2; omega
  · injection e with _ e1 e2
    have := Own.len h
    unfold maxLen at h2
    omega
theorem ansR_own {w w' : World} {p : Nat} {A : Option Addr} {n c L : Nat} {O : Option Addr} {on oc base : Nat} {xs : List Int} (h : Own w' base (.slice O on oc) xs) (hp : p < base) (hL : on ≤ L) (d : Dice w' p A n c) (g : w.grownBy w' (some p)) : AnsR w p A n c L (.returned (.slice O on oc)) w' :=
  ⟨O, on, oc, xs, rfl, Rd.of_own h hp, (Own.cap h).1, (Own.cap h).2, Own.none_cap h, hL, d, g⟩
/-- the same, in a block of its own -/
def AnsRN (w : World) (p : Nat) (A : Option Addr) (n c L : Nat) (e : Ending) (w' : World) : Prop :=
  ∃ O on oc xs, e = .returned (.slice O on oc) ∧ Rd w' p w'.heap.size O on xs ∧ on ≤ oc ∧ oc ≤ 9223372036854775807 ∧ (O = none → oc = 0) ∧ on ≤ L ∧ Dice w' p A n c ∧ w.grownBy w' (some p) ∧ ∀ k, blk O = some k → w.heap.size ≤ k
theorem ansRN_own {w w' : World} {p : Nat} {A : Option Addr} {n c L : Nat} {O : Option Addr} {on oc base : Nat} {xs : List Int} (h : Own w' base (.slice O on oc) xs) (hp : p < base) (hb : w.heap.size ≤ base) (hL : on ≤ L) (d : Dice w' p A n c) (g : w.grownBy w' (some p)) : AnsRN w p A n c L (.returned (.slice O on oc)) w' :=
  ⟨O, on, oc, xs, rfl, Rd.of_own h hp, (Own.cap h).1, (Own.cap h).2, Own.none_cap h, hL, d, g, fun k hk => Nat.le_trans hb (Own.ge h k hk)⟩
theorem Own.some_ {w : World} {base : Nat} {O : Option Addr} {on oc : Nat} {xs : List Int} (h : Own w base (.slice O on oc) xs) (h1 : 1 ≤ on) : ∃ g, O = some ⟨g, 0, none⟩ := by
  rcases h.2 with ⟨e, _⟩ | ⟨g, cap, cur, e, _⟩
  · injection e with _ e1 e2; omega
  · injection e with e _ _; exact ⟨g, e⟩
theorem Own.cellAt {w : World} {base g on oc : Nat} {xs : List Int} (h : Own w base (.slice (some ⟨g, 0, none⟩) on oc) xs) {k : Nat} (hk : k < on) : ∃ u, w.cell? ⟨g, k, none⟩ = some u := by
  have hl := Own.len h
  subst hl
  have := World.ownsRow.cellAt h k (by omega)
  exact ⟨_, this.trans (List.getElem?_eq_getElem (by simpa using hk))⟩
theorem Own.frozenAt {w : World} {base g on oc : Nat} {xs : List Int} (h : Own w base (.slice (some ⟨g, 0, none⟩) on oc) xs) (k : Nat) : w.frozen? ⟨g, k, none⟩ = false := by
  have hl := Own.len h
  subst hl
  exact World.ownsRow.frozenAt h k
theorem Own.put {w : World} {base g on oc : Nat} {xs : List Int} (h : Own w base (.slice (some ⟨g, 0, none⟩) on oc) xs) (k : Nat) (y : Int) : Own (w.setCell ⟨g, k, none⟩ (.int .i64 y)) base (.slice (some ⟨g, 0, none⟩) on oc) (xs.set k y) := by
  have hl := Own.len h
  subst hl
  have := World.ownsRow.stored h k (.int .i64 y)
  unfold Own
  rw [List.length_set, List.map_set]
  exact this.1
/-- the rest of a slice -/
theorem Rd.tail {w : World} {p B b off n : Nat} {xs : List Int} (h : Rd w p B (some ⟨b, off, none⟩) n xs) (h1 : 1 ≤ n) : Rd w p B (some ⟨b, off + 1, none⟩) (n - 1) (xs.drop 1) := by
  refine ⟨by have := h.1; simp; omega, fun hn => ?_⟩
  obtain ⟨b', off', e, hb, hne, hc⟩ := h.2 (by omega)
  injection e with e
  injection e with e1 e2
  subst e1 e2
  refine ⟨_, _, rfl, hb, hne, fun j hj => ?_⟩
  rw [Nat.add_assoc, hc (1 + j) (by omega)]
  simp [List.getD, Nat.add_comm]
theorem Rd.none_ {w : World} {p B : Nat} {O : Option Addr} : Rd w p B O 0 [] := ⟨rfl, fun h => absurd h (by omega)⟩

set_option maxHeartbeats 4000000 in
theorem drawAnyN (p : Nat) (A : Option Addr) (n c : Nat) (S : Option Addr) (sn sc : Nat) (sg : List Int) (w : World) (hd : Dice w p A n c) (hr : Rd w p w.heap.size S sn sg) (hsn : sn ≤ 1048576) :
    Calls Try.prog 94 #[.pointer (some ⟨p, 0, none⟩), .agg #[.slice S sn sc]] w (AnsRN w p A n c 65) := by
  have T0 := DT.start (sc := sc) hd hr
  obtain ⟨W, hW⟩ : ∃ W, W = w.alloc (.cells #[.slice S sn sc] 26) := ⟨_, rfl⟩
  rw [← hW] at T0
  have HW := Lib.hid hW
  clear hd hr hW
  have hN := T0.hp
  by_cases hs0 : sn = 0
  · subst hs0
    go_enter Try.func94, Try.ntmps94
    go_wp2_with fail
    rw [← HW.out]
    refine (fromTo p A n c (-2) 2 _ T0.d (by omega) (by omega) (by omega) (by omega)).mono ?_
    rintro e u1 ⟨x, rfl, x0, x1, d1, g1⟩
    obtain ⟨O, on, oc, xs, he, o1, h1, h2, d2, g2⟩ := leaf (L := 1) (T0.dice d1 g1) (Nat.le_refl _) x
    have F : AnsRN w p A n c 65 _ _ := ansRN_own o1 hN (Nat.le_refl _) (by omega) d2 g2
    rw [← he] at F
    have HF := Lib.hid F
    clear F he o1 d2 g2 T0 d1 g1
    go_wp2
    go_ret
    exact HF.out
  · have e0 : ((sn : Int) == 0) = false := by simp; omega
    have L := Lib.hid (specSigOk S sn sc sg W (T0.s.seg.more T0.g.size) hsn)
    cases hok : sigOkB sg with
    | false =>
      have HS := Lib.hid hok
      clear hok
      go_enter Try.func94, Try.ntmps94
      go_wp2_with fail
      rw [← HW.out]
      refine L.out.mono ?_
      rintro e u0 ⟨he, bb⟩
      rw [HS.out] at he
      subst he
      have T1 := T0.below (bb.mono (by have := T0.r.lt; omega))
      clear T0 bb L
      go_wp2_with fail
      refine (fromTo p A n c (-2) 2 _ T1.d (by omega) (by omega) (by omega) (by omega)).mono ?_
      rintro e u1 ⟨x, rfl, x0, x1, d1, g1⟩
      obtain ⟨O, on, oc, xs, he, o1, h1, h2, d2, g2⟩ := leaf (L := 1) (T1.dice d1 g1) (Nat.le_refl _) x
      have F : AnsRN w p A n c 65 _ _ := ansRN_own o1 hN (Nat.le_refl _) (by omega) d2 g2
      rw [← he] at F
      have HF := Lib.hid F
      clear F he o1 d2 g2 T1 d1 g1
      go_wp2
      go_ret
      exact HF.out
    | true =>
      have HS := Lib.hid hok
      have hars := (sig_arities hok).1
      have hl8 := (sig_arities hok).2.2
      have hsl := T0.s.1
      have hs8 : sn ≤ 8 := by omega
      clear hok hsl hl8
      go_enter Try.func94, Try.ntmps94
      go_wp2_with fail
      rw [← HW.out]
      refine L.out.mono ?_
      rintro e u0 ⟨he, bb⟩
      rw [HS.out] at he
      subst he
      have T1 := (T0.below (bb.mono (by have := T0.r.lt; omega))).drew
      have cS : u0.cell? ⟨w.heap.size, 0, none⟩ = some (.slice S sn sc) := T1.r.cell 0
      clear T0 bb L
      go_wp2_with fail
      go_region_held3 (fun w' => w'.cell? ⟨w.heap.size, 0, none⟩ = some (.slice S sn sc))
        (go_keep)
        (first
          | (go_at_call 93; refine (below p A n c 4 _ T1.d (by omega) (by omega)).mono ?_; rintro e u1 ⟨x, rfl, x0, x1, d1, g1⟩; have T2 := T1.dice d1 g1; have cS2 : u1.cell? ⟨w.heap.size, 0, none⟩ = some (.slice S sn sc) := T2.r.cell 0; have hw : IntKind.i64.wrap (1 + x) = 1 + x := by rw [IntKind.wrap_i64]; omega)
          | (go_at_call 117; refine (drawTerm p A n c S sn sc sg 3 hars (by omega) (by omega) (by omega) (by omega) 3 (1 + x) u1 T2.d (T2.s.more T2.g.size) (by omega) (by clear hw; omega) (by clear hw; omega)).mono ?_; rintro e u2 ⟨O, on, oc, xs, rfl, o2, h1, h2, d2, g2⟩; have T3 := T2.dice d2 g2; have cS3 : u2.cell? ⟨w.heap.size, 0, none⟩ = some (.slice S sn sc) := T3.r.cell 0))
      have o3 : Own u2 (w.heap.size + 1) (.slice O on oc) xs := Own.lower o2 (by have := T2.r.lt; omega)
      obtain ⟨gg, rfl⟩ := Own.some_ o3 h1
      have hgg : w.heap.size + 1 ≤ gg := Own.ge o3 gg rfl
      have hL : on ≤ 64 := h2
      clear hw o2 T2 T1 d1 g1 d2 g2 cS cS2 cS3 h2 x0 x1
      have hp1 : p < w.heap.size + 1 := by omega
      go_wp2_with fail
      refine (once p A n c 12 _ T3.d (by omega) (by omega)).mono ?_
      rintro e u3 ⟨b, rfl, d1, g1⟩
      have T4 := T3.dice d1 g1
      have o4 := Own.far o3 g1 (fun k hk => by injection hk; omega)
      clear T3 o3 d1 g1
      cases b with
      | false =>
        have F : AnsRN w p A n c 65 (.returned (.slice (some ⟨gg, 0, none⟩) on oc)) u3 := ansRN_own o4 hp1 (by omega) (by omega) T4.d T4.g
        have HF := Lib.hid F
        clear F T4 o4
        go_wp2
        go_ret
        exact HF.out
      | true =>
        go_wp2_with fail
        refine (below p A n c 4 _ T4.d (by omega) (by omega)).mono ?_
        rintro e u4 ⟨x, rfl, x0, x1, d1, g1⟩
        have T5 := T4.dice d1 g1
        have o5 := Own.far o4 g1 (fun k hk => by injection hk; omega)
        clear T4 o4 d1 g1
        by_cases hx0 : x = 0
        · subst hx0
          go_wp2_with fail
          refine (fromTo p A n c (-2) 3 _ T5.d (by omega) (by omega) (by omega) (by omega)).mono ?_
          rintro e u5 ⟨y, rfl, y0, y1, d1, g1⟩
          have T6 := T5.dice d1 g1
          have o6 := Own.far o5 g1 (fun k hk => by injection hk; omega)
          have z6 := T6.r.lt
          clear T5 o5 d1 g1 x0 x1
          go_wp2_with (at_builtin; refine app1 rfl _ _ rfl (w.heap.size + 1) (some ⟨gg, 0, none⟩) on oc xs rfl (Own.alloc o6 _) u5.heap.size 1 y rfl ((Row.new _ _ _).cell 0) (by omega) (by simp; omega) ?_; intro O' oc' u6 o7 b7)
          have T7 := (T6.below ((Below.refl _ _).alloc (by omega) (.cells #[.int .i64 y] 2))).below b7
          have F : AnsRN w p A n c 65 (.returned (.slice O' (on + 1) oc')) u6 := ansRN_own o7 hp1 (by omega) (by omega) T7.d T7.g
          have HF := Lib.hid F
          clear F T7 T6 o6 o7 b7
          go_wp2
          go_ret
          exact HF.out
        · by_cases hx1 : x = 1
          · subst hx1
            go_wp2_with fail
            refine (below p A n c (on : Int) _ T5.d (by omega) (by omega)).mono ?_
            rintro e u5 ⟨y, rfl, y0, y1, d1, g1⟩
            obtain ⟨k, rfl⟩ := Int.eq_ofNat_of_zero_le y0
            have T6 := T5.dice d1 g1
            have o6 := Own.far o5 g1 (fun k hk => by injection hk; omega)
            clear T5 o5 d1 g1 x0 x1 hx0
            go_wp2_with fail
            refine (fromTo p A n c (-3) 4 _ T6.d (by omega) (by omega) (by omega) (by omega)).mono ?_
            rintro e u6 ⟨z, rfl, z0, z1, d1, g1⟩
            have T7 := T6.dice d1 g1
            have o7 := Own.far o6 g1 (fun k hk => by injection hk; omega)
            have hk : k < on := by omega
            have i1 : (k : Int) < (on : Int) := by omega
            obtain ⟨u, hu⟩ := Own.cellAt o7 hk
            have hf := Own.frozenAt o7 k
            have o8 := Own.put o7 k z
            have T8 := T7.below ((Below.refl (w.heap.size + 1) u6).setCell (p := ⟨gg, k, none⟩) hgg (.int .i64 z))
            have F : AnsRN w p A n c 65 (.returned (.slice (some ⟨gg, 0, none⟩) on oc)) (u6.setCell ⟨gg, k, none⟩ (.int .i64 z)) := ansRN_own o8 hp1 (by omega) (by omega) T8.d T8.g
            have HF := Lib.hid F
            clear F T8 T7 T6 o8 o7 o6 d1 g1
            go_wp2
            go_ret
            exact HF.out
          · by_cases hx2 : x = 2
            · subst hx2
              have hcap := Own.cap o5
              have hrd := Rd.of_own o5 hp1
              by_cases hc1 : oc = 1
              · subst hc1
                have e1 : on = 1 := by omega
                subst e1
                have F : AnsRN w p A n c 65 (.returned (.slice (some ⟨gg, 0, none⟩) 0 0)) u4 := ⟨_, 0, 0, [], rfl, Rd.none_, Nat.le_refl _, by omega, fun e => rfl, by omega, T5.d, T5.g, fun k hk => by (injection hk with e); have e2 : gg = k := e; omega⟩
                have HF := Lib.hid F
                clear F T5 o5 hrd x0 x1 hx0 hx1
                go_wp2
                go_ret
                exact HF.out
              · have F : AnsRN w p A n c 65 (.returned (.slice (some ⟨gg, 0 + 1, none⟩) (on - 1) (oc - 1))) u4 := ⟨_, _, _, _, rfl, Rd.tail hrd h1, by omega, by omega, (fun e => by cases e), by omega, T5.d, T5.g, fun k hk => by (injection hk with e); have e2 : gg = k := e; omega⟩
                have HF := Lib.hid F
                have hc2 : ¬ oc = 1 := hc1
                have i1 : (1 : Int) ≤ (on : Int) := by omega
                have i2 : (1 : Int) ≤ (oc : Int) := by omega
                have i3 : (on : Int) ≤ (oc : Int) := by omega
                have i4 : 1 ≤ on := h1
                have i5 : on ≤ oc := hcap.1
                clear F T5 o5 hrd x0 x1 hx0 hx1 hc1 hcap
                go_wp2
                go_ret
                exact HF.out
            · have e3 : x = 3 := by omega
              subst e3
              clear x0 x1 hx0 hx1 hx2
              go_wp2_with fail
              refine (odd p A n c _ T5.d).mono ?_
              rintro e u5 ⟨y, rfl, d1, g1⟩
              have T6 := T5.dice d1 g1
              have o6 := Own.far o5 g1 (fun k hk => by injection hk; omega)
              have z6 := T6.r.lt
              clear T5 o5 d1 g1
              go_wp2_with (at_builtin; refine app1 rfl _ _ rfl (w.heap.size + 1) (some ⟨gg, 0, none⟩) on oc xs rfl (Own.alloc o6 _) u5.heap.size 1 y rfl ((Row.new _ _ _).cell 0) (by omega) (by simp; omega) ?_; intro O' oc' u6 o7 b7)
              have T7 := (T6.below ((Below.refl _ _).alloc (by omega) (.cells #[.int .i64 y] 2))).below b7
              have F : AnsRN w p A n c 65 (.returned (.slice O' (on + 1) oc')) u6 := ansRN_own o7 hp1 (by omega) (by omega) T7.d T7.g
              have HF := Lib.hid F
              clear F T7 T6 o6 o7 b7
              go_wp2
              go_ret
              exact HF.out

theorem drawAny (p : Nat) (A : Option Addr) (n c : Nat) (S : Option Addr) (sn sc : Nat) (sg : List Int) (w : World) (hd : Dice w p A n c) (hr : Rd w p w.heap.size S sn sg) (hsn : sn ≤ 1048576) :
    Calls Try.prog 94 #[.pointer (some ⟨p, 0, none⟩), .agg #[.slice S sn sc]] w (AnsR w p A n c 65) :=
  (drawAnyN p A n c S sn sc sg w hd hr hsn).mono fun _ _ ⟨O, on, oc, xs, h1, h2, h3, h4, h5, h6, h7, h8, _⟩ => ⟨O, on, oc, xs, h1, h2, h3, h4, h5, h6, h7, h8⟩
end Go.Proofs.Ytdkjafjphgcbjaa.drawAny
end
