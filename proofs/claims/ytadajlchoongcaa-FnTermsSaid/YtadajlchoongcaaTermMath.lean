/-
  PLAIN MATHEMATICS for laws.FnTerms: a subterm is a term, consists of its head and its arguments, and its depth is one more than the deepest of theirs. Conditions: none. By an AI agent.
-/
import Derived.Test.YtadajlchoongcaaSub
import Derived.Test.YtadajlchoongcaaDepth
namespace Go.Proofs.Ytadajlchoongcaa.termMath
open Go.Proofs.Ytadajlchoongcaa.term Go.Proofs.Ytadajlchoongcaa.termOk Go.Proofs.Ytadajlchoongcaa.endAt Go.Proofs.Ytadajlchoongcaa.sub Go.Proofs.Ytadajlchoongcaa.args Go.Proofs.Ytadajlchoongcaa.depth Go.Proofs.Ytadajlchoongcaa.sig

theorem scan_append {sg : List Int} : ∀ {l r : List Int} {q j : Nat}, scan sg q l = some j → scan sg q (l ++ r) = some j := by
  intro l
  induction l with
  | nil =>
    intro r q j h
    cases q with
    | zero => rw [scan_zero] at h ⊢; exact h
    | succ q => rw [scan_nil] at h; cases h
  | cons x l ih =>
    intro r q j h
    cases q with
    | zero => rw [scan_zero] at h ⊢; exact h
    | succ q =>
      by_cases ha : ar sg x < 0
      · rw [scan_bad ha] at h; cases h
      · rw [scan_step ha] at h
        rw [List.cons_append, scan_step ha]
        obtain ⟨j', hj', rfl⟩ := Option.map_eq_some_iff.1 h
        rw [ih hj']
        rfl
theorem scan_take {sg : List Int} : ∀ {l : List Int} {q j : Nat}, scan sg q l = some j → scan sg q (l.take j) = some j := by
  intro l
  induction l with
  | nil => intro q j h; simpa using h
  | cons x l ih =>
    intro q j h
    cases q with
    | zero => rw [scan_zero] at h ⊢; exact h
    | succ q =>
      by_cases ha : ar sg x < 0
      · rw [scan_bad ha] at h; cases h
      · rw [scan_step ha] at h
        obtain ⟨j', hj', rfl⟩ := Option.map_eq_some_iff.1 h
        rw [List.take_succ_cons, scan_step ha, ih hj']
        rfl
/-- a scan goes by the numbers that it takes alone -/
theorem scan_same {sg l l' : List Int} {q j : Nat} (h : scan sg q l = some j) (e : l.take j = l'.take j) : scan sg q l' = some j := by
  have h1 := scan_take h
  rw [e] at h1
  have h2 := scan_append (r := l'.drop j) h1
  rwa [List.take_append_drop] at h2
theorem take_less {l l' : List Int} {i j : Nat} (e : l.take i = l'.take i) (h : j ≤ i) : l.take j = l'.take j := by
  have : (l.take i).take j = (l'.take i).take j := by rw [e]
  rwa [List.take_take, List.take_take, Nat.min_eq_left h] at this
theorem drop_same {l l' : List Int} {i j : Nat} (e : l.take i = l'.take i) : (l.drop j).take (i - j) = (l'.drop j).take (i - j) := by
  rw [← List.drop_take, ← List.drop_take, e]
theorem get_same {t t' : List Int} {a a' i : Nat} (e : (t.drop a).take i = (t'.drop a').take i) (h : 1 ≤ i) : t.getD a 0 = t'.getD a' 0 := by
  have : ((t.drop a).take i)[0]? = ((t'.drop a').take i)[0]? := by rw [e]
  rw [List.getElem?_take, List.getElem?_take, if_pos (by omega), if_pos (by omega), List.getElem?_drop, List.getElem?_drop] at this
  simpa [List.getD] using congrArg (fun o => o.getD 0) this

theorem max_same {sg t t' : List Int} {f f' : Nat} (hd : ∀ a a' j, (t.drop a).take j = (t'.drop a').take j → scan sg 1 (t.drop a) = some j → j ≤ f → j ≤ f' → dep sg t f a = dep sg t' f' a') :
    ∀ q p p' i, (t.drop p).take i = (t'.drop p').take i → scan sg q (t.drop p) = some i → i ≤ f → i ≤ f' → maxOver sg t (dep sg t f) q p = maxOver sg t' (dep sg t' f') q p'
  | 0, _, _, _, _, _, _, _ => rfl
  | q + 1, p, p', i, e, h, h1, h2 => by
    obtain ⟨j, e1, e2, e3, e4⟩ := scan_first h
    have e5 := scan_same e1 (take_less e e3)
    have hdr : (t.drop (p + j)).take (i - j) = (t'.drop (p' + j)).take (i - j) := by
      have := drop_same (j := j) e
      rwa [List.drop_drop, List.drop_drop] at this
    simp only [maxOver, len1_eq e1, len1_eq e5]
    rw [hd p p' j (take_less e e3) e1 (by omega) (by omega), max_same hd q (p + j) (p' + j) (i - j) hdr e4 (by omega) (by omega)]
/-- the depth goes by the numbers of the term alone -/
theorem dep_same {sg : List Int} : ∀ (f f' : Nat) (t t' : List Int) (a a' j : Nat), (t.drop a).take j = (t'.drop a').take j → scan sg 1 (t.drop a) = some j → j ≤ f → j ≤ f' → dep sg t f a = dep sg t' f' a'
  | 0, _, _, _, _, _, _, _, h, h1, _ => by have := scan_pos (q := 0) h; omega
  | _ + 1, 0, _, _, _, _, _, _, h, _, h2 => by have := scan_pos (q := 0) h; omega
  | f + 1, f' + 1, t, t', a, a', j, e, h, h1, h2 => by
    have hj := scan_pos (q := 0) h
    have hg := get_same e hj
    obtain ⟨i, e1, _, _, e2⟩ := scan_args h
    have hdr : (t.drop (a + 1)).take i = (t'.drop (a' + 1)).take i := by
      have := drop_same (j := 1) e
      rw [List.drop_drop, List.drop_drop] at this
      have e3 : j - 1 = i := by omega
      rwa [e3] at this
    simp only [dep]
    rw [← hg, max_same (fun a a' j e h h1 h2 => dep_same f f' t t' a a' j e h h1 h2) _ (a + 1) (a' + 1) i hdr e2 (by omega) (by omega)]

/-- the subterm at a place of a term -/
theorem sub_term {sg t : List Int} {a : Nat} (hok : termOkB sg t = true) (ha : a < t.length) : termOkB sg (subL sg t a) = true ∧ depthI sg (subL sg t a) = dep sg t (t.length + 1) a ∧ endI sg t a = (a : Int) + ((subL sg t a).length : Int) ∧ 1 ≤ (subL sg t a).length := by
  have hp := termOk_parts hok
  obtain ⟨j, hj, hj1, hj2⟩ := scan_at hp.2.2 ha
  have hl : len1 sg t a = j := len1_eq hj
  have hs : subL sg t a = (t.drop a).take j := by unfold subL; rw [hl]
  have hlen : (subL sg t a).length = j := by rw [hs]; simp; omega
  have hsc : scan sg 1 (subL sg t a) = some (subL sg t a).length := by rw [hlen, hs]; exact scan_take hj
  have hok2 : termOkB sg (subL sg t a) = true := by
    unfold termOkB termB
    rw [hp.1, hsc]
    simp
    omega
  refine ⟨hok2, ?_, by rw [endI_some hj, hlen], by omega⟩
  unfold depthI
  rw [if_pos hok2, hlen]
  refine (dep_same _ _ _ _ _ _ j ?_ ?_ (Nat.le_refl _) (by omega))
  · rw [List.drop_zero, hs, List.take_take, Nat.min_self]
  · rw [List.drop_zero, hsc, hlen]

/-- in the course of the law's loop: q arguments from place pp on are still to come -/
def Loop (sg t : List Int) (a : Nat) (M : Int) (zs args : List Int) (d : Int) (k q pp : Nat) : Prop :=
  args.drop k = places sg t q pp ∧ max d (maxOver sg t (dep sg t t.length) q pp) = M ∧ 0 ≤ d ∧ d ≤ t.length ∧ ∃ i, scan sg q (t.drop pp) = some i ∧ pp + i ≤ t.length ∧ zs ++ (t.drop pp).take i = subL sg t a
theorem Loop.start {sg t : List Int} {a : Nat} (hok : termOkB sg t = true) (ha : a < t.length) :
    Loop sg t a (maxOver sg t (dep sg t t.length) (ar sg (t.getD a 0)).toNat (a + 1)) [t.getD a 0] (argsL sg t a) 0 0 (ar sg (t.getD a 0)).toNat (a + 1) := by
  have hp := termOk_parts hok
  obtain ⟨j, hj, hj1, hj2⟩ := scan_at hp.2.2 ha
  obtain ⟨i, rfl, _, _, hi⟩ := scan_args hj
  have hb := maxOver_bd (sg := sg) (t := t) (g := dep sg t t.length) (B := t.length) (by omega) (fun p => dep_bd t.length p) (ar sg (t.getD a 0)).toNat (a + 1)
  refine ⟨rfl, by omega, by omega, by omega, i, hi, by omega, ?_⟩
  unfold subL
  rw [len1_eq hj, drop_cons ha, List.take_succ_cons]
  rfl
theorem Loop.done {sg t : List Int} {a : Nat} {M : Int} {zs args : List Int} {d : Int} {k pp : Nat} (h : Loop sg t a M zs args d k 0 pp) : zs = subL sg t a ∧ d = M := by
  obtain ⟨_, h2, h3, _, i, h5, _, h7⟩ := h
  rw [scan_zero] at h5
  injection h5 with h5
  subst h5
  simp only [maxOver] at h2
  exact ⟨by simpa using h7, by omega⟩
theorem Loop.step {sg t : List Int} {a : Nat} {M : Int} {zs args : List Int} {d : Int} {k q pp : Nat} (hok : termOkB sg t = true) (h : Loop sg t a M zs args d k (q + 1) pp) :
    pp < t.length ∧ args.getD k 0 = (pp : Int) ∧ ∃ jj, Loop sg t a M (zs ++ subL sg t pp) args (max d (depthI sg (subL sg t pp))) (k + 1) q (pp + jj) := by
  obtain ⟨h1, h2, h3, h4, i, h5, h6, h7⟩ := h
  obtain ⟨j, e1, e2, e3, e4⟩ := scan_first h5
  have hlt : pp < t.length := by omega
  refine ⟨hlt, ?_, j, ?_⟩
  · have : (args.drop k)[0]? = (places sg t (q + 1) pp)[0]? := by rw [h1]
    simp [places] at this
    simp [List.getD, this]
  · have hdep : depthI sg (subL sg t pp) = dep sg t t.length pp := by
      rw [(sub_term hok hlt).2.1]
      exact dep_same _ _ _ _ _ _ j rfl e1 (by omega) (by omega)
    have hb := dep_bd (sg := sg) (t := t) t.length pp
    refine ⟨?_, ?_, by omega, by rw [hdep]; omega, i - j, e4, by omega, ?_⟩
    · have : (args.drop k).drop 1 = (places sg t (q + 1) pp).drop 1 := by rw [h1]
      rw [List.drop_drop] at this
      simpa [places, len1_eq e1] using this
    · rw [hdep]
      simp only [maxOver, len1_eq e1] at h2
      omega
    · rw [← h7, List.append_assoc]
      congr 1
      unfold subL
      rw [len1_eq e1, ← List.drop_drop, ← List.drop_take]
      have := List.take_append_drop j ((t.drop pp).take i)
      rwa [List.take_take, Nat.min_eq_left e3] at this
theorem depth_head {sg t : List Int} {a : Nat} (hok : termOkB sg t = true) (ha : a < t.length) : depthI sg (subL sg t a) = maxOver sg t (dep sg t t.length) (ar sg (t.getD a 0)).toNat (a + 1) + 1 := by
  rw [(sub_term hok ha).2.1]
  rfl
end Go.Proofs.Ytadajlchoongcaa.termMath
