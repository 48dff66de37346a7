/-
  MERGED: my texts ReachMath, FindW, MatchSpec, SameSubst, PlainFacts, MatchTot, MatchFacts, StepSpec, StepSpecB, FindSpecA, FindSpec, HeldU, one behind the other, as they are. By an AI agent.
-/
import Derived.Test.YtifckjchmjmhoabGreatMFnLongest5
import Derived.Deep.LoopGhost
import Derived.Deep.RegionHeld3
import Derived.Deep.DeepCutAuto
namespace Go.Proofs.YtifckjchmjmhoabGreat
section
namespace reachMath
open sig term termOk termFacts ruleMath stepMath walkMath stepsMath orderMath
abbrev Fi := St × Nat × Nat
abbrev Fs := List Fi × Bool
def termF (f : Fi) : List Int := f.1.2.2
def termsF (L : List Fi) : List (List Int) := L.map termF
def addF (p d : Nat) (S : Fs) (x : St) : Fs := if S.2 = false then S else if x.2.2 ∈ termsF S.1 then S else if S.1.length = 60 then (S.1, false) else (S.1 ++ [(x, p, d)], true)
def goF (sg : List Int) (rs : List Rl) (n : Nat) (S : Fs) (i : Nat) : Fs := match S.1[i]? with
 | none => S
 | some f => if f.2.2 = n then S else (stepsL sg rs (termF f)).foldl (addF i (f.2.2 + 1)) S
def startF (t : List Int) : Fi := ((0, 0, t), 0, 0)
def fdN (sg : List Int) (rs : List Rl) (t : List Int) (n : Nat) : Nat → Fs
 | 0 => ([startF t], true)
 | i + 1 => goF sg rs n (fdN sg rs t n i) i
def fdA (sg : List Int) (rs : List Rl) (t : List Int) (n : Nat) : Fs := fdN sg rs t n 60
theorem add_off {p d : Nat} {S : Fs} {x : St} (h : S.2 = false) : addF p d S x = S := if_pos h
theorem add_in {p d : Nat} {S : Fs} {x : St} (h : x.2.2 ∈ termsF S.1) : addF p d S x = S := by
 unfold addF
 by_cases h0 : S.2 = false
 · rw [if_pos h0]
 · rw [if_neg h0, if_pos h]
theorem add_full {p d : Nat} {S : Fs} {x : St} (h0 : S.2 = true) (h : x.2.2 ∉ termsF S.1) (h1 : S.1.length = 60) : addF p d S x = (S.1, false) := by unfold addF; rw [if_neg (by rw [h0]; simp), if_neg h, if_pos h1]
theorem add_new {p d : Nat} {S : Fs} {x : St} (h0 : S.2 = true) (h : x.2.2 ∉ termsF S.1) (h1 : S.1.length ≠ 60) : addF p d S x = (S.1 ++ [(x, p, d)], true) := by unfold addF; rw [if_neg (by rw [h0]; simp), if_neg h, if_neg h1]
theorem fold_off {p d : Nat} : ∀ {xs : List St} {S : Fs}, S.2 = false → xs.foldl (addF p d) S = S
 | [], _, _ => rfl
 | x :: r, S, h => by rw [List.foldl_cons, add_off h]; exact fold_off h
theorem fold_snoc {p d : Nat} {xs : List St} {S : Fs} {x : St} : (xs ++ [x]).foldl (addF p d) S = addF p d (xs.foldl (addF p d) S) x := by rw [List.foldl_append]; rfl
theorem fold_take {p d k : Nat} {xs : List St} {S : Fs} (h : k < xs.length) : (xs.take (k + 1)).foldl (addF p d) S = addF p d ((xs.take k).foldl (addF p d) S) (xs.getD k (0, 0, [])) := by
 rw [List.take_succ_eq_append_getElem h, fold_snoc]
 simp [List.getD, h]
structure Inv (sg : List Int) (rs : List Rl) (t : List Int) (n : Nat) (S : Fs) (i : Nat) : Prop where
 len1 : 1 ≤ S.1.length
 len60 : S.1.length ≤ 60
 head : S.1[0]? = some (startF t)
 par : ∀ j f, 0 < j → S.1[j]? = some f → ∃ g, f.2.1 < j ∧ S.1[f.2.1]? = some g ∧ f.1 ∈ stepsL sg rs (termF g) ∧ f.2.2 = g.2.2 + 1
 dn : ∀ f ∈ S.1, f.2.2 ≤ n
 sorted : S.1.Pairwise fun f g => f.2.2 ≤ g.2.2
 nodup : (termsF S.1).Nodup
 top : ∀ g, S.1[i]? = some g → ∀ f ∈ S.1, f.2.2 ≤ g.2.2 + 1
section
variable {sg : List Int} {rs : List Rl} {t : List Int} {n i : Nat} {S : Fs}
theorem inv_zero : Inv sg rs t n ([startF t], true) 0 where
 len1 := Nat.le_refl _
 len60 := by simp
 head := rfl
 par := fun j f h0 hj => by
   obtain ⟨k, rfl⟩ : ∃ k, j = k + 1 := ⟨j - 1, by omega⟩
   simp at hj
 dn := fun f hf => by rw [List.mem_singleton.1 hf]; exact Nat.zero_le _
 sorted := by simp
 nodup := by simp [termsF]
 top := fun g hg f hf => by rw [List.mem_singleton.1 hf]; exact Nat.zero_le _
theorem get_left {α : Type} {L M : List α} {j : Nat} {f : α} (h : L[j]? = some f) : (L ++ M)[j]? = some f := by
 have := (List.getElem?_eq_some_iff.1 h).1
 rw [List.getElem?_append_left this]; exact h
theorem inv_add {f : Fi} (h : Inv sg rs t n S i) (hf : S.1[i]? = some f) (hn : f.2.2 ≠ n) {x : St} (hx : x ∈ stepsL sg rs (termF f)) : Inv sg rs t n (addF i (f.2.2 + 1) S x) i ∧ (addF i (f.2.2 + 1) S x).1[i]? = some f := by
 cases h0 : S.2 with
 | false => rw [add_off h0]; exact ⟨h, hf⟩
 | true =>
   by_cases h1 : x.2.2 ∈ termsF S.1
   · rw [add_in h1]; exact ⟨h, hf⟩
   · by_cases h2 : S.1.length = 60
     · rw [add_full h0 h1 h2]; exact ⟨⟨h.len1, h.len60, h.head, h.par, h.dn, h.sorted, h.nodup, h.top⟩, hf⟩
     · rw [add_new h0 h1 h2]
       have hl := h.len60
       have hi := (List.getElem?_eq_some_iff.1 hf).1
       have hfm : f ∈ S.1 := List.mem_of_getElem? hf
       have hd := h.dn f hfm
       refine ⟨⟨by simp, by simp; omega, get_left h.head, fun j g hj hg => ?_, fun g hg => ?_, ?_, ?_, fun g hg e he => ?_⟩, get_left hf⟩
       · by_cases hjl : j < S.1.length
         · rw [List.getElem?_append_left hjl] at hg
           obtain ⟨e, e1, e2, e3, e4⟩ := h.par j g hj hg
           exact ⟨e, e1, get_left e2, e3, e4⟩
         · rw [List.getElem?_append_right (by omega)] at hg
           have hj0 : j - S.1.length = 0 := by
             have := (List.getElem?_eq_some_iff.1 hg).1
             simp at this; omega
           rw [hj0] at hg
           simp at hg
           subst hg
           exact ⟨f, by show i < j; omega, get_left hf, hx, rfl⟩
       · rcases List.mem_append.1 hg with hg | hg
         · exact h.dn g hg
         · rw [List.mem_singleton.1 hg]; show f.2.2 + 1 ≤ n; omega
       · refine List.pairwise_append.2 ⟨h.sorted, by simp, fun a ha b hb => ?_⟩
         rw [List.mem_singleton.1 hb]
         exact h.top f hf a ha
       · unfold termsF
         rw [List.map_append]
         refine List.nodup_append.2 ⟨h.nodup, by simp, fun a ha b hb e => ?_⟩
         have hb : b = termF (x, i, f.2.2 + 1) := by simpa using hb
         rw [e, hb] at ha
         exact h1 ha
       · have hg : (S.1 ++ [(x, i, f.2.2 + 1)])[i]? = some g := hg
         rw [get_left hf] at hg
         injection hg with hg
         subst hg
         rcases List.mem_append.1 he with he | he
         · exact h.top f hf e he
         · rw [List.mem_singleton.1 he]; exact Nat.le_refl _
theorem inv_fold {f : Fi} (hn : f.2.2 ≠ n) : ∀ (xs : List St) (S : Fs), Inv sg rs t n S i → S.1[i]? = some f → (∀ x ∈ xs, x ∈ stepsL sg rs (termF f)) → Inv sg rs t n (xs.foldl (addF i (f.2.2 + 1)) S) i ∧ (xs.foldl (addF i (f.2.2 + 1)) S).1[i]? = some f
 | [], _, h, hf, _ => ⟨h, hf⟩
 | x :: r, S, h, hf, hx => by
   obtain ⟨h1, h2⟩ := inv_add h hf hn (hx x (List.mem_cons_self ..))
   exact inv_fold hn r _ h1 h2 fun y hy => hx y (List.mem_cons_of_mem _ hy)
theorem inv_next (h : Inv sg rs t n S i) : Inv sg rs t n S (i + 1) := ⟨h.len1, h.len60, h.head, h.par, h.dn, h.sorted, h.nodup, fun g hg f hf => by
 have hi1 := (List.getElem?_eq_some_iff.1 hg).1
 have hi : S.1[i]? = some (S.1[i]'(by omega)) := List.getElem?_eq_getElem _
 have h1 := h.top _ hi f hf
 have h2 := List.pairwise_iff_getElem.1 h.sorted i (i + 1) (by omega) hi1 (by omega)
 have h3 : S.1[i + 1] = g := (List.getElem?_eq_some_iff.1 hg).2
 rw [h3] at h2
 omega⟩
theorem inv_go (h : Inv sg rs t n S i) : Inv sg rs t n (goF sg rs n S i) (i + 1) := by
 refine inv_next ?_
 unfold goF
 cases hf : S.1[i]? with
 | none => exact h
 | some f =>
   dsimp only
   split
   · exact h
   · rename_i hn
     exact (inv_fold hn _ _ h hf fun _ hx => hx).1
theorem inv_fd : ∀ i, Inv sg rs t n (fdN sg rs t n i) i
 | 0 => inv_zero
 | i + 1 => inv_go (inv_fd i)
theorem fd_same {j : Nat} (hij : i ≤ j) (h : (fdN sg rs t n i).1.length ≤ i ∨ (fdN sg rs t n i).2 = false ∨ ∃ f, (fdN sg rs t n i).1[i]? = some f ∧ f.2.2 = n) : fdN sg rs t n j = fdN sg rs t n i := by
 induction j with
 | zero => rw [show i = 0 by omega]
 | succ j ih =>
   by_cases e : i = j + 1
   · rw [e]
   · have ih := ih (by omega)
     show goF sg rs n (fdN sg rs t n j) j = _
     rw [ih]
     have hI := inv_fd (sg := sg) (rs := rs) (t := t) (n := n) i
     unfold goF
     cases hg : (fdN sg rs t n i).1[j]? with
     | none => rfl
     | some g =>
       have hjl := (List.getElem?_eq_some_iff.1 hg).1
       dsimp only
       rcases h with h | h | ⟨f, hf, hd⟩
       · omega
       · split
         · rfl
         · exact fold_off h
       · rw [if_pos]
         have h1 := hI.dn g (List.mem_of_getElem? hg)
         by_cases e2 : i = j
         · subst e2
           rw [hf] at hg
           injection hg with hg
           rw [← hg]; exact hd
         · have h2 := List.pairwise_iff_getElem.1 hI.sorted i j (by omega) hjl (by omega)
           have h3 := (List.getElem?_eq_some_iff.1 hg).2
           obtain ⟨h5, h4⟩ := List.getElem?_eq_some_iff.1 hf
           rw [h3, h4] at h2
           omega
theorem fd_end (hi : i ≤ 60) (h : (fdN sg rs t n i).1.length ≤ i ∨ (fdN sg rs t n i).2 = false ∨ ∃ f, (fdN sg rs t n i).1[i]? = some f ∧ f.2.2 = n) : fdA sg rs t n = fdN sg rs t n i := fd_same hi h
theorem fd_step {f : Fi} (hf : (fdN sg rs t n i).1[i]? = some f) (hn : f.2.2 ≠ n) : fdN sg rs t n (i + 1) = (stepsL sg rs (termF f)).foldl (addF i (f.2.2 + 1)) (fdN sg rs t n i) := by
 show goF sg rs n _ i = _
 unfold goF
 rw [hf]
 exact if_neg hn
theorem fd_skip {f : Fi} (hf : (fdN sg rs t n i).1[i]? = some f) (hn : f.2.2 = n) : fdN sg rs t n (i + 1) = fdN sg rs t n i := by
 show goF sg rs n _ i = _
 unfold goF
 rw [hf]
 exact if_pos hn
theorem fd_inv : Inv sg rs t n (fdA sg rs t n) 60 := inv_fd 60
def bkK (L : List Fi) : Nat → Nat → List St
 | 0, _ => []
 | k + 1, at_ => if at_ = 0 then [] else (L.getD at_ (startF [])).1 :: bkK L k (L.getD at_ (startF [])).2.1
def bk (L : List Fi) (j : Nat) : List St := bkK L j j
theorem bk_zero (L : List Fi) : bk L 0 = [] := rfl
theorem bkK_more (h : Inv sg rs t n S i) : ∀ {k j : Nat}, j ≤ k → j < S.1.length → bkK S.1 k j = bk S.1 j := by
 intro k
 induction k with
 | zero => intro j hj _; rw [show j = 0 by omega]; rfl
 | succ k ih =>
   intro j hj hl
   cases j with
   | zero => rw [bk_zero, bkK, if_pos rfl]
   | succ j =>
     have hg : S.1[j + 1]? = some S.1[j + 1] := List.getElem?_eq_getElem hl
     obtain ⟨g, h1, h2, -, -⟩ := h.par (j + 1) _ (by omega) hg
     have e : S.1.getD (j + 1) (startF []) = S.1[j + 1] := by simp [List.getD, hl]
     have hgl := (List.getElem?_eq_some_iff.1 h2).1
     unfold bk
     rw [bkK, bkK, if_neg (by omega), if_neg (by omega), e, ih (by omega) hgl]
     by_cases e2 : j = k
     · subst e2; rw [ih (by omega) hgl]
     · by_cases e3 : S.1[j + 1].2.1 ≤ j
       · -- both are the whole way
         have : ∀ {m : Nat}, m ≤ j → m < S.1.length → bkK S.1 j m = bk S.1 m := by
           clear ih e2
           intro m hm hml
           revert m
           have gen : ∀ q m, m ≤ q → m < S.1.length → bkK S.1 q m = bk S.1 m := by
             intro q
             induction q using Nat.strongRecOn with
             | _ q ihq =>
               intro m hm hml
               cases q with
               | zero => rw [show m = 0 by omega]; rfl
               | succ q =>
                 cases m with
                 | zero => rw [bk_zero, bkK, if_pos rfl]
                 | succ m =>
                   have hg' : S.1[m + 1]? = some S.1[m + 1] := List.getElem?_eq_getElem hml
                   obtain ⟨g', p1, p2, -, -⟩ := h.par (m + 1) _ (by omega) hg'
                   have e' : S.1.getD (m + 1) (startF []) = S.1[m + 1] := by simp [List.getD, hml]
                   have hgl' := (List.getElem?_eq_some_iff.1 p2).1
                   unfold bk
                   rw [bkK, bkK, if_neg (by omega), if_neg (by omega), e', ihq q (by omega) _ (by omega) hgl', ihq m (by omega) _ (by omega) hgl']
           intro m hm hml
           exact gen j m hm hml
         rw [this e3 hgl]
       · omega
theorem bk_succ (h : Inv sg rs t n S i) {j : Nat} {f : Fi} (h0 : 0 < j) (hf : S.1[j]? = some f) : bk S.1 j = f.1 :: bk S.1 f.2.1 := by
 obtain ⟨g, h1, h2, -, -⟩ := h.par j f h0 hf
 have hgl := (List.getElem?_eq_some_iff.1 h2).1
 obtain ⟨k, rfl⟩ : ∃ k, j = k + 1 := ⟨j - 1, by omega⟩
 have e : S.1.getD (k + 1) (startF []) = f := by simp [List.getD, hf]
 unfold bk
 rw [bkK, if_neg (by omega), e, bkK_more h (by omega) hgl]
 rfl
theorem bk_len (h : Inv sg rs t n S i) : ∀ (j : Nat) (f : Fi), S.1[j]? = some f → (bk S.1 j).length = f.2.2 := by
 intro j
 induction j using Nat.strongRecOn with
 | _ j ih =>
   intro f hf
   by_cases h0 : j = 0
   · subst h0
     rw [h.head] at hf
     injection hf with hf
     rw [← hf]; rfl
   · obtain ⟨g, h1, h2, -, h4⟩ := h.par j f (by omega) hf
     rw [bk_succ h (by omega) hf, List.length_cons, ih _ h1 g h2, h4]
theorem bk_walk (hr : sysOkB sg rs = true) (ht : termOkB sg t = true) (h : Inv sg rs t n S i) : ∀ (j : Nat) (f : Fi), S.1[j]? = some f → termOkB sg (termF f) = true ∧ goOn sg rs t (bk S.1 j).reverse = some (termF f) := by
 intro j
 induction j using Nat.strongRecOn with
 | _ j ih =>
   intro f hf
   by_cases h0 : j = 0
   · subst h0
     rw [h.head] at hf
     injection hf with hf
     rw [← hf]; exact ⟨ht, rfl⟩
   · obtain ⟨g, h1, h2, h3, h4⟩ := h.par j f (by omega) hf
     obtain ⟨q1, q2⟩ := ih _ h1 g h2
     have q3 := steps_at hr q1 h3
     refine ⟨stepAt_ok q3, ?_⟩
     rw [bk_succ h (by omega) hf, List.reverse_cons, go_append, q2]
     exact go_cons.2 ⟨q3, rfl⟩
theorem find_ok (hr : sysOkB sg rs = true) (ht : termOkB sg t = true) (h : Inv sg rs t n S i) {f : Fi} (hf : f ∈ S.1) : termOkB sg (termF f) = true := by
 obtain ⟨j, hj⟩ := List.mem_iff_getElem?.1 hf
 exact (bk_walk hr ht h j f hj).1
end
def stepsB (n : Int) : Bool := decide (0 ≤ n ∧ n ≤ 20)
def right9 (sg : List Int) (rs : List Rl) (t : List Int) (n : Int) : Bool := rightB sg rs t && stepsB n
def reachI (sg : List Int) (rs : List Rl) (t : List Int) (n : Int) : List (List Int) := if right9 sg rs t n = true then termsF (fdA sg rs t n.toNat).1 else []
def allI (sg : List Int) (rs : List Rl) (t : List Int) (n : Int) : Bool := right9 sg rs t n && (fdA sg rs t n.toNat).2
def normsI (sg : List Int) (rs : List Rl) (t : List Int) (n : Int) : List (List Int) := (reachI sg rs t n).filter (normalB sg rs)
def addT (out : List (List Int)) (x : List Int) : List (List Int) := if x ∈ out then out else out ++ [x]
def tosL (sg : List Int) (rs : List Rl) (t : List Int) : List (List Int) := (stepsL sg rs t).map fun s => s.2.2
def nxN (sg : List Int) (rs : List Rl) (lv : List (List Int)) (i : Nat) : List (List Int) := ((lv.take i).flatMap (tosL sg rs)).foldl addT []
def longB (sg : List Int) (rs : List Rl) (t : List Int) : Bool := decide ((stepsL sg rs t).length < rdN sg rs t t.length 0)
def nextO (sg : List Int) (rs : List Rl) (lv : List (List Int)) : Option (List (List Int)) := if (lv.any (longB sg rs)) = true ∨ 60 < (nxN sg rs lv lv.length).length then none else some (nxN sg rs lv lv.length)
def lg (sg : List Int) (rs : List Rl) : Nat → List (List Int) → Int → Int
 | 0, _, _ => -1
 | f + 1, lv, k => match nextO sg rs lv with
   | none => -1
   | some nx => if nx = [] then k else lg sg rs f nx (k + 1)
def longI (sg : List Int) (rs : List Rl) (t : List Int) (n : Int) : Int := if right9 sg rs t n = true then lg sg rs (n.toNat + 1) [t] 0 else -1
section
variable {sg : List Int} {rs : List Rl} {t : List Int}
theorem addT_le (out : List (List Int)) (x : List Int) : out.length ≤ (addT out x).length := by unfold addT; split <;> simp
theorem foldT_le : ∀ (xs out : List (List Int)), out.length ≤ (xs.foldl addT out).length
 | [], _ => Nat.le_refl _
 | x :: r, out => Nat.le_trans (addT_le out x) (foldT_le r (addT out x))
theorem foldT_mem {u : List Int} : ∀ {xs out : List (List Int)}, u ∈ xs.foldl addT out ↔ u ∈ out ∨ u ∈ xs
 | [], out => by simp
 | x :: r, out => by
   rw [List.foldl_cons, foldT_mem]
   unfold addT
   split
   · rename_i h
     constructor
     · rintro (h1 | h1)
       · exact .inl h1
       · exact .inr (List.mem_cons_of_mem _ h1)
     · rintro (h1 | h1)
       · exact .inl h1
       · rcases List.mem_cons.1 h1 with rfl | h1
         · exact .inl h
         · exact .inr h1
   · simp [or_assoc]
theorem nx_succ {lv : List (List Int)} {i : Nat} (h : i < lv.length) : nxN sg rs lv (i + 1) = (tosL sg rs (lv.getD i [])).foldl addT (nxN sg rs lv i) := by
 unfold nxN
 rw [List.take_succ_eq_append_getElem h, List.flatMap_append, List.foldl_append]
 simp [List.getD, h]
theorem nx_mono {lv : List (List Int)} {i j : Nat} (h : i ≤ j) (hj : j ≤ lv.length) : (nxN sg rs lv i).length ≤ (nxN sg rs lv j).length := by
 induction j with
 | zero => rw [show i = 0 by omega]; exact Nat.le_refl _
 | succ j ih =>
   by_cases e : i = j + 1
   · rw [e]; exact Nat.le_refl _
   · exact Nat.le_trans (ih (by omega) (by omega)) (by rw [nx_succ (by omega)]; exact foldT_le _ _)
theorem nx_mem {lv : List (List Int)} {u : List Int} : u ∈ nxN sg rs lv lv.length ↔ ∃ t ∈ lv, ∃ s ∈ stepsL sg rs t, s.2.2 = u := by
 unfold nxN
 rw [List.take_of_length_le (Nat.le_refl _), foldT_mem, List.mem_flatMap]
 unfold tosL
 simp
theorem next_long {lv : List (List Int)} {u : List Int} (h : u ∈ lv) (hl : longB sg rs u = true) : nextO sg rs lv = none := by
 unfold nextO
 rw [if_pos (.inl (List.any_eq_true.2 ⟨u, h, hl⟩))]
theorem next_many {lv : List (List Int)} {i : Nat} (hi : i ≤ lv.length) (h : 60 < (nxN sg rs lv i).length) : nextO sg rs lv = none := by
 unfold nextO
 rw [if_pos (.inr (Nat.lt_of_lt_of_le h (nx_mono hi (Nat.le_refl _))))]
theorem next_some {lv : List (List Int)} (h1 : ∀ u ∈ lv, longB sg rs u = false) (h2 : (nxN sg rs lv lv.length).length ≤ 60) : nextO sg rs lv = some (nxN sg rs lv lv.length) := by
 unfold nextO
 rw [if_neg]
 rintro (h | h)
 · obtain ⟨u, hu, h⟩ := List.any_eq_true.1 h
   rw [h1 u hu] at h
   cases h
 · omega
theorem next_parts {lv nx : List (List Int)} (h : nextO sg rs lv = some nx) : (∀ u ∈ lv, longB sg rs u = false) ∧ nx.length ≤ 60 ∧ nx = nxN sg rs lv lv.length := by
 unfold nextO at h
 split at h
 · cases h
 · rename_i hh
   injection h with h
   refine ⟨fun u hu => ?_, by rw [← h]; have := fun q => hh (.inr q); omega, h.symm⟩
   cases hl : longB sg rs u with
   | false => rfl
   | true => exact absurd (.inl (List.any_eq_true.2 ⟨u, hu, hl⟩)) hh
def noL (sg : List Int) (rs : List Rl) (t : List Int) (i k : Nat) : Prop := ∀ a r, (a < i ∧ r < rs.length ∨ a = i ∧ r < k) → redB sg (rs.getD r ([], [])) t a = true → stepO sg (rs.getD r ([], [])) t a ≠ none
theorem red_of {x : Rl} {a : Nat} {v : List Int} (h : stepO sg x t a = some v) : redB sg x t a = true := by
 unfold redB
 unfold stepO at h
 split at h
 · cases h
 · rename_i hm; rw [hm]; rfl
theorem row_long {i : Nat} (h0 : (stN sg rs t i 0).length ≤ rdN sg rs t i 0 ∧ ((stN sg rs t i 0).length = rdN sg rs t i 0 ↔ noL sg rs t i 0)) : ∀ k, k ≤ rs.length → (stN sg rs t i k).length ≤ rdN sg rs t i k ∧ ((stN sg rs t i k).length = rdN sg rs t i k ↔ noL sg rs t i k)
 | 0, _ => h0
 | k + 1, hk => by
   obtain ⟨h1, h2⟩ := row_long h0 k (by omega)
   have hr := rd_step (sg := sg) (rs := rs) (t := t) (i := i) (k := k) (by omega)
   have hn : noL sg rs t i (k + 1) ↔ noL sg rs t i k ∧ (redB sg (rs.getD k ([], [])) t i = true → stepO sg (rs.getD k ([], [])) t i ≠ none) := by
     constructor
     · intro h
       exact ⟨fun a r ha => h a r (by omega), h i k (.inr ⟨rfl, by omega⟩)⟩
     · rintro ⟨h, h'⟩ a r ha
       by_cases e : a = i ∧ r = k
       · obtain ⟨rfl, rfl⟩ := e; exact h'
       · exact h a r (by omega)
   cases hs : stepO sg (rs.getD k ([], [])) t i with
   | some v =>
     rw [st_some hs, hr, if_pos (red_of hs), List.length_append, List.length_singleton, hn]
     refine ⟨by omega, ?_⟩
     constructor
     · intro h; exact ⟨h2.1 (by omega), fun _ => by rw [hs]; exact fun e => by cases e⟩
     · rintro ⟨h, _⟩; have := h2.2 h; omega
   | none =>
     rw [st_none hs, hr, hn, hs]
     by_cases hb : redB sg (rs.getD k ([], [])) t i = true
     · rw [if_pos hb]
       refine ⟨by omega, ?_⟩
       constructor
       · intro h; omega
       · rintro ⟨_, h⟩; exact absurd rfl (h hb)
     · rw [if_neg hb]
       refine ⟨by omega, ?_⟩
       constructor
       · intro h; exact ⟨h2.1 (by omega), fun h => absurd h hb⟩
       · rintro ⟨h, _⟩; have := h2.2 h; omega
theorem all_long : ∀ i, (stN sg rs t i 0).length ≤ rdN sg rs t i 0 ∧ ((stN sg rs t i 0).length = rdN sg rs t i 0 ↔ noL sg rs t i 0)
 | 0 => ⟨Nat.le_refl _, ⟨fun _ a r ha => by omega, fun _ => rfl⟩⟩
 | i + 1 => by
   have h := row_long (all_long i) rs.length (Nat.le_refl _)
   rw [st_row, rd_row] at h
   refine ⟨h.1, h.2.trans ?_⟩
   constructor
   · intro q a r ha; exact q a r (by omega)
   · intro q a r ha; exact q a r (by omega)
theorem long_no (h : longB sg rs t = false) : noL sg rs t t.length 0 := by
 unfold longB at h
 rw [decide_eq_false_iff_not] at h
 have q := all_long (sg := sg) (rs := rs) (t := t) t.length
 rw [st_all] at q
 exact q.2.1 (by omega)
theorem long_yes {a r : Nat} (ha : a < t.length) (hr : r < rs.length) (hb : redB sg (rs.getD r ([], [])) t a = true) (hs : stepO sg (rs.getD r ([], [])) t a = none) : longB sg rs t = true := by
 cases h : longB sg rs t with
 | true => rfl
 | false => exact absurd hs (long_no h a r (.inl ⟨ha, hr⟩) hb)
theorem no_long (h : ∀ a r, a < t.length → r < rs.length → redB sg (rs.getD r ([], [])) t a = true → stepO sg (rs.getD r ([], [])) t a ≠ none) : longB sg rs t = false := by
 have q := all_long (sg := sg) (rs := rs) (t := t) t.length
 rw [st_all] at q
 unfold longB
 rw [decide_eq_false_iff_not, q.2.2 fun a r ha => h a r (by omega) (by omega)]
 omega
theorem lg_run {s : Int} : ∀ {f : Nat} {lv : List (List Int)} {k m : Int}, lg sg rs f lv k = m → m ≠ -1 → ∃ j : Nat, m = k + j ∧ j < f ∧ ∀ u ∈ lv, rightB sg rs u = true → normalB sg rs (endL (u, runS sg rs s j u)) = true
 | 0, _, _, _, h, h1 => absurd h.symm h1
 | f + 1, lv, k, m, h, h1 => by
   rw [lg] at h
   cases hn : nextO sg rs lv with
   | none => rw [hn] at h; exact absurd h.symm h1
   | some nx =>
     rw [hn] at h
     dsimp only at h
     obtain ⟨n1, n2, n3⟩ := next_parts hn
     by_cases he : nx = []
     · rw [if_pos he] at h
       refine ⟨0, by omega, by omega, fun u hu hr => ?_⟩
       show normalB sg rs u = true
       rw [normal_pick (s := s) hr]
       cases hp : pickL sg rs u s with
       | none => rfl
       | some p =>
         exfalso
         obtain ⟨a, r, rfl, ha, hrl, hb, -, -⟩ := pick_step hr hp
         cases hs : stepO sg (rs.getD r ([], [])) u a with
         | none => have := long_yes ha hrl hb hs; rw [n1 u hu] at this; cases this
         | some v =>
           have : v ∈ nx := by rw [n3]; exact nx_mem.2 ⟨u, hu, ((a : Int), (r : Int), v), steps_mem.2 ⟨a, r, ha, hrl, rfl, rfl, hs⟩, rfl⟩
           rw [he] at this
           cases this
     · rw [if_neg he] at h
       obtain ⟨j, hj, hjf, hR⟩ := lg_run (s := s) h h1
       refine ⟨j + 1, by omega, by omega, fun u hu hr => ?_⟩
       cases hp : pickL sg rs u s with
       | none =>
         rw [run_none hp]
         show normalB sg rs u = true
         rw [normal_pick (s := s) hr, hp]
         rfl
       | some p =>
         obtain ⟨a, r, rfl, ha, hrl, hb, -, hst⟩ := pick_step hr hp
         cases hs : stepO sg (rs.getD r ([], [])) u a with
         | none => have := long_yes ha hrl hb hs; rw [n1 u hu] at this; cases this
         | some v =>
           rw [hs] at hst
           rw [run_go hp hst, end_cons]
           refine hR v (by rw [n3]; exact nx_mem.2 ⟨u, hu, ((a : Int), (r : Int), v), steps_mem.2 ⟨a, r, ha, hrl, rfl, rfl, hs⟩, rfl⟩) ?_
           exact right_step hr hst
end
end reachMath
end
section
namespace findW
open Go.RowKit base ints sig marks app appAt sym segs segsHelp shape kindsW drawX walkMath reachMath
abbrev sTs : Sh := .row 24 sI
abbrev sFound : Sh := .cat sTs (.cat sI (.cat sStepS (.cat sI .bit)))
def NotIn (w : World) (bad : Nat → Prop) (b : Nat) : Prop := b < w.heap.size ∧ ¬ bad b
section
variable {w w' : World} {bad bad' : Nat → Prop} {r : Option Nat} {s : Sh} {cs : List Value} {d : Dat s}
theorem notIn_kept (h : RdQ w (NotIn w bad) s cs d) (hg : w.grownBy w' r) (hr : ∀ k, r = some k → bad k) (hb : ∀ b, b < w.heap.size → bad' b → bad b) : RdQ w' (NotIn w' bad') s cs d :=
 (h.keep fun b q => hg.block b q.1 (fun e => q.2 (hr b e.symm))).mono fun b q => ⟨Nat.lt_of_lt_of_le q.1 hg.size, fun q' => q.2 (hb b q.1 q')⟩
theorem grown_of_below (hb : Below w.heap.size w w') : w.grownBy w' none := ⟨hb.os, hb.tape, hb.output, hb.size, fun k hk _ => hb.block k hk⟩
theorem notIn_below (h : RdQ w (NotIn w bad) s cs d) (hb : Below w.heap.size w w') : RdQ w' (NotIn w' bad) s cs d := notIn_kept h (grown_of_below hb) (fun k e => by cases e) (fun _ _ h => h)
theorem notIn_ow : ∀ {s : Sh} {cs : List Value} {d : Dat s} {F : List Nat}, Ow w s cs d F → (∀ k ∈ F, ¬ bad k) → RdQ w (NotIn w bad) s cs d
 | .num, _, _, _, h, _ => h.1
 | .bit, _, _, _, h, _ => h.1
 | .row e s, _, _, F, h, hF => by
   have hrd := h.rd
   obtain ⟨A', n', c', e0, hc, _, _⟩ := hrd
   obtain ⟨A, n, c, e1, hl, h1⟩ := h
   rw [e1] at e0
   injection e0 with e0
   injection e0 with q1 q2 q3
   subst q1 q2 q3
   refine ⟨A, n, c, e1, hc, hl, fun hn => ?_⟩
   rcases h1 with ⟨_, h0, _, _⟩ | ⟨g, cur, E, G, e2, hr, h2, h3, h4, h5, h6⟩
   · omega
   · subst h5
     refine ⟨g, 0, e2, ⟨hr.lt, hF g (List.mem_cons_self ..)⟩, fun j hj => ?_⟩
     obtain ⟨q1, q2, q3⟩ := h6 j hj
     refine ⟨E j, q1, fun i hi => ?_, notIn_ow q3 fun k hk => hF k (List.mem_cons_of_mem _ (List.mem_flatMap.2 ⟨j, List.mem_range.2 hj, hk⟩))⟩
     rw [Nat.zero_add, hr.cell, q2 i (by omega)]
 | .cat a b, _, _, F, h, hF => by
   obtain ⟨ca, cb, Fa, Fb, e, e2, h1, h2⟩ := h
   subst e2
   exact ⟨ca, cb, e, notIn_ow h1 fun k hk => hF k (List.mem_append_left _ hk), notIn_ow h2 fun k hk => hF k (List.mem_append_right _ hk)⟩
theorem notIn_owned {lo hi : Nat} (h : Owned w lo hi s cs d) (hb : ∀ k, lo ≤ k → k < hi → ¬ bad k) : RdQ w (NotIn w bad) s cs d := by
 obtain ⟨F, h, -, hF⟩ := h
 exact notIn_ow h fun k hk => hb k (hF k hk).1 (hF k hk).2
theorem grown_set (w : World) (g i : Nat) (u : Value) : w.grownBy (w.setCell ⟨g, i, none⟩ u) (some g) := ⟨rfl, rfl, rfl, by simp, fun k hk hne => Below.heap_setCell w _ u k (fun e => hne (by rw [e]))⟩
theorem notIn_rd (h : RdQ w (NotIn w bad) s cs d) : Rd w w.heap.size s cs d := h.rd fun _ h => h.1
end
def XS (w : World) (bad : Nat → Prop) (lo : Nat) (e : TypeId) (s : Sh) (g n c : Nat) (D : List (Dat s)) : Prop :=
 D.length = n ∧ ∃ vs : List Value, w.ownsRow lo e (nc s) (.slice (some ⟨g, 0, none⟩) n c) n vs ∧ ∀ j, j < n → RdQ w (NotIn w bad) s (cellsOf (nc s) vs j) (D.getD j (dft s))
section
variable {w w' : World} {bad bad' : Nat → Prop} {r : Option Nat} {lo g n c : Nat} {e : TypeId} {s : Sh} {D : List (Dat s)}
theorem XS.kept (h : XS w bad lo e s g n c D) (hg : w.grownBy w' r) (hr : ∀ k, r = some k → bad k) (hne : r ≠ some g) (hb : ∀ b, b < w.heap.size → bad' b → bad b) : XS w' bad' lo e s g n c D := by
 obtain ⟨h1, vs, h2, h3⟩ := h
 exact ⟨h1, vs, World.ownsRow.kept h2 hg (.inr fun q => hne q.symm), fun j hj => notIn_kept (h3 j hj) hg hr hb⟩
theorem XS.below (h : XS w bad lo e s g n c D) (hb : Below w.heap.size w w') : XS w' bad lo e s g n c D := h.kept (grown_of_below hb) (fun k e => by cases e) (fun e => by cases e) (fun _ _ h => h)
theorem XS.ge (h : XS w bad lo e s g n c D) : lo ≤ g ∧ g < w.heap.size := by
 obtain ⟨_, vs, ho, _⟩ := h
 exact World.ownsRow.lt ho g rfl
theorem XS.len (h : XS w bad lo e s g n c D) : D.length = n := h.1
theorem XS.rd {e0 : TypeId} (h : XS w bad lo e s g n c D) : Rd w w.heap.size (.row e0 s) [.slice (some ⟨g, 0, none⟩) n c] D := by
 obtain ⟨h1, vs, ho, h3⟩ := h
 rcases ho.2 with ⟨e1, h0⟩ | ⟨g', cap, cur, e1, hg, hrow, hn, hm, hs, ht⟩
 · injection e1 with a1 a2 a3
   cases a1
 · injection e1 with a1 a2 a3
   injection a1 with a1
   injection a1 with a1
   subst a1 a3
   refine ⟨_, n, c, rfl, ⟨hn, by unfold maxLen at hm; omega, fun e => by cases e⟩, h1, fun h0 => ⟨g, 0, rfl, (Array.getElem?_eq_some_iff.1 hrow).1, fun j hj => ⟨cellsOf (nc s) vs j, (h3 j hj).len, fun i hi => ?_, notIn_rd (h3 j hj)⟩⟩⟩
   have hl := (h3 j hj).len
   have hi : i < nc s := by omega
   have hjn : j * nc s + nc s ≤ n * nc s := by
     have := Nat.mul_le_mul_right (nc s) (show j + 1 ≤ n by omega)
     rw [Nat.add_mul] at this
     omega
   rw [Nat.zero_add, Row.cell (t := e) (cs := cur) hrow]
   have h5 : cur.toList[j * nc s + i]? = vs[j * nc s + i]? := by
     rw [← ht, List.getElem?_take, if_pos (by omega)]
   rw [← Array.getElem?_toList, h5]
   unfold cellsOf
   rw [List.getElem?_take, if_pos hi, List.getElem?_drop]
theorem XS.single {es : List Value} {y : Dat s} (hr : Row w g e es.toArray) (hv : RdQ w (NotIn w bad) s es y) (hlo : lo ≤ g) : XS w bad lo e s g 1 1 [y] := by
 have hel := hv.len
 refine ⟨rfl, es, ⟨by rw [hel]; simp, .inr ⟨g, 1, es.toArray, rfl, hlo, hr, Nat.le_refl _, by unfold maxLen; omega, by simp [hel], by simp [← hel]⟩⟩, fun j hj => ?_⟩
 obtain rfl : j = 0 := by omega
 have : cellsOf (nc s) es 0 = es := by unfold cellsOf; rw [Nat.zero_mul, List.drop_zero, List.take_of_length_le (by omega)]
 rw [this]; exact hv
theorem XS.app {vs es : List Value} {x : Dat s} {g' c' : Nat} (hl : D.length = n) (hr : w.ownsRow lo e (nc s) (.slice (some ⟨g, 0, none⟩) n c) n vs) (hin : ∀ j, j < n → RdQ w (NotIn w bad) s (cellsOf (nc s) vs j) (D.getD j (dft s))) (hv : RdQ w (NotIn w bad) s es x)
   (hown' : w'.ownsRow lo e (nc s) (.slice (some ⟨g', 0, none⟩) (n + 1) c') (n + 1) (vs ++ es)) (hg : w.grownBy w' (some g)) (hbad : bad g) (hb : ∀ b, b < w.heap.size → bad' b → bad b) : XS w' bad' lo e s g' (n + 1) c' (D ++ [x]) := by
 have hvl : vs.length = n * nc s := hr.1
 have hel := hv.len
 have keep : ∀ {us : List Value} {y : Dat s}, RdQ w (NotIn w bad) s us y → RdQ w' (NotIn w' bad') s us y := fun hu => notIn_kept hu hg (fun k e => by injection e with e; rw [← e]; exact hbad) hb
 refine ⟨by simp [hl], vs ++ es, hown', fun j hj => ?_⟩
 by_cases ej : j = n
 · subst ej
   rw [show (D ++ [x]).getD j (dft s) = x by simp [List.getD, ← hl]]
   have : cellsOf (nc s) (vs ++ es) j = es := by
     unfold cellsOf
     rw [List.drop_append_of_le_length (by omega), List.drop_of_length_le (by omega), List.nil_append, List.take_of_length_le (by omega)]
   rw [this]
   exact keep hv
 · rw [show (D ++ [x]).getD j (dft s) = D.getD j (dft s) by simp [List.getD, List.getElem?_append_left (show j < D.length by omega)]]
   have hjn : j * nc s + nc s ≤ n * nc s := by
     have := Nat.mul_le_mul_right (nc s) (show j + 1 ≤ n by omega)
     rw [Nat.add_mul] at this
     omega
   have : cellsOf (nc s) (vs ++ es) j = cellsOf (nc s) vs j := by
     unfold cellsOf
     rw [List.drop_append_of_le_length (by omega), List.take_append_of_le_length (by rw [List.length_drop]; omega)]
   rw [this]
   exact keep (hin j (by omega))
end
theorem wp_appX {w : World} {o : Oper} {a : Act} {K : Act → World → Prop} {Q : Exit → Act → World → Prop} (sx x : Operand) (T e : TypeId) (s : Sh) (z : Value) (bytes : Nat) (hT : Tryz.prog.underlying T = some (.slice e))
   (hI : (Tryz.prog.info? e).map (fun i => (i.zero, i.size, i.bytes)) = some (some z, nc s, bytes)) (hzc : z.cells.size = nc s) (hby : bytes ≤ 4096)
   (ho : o.op = .call { callee := .builtin .append, args := #[sx, x], argTypes := #[T, T] })
   (bad : Nat → Prop) (lo g n c q c2 : Nat) (D : List (Dat s)) (es : List Value) (y : Dat s) (hs : a.eval sx = .slice (some ⟨g, 0, none⟩) n c) (hown : XS w bad lo e s g n c D) (hbad : bad g) (hxv : a.eval x = .slice (some ⟨q, 0, none⟩) 1 c2)
   (hy : ∀ i, i < es.length → w.cell? ⟨q, i, none⟩ = es[i]?) (hv : RdQ w (NotIn w bad) s es y) (hn : n ≤ 1048576) (hlo : lo ≤ w.heap.size)
   (h : ∀ g' c' w', (∀ bad' : Nat → Prop, (∀ b, b < w.heap.size → bad' b → bad b) → XS w' bad' lo e s g' (n + 1) c' (D ++ [y])) → w.grownBy w' (some g) → (g' = g ∨ g' = w.heap.size) → Below lo w w' → K (a.put o.dst (.slice (some ⟨g', 0, none⟩) (n + 1) c')) w') : o.wp Tryz.prog a w K Q := by
 obtain ⟨i0, hi', hz0, hz1, hz2⟩ := info_parts hI
 obtain ⟨h1, vs, hr, hin⟩ := hown
 have hel := hv.len
 have hcells : ∀ j u, es[j]? = some u → w.cell? ((⟨q, 0, none⟩ : Addr).add j) = some u := fun j u hj => by
   have e2 : (⟨q, 0, none⟩ : Addr).add j = ⟨q, j, none⟩ := by unfold Addr.add; split <;> simp_all
   rw [e2, hy j (List.getElem?_eq_some_iff.1 hj).1, hj]
 obtain ⟨v', w', hrun, hown', hg, hnn, hat⟩ := run_append_own_at (P := Tryz.prog) w lo T o.type e i0 z (nc s) bytes hT hi' hz0 hz1 hz2 hzc (nc_pos s) (.slice (some ⟨g, 0, none⟩) n c) n vs hr ⟨q, 0, none⟩ 1 c2 es (by rw [hel]; simp) hcells hv.one (by unfold maxLen; omega) (by have h1 : (n + 1) * bytes ≤ 1048577 * 4096 := Nat.mul_le_mul (by omega) hby; omega) hlo
 rw [blk_own] at hg
 obtain ⟨g', c', rfl⟩ : ∃ g' c', v' = .slice (some ⟨g', 0, none⟩) (n + 1) c' := by
   rcases hown'.2 with ⟨_, h0⟩ | ⟨g', cap, cur, e1, _⟩
   · omega
   · exact ⟨_, _, e1⟩
 have hat2 : g' = g ∨ g' = w.heap.size := by
   rw [blk_own, blk_own] at hat
   exact hat.imp (fun e => by injection e) (fun e => by injection e)
 unfold Oper.wp execOp
 simp only [ho, resolve, invoke, builtin, Sem.run_bind, Sem.run_pure, Result.andThen_ok, List.map_toArray, List.map_cons, List.map_nil, hs, hxv, hrun]
 exact h g' c' w' (fun bad' hb => XS.app h1 hr hin hv hown' hg hbad hb) hg hat2 ((Below.refl lo w).grown hg hlo (fun k hk => by injection hk with hk; rw [← hk]; exact (World.ownsRow.lt hr g rfl).1))
theorem appXm {w : World} {ops : Array Oper} {rest : List Oper} {o : Oper} {a : Act} {Q : Exit → Act → World → Prop} (hgd : o.guard = none) (sx x : Operand) (T e : TypeId) (s : Sh) (z : Value) (bytes : Nat) (hT : Tryz.prog.underlying T = some (.slice e))
   (hI : (Tryz.prog.info? e).map (fun i => (i.zero, i.size, i.bytes)) = some (some z, nc s, bytes)) (hzc : z.cells.size = nc s) (hby : bytes ≤ 4096)
   (ho : o.op = .call { callee := .builtin .append, args := #[sx, x], argTypes := #[T, T] })
   (bad : Nat → Prop) (lo g n c q c2 : Nat) (D : List (Dat s)) (es : List Value) (y : Dat s) (hs : a.eval sx = .slice (some ⟨g, 0, none⟩) n c) (hown : XS w bad lo e s g n c D) (hbad : bad g) (hxv : a.eval x = .slice (some ⟨q, 0, none⟩) 1 c2)
   (hy : ∀ i, i < es.length → w.cell? ⟨q, i, none⟩ = es[i]?) (hv : RdQ w (NotIn w bad) s es y) (hn : n ≤ 1048576) (hlo : lo ≤ w.heap.size)
   (h : ∀ g' c' w', (∀ bad' : Nat → Prop, (∀ b, b < w.heap.size → bad' b → bad b) → XS w' bad' lo e s g' (n + 1) c' (D ++ [y])) → w.grownBy w' (some g) → (g' = g ∨ g' = w.heap.size) → Below lo w w' → wpList Tryz.prog ops Q rest (a.put o.dst (.slice (some ⟨g', 0, none⟩) (n + 1) c')) w') : wpList Tryz.prog ops Q (o :: rest) a w :=
 wpList_plain hgd fun _ hK => wp_appX sx x T e s z bytes hT hI hzc hby ho bad lo g n c q c2 D es y hs hown hbad hxv hy hv hn hlo fun g' c' w' h1 h2 h3 h4 => hK _ _ (h g' c' w' h1 h2 h3 h4)
def bad5 (lo B g1 g2 g3 g4 : Nat) (b : Nat) : Prop := b < lo ∨ b = B ∨ b = g1 ∨ b = g2 ∨ b = g3 ∨ b = g4
structure Fo (w : World) (lo B g1 n1 c1 g2 n2 c2 g3 n3 c3 g4 n4 c4 : Nat) (D1 : List (List Int)) (D2 : List Int) (D3 : List St) (D4 : List Int) (fl : Bool) : Prop where
 row : Row w B 74 #[.slice (some ⟨g1, 0, none⟩) n1 c1, .slice (some ⟨g2, 0, none⟩) n2 c2, .slice (some ⟨g3, 0, none⟩) n3 c3, .slice (some ⟨g4, 0, none⟩) n4 c4, .bool fl]
 x1 : XS w (bad5 lo B g1 g2 g3 g4) lo 24 sI g1 n1 c1 D1
 x2 : XS w (bad5 lo B g1 g2 g3 g4) lo 2 .num g2 n2 c2 D2
 x3 : XS w (bad5 lo B g1 g2 g3 g4) lo 70 sStep g3 n3 c3 D3
 x4 : XS w (bad5 lo B g1 g2 g3 g4) lo 2 .num g4 n4 c4 D4
 dis : B ≠ g1 ∧ B ≠ g2 ∧ B ≠ g3 ∧ B ≠ g4 ∧ g1 ≠ g2 ∧ g1 ≠ g3 ∧ g1 ≠ g4 ∧ g2 ≠ g3 ∧ g2 ≠ g4 ∧ g3 ≠ g4
section
variable {w w' : World} {lo B g1 n1 c1 g2 n2 c2 g3 n3 c3 g4 n4 c4 : Nat} {D1 : List (List Int)} {D2 : List Int} {D3 : List St} {D4 : List Int} {fl : Bool}
theorem Fo.below (h : Fo w lo B g1 n1 c1 g2 n2 c2 g3 n3 c3 g4 n4 c4 D1 D2 D3 D4 fl) (hb : Below w.heap.size w w') : Fo w' lo B g1 n1 c1 g2 n2 c2 g3 n3 c3 g4 n4 c4 D1 D2 D3 D4 fl :=
 ⟨h.row.next hb, h.x1.below hb, h.x2.below hb, h.x3.below hb, h.x4.below hb, h.dis⟩
theorem bad_lt (h : Fo w lo B g1 n1 c1 g2 n2 c2 g3 n3 c3 g4 n4 c4 D1 D2 D3 D4 fl) {k : Nat} (hk : bad5 lo B g1 g2 g3 g4 k) : k < w.heap.size := by
 have h0 := h.row.lt
 have h1 := h.x1.ge
 have h2 := h.x2.ge
 have h3 := h.x3.ge
 have h4 := h.x4.ge
 unfold bad5 at hk
 omega
theorem Fo.app1 (h : Fo w lo B g1 n1 c1 g2 n2 c2 g3 n3 c3 g4 n4 c4 D1 D2 D3 D4 fl) {g' c' : Nat} {x : List Int} (hx : ∀ bad' : Nat → Prop, (∀ b, b < w.heap.size → bad' b → bad5 lo B g1 g2 g3 g4 b) → XS w' bad' lo 24 sI g' (n1 + 1) c' (D1 ++ [x])) (hg : w.grownBy w' (some g1)) (hat : g' = g1 ∨ g' = w.heap.size) :
   Fo (w'.setCell ⟨B, 0, none⟩ (.slice (some ⟨g', 0, none⟩) (n1 + 1) c')) lo B g' (n1 + 1) c' g2 n2 c2 g3 n3 c3 g4 n4 c4 (D1 ++ [x]) D2 D3 D4 fl := by
 obtain ⟨d1, d2, d3, d4, d5, d6, d7, d8, d9, d10⟩ := h.dis
 have l0 := h.row.lt
 have l2 := h.x2.ge
 have l3 := h.x3.ge
 have l4 := h.x4.ge
 have hb : ∀ b, b < w.heap.size → bad5 lo B g' g2 g3 g4 b → bad5 lo B g1 g2 g3 g4 b := fun b hb q => by unfold bad5 at q ⊢; omega
 have hr : ∀ k, some g1 = some k → bad5 lo B g1 g2 g3 g4 k := fun k e => by injection e with e; unfold bad5; omega
 have hB : ∀ k, some B = some k → bad5 lo B g' g2 g3 g4 k := fun k e => by injection e with e; unfold bad5; omega
 have hs := grown_set w' B 0 (.slice (some ⟨g', 0, none⟩) (n1 + 1) c')
 refine ⟨Row.put (Row.away h.row hg (fun e => d1 (by injection e with e; exact e.symm))) 0 _, (hx _ hb).kept hs hB (fun e => by injection e with e; omega) (fun _ _ q => q), (h.x2.kept hg hr (fun e => d5 (by injection e)) hb).kept hs hB (fun e => d2 (by injection e)) (fun _ _ q => q), (h.x3.kept hg hr (fun e => d6 (by injection e)) hb).kept hs hB (fun e => d3 (by injection e)) (fun _ _ q => q), (h.x4.kept hg hr (fun e => d7 (by injection e)) hb).kept hs hB (fun e => d4 (by injection e)) (fun _ _ q => q), ?_⟩
 omega
theorem Fo.app2 (h : Fo w lo B g1 n1 c1 g2 n2 c2 g3 n3 c3 g4 n4 c4 D1 D2 D3 D4 fl) {g' c' : Nat} {x : Int} (hx : ∀ bad' : Nat → Prop, (∀ b, b < w.heap.size → bad' b → bad5 lo B g1 g2 g3 g4 b) → XS w' bad' lo 2 .num g' (n2 + 1) c' (D2 ++ [x])) (hg : w.grownBy w' (some g2)) (hat : g' = g2 ∨ g' = w.heap.size) :
   Fo (w'.setCell ⟨B, 1, none⟩ (.slice (some ⟨g', 0, none⟩) (n2 + 1) c')) lo B g1 n1 c1 g' (n2 + 1) c' g3 n3 c3 g4 n4 c4 D1 (D2 ++ [x]) D3 D4 fl := by
 obtain ⟨d1, d2, d3, d4, d5, d6, d7, d8, d9, d10⟩ := h.dis
 have l0 := h.row.lt
 have l1 := h.x1.ge
 have l3 := h.x3.ge
 have l4 := h.x4.ge
 have hb : ∀ b, b < w.heap.size → bad5 lo B g1 g' g3 g4 b → bad5 lo B g1 g2 g3 g4 b := fun b hb q => by unfold bad5 at q ⊢; omega
 have hr : ∀ k, some g2 = some k → bad5 lo B g1 g2 g3 g4 k := fun k e => by injection e with e; unfold bad5; omega
 have hB : ∀ k, some B = some k → bad5 lo B g1 g' g3 g4 k := fun k e => by injection e with e; unfold bad5; omega
 have hs := grown_set w' B 1 (.slice (some ⟨g', 0, none⟩) (n2 + 1) c')
 refine ⟨Row.put (Row.away h.row hg (fun e => d2 (by injection e with e; exact e.symm))) 1 _, (h.x1.kept hg hr (fun e => d5 (by injection e with e; exact e.symm)) hb).kept hs hB (fun e => d1 (by injection e)) (fun _ _ q => q), (hx _ hb).kept hs hB (fun e => by injection e with e; omega) (fun _ _ q => q), (h.x3.kept hg hr (fun e => d8 (by injection e)) hb).kept hs hB (fun e => d3 (by injection e)) (fun _ _ q => q), (h.x4.kept hg hr (fun e => d9 (by injection e)) hb).kept hs hB (fun e => d4 (by injection e)) (fun _ _ q => q), ?_⟩
 omega
theorem Fo.app3 (h : Fo w lo B g1 n1 c1 g2 n2 c2 g3 n3 c3 g4 n4 c4 D1 D2 D3 D4 fl) {g' c' : Nat} {x : St} (hx : ∀ bad' : Nat → Prop, (∀ b, b < w.heap.size → bad' b → bad5 lo B g1 g2 g3 g4 b) → XS w' bad' lo 70 sStep g' (n3 + 1) c' (D3 ++ [x])) (hg : w.grownBy w' (some g3)) (hat : g' = g3 ∨ g' = w.heap.size) :
   Fo (w'.setCell ⟨B, 2, none⟩ (.slice (some ⟨g', 0, none⟩) (n3 + 1) c')) lo B g1 n1 c1 g2 n2 c2 g' (n3 + 1) c' g4 n4 c4 D1 D2 (D3 ++ [x]) D4 fl := by
 obtain ⟨d1, d2, d3, d4, d5, d6, d7, d8, d9, d10⟩ := h.dis
 have l0 := h.row.lt
 have l1 := h.x1.ge
 have l2 := h.x2.ge
 have l4 := h.x4.ge
 have hb : ∀ b, b < w.heap.size → bad5 lo B g1 g2 g' g4 b → bad5 lo B g1 g2 g3 g4 b := fun b hb q => by unfold bad5 at q ⊢; omega
 have hr : ∀ k, some g3 = some k → bad5 lo B g1 g2 g3 g4 k := fun k e => by injection e with e; unfold bad5; omega
 have hB : ∀ k, some B = some k → bad5 lo B g1 g2 g' g4 k := fun k e => by injection e with e; unfold bad5; omega
 have hs := grown_set w' B 2 (.slice (some ⟨g', 0, none⟩) (n3 + 1) c')
 refine ⟨Row.put (Row.away h.row hg (fun e => d3 (by injection e with e; exact e.symm))) 2 _, (h.x1.kept hg hr (fun e => d6 (by injection e with e; exact e.symm)) hb).kept hs hB (fun e => d1 (by injection e)) (fun _ _ q => q), (h.x2.kept hg hr (fun e => d8 (by injection e with e; exact e.symm)) hb).kept hs hB (fun e => d2 (by injection e)) (fun _ _ q => q), (hx _ hb).kept hs hB (fun e => by injection e with e; omega) (fun _ _ q => q), (h.x4.kept hg hr (fun e => d10 (by injection e)) hb).kept hs hB (fun e => d4 (by injection e)) (fun _ _ q => q), ?_⟩
 omega
theorem Fo.app4 (h : Fo w lo B g1 n1 c1 g2 n2 c2 g3 n3 c3 g4 n4 c4 D1 D2 D3 D4 fl) {g' c' : Nat} {x : Int} (hx : ∀ bad' : Nat → Prop, (∀ b, b < w.heap.size → bad' b → bad5 lo B g1 g2 g3 g4 b) → XS w' bad' lo 2 .num g' (n4 + 1) c' (D4 ++ [x])) (hg : w.grownBy w' (some g4)) (hat : g' = g4 ∨ g' = w.heap.size) :
   Fo (w'.setCell ⟨B, 3, none⟩ (.slice (some ⟨g', 0, none⟩) (n4 + 1) c')) lo B g1 n1 c1 g2 n2 c2 g3 n3 c3 g' (n4 + 1) c' D1 D2 D3 (D4 ++ [x]) fl := by
 obtain ⟨d1, d2, d3, d4, d5, d6, d7, d8, d9, d10⟩ := h.dis
 have l0 := h.row.lt
 have l1 := h.x1.ge
 have l2 := h.x2.ge
 have l3 := h.x3.ge
 have hb : ∀ b, b < w.heap.size → bad5 lo B g1 g2 g3 g' b → bad5 lo B g1 g2 g3 g4 b := fun b hb q => by unfold bad5 at q ⊢; omega
 have hr : ∀ k, some g4 = some k → bad5 lo B g1 g2 g3 g4 k := fun k e => by injection e with e; unfold bad5; omega
 have hB : ∀ k, some B = some k → bad5 lo B g1 g2 g3 g' k := fun k e => by injection e with e; unfold bad5; omega
 have hs := grown_set w' B 3 (.slice (some ⟨g', 0, none⟩) (n4 + 1) c')
 refine ⟨Row.put (Row.away h.row hg (fun e => d4 (by injection e with e; exact e.symm))) 3 _, (h.x1.kept hg hr (fun e => d7 (by injection e with e; exact e.symm)) hb).kept hs hB (fun e => d1 (by injection e)) (fun _ _ q => q), (h.x2.kept hg hr (fun e => d9 (by injection e with e; exact e.symm)) hb).kept hs hB (fun e => d2 (by injection e)) (fun _ _ q => q), (h.x3.kept hg hr (fun e => d10 (by injection e with e; exact e.symm)) hb).kept hs hB (fun e => d3 (by injection e)) (fun _ _ q => q), (hx _ hb).kept hs hB (fun e => by injection e with e; omega) (fun _ _ q => q), ?_⟩
 omega
theorem Fo.flag (h : Fo w lo B g1 n1 c1 g2 n2 c2 g3 n3 c3 g4 n4 c4 D1 D2 D3 D4 fl) (u : Bool) : Fo (w.setCell ⟨B, 4, none⟩ (.bool u)) lo B g1 n1 c1 g2 n2 c2 g3 n3 c3 g4 n4 c4 D1 D2 D3 D4 u := by
 obtain ⟨d1, d2, d3, d4, -⟩ := h.dis
 have hs := grown_set w B 4 (.bool u)
 have hB : ∀ k, some B = some k → bad5 lo B g1 g2 g3 g4 k := fun k e => by injection e with e; unfold bad5; omega
 exact ⟨Row.put h.row 4 _, h.x1.kept hs hB (fun e => d1 (by injection e)) (fun _ _ q => q), h.x2.kept hs hB (fun e => d2 (by injection e)) (fun _ _ q => q), h.x3.kept hs hB (fun e => d3 (by injection e)) (fun _ _ q => q), h.x4.kept hs hB (fun e => d4 (by injection e)) (fun _ _ q => q), h.dis⟩
theorem Fo.far (h : Fo w lo B g1 n1 c1 g2 n2 c2 g3 n3 c3 g4 n4 c4 D1 D2 D3 D4 fl) {q : Nat} (i : Nat) (u : Value) (hq : q < lo) (hqB : B ≠ q) : Fo (w.setCell ⟨q, i, none⟩ u) lo B g1 n1 c1 g2 n2 c2 g3 n3 c3 g4 n4 c4 D1 D2 D3 D4 fl := by
 have hs := grown_set w q i u
 have l1 := h.x1.ge
 have l2 := h.x2.ge
 have l3 := h.x3.ge
 have l4 := h.x4.ge
 have hB : ∀ k, some q = some k → bad5 lo B g1 g2 g3 g4 k := fun k e => by injection e with e; unfold bad5; omega
 exact ⟨Row.far h.row hqB u, h.x1.kept hs hB (fun e => by injection e with e; omega) (fun _ _ q => q), h.x2.kept hs hB (fun e => by injection e with e; omega) (fun _ _ q => q), h.x3.kept hs hB (fun e => by injection e with e; omega) (fun _ _ q => q), h.x4.kept hs hB (fun e => by injection e with e; omega) (fun _ _ q => q), h.dis⟩
end
end findW
end
section
namespace matchSpec
open Go.RowKit base ints sig same term termOk endAt inside marks app sym sub segs segsHelp termFacts termMath posMath plainMath plain plainOf gives cursor matchMath
set_option maxRecDepth 100000
structure Tab (w : World) (T : Nat) (s : List (List Int)) : Prop where
 len : s.length = 24
 row : ∃ cs, Row w T 24 cs ∧ cs.size = 24 ∧ ∀ j, j < 24 → ∃ A n c, cs[j]? = some (.slice A n c) ∧ Own w (T + 1) (.slice A n c) (s.getD j [])
section
variable {w w' : World} {T : Nat} {s : List (List Int)}
theorem Tab.lt (h : Tab w T s) : T < w.heap.size := by obtain ⟨cs, hr, _⟩ := h.row; exact hr.lt
theorem Tab.next (h : Tab w T s) (hb : Below w.heap.size w w') : Tab w' T s := by
 obtain ⟨cs, hr, hs, hc⟩ := h.row
 exact ⟨h.len, cs, hr.next hb, hs, fun j hj => by obtain ⟨A, n, c, e, ho⟩ := hc j hj; exact ⟨A, n, c, e, Own.next ho hb⟩⟩
theorem Tab.at (h : Tab w T s) {j : Nat} (hj : j < 24) : ∃ A n c, w.cell? ⟨T, j, none⟩ = some (.slice A n c) ∧ Own w (T + 1) (.slice A n c) (s.getD j []) := by
 obtain ⟨cs, hr, hs, hc⟩ := h.row
 obtain ⟨A, n, c, e, ho⟩ := hc j hj
 exact ⟨A, n, c, by rw [hr.cell j, e], ho⟩
theorem Tab.free (h : Tab w T s) (j : Nat) : w.frozen? ⟨T, j, none⟩ = false := by obtain ⟨cs, hr, _⟩ := h.row; exact hr.free j
theorem Tab.put (h : Tab w T s) {j : Nat} (hj : j < 24) {A : Option Addr} {n c : Nat} {ys : List Int} (ho : Own w (T + 1) (.slice A n c) ys) : Tab (w.setCell ⟨T, j, none⟩ (.slice A n c)) T (s.set j ys) := by
 obtain ⟨cs, hr, hs, hc⟩ := h.row
 have hg : w.grownBy (w.setCell ⟨T, j, none⟩ (.slice A n c)) (some T) := grown_put (World.grownBy.refl _ _) _ _
 have far : ∀ {A' : Option Addr} {n' c' : Nat} {zs : List Int}, Own w (T + 1) (.slice A' n' c') zs → Own (w.setCell ⟨T, j, none⟩ (.slice A n c)) (T + 1) (.slice A' n' c') zs := fun h => Own.far h hg (fun k hk => by injection hk; omega)
 refine ⟨by rw [List.length_set]; exact h.len, cs.setIfInBounds j (.slice A n c), hr.put j _, by rw [Array.size_setIfInBounds]; exact hs, fun i hi => ?_⟩
 by_cases e : j = i
 · subst e
   exact ⟨A, n, c, by rw [Array.getElem?_setIfInBounds_self_of_lt (by omega)], by rw [set_get, if_pos ⟨rfl, by rw [h.len]; exact hj⟩]; exact far ho⟩
 · obtain ⟨A', n', c', e', ho'⟩ := hc i hi
   exact ⟨A', n', c', by rw [Array.getElem?_setIfInBounds_ne e]; exact e', by rw [set_get, if_neg (fun hh => e hh.1)]; exact far ho'⟩
theorem Tab.segs (h : Tab w T s) : Segs w w.heap.size (some ⟨T, 0, none⟩) 24 s := by
 obtain ⟨cs, hr, hs, hc⟩ := h.row
 refine ⟨h.len, fun _ => ⟨T, 0, rfl, hr.lt, fun j hj => ?_⟩⟩
 obtain ⟨A, n, c, e, ho⟩ := hc j hj
 refine ⟨A, n, c, by rw [Nat.zero_add, hr.cell j, e], ?_, ?_⟩
 · have := Own.len ho; exact Own.seg ho
 · rcases ho.form with ⟨e1, _⟩ | ⟨g, c', cur, e1, _, _, _, _⟩
   · injection e1 with e1 e2 e3; subst e1 e2 e3; exact ⟨Nat.le_refl _, by omega, fun _ => rfl⟩
   · exact look.own_cap ho
end
theorem Tab.new (w : World) : Tab (w.alloc (.cells (madeCells #[.slice none 0 0] 24) 24)) w.heap.size s0 := by
 refine ⟨rfl, _, Row.new _ _ _, size_madeCells _ _, fun j hj => ⟨none, 0, 0, ?_, by rw [s0_get]; exact Own.nil _ _⟩⟩
 simp [madeCells, hj, Nat.mod_one]
def resL (R : Option (List (List Int))) : List (List Int) := match R with
 | some s => plainL (givesL s) 24
 | none => []
def AnsM (w : World) (xss : List (List Int)) (b : Bool) (e : Ending) (w' : World) : Prop := ∃ A n c, e = .returned (.tuple #[.agg #[.slice A n c], .bool b]) ∧ Owns w' w.heap.size w'.heap.size A n c xss ∧ Below w.heap.size w w'
theorem ansM_no {w w' : World} {R : Option (List (List Int))} (h : R = none) (hb : Below w.heap.size w w') : AnsM w (resL R) R.isSome (.returned (.tuple #[.agg #[.slice none 0 0], .bool false])) w' :=
 ⟨none, 0, 0, by rw [h]; rfl, by rw [h]; exact Owns.nil _ _ _, hb⟩
structure Mt (w wr : World) (A : Option Addr) (n c : Nat) (sg : List Int) (P : Option Addr) (pn : Nat) (p : List Int) (Q : Option Addr) (m : Nat) (t : List Int) (s : List (List Int)) : Prop where
 r0 : Row wr w.heap.size 26 #[.slice A n c]
 r1 : Row wr (w.heap.size + 1) 137 #[.slice none 0 0]
 r3 : Row wr (w.heap.size + 1 + 1 + 1) 137 #[.slice (some ⟨w.heap.size + 1 + 1, 0, none⟩) 24 24]
 tb : Tab wr (w.heap.size + 1 + 1) s
 ss : Seg wr w.heap.size A n sg
 sp : Seg wr w.heap.size P pn p
 st : Seg wr w.heap.size Q m t
 b : Below w.heap.size w wr
section
variable {w wr w' : World} {A : Option Addr} {n c : Nat} {sg : List Int} {P : Option Addr} {pn : Nat} {p : List Int} {Q : Option Addr} {m : Nat} {t : List Int} {s : List (List Int)}
theorem Mt.next (h : Mt w wr A n c sg P pn p Q m t s) (hb : Below wr.heap.size wr w') : Mt w w' A n c sg P pn p Q m t s :=
 have b : Below w.heap.size wr w' := hb.mono h.b.size
 ⟨h.r0.next hb, h.r1.next hb, h.r3.next hb, h.tb.next hb, h.ss.below b, h.sp.below b, h.st.below b, h.b.trans b⟩
theorem Mt.put (h : Mt w wr A n c sg P pn p Q m t s) {j : Nat} (hj : j < 24) {D : Option Addr} {dn dc : Nat} {ys : List Int} (ho : Own wr (w.heap.size + 1 + 1 + 1) (.slice D dn dc) ys) : Mt w (wr.setCell ⟨w.heap.size + 1 + 1, j, none⟩ (.slice D dn dc)) A n c sg P pn p Q m t (s.set j ys) :=
 ⟨h.r0.far (show w.heap.size ≠ w.heap.size + 1 + 1 by omega) _, h.r1.far (show w.heap.size + 1 ≠ w.heap.size + 1 + 1 by omega) _, h.r3.far (show w.heap.size + 1 + 1 + 1 ≠ w.heap.size + 1 + 1 by omega) _, h.tb.put hj ho, h.ss.put (show w.heap.size ≤ w.heap.size + 1 + 1 by omega) _, h.sp.put (show w.heap.size ≤ w.heap.size + 1 + 1 by omega) _, h.st.put (show w.heap.size ≤ w.heap.size + 1 + 1 by omega) _, h.b.setCell (show w.heap.size ≤ w.heap.size + 1 + 1 by omega) _⟩
end
set_option maxHeartbeats 1000000 in
theorem l4Match (A P Q : Option Addr) (n c pn pc m mc : Nat) (sg p t : List Int) (w : World) (h : Seg w w.heap.size A n sg) (hp : Seg w w.heap.size P pn p) (ht : Seg w w.heap.size Q m t) (hn : n ≤ 1048576) (hpn : pn ≤ 60) (hm : m ≤ 60) (hmc : m ≤ mc) (hmc2 : mc ≤ 9223372036854775807)
   (hokp : termOkB sg p = true) (hokt : termOkB sg t = true) :
   Calls Tryz.prog 97 #[.agg #[.slice A n c], .slice P pn pc, .slice Q m mc] w (AnsM w (resL (mst sg t p 0 s0)) (mst sg t p 0 s0).isSome) := by
 obtain ⟨W0, hW0⟩ : ∃ W, W = (w.alloc (.cells #[.slice A n c] 26)).alloc (.cells #[.slice none 0 0] 137) := ⟨_, rfl⟩
 have z0 : W0.heap.size = w.heap.size + 1 + 1 := by rw [hW0]; simp
 obtain ⟨W, hW⟩ : ∃ W, W = (W0.alloc (.cells (madeCells #[.slice none 0 0] 24) 24)).alloc (.cells #[.slice (some ⟨w.heap.size + 1 + 1, 0, none⟩) 24 24] 137) := ⟨_, rfl⟩
 have b0 : Below w.heap.size w W0 := by rw [hW0]; exact ((Below.refl _ _).alloc (Nat.le_refl _) _).alloc (by simp) _
 have b1 : Below w.heap.size w W := by rw [hW]; exact (b0.alloc b0.size _).alloc (by simp; omega) _
 have hmk : ∀ W : World, (Instr.makeSlice 32 (.int .i64 24) (.int .i64 24)).run Tryz.prog W = .ok (.slice (some ⟨W.heap.size, 0, none⟩) 24 24) (W.alloc (.cells (madeCells #[.slice none 0 0] 24) 24)) := fun W => run_make_lists 24 (by omega) W
 have M0 : Mt w W A n c sg P pn p Q m t s0 := by
   refine ⟨?_, ?_, ?_, ?_, h.below b1, hp.below b1, ht.below b1, b1⟩
   · rw [hW, hW0]; exact (((Row.new w _ _).alloc _).alloc _).alloc _
   · rw [hW, hW0]
     have := (((Row.new (w.alloc (.cells #[.slice A n c] 26)) 137 #[.slice none 0 0]).alloc (.cells (madeCells #[.slice none 0 0] 24) 24)).alloc (.cells #[.slice (some ⟨w.heap.size + 1 + 1, 0, none⟩) 24 24] 137))
     simpa using this
   · rw [hW]
     have := Row.new (W0.alloc (.cells (madeCells #[.slice none 0 0] 24) 24)) 137 #[.slice (some ⟨w.heap.size + 1 + 1, 0, none⟩) 24 24]
     have e : (W0.alloc (.cells (madeCells #[.slice none 0 0] 24) 24)).heap.size = w.heap.size + 1 + 1 + 1 := by simp; omega
     rwa [e] at this
   · rw [hW]
     have := (Tab.new W0).next ((Below.refl _ _).alloc (Nat.le_refl _) (.cells #[.slice (some ⟨w.heap.size + 1 + 1, 0, none⟩) 24 24] 137))
     rwa [z0] at this
 have HW := Lib.hid hW
 have HW0 := Lib.hid hW0
 have HLP := Lib.hid hp.1
 have HLT := Lib.hid ht.1
 have HT := Lib.hid hokt
 have HPM : Hid (∀ i, i < pn → -24 ≤ p.getD i 0) := Lib.hid (fun i hi => (term_num hokp (by rw [hp.1]; exact hi)).1)
 have hars := (sig_arities (termOk_parts hokt).1).1
 obtain ⟨R, hR⟩ : ∃ R, mst sg t p 0 s0 = R := ⟨_, rfl⟩
 rw [hR]
 have HR := Lib.hid hR
 have HM0 := Lib.hid M0
 clear hW hW0 h hp ht b0 b1 M0 hokp hokt hR z0
 go_enter Tryz.func97, Tryz.ntmps97
 go_wp2_with fail
 clear hmk
 go_loopg [9, 10] pn (fun g k i wr => ∃ (k' i' : Nat) (s : List (List Int)), k = .int .i64 k' ∧ i = .int .i64 i' ∧ i' + g = pn ∧ k' ≤ m ∧ mst sg t (p.drop i') k' s = R ∧ (∀ j, (s.getD j []).length ≤ 60) ∧ Mt w wr A n c sg P pn p Q m t s)
 case atStart =>
   have hM := HM0.out
   rw [HW.out, HW0.out] at hM
   exact ⟨0, 0, s0, rfl, rfl, by omega, Nat.zero_le _, HR.out, fun j => by rw [s0_get]; simp, hM⟩
 case round =>
   obtain ⟨k, i, s, rfl, rfl, hi, hk, hmst, hs60, M⟩ := hrel
   clear HM0 HW HW0
   have HI := Lib.hid hi
   have HMS := Lib.hid hmst
   have HS60 := Lib.hid hs60
   clear hi hmst hs60
   by_cases hip : i < pn
   · have hgk := Lib.hid (show gk - 1 < gk ∧ i + 1 + (gk - 1) = pn by have := HI.out; omega)
     obtain ⟨bp, op, x, rfl, hbp, hx, ex⟩ := M.sp.spot hip
     have hx24 := HPM.out i hip
     rw [ex.out] at hx24
     have HD := Lib.hid (show p.drop i = x :: p.drop (i + 1) by rw [drop_cons (by rw [HLP.out]; exact hip), ex.out])
     have cR : wr.cell? ⟨w.heap.size + 1, 0, none⟩ = some (.slice none 0 0) := M.r1.cell 0
     have fR : wr.frozen? ⟨w.heap.size + 1, 0, none⟩ = false := M.r1.free 0
     by_cases hkm : k < m
     · obtain ⟨bt, ot, y, rfl, hbt, hy, ey⟩ := M.st.spot hkm
       have hkl : ¬ t.length ≤ k := by rw [HLT.out]; omega
       by_cases hx0 : 0 ≤ x
       · by_cases hxy : x = y
         · subst hxy
           have S := Lib.hid (show mst sg t (p.drop (i + 1)) (k + 1) s = R by rw [← HMS.out, HD.out, mst_sym hkl hx0 ey.out.symm])
           have HM := Lib.hid (fun d => M.next (below_drewN (Below.refl _ _) d))
           have hd : (x != x) = false := by simp
           clear M ex ey HD
           go_wp2
           go_quiet (fail)
           go_wp2
           go_roundg (gk - 1)
           case measure => exact hgk.out.1
           case rel => exact ⟨k + 1, i + 1, s, by simp, by simp, hgk.out.2, by omega, S.out, HS60.out, HM.out _⟩
         · have HN := Lib.hid (show R = none by rw [← HMS.out, HD.out, mst_symNo hkl hx0 (by rw [ey.out]; exact hxy)])
           have HM := Lib.hid (fun d => M.next (below_drewN (Below.refl _ _) d))
           have hd : (x != y) = true := by simp [hxy]
           have F1 := Lib.hid (fun d => ansM_no (w := w) HN.out (below_drewN M.b d))
           have F2 := Lib.hid (fun d => ansM_no (w := w) HN.out ((below_drewN M.b d).setCell (p := ⟨w.heap.size + 1, 0, none⟩) (show w.heap.size ≤ w.heap.size + 1 by omega) (.slice none 0 0)))
           clear M ex ey HD HM
           go_wp2
           go_quiet (fail)
           go_wp2
           first
             | exact bodyPost_ret (v := .tuple #[.agg #[.slice none 0 0], .bool false]) (by simp [results, Tryz.results97, go_sem, cR]) rfl (F1.out _)
             | exact bodyPost_ret (v := .tuple #[.agg #[.slice none 0 0], .bool false]) (by simp [results, Tryz.results97, go_sem, cR]) rfl (F2.out _)
       · obtain ⟨v, hv⟩ : ∃ v : Nat, x = -1 - (v : Int) := ⟨(-1 - x).toNat, by omega⟩
         subst hv
         have hv24 : v < 24 := by omega
         have hvr : vr (-1 - (v : Int)) = v := by unfold vr; omega
         obtain ⟨t1, t2, t3⟩ := term_at HT.out (show k < t.length by rw [HLT.out]; exact hkm)
         rw [HLT.out] at t3
         have hsl := (sub_len1 HT.out (show k < t.length by rw [HLT.out]; exact hkm)).1
         have cA : wr.cell? ⟨w.heap.size, 0, none⟩ = some (.slice A n c) := M.r0.cell 0
         have LS := Lib.hid (l1Sub A (some ⟨bt, ot, none⟩) n c m mc sg t k (len1 sg t k) wr (M.ss.more M.b.size) (M.st.more M.b.size) hn (by omega) hmc hmc2 hars hkm t1 t2 t3)
         obtain ⟨ys, hys⟩ : ∃ ys, subL sg t k = ys := ⟨_, rfl⟩
         rw [hys] at LS hsl
         have HYS := Lib.hid hys
         have hyl : k + ys.length ≤ m := by rw [hsl]; exact t3
         have hyl60 : ys.length ≤ 60 := by omega
         have hwr := M.b.size
         have hw3 := M.r3.lt
         clear hys t1 t2 t3 hsl hy ey cR fR
         go_wp2_with fail
         refine LS.out.mono ?_
         rintro e w1 ⟨D, dn, dc, rfl, od, bb⟩
         replace M := M.next bb
         have hx1 : w1.cell? ⟨bp, op + i, none⟩ = some (.int .i64 (-1 - (v : Int))) := (bb.cell (p := ⟨bp, op + i, none⟩) (show bp < wr.heap.size by omega)).trans hx
         obtain rfl : dn = ys.length := Own.len od
         replace od := Own.lower (base' := w.heap.size + 1 + 1 + 1) od (by omega)
         obtain ⟨Ao, no, co, hc, oo⟩ := M.tb.at hv24
         obtain ⟨os, hos⟩ : ∃ os, s.getD v [] = os := ⟨_, rfl⟩
         rw [hos] at oo
         have HOS := Lib.hid hos
         have HNO := Lib.hid (Own.len oo)
         have hno60 : no ≤ 60 := by rw [HNO.out, ← hos]; exact HS60.out v
         have c3 : w1.cell? ⟨w.heap.size + 1 + 1 + 1, 0, none⟩ = some (.slice (some ⟨w.heap.size + 1 + 1, 0, none⟩) 24 24) := M.r3.cell 0
         have hw1 : IntKind.i64.wrap (-1 - (-1 - (v : Int))) = (v : Int) := by rw [IntKind.wrap_i64]; omega
         have hw2 : IntKind.i64.wrap (v : Int) = (v : Int) := by rw [IntKind.wrap_i64]; omega
         have j0 : (0 : Int) ≤ (v : Int) := by omega
         have j1 : (v : Int) < 24 := by omega
         have HMD := Lib.hid (fun d => M.next (below_drewN (Below.refl _ _) d))
         have HOD := Lib.hid (fun d => Own.drewN od d)
         have HOO := Lib.hid (fun d => Own.drewN oo d)
         have HC := Lib.hid hc
         have HX1 := Lib.hid hx1
         have HVR := Lib.hid hvr
         clear bb hx LS M od oo hos hvr
         go_wp2
         go_quiet (fail)
         generalize hd1 : w1.drewN _ = w2
         have M : Mt w w2 A n c sg (some ⟨bp, op, none⟩) pn p (some ⟨bt, ot, none⟩) m t s := by rw [← hd1]; exact HMD.out _
         have od : Own w2 (w.heap.size + 1 + 1 + 1) (.slice D ys.length dc) ys := by rw [← hd1]; exact HOD.out _
         have oo : Own w2 (w.heap.size + 1 + 1 + 1) (.slice Ao no co) os := by rw [← hd1]; exact HOO.out _
         clear hd1 HMD HOD HOO hx1 c3 hc
         have cR : w2.cell? ⟨w.heap.size + 1, 0, none⟩ = some (.slice none 0 0) := M.r1.cell 0
         have fR : w2.frozen? ⟨w.heap.size + 1, 0, none⟩ = false := M.r1.free 0
         by_cases hn0 : no = 0
         · have hno2 : ¬ ((s.getD (vr (-1 - (v : Int))) []).length ≠ 0 ∧ s.getD (vr (-1 - (v : Int))) [] ≠ subL sg t k) := by
             rw [HVR.out, HOS.out]
             intro h
             exact h.1 (by rw [← HNO.out]; exact hn0)
           subst hn0
           have S := Lib.hid (show mst sg t (p.drop (i + 1)) (k + ys.length) (s.set v ys) = R by rw [← HMS.out, HD.out, mst_var hkl (show ¬ 0 ≤ -1 - (v : Int) by omega) hno2, HVR.out, HYS.out])
           have hs2 := Lib.hid (show ∀ j, ((s.set v ys).getD j []).length ≤ 60 from fun j => by rw [set_get]; split; exact hyl60; exact HS60.out j)
           have hxq : w2.cell? ⟨bp, op + i, none⟩ = some (.int .i64 (-1 - (v : Int))) := by
             obtain ⟨b', o', x', e', -, hq, ex'⟩ := M.sp.spot hip
             injection e' with e'
             injection e' with e1 e2
             subst e1 e2
             rw [hq, ← ex'.out, ex.out]
           have c3q : w2.cell? ⟨w.heap.size + 1 + 1 + 1, 0, none⟩ = some (.slice (some ⟨w.heap.size + 1 + 1, 0, none⟩) 24 24) := M.r3.cell 0
           have fT : w2.frozen? ⟨w.heap.size + 1 + 1, v, none⟩ = false := M.tb.free v
           obtain ⟨A9, n9, c9, hcq, -⟩ := M.tb.at hv24
           have HM2 := Lib.hid (fun d => (M.next (below_drewN (Below.refl _ _) d)).put hv24 (Own.drewN od d))
           clear M od
           go_wp2
           go_region
           go_wp2
           go_roundg (gk - 1)
           case measure => exact hgk.out.1
           case rel => exact ⟨k + ys.length, i + 1, s.set v ys, by simp, by simp, hgk.out.2, hyl, S.out, hs2.out, HM2.out _⟩
         · have hpos : (0 : Int) < (no : Int) := by omega
           go_wp2_with fail
           refine (specSame Ao D no ys.length co dc os ys w2 (Own.seg oo) (Own.seg od) (by omega) (by omega)).mono ?_
           rintro e w3 ⟨he, d3, rfl⟩
           replace M := M.next (below_drewN (Below.refl _ _) d3)
           replace od := Own.drewN od d3
           clear oo cR fR
           generalize w2.drewN d3 = w3 at *
           have cR : w3.cell? ⟨w.heap.size + 1, 0, none⟩ = some (.slice none 0 0) := M.r1.cell 0
           have fR : w3.frozen? ⟨w.heap.size + 1, 0, none⟩ = false := M.r1.free 0
           by_cases hoy : os = ys
           · rw [decide_eq_true hoy] at he
             subst he
             have hno2 : ¬ ((s.getD (vr (-1 - (v : Int))) []).length ≠ 0 ∧ s.getD (vr (-1 - (v : Int))) [] ≠ subL sg t k) := by
               rw [HVR.out, HOS.out, HYS.out]
               intro h
               exact h.2 hoy
             have S := Lib.hid (show mst sg t (p.drop (i + 1)) (k + ys.length) (s.set v ys) = R by rw [← HMS.out, HD.out, mst_var hkl (show ¬ 0 ≤ -1 - (v : Int) by omega) hno2, HVR.out, HYS.out])
             have hs2 := Lib.hid (show ∀ j, ((s.set v ys).getD j []).length ≤ 60 from fun j => by rw [set_get]; split; exact hyl60; exact HS60.out j)
             have hxq : w3.cell? ⟨bp, op + i, none⟩ = some (.int .i64 (-1 - (v : Int))) := by
               obtain ⟨b', o', x', e', -, hq, ex'⟩ := M.sp.spot hip
               injection e' with e'
               injection e' with e1 e2
               subst e1 e2
               rw [hq, ← ex'.out, ex.out]
             have c3q : w3.cell? ⟨w.heap.size + 1 + 1 + 1, 0, none⟩ = some (.slice (some ⟨w.heap.size + 1 + 1, 0, none⟩) 24 24) := M.r3.cell 0
             have fT : w3.frozen? ⟨w.heap.size + 1 + 1, v, none⟩ = false := M.tb.free v
             obtain ⟨A9, n9, c9, hcq, -⟩ := M.tb.at hv24
             have HM2 := Lib.hid (fun d => (M.next (below_drewN (Below.refl _ _) d)).put hv24 (Own.drewN od d))
             clear M od
             go_wp2
             go_region
             go_wp2
             go_roundg (gk - 1)
             case measure => exact hgk.out.1
             case rel => exact ⟨k + ys.length, i + 1, s.set v ys, by simp, by simp, hgk.out.2, hyl, S.out, hs2.out, HM2.out _⟩
           · rw [decide_eq_false hoy] at he
             subst he
             have HN := Lib.hid (show R = none by
               rw [← HMS.out, HD.out, mst_varNo hkl (show ¬ 0 ≤ -1 - (v : Int) by omega) (by
                 rw [HVR.out, HOS.out, HYS.out]
                 exact ⟨by rw [← HNO.out]; exact hn0, hoy⟩)])
             have F1 := Lib.hid (ansM_no (w := w) HN.out M.b)
             have F2 := Lib.hid (ansM_no (w := w) HN.out ((M.b).setCell (p := ⟨w.heap.size + 1, 0, none⟩) (show w.heap.size ≤ w.heap.size + 1 by omega) (.slice none 0 0)))
             clear M od ex HD
             go_wp2
             first
               | exact bodyPost_ret (v := .tuple #[.agg #[.slice none 0 0], .bool false]) (by simp [results, Tryz.results97, go_sem, cR]) rfl F1.out
               | exact bodyPost_ret (v := .tuple #[.agg #[.slice none 0 0], .bool false]) (by simp [results, Tryz.results97, go_sem, cR]) rfl F2.out
     · have HN := Lib.hid (show R = none by rw [← HMS.out, HD.out, mst_out (by rw [HLT.out]; omega)])
       have hge : (m : Int) ≤ (k : Int) := by omega
       have F1 := Lib.hid (ansM_no (w := w) HN.out M.b)
       have F2 := Lib.hid (ansM_no (w := w) HN.out ((M.b).setCell (p := ⟨w.heap.size + 1, 0, none⟩) (show w.heap.size ≤ w.heap.size + 1 by omega) (.slice none 0 0)))
       clear M ex HD
       go_wp2
       first
         | exact bodyPost_ret (v := .tuple #[.agg #[.slice none 0 0], .bool false]) (by simp [results, Tryz.results97, go_sem, cR]) rfl F1.out
         | exact bodyPost_ret (v := .tuple #[.agg #[.slice none 0 0], .bool false]) (by simp [results, Tryz.results97, go_sem, cR]) rfl F2.out
   · have hipn : i = pn := by have := HI.out; omega
     have hRs : R = some s := by rw [← HMS.out, hipn, List.drop_eq_nil_of_le (by rw [HLP.out]; exact Nat.le_refl _)]; rfl
     have HRS := Lib.hid hRs
     have hlen := M.tb.len
     have htot : tot s ≤ 1048576 := by have := tot_le (M := 60) HS60.out; rw [hlen] at this; omega
     have LP := Lib.hid (l2Plain _ 24 24 s _ M.tb.segs htot)
     have c3 : wr.cell? ⟨w.heap.size + 1 + 1 + 1, 0, none⟩ = some (.slice (some ⟨w.heap.size + 1 + 1, 0, none⟩) 24 24) := M.r3.cell 0
     have z1 := M.b.size
     have r1 := M.r1
     have hb := M.b
     have zr := M.r3.lt
     clear hRs hlen htot M hipn
     go_wp2_with fail
     refine LP.out.mono ?_
     rintro e w2 ⟨D, dn, dc, rfl, od, bb⟩
     replace r1 := r1.next bb
     replace hb := next_trans hb bb
     have cR : w2.cell? ⟨w.heap.size + 1, 0, none⟩ = some (.slice none 0 0) := r1.cell 0
     have fR : w2.frozen? ⟨w.heap.size + 1, 0, none⟩ = false := r1.free 0
     have F : AnsM w (resL R) R.isSome (.returned (.tuple #[.agg #[.slice D dn dc], .bool true])) (w2.setCell ⟨w.heap.size + 1, 0, none⟩ (.slice D dn dc)) := by
       have hbt : Btw (w.heap.size + 1) (w.heap.size + 2) w2 (w2.setCell ⟨w.heap.size + 1, 0, none⟩ (.slice D dn dc)) := Btw.of_grown (grown_put (World.grownBy.refl _ _) _ _) (fun k hk => by injection hk; omega)
       have o2 := od.btw hbt (.inr (by omega))
       refine ⟨D, dn, dc, by rw [HRS.out]; rfl, ?_, hb.setCell (p := ⟨w.heap.size + 1, 0, none⟩) (show w.heap.size ≤ w.heap.size + 1 by omega) _⟩
       rw [HRS.out]
       exact o2.wider z1 (by simp)
     have HF := Lib.hid F
     clear F od bb hb r1 LP
     go_wp2
     exact bodyPost_ret (v := .tuple #[.agg #[.slice D dn dc], .bool true]) (by simp [results, Tryz.results97, go_sem, cR]) rfl HF.out
structure Mr (w wr : World) (A : Option Addr) (n c : Nat) (sg : List Int) (P : Option Addr) (pn : Nat) (p : List Int) (Q : Option Addr) (m : Nat) (t : List Int) : Prop where
 r0 : Row wr w.heap.size 26 #[.slice A n c]
 r1 : Row wr (w.heap.size + 1) 137 #[.slice none 0 0]
 ss : Seg wr wr.heap.size A n sg
 sp : Seg wr wr.heap.size P pn p
 st : Seg wr wr.heap.size Q m t
 b : Below w.heap.size w wr
section
variable {w wr w' : World} {A : Option Addr} {n c : Nat} {sg : List Int} {P : Option Addr} {pn : Nat} {p : List Int} {Q : Option Addr} {m : Nat} {t : List Int}
theorem Mr.next (h : Mr w wr A n c sg P pn p Q m t) (hb : Below wr.heap.size wr w') : Mr w w' A n c sg P pn p Q m t :=
 ⟨h.r0.next hb, h.r1.next hb, h.ss.next hb, h.sp.next hb, h.st.next hb, next_trans h.b hb⟩
end
end matchSpec
end
section
namespace sameSubst
open Go.RowKit base ints sig same marks sym segs segsHelp kinds varsOf fillMath Go.Proofs.YtifckjchmjmhoabGreat.look substOk gives
set_option maxRecDepth 100000
end sameSubst
end
section
namespace plainFacts
open Go.RowKit base ints sig term termOk termFacts fillMath plainMath plainOf substOk gives sameSubst compMath filled
theorem gives_plain {L : Nat → List Int} {m i : Nat} (hpos : ∀ i, 1 ≤ (L i).length) (hout : ∀ i, m ≤ i → L i = vt i) : givesL (plainL L m) i = L i := by
 have e := plain_get L m i
 by_cases h : i < m
 · rw [rows_get h] at e
   unfold bare at e
   by_cases h2 : L i = vt i
   · rw [if_pos h2] at e
     rw [gives_var (by rw [e]; rfl), h2]
   · rw [if_neg h2] at e
     rw [gives_term (by rw [e]; have := hpos i; omega), e]
 · have e0 : (rowsL L m).getD i [] = [] := by simp [List.getD, rows_len, h]
   rw [e0] at e
   rw [gives_var (by rw [e]; rfl), hout i (by omega)]
end plainFacts
end
section
namespace matchTot
open Go.RowKit base ints sig term termOk app sym sub segs segsHelp plainMath gives plainOf fillMath termFacts matchMath matchSpec
theorem mst_short {sg t : List Int} : ∀ {p : List Int} {k : Nat} {s s' : List (List Int)}, mst sg t p k s = some s' → (∀ i, (s.getD i []).length ≤ t.length) → ∀ i, (s'.getD i []).length ≤ t.length := by
 intro p
 induction p with
 | nil => intro k s s' h hs; injection h with h; subst h; exact hs
 | cons x r ih =>
   intro k s s' h hs
   by_cases h1 : t.length ≤ k
   · rw [mst_out h1] at h; cases h
   · by_cases h2 : 0 ≤ x
     · by_cases h3 : x = t.getD k 0
       · rw [mst_sym h1 h2 h3] at h; exact ih h hs
       · rw [mst_symNo h1 h2 h3] at h; cases h
     · by_cases h3 : (s.getD (vr x) []).length ≠ 0 ∧ s.getD (vr x) [] ≠ subL sg t k
       · rw [mst_varNo h1 h2 h3] at h; cases h
       · rw [mst_var h1 h2 h3] at h
         refine ih h (fun i => ?_)
         rw [set_get]
         split
         · unfold subL; rw [List.length_take, List.length_drop]; omega
         · exact hs i
theorem match_tot {sg p t : List Int} : tot (resL (matchO sg p t)) ≤ 1048576 := by
 cases h1 : termOkB sg t with
 | false => rw [match_no (.inr h1)]; simp [resL, tot, sumL]
 | true =>
   cases h : matchO sg p t with
   | none => simp [resL, tot, sumL]
   | some s =>
     have ht := (term_len h1).2
     have hs : ∀ i, (s.getD i []).length ≤ t.length := by
       unfold matchO at h
       split at h
       · exact mst_short h (fun i => by rw [s0_get]; simp)
       · cases h
     have hg : ∀ i, (givesL s i).length ≤ 60 := fun i => by
       by_cases e : (s.getD i []).length = 0
       · rw [gives_var e]; simp [vt]
       · rw [gives_term e]; have := hs i; omega
     have h3 := tot_le (plain_each (L := givesL s) (m := 24) hg)
     have h4 := plain_len (givesL s) 24
     have h5 : (plainL (givesL s) 24).length * 60 ≤ 24 * 60 := Nat.mul_le_mul_right _ h4
     show tot (plainL (givesL s) 24) ≤ 1048576
     omega
end matchTot
end
section
namespace matchFacts
open sig term termOk termFacts endAt sub termMath fillMath posMath segsHelp substOk gives plainMath plainFacts filled sameSubst matchMath matchSpec
theorem mst_terms {sg t : List Int} (hok : termOkB sg t = true) : ∀ {p : List Int} {k : Nat} {s s' : List (List Int)}, mst sg t p k s = some s' → (∀ i, (s.getD i []).length = 0 ∨ termOkB sg (s.getD i []) = true) → ∀ i, (s'.getD i []).length = 0 ∨ termOkB sg (s'.getD i []) = true := by
 intro p
 induction p with
 | nil => intro k s s' h hs; injection h with h; subst h; exact hs
 | cons x r ih =>
   intro k s s' h hs
   by_cases h1 : t.length ≤ k
   · rw [mst_out h1] at h; cases h
   · by_cases h2 : 0 ≤ x
     · by_cases h3 : x = t.getD k 0
       · rw [mst_sym h1 h2 h3] at h; exact ih h hs
       · rw [mst_symNo h1 h2 h3] at h; cases h
     · by_cases h3 : (s.getD (vr x) []).length ≠ 0 ∧ s.getD (vr x) [] ≠ subL sg t k
       · rw [mst_varNo h1 h2 h3] at h; cases h
       · rw [mst_var h1 h2 h3] at h
         refine ih h (fun i => ?_)
         rw [set_get]
         split
         · exact .inr (sub_term hok (by omega)).1
         · exact hs i
theorem match_terms {sg p t : List Int} {s : List (List Int)} (h : matchO sg p t = some s) : termOkB sg p = true ∧ termOkB sg t = true ∧ s.length = 24 ∧ ∀ i, (s.getD i []).length = 0 ∨ termOkB sg (s.getD i []) = true := by
 obtain ⟨h1, h2⟩ := inst_ok (show instB sg p t = true by unfold instB; rw [h]; rfl)
 refine ⟨h1, h2, (match_turns h).1, ?_⟩
 rw [match_yes h1 h2] at h
 exact mst_terms h2 h (fun i => .inl (by rw [s0_get]; rfl))
theorem res_gives {s : List (List Int)} (h : s.length = 24) (i : Nat) : givesL (resL (some s)) i = givesL s i :=
 gives_plain (gives_pos s) (fun j hj => gives_out (by omega))
end matchFacts
end
section
namespace stepSpec
open Go.RowKit base ints sig term termOk endAt endOf marks app sym sub segs segsHelp kinds termFacts termMath posMath plainMath plainFacts plain gives fillMath shifted matchMath matchSpec putMath varsOf shape kindsR kindsW ruleMath ruleSpec stepMath walkMath
set_option maxRecDepth 100000
theorem right_sys {sg : List Int} {rs : List Rl} {t : List Int} (h : sysOkB sg rs = false) : rightB sg rs t = false := by unfold rightB; rw [h]; rfl
theorem right_parts {sg : List Int} {rs : List Rl} {t : List Int} (h : rightB sg rs t = true) : sysOkB sg rs = true ∧ termOkB sg t = true := by unfold rightB at h; rw [Bool.and_eq_true] at h; exact h
theorem redex_no {sg : List Int} {rs : List Rl} {t : List Int} {a r : Int} (h : thereR sg rs t a r = false) : redexB sg rs t a r = false := by unfold redexB; rw [h]; rfl
theorem redex_yes {sg : List Int} {rs : List Rl} {t : List Int} {a r : Int} (h : thereR sg rs t a r = true) : redexB sg rs t a r = redB sg (rl rs r) t a.toNat := by unfold redexB; rw [h]; rfl
theorem at_no {sg : List Int} {rs : List Rl} {t : List Int} {a r : Int} (h : thereR sg rs t a r = false) : stepAtO sg rs t a r = none := by unfold stepAtO; rw [if_neg (by rw [h]; simp)]
theorem sys_rule {sg : List Int} {rs : List Rl} (h : sysOkB sg rs = true) {r : Nat} (hr : r < rs.length) : ruleOkB sg (rs.getD r ([], [])) = true := by
 have := rl_ok (r := (r : Int)) h (by omega)
 unfold rl at this
 simpa using this
def AnsStep (w : World) (o : Option (List Int)) (e : Ending) (w' : World) : Prop := AnsPairO w (o.getD []) o.isSome e w'
theorem ansStep_no {w w' : World} {o : Option (List Int)} (h : o = none) (hb : Below w.heap.size w w') : AnsStep w o (.returned (.tuple #[.slice (some ⟨w'.heap.size, 0, none⟩) 0 0, .bool false])) (w'.alloc (.cells #[] 2)) :=
 ⟨_, 0, 0, by rw [h]; rfl, by rw [h]; exact own_empty w' w.heap.size hb.size, hb.alloc hb.size _⟩
set_option maxHeartbeats 2000000 in
theorem l7Right (a v : Value) (d : Dat sSystem) (T : Option Addr) (m c : Nat) (t : List Int) (w : World) (h : Rd w w.heap.size sSystem [a, v] d) (hz : sz sSystem d ≤ 1048576) (ht : Seg w w.heap.size T m t) (hm : m ≤ 1048576) :
   Calls Tryz.prog 57 #[.agg #[a, v], .slice T m c] w (AnsB w (rightB d.1 d.2 t)) := by
 obtain ⟨A, n, cs, V, q, cv, rfl, rfl, hs, hc, hcv, hq, hn, hq1, hrs, hsg, hE⟩ := rd_sys h hz
 obtain ⟨W, hW, rA, bel⟩ := box1 w 29 #[.slice A n cs, .slice V q cv]
 have HW := Lib.hid hW
 have L1 := Lib.hid (specSystemOk _ _ d W (h.next bel) hz)
 have L2 := Lib.hid (fun (w1 : World) (bb : Below w.heap.size w w1) => specTermOk A T n cs m c d.1 t w1 (hs.next bb) (ht.next bb) hn hm)
 clear hW h hz hs hc hcv hq hrs hsg hE ht
 cases ok1 : sysOkB d.1 d.2 with
 | false =>
   have HS := Lib.hid ok1
   clear ok1
   go_enter Tryz.func57, Tryz.ntmps57
   go_wp2_with fail
   rw [← HW.out]
   refine L1.out.mono ?_
   rintro e w1 ⟨he, bb⟩
   rw [HS.out] at he
   subst he
   have F := Lib.hid (ansB (b := rightB d.1 d.2 t) (a := false) (by rw [right_sys HS.out]) (next_trans bel bb))
   clear bb bel rA
   go_wp2
   go_ret
   exact F.out
 | true =>
   obtain ⟨bt, hbt⟩ : ∃ b, termOkB d.1 t = b := ⟨_, rfl⟩
   have HS := Lib.hid (show rightB d.1 d.2 t = bt by unfold rightB; rw [ok1, hbt]; rfl)
   have HB := Lib.hid hbt
   have H1 := Lib.hid ok1
   clear ok1 hbt
   go_enter Tryz.func57, Tryz.ntmps57
   go_wp2_with fail
   rw [← HW.out]
   refine L1.out.mono ?_
   rintro e w1 ⟨he, bb⟩
   rw [H1.out] at he
   subst he
   replace rA := rA.next bb
   replace bel := next_trans bel bb
   have cA : w1.cell? ⟨w.heap.size, 0, none⟩ = some (.slice A n cs) := rA.cell 0
   clear bb L1
   go_wp2_with fail
   refine (L2.out _ bel).mono ?_
   rintro e w2 ⟨he, bb⟩
   rw [HB.out] at he
   subst he
   have F := Lib.hid (ansB (b := rightB d.1 d.2 t) (a := bt) (by rw [HS.out]) (next_trans bel bb))
   clear bb bel rA cA
   cases bt <;> (go_wp2; go_ret; exact F.out)
-- REST
def SubIn (W : World) (A : Option Addr) (n cs : Nat) (T : Option Addr) (m c : Nat) (x : Int) (ys : List Int) : Prop := ∀ X, Below W.heap.size W X → Calls Tryz.prog 98 #[.agg #[.slice A n cs], .slice T m c, .int .i64 x] X fun e w' => ∃ D dn dc, e = .returned (.slice D dn dc) ∧ Own w' W.heap.size (.slice D dn dc) ys ∧ Below W.heap.size W w' ∧ Below X.heap.size X w'
def MatchIn (W : World) (A : Option Addr) (n cs : Nat) (P : Option Addr) (pn pc : Nat) (ys : List Int) (R : Option (List (List Int))) : Prop := ∀ X D dn dc, Below W.heap.size W X → Own X W.heap.size (.slice D dn dc) ys → Calls Tryz.prog 97 #[.agg #[.slice A n cs], .slice P pn pc, .slice D dn dc] X fun e w' => ∃ G gn gc, e = .returned (.tuple #[.agg #[.slice G gn gc], .bool R.isSome]) ∧ Owns w' X.heap.size w'.heap.size G gn gc (resL R) ∧ Below W.heap.size W w' ∧ Below X.heap.size X w'
theorem subIn {W : World} {A : Option Addr} {n cs : Nat} {T : Option Addr} {m c : Nat} {sg t : List Int} {a : Nat} (h : Seg W W.heap.size A n sg) (h' : Seg W W.heap.size T m t) (hn : n ≤ 1048576) (hm : m ≤ 1048576) (hc : m ≤ c) (hc2 : c ≤ 9223372036854775807) (ht : termOkB sg t = true) (ha : a < t.length) : SubIn W A n cs T m c (a : Int) (subL sg t a) := fun X hX => by
 obtain ⟨t1, t2, t3⟩ := term_at ht ha
 have hl := h'.1
 refine (l1Sub A T n cs m c sg t a (len1 sg t a) X (h.next hX) (h'.next hX) hn hm hc hc2 (sig_arities (termOk_parts ht).1).1 (by omega) t1 t2 (by omega)).mono ?_
 rintro e w3 ⟨D, dn, dc, rfl, od, b3⟩
 exact ⟨D, dn, dc, rfl, Own.lower od hX.size, next_trans hX b3, b3⟩
theorem matchIn {W : World} {A : Option Addr} {n cs : Nat} {P : Option Addr} {pn pc : Nat} {sg p ys : List Int} (h : Seg W W.heap.size A n sg) (h' : Seg W W.heap.size P pn p) (hn : n ≤ 1048576) (hp : termOkB sg p = true) (ht : termOkB sg ys = true) : MatchIn W A n cs P pn pc ys (mst sg ys p 0 s0) := fun X D dn dc hX ho => by
 have hpn : pn ≤ 60 := by have := (term_len hp).2; have := h'.1; omega
 have hdn : dn ≤ 60 := by have := (term_len ht).2; have := Own.len ho; omega
 have hcd := look.own_cap ho
 refine (l4Match A P D n cs pn pc dn dc sg p ys X (h.next hX) (h'.next hX) (Own.seg ho) hn hpn hdn hcd.1 hcd.2.1 hp ht).mono ?_
 rintro e w4 ⟨G, gn, gc, rfl, og, b4⟩
 exact ⟨G, gn, gc, rfl, og, next_trans hX b4, b4⟩
theorem box_a {W w : World} {v : Bool} {o : Obj} (h : Below W.heap.size W w) : Value.bool v = .bool v ∧ Below W.heap.size W (w.alloc o) := ⟨rfl, h.alloc h.size _⟩
theorem box_b {W w : World} {v : Bool} {g i : Nat} {u : Value} (h : Below W.heap.size W w) (hg : W.heap.size ≤ g) : Value.bool v = .bool v ∧ Below W.heap.size W (w.setCell ⟨g, i, none⟩ u) := ⟨rfl, h.setCell hg _⟩
theorem step_none {sg : List Int} {x : Rl} {t : List Int} {a : Nat} (h : mst sg (subL sg t a) x.1 0 s0 = none) : stepO sg x t a = none := by unfold stepO; rw [h]
theorem fill_res {s : List (List Int)} (hl : s.length = 24) (p : List Int) : fillL (givesL (resL (some s))) p = fillL (givesL s) p := fill_ext fun _ _ _ => matchFacts.res_gives hl _
theorem step_long {sg : List Int} {x : Rl} {t : List Int} {a : Nat} {s : List (List Int)} (h : mst sg (subL sg t a) x.1 0 s0 = some s) (hl : s.length = 24) (hf : filled.fitsB (resL (some s)) x.2 = false) : stepO sg x t a = none := by
 unfold filled.fitsB at hf
 rw [fill_res hl] at hf
 have := of_decide_eq_false hf
 unfold stepO
 rw [h]
 dsimp only
 rw [if_neg (fun hh => this hh.1)]
theorem step_fits {sg : List Int} {x : Rl} {t : List Int} {a : Nat} {s : List (List Int)} (h : mst sg (subL sg t a) x.1 0 s0 = some s) (hl : s.length = 24) (hf : filled.fitsB (resL (some s)) x.2 = true) : (stepO sg x t a).getD [] = put.fitL sg t (filled.fitL (resL (some s)) x.2) a ∧ (stepO sg x t a).isSome = put.fitB sg t (filled.fitL (resL (some s)) x.2) a := by
 have e0 : filled.fitL (resL (some s)) x.2 = fillL (givesL s) x.2 := by unfold filled.fitL; rw [if_pos hf, fill_res hl]
 unfold filled.fitsB at hf
 rw [fill_res hl] at hf
 have hf := of_decide_eq_true hf
 rw [e0]
 unfold stepO
 rw [h]
 dsimp only
 unfold put.fitL put.fitB
 have e1 : put.putI sg t (fillL (givesL s) x.2) a = putAt sg t (fillL (givesL s) x.2) a := rfl
 rw [e1]
 by_cases hh : (putAt sg t (fillL (givesL s) x.2) a).length ≤ 60
 · rw [if_pos ⟨hf, hh⟩, if_pos (decide_eq_true hh), decide_eq_true hh]; exact ⟨rfl, rfl⟩
 · rw [if_neg (fun h => hh h.2), if_neg (by rw [decide_eq_false hh]; simp), decide_eq_false hh]; exact ⟨rfl, rfl⟩
theorem sz_lt (w : World) (o : Obj) : w.heap.size < (w.alloc o).heap.size := by simp
def StepBox (W : World) (bo : Bool) (xss : List (List Int)) (s11 s12 : Value) (wx : World) : Prop := ∃ g G gn gc, s11 = .pointer (some ⟨g, 0, none⟩) ∧ s12 = .bool bo ∧ Row wx g 137 #[.slice G gn gc] ∧ Segs wx wx.heap.size G gn xss ∧ Below W.heap.size W wx
theorem sbox_a {W w : World} {bo : Bool} {xss : List (List Int)} {lo : Nat} {G : Option Addr} {gn gc : Nat} (h : Owns w lo w.heap.size G gn gc xss) (hb : Below W.heap.size W w) : StepBox W bo xss (.pointer (some ⟨w.heap.size, 0, none⟩)) (.bool bo) (w.alloc (.cells #[.slice G gn gc] 137)) :=
 ⟨_, _, _, _, rfl, rfl, Row.new _ _ _, (h.segs.alloc (Nat.le_refl _) _).more (by simp), hb.alloc hb.size _⟩
theorem sbox_b {W w : World} {bo : Bool} {xss : List (List Int)} {lo g : Nat} {G : Option Addr} {gn gc : Nat} (h : Owns w lo w.heap.size G gn gc xss) (hr : Row w g 137 #[.slice none 0 0]) (hg : g < lo) (hW : W.heap.size ≤ g) (hb : Below W.heap.size W w) : StepBox W bo xss (.pointer (some ⟨g, 0, none⟩)) (.bool bo) (w.setCell ⟨g, 0, none⟩ (.slice G gn gc)) := by
 have h2 : Owns (w.setCell ⟨g, 0, none⟩ (.slice G gn gc)) lo w.heap.size G gn gc xss := h.btw (lo' := g) (hi' := g + 1) ⟨rfl, rfl, rfl, by simp, fun k hk ho => Below.heap_setCell w _ _ k (by show k ≠ g; omega)⟩ (.inr (by omega))
 exact ⟨_, _, _, _, rfl, rfl, hr.put 0 _, h2.segs, hb.setCell hW _⟩
set_option maxHeartbeats 4000000 in
theorem l7Step (a v u : Value) (d : Dat sSystem) (t : List Int) (x k : Nat) (w : World) (h : Rd w w.heap.size sSystem [a, v] d) (ht : Rd w w.heap.size sI [u] t) (hz : sz sSystem d ≤ 1048576) (hok : rightB d.1 d.2 t = true) (hx : x < t.length) (hk : k < d.2.length) :
   Calls Tryz.prog 90 #[.agg #[a, v], u, .int .i64 (x : Int), .int .i64 (k : Int)] w (AnsStep w (stepO d.1 (d.2.getD k ([], [])) t x)) := by
 obtain ⟨T, m, c, rfl, hT, hcT⟩ := rd_ints.1 ht
 obtain ⟨oks, okt⟩ := right_parts hok
 have hm : m ≤ 60 := by have := (term_len okt).2; have := hT.1; omega
 obtain ⟨A, n, cs, V, q, cv, rfl, rfl, hs, hc, hcv, hq, hn, hq1, hrs, hsg, hE⟩ := rd_sys h hz
 rw [hq] at hk
 obtain ⟨b, off, l, rr, y, rfl, hb, ey, cl, cr, hry⟩ := rd_at hrs (Below.refl _ _) hq hk
 have hzy : sz sRule y ≤ 1048576 := by rw [← ey.out]; exact hE k hk
 have okr : ruleOkB d.1 y = true := by rw [← ey.out]; exact sys_rule oks (by rw [hq]; exact hk)
 obtain ⟨P, pn, pc, P', pn', pc', rfl, rfl, sP, kP, sP', kP', hpn, hpn'⟩ := rd_rule hry hzy
 rw [ey.out]
 obtain ⟨W, hW, rA, rR, bel⟩ := box2 w 29 113 #[.slice A n cs, .slice (some ⟨b, off, none⟩) q cv] #[.slice P pn pc, .slice P' pn' pc']
 have HW := Lib.hid hW
 have zA : w.heap.size < W.heap.size := rA.lt
 have zR : w.heap.size + 1 < W.heap.size := rR.lt
 have LS := Lib.hid (subIn (cs := cs) (c := c) (hs.next bel) (hT.next bel) hn (by omega) hcT.1 hcT.2.1 okt hx)
 have LM := Lib.hid (matchIn (cs := cs) (pc := pc) (hs.next bel) (sP.next bel) hn (rule_parts okr).1 (sub_ok okt hx))
 obtain ⟨R, hR⟩ : ∃ R, mst d.1 (subL d.1 t x) y.1 0 s0 = R := ⟨_, rfl⟩
 rw [hR] at LM
 have HRE := Lib.hid hR
 obtain ⟨bo, hbo⟩ : ∃ bo, R.isSome = bo := ⟨_, rfl⟩
 have HR := Lib.hid hbo
 have HOK := Lib.hid (show ruleOkB d.1 y = true ∧ termOkB d.1 t = true ∧ x < t.length from ⟨okr, okt, hx⟩)
 have SS := Lib.hid (show Seg w w.heap.size A n d.1 ∧ Seg w w.heap.size T m t ∧ Seg w w.heap.size P' pn' y.2 ∧ m ≤ c ∧ c ≤ 9223372036854775807 from ⟨hs, hT, sP', hcT.1, hcT.2.1⟩)
 have c0 : (w.alloc (.cells #[.slice A n cs, .slice (some ⟨b, off, none⟩) q cv] 29)).cell? ⟨b, off + k * 2, none⟩ = some (.slice P pn pc) := (((Below.refl w.heap.size w).alloc (Nat.le_refl _) _).cell (p := ⟨b, off + k * 2, none⟩) hb).trans cl
 have c1 : (w.alloc (.cells #[.slice A n cs, .slice (some ⟨b, off, none⟩) q cv] 29)).cell? ⟨b, off + k * 2 + 1, none⟩ = some (.slice P' pn' pc') := (((Below.refl w.heap.size w).alloc (Nat.le_refl _) _).cell (p := ⟨b, off + k * 2 + 1, none⟩) hb).trans cr
 have i0 : (0 : Int) ≤ (k : Int) := by omega
 have i1 : (k : Int) < (q : Int) := by omega
 have K0 : W.cell? ⟨w.heap.size, 0, none⟩ = some (.slice A n cs) := rA.cell 0
 have K1 : W.cell? ⟨w.heap.size + 1, 0, none⟩ = some (.slice P pn pc) := rR.cell 0
 have hneA : ¬ w.heap.size = W.heap.size := by omega
 have hnfA : ¬ W.heap.size = w.heap.size := by omega
 have hneR : ¬ w.heap.size + 1 = W.heap.size := by omega
 have hnfR : ¬ W.heap.size = w.heap.size + 1 := by omega
 have BEL := Lib.hid bel
 have RA := Lib.hid rA
 have RR := Lib.hid rR
 have B0 := Below.refl W.heap.size W
 clear hW h hs hc hcv hq hrs hsg hE ht hT hcT oks okt okr sP kP sP' kP' hry hzy hR hbo hx hok hz ey bel rA rR cl cr
 go_enter Tryz.func90, Tryz.ntmps90
 go_upto_region 2 with fail
 rw [← HW.out]
 clear c0 c1 i0 i1
 go_cut [11, 12] (fun s11 s12 wx => StepBox W bo (resL R) s11 s12 wx)
 case first =>
   go_region_held3 (fun w' => w'.cell? ⟨w.heap.size, 0, none⟩ = some (.slice A n cs) ∧ w'.cell? ⟨w.heap.size + 1, 0, none⟩ = some (.slice P pn pc))
     (go_keep)
     (first
       | (go_at_call 98; refine (LS.out _ ?_).mono ?_; (first | exact B0 | exact B0.drew | exact (B0.alloc B0.size _) | exact (B0.alloc B0.size _).drew | exact (B0.drew.alloc B0.drew.size _)); rintro e w3 ⟨D, dn, dc, rfl, od, B3, b3⟩; have z3 := B3.size; (first | have r8 := Row.next (Row.drew (Row.new W 137 #[.slice none 0 0])) b3 | have r8 := Row.next (Row.new W.drew 137 #[.slice none 0 0]) b3 | skip); have ne30 : ¬ w.heap.size = w3.heap.size := Nat.ne_of_lt (Nat.lt_of_lt_of_le zA B3.size); have nf30 : ¬ w3.heap.size = w.heap.size := Nat.ne_of_gt (Nat.lt_of_lt_of_le zA B3.size); have ne31 : ¬ (w.heap.size + 1) = w3.heap.size := Nat.ne_of_lt (Nat.lt_of_lt_of_le zR B3.size); have nf31 : ¬ w3.heap.size = (w.heap.size + 1) := Nat.ne_of_gt (Nat.lt_of_lt_of_le zR B3.size); have k0_3 : w3.cell? ⟨w.heap.size, 0, none⟩ = some (.slice A n cs) := (B3.cell (p := ⟨w.heap.size, 0, none⟩) zA).trans K0; have k1_3 : w3.cell? ⟨w.heap.size + 1, 0, none⟩ = some (.slice P pn pc) := (B3.cell (p := ⟨w.heap.size + 1, 0, none⟩) zR).trans K1)
       | (go_at_call 97; refine (LM.out _ _ _ _ ?_ ?_).mono ?_; (first | exact B3 | exact B3.alloc B3.size _); (first | exact od | exact Own.alloc od _); rintro e w4 ⟨G, gn, gc, rfl, og, B4, b4⟩; rw [HR.out]; have z4 := B4.size; (first | have r9 := Row.next r8 b4 | have r9 := Row.next (Row.new w3 137 #[.slice none 0 0]) b4 | skip); (first | (have c9 : _ = some (Value.slice none 0 0) := r9.cell 0; have f9 := r9.free 0) | skip); have ne40 : ¬ w.heap.size = w4.heap.size := Nat.ne_of_lt (Nat.lt_of_lt_of_le zA B4.size); have nf40 : ¬ w4.heap.size = w.heap.size := Nat.ne_of_gt (Nat.lt_of_lt_of_le zA B4.size); have ne41 : ¬ (w.heap.size + 1) = w4.heap.size := Nat.ne_of_lt (Nat.lt_of_lt_of_le zR B4.size); have nf41 : ¬ w4.heap.size = (w.heap.size + 1) := Nat.ne_of_gt (Nat.lt_of_lt_of_le zR B4.size); have k0_4 : w4.cell? ⟨w.heap.size, 0, none⟩ = some (.slice A n cs) := (B4.cell (p := ⟨w.heap.size, 0, none⟩) zA).trans K0; have k1_4 : w4.cell? ⟨w.heap.size + 1, 0, none⟩ = some (.slice P pn pc) := (B4.cell (p := ⟨w.heap.size + 1, 0, none⟩) zR).trans K1))
   all_goals
     go_wp2_with fail
     go_meet
     first | (with_reducible exact sbox_a og B4) | (with_reducible exact sbox_b og r9 (sz_lt _ _) z3 B4) | (with_reducible exact sbox_b og r9 r8.lt (Nat.le_refl _) B4)
 case rest =>
   rename World => wc
   obtain ⟨g, G, gn, gc, rfl, rfl, rS, sg, bx⟩ := hcut
   have bel := BEL.out.trans (bx.mono BEL.out.size)
   replace rA := RA.out.next bx
   replace rR := RR.out.next bx
   clear K0 K1 B0 hneA hnfA hneR hnfR
   cases R with
   | none =>
     obtain rfl : bo = false := HR.out.symm
     have F := Lib.hid (ansStep_no (o := stepO d.1 y t x) (step_none HRE.out) bel)
     clear bx bel rA rR rS sg
     go_wp2
     go_ret2
     exact F.out
   | some s =>
     obtain rfl : bo = true := HR.out.symm
     have hmo : matchO d.1 y.1 (subL d.1 t x) = some s := by rw [match_yes (rule_parts HOK.out.1).1 (sub_ok HOK.out.2.1 HOK.out.2.2)]; exact HRE.out
     have hl24 := (match_turns hmo).1
     have hmt := matchFacts.match_terms hmo
     have HGV := Lib.hid (fun i => (show (givesL (resL (some s)) i).length ≤ 60 by
       rw [matchFacts.res_gives hl24]
       unfold givesL
       split
       · simp [vt]
       · rcases hmt.2.2.2 i with e | e
         · omega
         · exact (term_len e).2))
     have HTT := Lib.hid (show tot (resL (some s)) ≤ 1048576 by rw [← hmo]; exact matchTot.match_tot)
     have HL24 := Lib.hid hl24
     have hv := (rule_parts HOK.out.1).2.1
     have hpn60 : pn' ≤ 60 := by have := (term_len hv).2; have := SS.out.2.2.1.1; omega
     have LF := Lib.hid (filled.l2Filled G P' gn gc pn' pc' (resL (some s)) y.2 wc sg (SS.out.2.2.1.next bel) HTT.out hpn60 (fun z hz => (term_mem hv hz).1) HGV.out)
     obtain ⟨bf, hbf⟩ : ∃ bf, filled.fitsB (resL (some s)) y.2 = bf := ⟨_, rfl⟩
     have HBF := Lib.hid hbf
     have k0 : wc.cell? ⟨g, 0, none⟩ = some (.slice G gn gc) := rS.cell 0
     have k1 : wc.cell? ⟨w.heap.size + 1, 1, none⟩ = some (.slice P' pn' pc') := rR.cell 1
     clear hmo hl24 hmt hv hbf bx sg LS LM
     go_wp2_with fail
     refine LF.out.mono ?_
     rintro e w5 ⟨O, on, oc, rfl, oO, bb⟩
     rw [HBF.out]
     replace rA := rA.next bb
     replace bel := next_trans bel bb
     clear k0 k1 LF rS rR bb
     cases bf with
     | false =>
       have F := Lib.hid (ansStep_no (o := stepO d.1 y t x) (step_long HRE.out HL24.out HBF.out) bel)
       clear bel rA oO
       go_wp2
       go_ret2
       exact F.out
     | true =>
       have E := Lib.hid (step_fits HRE.out HL24.out HBF.out)
       have hon : on ≤ 60 := by
         have h1 := Own.len oO
         have h2 : (filled.fitL (resL (some s)) y.2).length ≤ 60 := by
           unfold filled.fitL
           rw [if_pos HBF.out]
           have := HBF.out
           unfold filled.fitsB at this
           exact of_decide_eq_true this
         omega
       have hco := look.own_cap oO
       have LP := Lib.hid (put.l3Put A T O n cs m c on oc d.1 t (filled.fitL (resL (some s)) y.2) x w5 (SS.out.1.next bel) (SS.out.2.1.next bel) (Own.seg oO) hco.2.2 hn (by omega) hon SS.out.2.2.2.1 SS.out.2.2.2.2 HOK.out.2.1 HOK.out.2.2)
       have k0 : w5.cell? ⟨w.heap.size, 0, none⟩ = some (.slice A n cs) := rA.cell 0
       clear oO hco rA
       go_wp2_with fail
       refine LP.out.mono ?_
       rintro e w6 ⟨X, xn, xc, rfl, oX, bb⟩
       have F : AnsStep w (stepO d.1 y t x) (.returned (.tuple #[.slice X xn xc, .bool (put.fitB d.1 t (filled.fitL (resL (some s)) y.2) x)])) w6 := ⟨X, xn, xc, by rw [E.out.2], by rw [E.out.1]; exact Own.lower oX bel.size, next_trans bel bb⟩
       have HF := Lib.hid F
       clear F oX bb bel k0 LP
       go_wp2
       go_ret2
       exact HF.out
end stepSpec
end
section
namespace stepSpec
open Go.RowKit base ints sig term termOk endAt endOf marks app sym sub segs segsHelp kinds termFacts shifted matchMath matchSpec shape kindsR kindsW ruleMath ruleSpec stepMath walkMath stepsMath ownL
set_option maxRecDepth 100000
theorem owned_step {w : World} {lo : Nat} {A : Option Addr} {n c : Nat} {v : List Int} (h : Own w lo (.slice A n c) v) (a b : Int) : Owned w lo w.heap.size sStep [.int .i64 a, .int .i64 b, .slice A n c] (a, b, v) := by
 obtain ⟨F, h1, h2, h3⟩ := (ow_ints (lo := lo) (hi := w.heap.size)).2 (Ownd.of_own h)
 exact ⟨F, ⟨[.int .i64 a], [.int .i64 b, .slice A n c], [], F, rfl, rfl, ⟨rfl, rfl⟩, ⟨[.int .i64 b], [.slice A n c], [], F, rfl, rfl, ⟨rfl, rfl⟩, h1⟩⟩, h2, h3⟩
def AnsSteps (w : World) (L : List St) (e : Ending) (w' : World) : Prop := ∃ A n c, e = .returned (.slice A n c) ∧ OwnL w' w.heap.size w'.heap.size 70 sStep A n c L ∧ Below w.heap.size w w'
structure Sn (w : World) (A V : Option Addr) (n cs q cv : Nat) (L : List St) (O : Option Addr) (on oc : Nat) (wr : World) : Prop where
 r : Row wr w.heap.size 29 #[.slice A n cs, .slice V q cv]
 o : OwnL wr (w.heap.size + 1) wr.heap.size 70 sStep O on oc L
 b : Below w.heap.size w wr
theorem Sn.below {w wr w' : World} {A V : Option Addr} {n cs q cv : Nat} {L : List St} {O : Option Addr} {on oc : Nat} (h : Sn w A V n cs q cv L O on oc wr) (hb : Below wr.heap.size wr w') : Sn w A V n cs q cv L O on oc w' :=
 ⟨h.r.next hb, (h.o.next hb).wider (Nat.le_refl _) hb.size, next_trans h.b hb⟩
theorem Sn.len {w wr : World} {A V : Option Addr} {n cs q cv : Nat} {L : List St} {O : Option Addr} {on oc : Nat} (h : Sn w A V n cs q cv L O on oc wr) : L.length = on := h.o.1
set_option maxHeartbeats 4000000 in
theorem l7Steps (a v u : Value) (d : Dat sSystem) (t : List Int) (w : World) (h : Rd w w.heap.size sSystem [a, v] d) (ht : Rd w w.heap.size sI [u] t) (hz : sz sSystem d ≤ 1048576) (hok : rightB d.1 d.2 t = true) :
   Calls Tryz.prog 59 #[.agg #[a, v], u] w (AnsSteps w (stepsL d.1 d.2 t)) := by
 have htv := ht
 obtain ⟨T, m, c, rfl, hT, hcT⟩ := rd_ints.1 ht
 have h0 := h
 obtain ⟨A, n, cs, V, q, cv, rfl, rfl, hs, hc, hcv, hq, hn, hq1, hrs, hsg, hE⟩ := rd_sys h hz
 have HQ := Lib.hid hq
 have HTL := Lib.hid hT.1
 have LST := Lib.hid (fun (w1 : World) (bb : Below w.heap.size w w1) (x k : Nat) hx hk => l7Step _ _ _ d t x k w1 (h0.next bb) (htv.next bb) hz hok hx hk)
 have hm : m ≤ 60 := by have := (term_len (right_parts hok).2).2; have := hT.1; omega
 have hq12 : q ≤ 12 := by have := (sys_parts (right_parts hok).1).2.1; omega
 have HLEN := Lib.hid (fun i k (hi : i ≤ m) (hk : k ≤ q) => (show (stN d.1 d.2 t i k).length ≤ 1000 by
   have h1 := st_len (sg := d.1) (rs := d.2) (t := t) (i := i) (k := k)
   have h2 : i * d.2.length ≤ 60 * 12 := Nat.mul_le_mul (by omega) (by rw [hq]; omega)
   omega))
 have S0 : Sn w A V n cs q cv (stN d.1 d.2 t 0 0) (some ⟨w.heap.size + 1, 0, none⟩) 0 0 ((w.alloc (.cells #[.slice A n cs, .slice V q cv] 29)).alloc (.cells #[] 70)) :=
   ⟨(Row.new _ _ _).alloc _, by have := OwnL.empty (w.alloc (.cells #[.slice A n cs, .slice V q cv] 29)) (lo := w.heap.size + 1) (hi := w.heap.size + 1 + 1) 70 sStep (by simp) (by simp); simpa [st_zero] using this, ((Below.refl _ _).alloc (Nat.le_refl _) _).alloc (by simp) _⟩
 have HS0 := Lib.hid S0
 clear S0 h h0 ht htv hz hok hs hc hcv hq hrs hsg hE hT hcT
 go_enter Tryz.func59, Tryz.ntmps59
 go_wp2_with fail
 go_loopg [5, 6] m (fun G out at_ wr => ∃ (i on oc : Nat) (O : Option Addr), at_ = .int .i64 i ∧ i + G = m ∧ out = .slice O on oc ∧ Sn w A V n cs q cv (stN d.1 d.2 t i 0) O on oc wr)
 case atStart => exact ⟨0, 0, 0, _, rfl, by omega, rfl, HS0.out⟩
 case round =>
   clear HS0
   obtain ⟨i, on, oc, O, rfl, hiG, rfl, S⟩ := hrel
   obtain ⟨G, hG⟩ : ∃ G, G = gk := ⟨_, rfl⟩
   subst hG
   by_cases him : i < m
   · have HI := Lib.hid hiG
     have HS := Lib.hid S
     clear hiG S
     go_wp2_with fail
     go_loopg [5, 7] q (fun g out r wr => ∃ (k on oc : Nat) (O : Option Addr), r = .int .i64 k ∧ k + g = q ∧ out = .slice O on oc ∧ Sn w A V n cs q cv (stN d.1 d.2 t i k) O on oc wr)
     case atStart => exact ⟨0, _, _, _, rfl, by omega, rfl, HS.out⟩
     case round =>
       clear HS
       obtain ⟨k, on, oc, O, rfl, hkg, rfl, S⟩ := hrel
       have K0 : wr.cell? ⟨w.heap.size, 0, none⟩ = some (.slice A n cs) := S.r.cell 0
       have K1 : wr.cell? ⟨w.heap.size, 1, none⟩ = some (.slice V q cv) := S.r.cell 1
       by_cases hkq : k < q
       · have LS := Lib.hid (LST.out wr S.b i k (by rw [HTL.out]; exact him) (by rw [HQ.out]; exact hkq))
         obtain ⟨o, ho⟩ : ∃ o, stepO d.1 (d.2.getD k ([], [])) t i = o := ⟨_, rfl⟩
         rw [ho] at LS
         have HO := Lib.hid ho
         have HK := Lib.hid hkg
         have hon : on ≤ 1000 := by rw [← S.len]; exact HLEN.out i k (by omega) (by omega)
         clear ho hkg
         cases o with
         | none =>
           go_wp2_with fail
           refine LS.out.mono ?_
           rintro e w2 ⟨X, xn, xc, he, oX, bb⟩
           have he : e = .returned (.tuple #[.slice X xn xc, .bool false]) := he
           subst he
           have F := Lib.hid (show Sn w A V n cs q cv (stN d.1 d.2 t i (k + 1)) O on oc w2 by rw [st_none HO.out]; exact S.below bb)
           clear S oX bb LS K0 K1
           go_wp2
           go_roundg (gk - 1)
           case measure => have := HK.out; omega
           case rel => exact ⟨k + 1, on, oc, O, by simp, by have := HK.out; omega, rfl, F.out⟩
         | some x =>
           go_wp2_with fail
           refine LS.out.mono ?_
           rintro e w2 ⟨X, xn, xc, he, oX, bb⟩
           have he : e = .returned (.tuple #[.slice X xn xc, .bool true]) := he
           subst he
           have S2 := S.below bb
           have hX : Own w2 wr.heap.size (.slice X xn xc) x := oX
           have b3 : Below w2.heap.size w2 (w2.alloc (.cells #[.int .i64 (i : Int), .int .i64 (k : Int), .slice X xn xc] 70)) := (Below.refl _ _).alloc (Nat.le_refl _) _
           have oS := OwnL.single (e := 70) (s := sStep) (Row.new w2 70 #[.int .i64 (i : Int), .int .i64 (k : Int), .slice X xn xc]) ((owned_step hX (i : Int) (k : Int)).next b3) (Nat.le_refl _) bb.size
           have oL := (S.o.next bb).next b3
           have z1 : w.heap.size + 1 ≤ wr.heap.size := S.r.lt
           have z2 := bb.size
           have HAPP := Lib.hid (show OwnL (w2.alloc (.cells #[.int .i64 (i : Int), .int .i64 (k : Int), .slice X xn xc] 70)) (w.heap.size + 1) wr.heap.size 70 sStep O on oc (stN d.1 d.2 t i k) ∧ OwnL (w2.alloc (.cells #[.int .i64 (i : Int), .int .i64 (k : Int), .slice X xn xc] 70)) wr.heap.size (w2.heap.size + 1) 70 sStep (some ⟨w2.heap.size, 0, none⟩) 1 1 [((i : Int), (k : Int), x)] from ⟨oL, oS⟩)
           have HR2 := Lib.hid (S2.below b3)
           clear S S2 oX hX bb oS oL b3 LS K0 K1
           go_wp2_with (at_builtin; refine appLm rfl _ _ 39 70 sStep _ _ Tryz.underlying39 info_StepS rfl (by decide) rfl (w.heap.size + 1) wr.heap.size wr.heap.size (w2.heap.size + 1) O on oc w2.heap.size 1 1 _ _ rfl HAPP.out.1 rfl HAPP.out.2 (Nat.le_refl _) z1 (by omega) (by omega) (by simp; omega) ?_; intro O' oc' w4 oL4 hg4 hat4 b4 hf4)
           have F := Lib.hid (show Sn w A V n cs q cv (stN d.1 d.2 t i (k + 1)) O' (on + 1) oc' w4 from ⟨HR2.out.r.below b4 (by omega), by rw [st_some HO.out]; exact oL4, HR2.out.b.trans (b4.mono (by omega))⟩)
           clear oL4 hg4 hat4 b4 hf4 HAPP HR2
           go_wp2
           go_roundg (gk - 1)
           case measure => have := HK.out; omega
           case rel => exact ⟨k + 1, on + 1, oc', O', by simp, by have := HK.out; omega, rfl, F.out⟩
       · have e1 : k = q := by omega
         subst e1
         have S2 : Sn w A V n cs k cv (stN d.1 d.2 t (i + 1) 0) O on oc wr := by rw [← st_row, HQ.out]; exact S
         have F := Lib.hid S2
         clear S S2
         go_wp2
         go_roundg (G - 1)
         case measure => have := HI.out; omega
         case rel => exact ⟨i + 1, on, oc, O, by simp, by have := HI.out; omega, rfl, F.out⟩
   · have e1 : i = m := by omega
     subst e1
     have F : AnsSteps w (stepsL d.1 d.2 t) (.returned (.slice O on oc)) wr := ⟨O, on, oc, rfl, by rw [← st_all, HTL.out]; exact S.o.wider (by omega) (Nat.le_refl _), S.b⟩
     have HF := Lib.hid F
     clear F S
     go_wp2
     go_ret
     exact HF.out
end stepSpec
end
section
namespace findSpec
open Go.RowKit base ints sig term termOk marks app sub varsOf appAt sym segs segsHelp kinds same shifted shape kindsR kindsW ruleMath ruleSpec stepMath stepSpec ownL drawX walkMath reachMath findW
set_option maxRecDepth 100000
theorem rd_term {w wr : World} {B : Nat} {A : Option Addr} {n c : Nat} {D : List (List Int)} {k : Nat} (h : Rd w B sTs [.slice A n c] D) (hb : Below B w wr) (hk : k < n) : ∃ b off T m tc, A = some ⟨b, off, none⟩ ∧ b < B ∧ wr.cell? ⟨b, off + k, none⟩ = some (.slice T m tc) ∧ Seg wr B T m (D.getD k []) ∧ Cap T m tc := by
 obtain ⟨A', n', c', e, hc, hl, h1⟩ := h
 injection e with e
 injection e with e1 e2 e3
 subst e1 e2 e3
 obtain ⟨b, off, e2, hb2, h2⟩ := h1 (by omega)
 obtain ⟨es, he, hp, hr⟩ := h2 k hk
 obtain ⟨v, rfl⟩ : ∃ v, es = [v] := List.length_eq_one_iff.1 he
 obtain ⟨T, m, tc, rfl, hT, hcT⟩ := rd_ints.1 hr
 refine ⟨b, off, T, m, tc, e2, hb2, ?_, hT.below hb, hcT⟩
 have := hp 0 (by simp)
 rw [hb.cell (p := ⟨b, off + k, none⟩) hb2]
 simpa [nc] using this
theorem rd_ts {w : World} {B : Nat} {A : Option Addr} {n c : Nat} {D : List (List Int)} (h : Rd w B sTs [.slice A n c] D) : D.length = n := by
 obtain ⟨A', n', c', e, hc, hl, h1⟩ := h
 injection e with e
 injection e with e1 e2 e3
 omega
def plcI (o : Option Nat) : Int := match o with
 | some i => (i : Int)
 | none => -1
def plcO (D : List (List Int)) (u : List Int) : Option Nat := D.findIdx? fun x => decide (x = u)
theorem plc_at {D : List (List Int)} {u : List Int} {i : Nat} (hi : i < D.length) (h : ∀ j, j < i → D.getD j [] ≠ u) (e : D.getD i [] = u) : plcO D u = some i := by
 unfold plcO
 rw [List.findIdx?_eq_some_iff_getElem]
 refine ⟨hi, by simpa [List.getD, hi] using e, fun j hj => ?_⟩
 have := h j hj
 simpa [List.getD, show j < D.length by omega] using this
theorem plc_none {D : List (List Int)} {u : List Int} (h : ∀ j, j < D.length → D.getD j [] ≠ u) : plcO D u = none := by
 unfold plcO
 rw [List.findIdx?_eq_none_iff]
 intro x hx
 obtain ⟨j, hj, rfl⟩ := List.getElem_of_mem hx
 have := h j hj
 simpa [List.getD, hj] using this
theorem plc_mem {D : List (List Int)} {u : List Int} : (plcO D u).isSome = true ↔ u ∈ D := by
 unfold plcO
 rw [List.findIdx?_isSome, List.any_eq_true]
 constructor
 · rintro ⟨x, hx, e⟩
   rw [← of_decide_eq_true e]; exact hx
 · intro h
   exact ⟨u, h, by simp⟩
theorem plc_ge {D : List (List Int)} {u : List Int} : 0 ≤ plcI (plcO D u) ↔ u ∈ D := by
 rw [← plc_mem]
 cases plcO D u with
 | none => simp [plcI]
 | some i => simp [plcI]
def AnsPlc (w : World) (D : List (List Int)) (u : List Int) (e : Ending) (w' : World) : Prop := e = .returned (.int .i64 (plcI (plcO D u))) ∧ Below w.heap.size w w'
set_option maxHeartbeats 2000000 in
theorem termPlace (A U : Option Addr) (n c m uc : Nat) (D : List (List Int)) (u : List Int) (w : World) (h : Rd w w.heap.size sTs [.slice A n c] D) (hu : Seg w w.heap.size U m u) (hn : n ≤ 1048576) (hm : m ≤ 1048576) (hD : ∀ k, (D.getD k []).length ≤ 1048576) :
   Calls Tryz.prog 60 #[.slice A n c, .slice U m uc] w (AnsPlc w D u) := by
 have HL := Lib.hid (rd_ts h)
 have H := Lib.hid h
 have HU := Lib.hid hu
 clear h hu
 go_enter Tryz.func60, Tryz.ntmps60
 go_wp2_with fail
 go_loopg [5] n (fun g i_ wr => ∃ i : Nat, i_ = .int .i64 i ∧ i + g = n ∧ (∀ j, j < i → D.getD j [] ≠ u) ∧ Below w.heap.size w wr)
 case atStart => exact ⟨0, rfl, by omega, fun j hj => absurd hj (Nat.not_lt_zero _), Below.refl _ _⟩
 case round =>
   obtain ⟨i, rfl, hg, hne, bel⟩ := hrel
   by_cases hi : i < n
   · obtain ⟨b, off, T, tn, tc, rfl, hb, cT, sT, hcT⟩ := rd_term H.out bel hi
     have htn : tn ≤ 1048576 := by rw [← sT.1]; exact hD i
     have LS := Lib.hid (specSame T U tn m tc uc (D.getD i []) u wr (sT.more bel.size) (HU.out.next bel) htn hm)
     have HG := Lib.hid hg
     have HN := Lib.hid hne
     have BEL := Lib.hid bel
     have i0 : (0 : Int) ≤ (i : Int) := by omega
     have i1 : (i : Int) < (n : Int) := by omega
     clear hg hne bel sT hcT
     by_cases he : D.getD i [] = u
     · have HE := Lib.hid he
       clear he
       go_wp2_with fail
       refine LS.out.mono ?_
       rintro e w1 ⟨rfl, dd, rfl⟩
       rw [decide_eq_true HE.out]
       have F := Lib.hid (show AnsPlc w D u (.returned (.int .i64 (i : Int))) (wr.drewN dd) from ⟨by rw [plc_at (by rw [HL.out]; exact hi) HN.out HE.out]; rfl, below_drewN BEL.out dd⟩)
       clear LS
       go_wp2
       go_ret
       exact F.out
     · have HE := Lib.hid he
       clear he
       go_wp2_with fail
       refine LS.out.mono ?_
       rintro e w1 ⟨rfl, dd, rfl⟩
       rw [decide_eq_false HE.out]
       have F := Lib.hid (show (∀ j, j < i + 1 → D.getD j [] ≠ u) ∧ Below w.heap.size w (wr.drewN dd) from ⟨fun j hj => by
         by_cases e : j = i
         · rw [e]; exact HE.out
         · exact HN.out j (by omega), below_drewN BEL.out dd⟩)
       clear LS
       go_wp2
       go_roundg (gk - 1)
       case measure => have := HG.out; omega
       case rel => exact ⟨i + 1, by simp, by have := HG.out; omega, F.out.1, F.out.2⟩
   · have F := Lib.hid (show AnsPlc w D u (.returned (.int .i64 (-1))) wr from ⟨by rw [plc_none fun j hj => hne j (by rw [HL.out] at hj; omega)]; rfl, bel⟩)
     have hi2 : ¬ (i : Int) < (n : Int) := by omega
     clear hne bel
     go_wp2
     go_ret
     exact F.out
theorem steps_in {x : Int} (h : 0 ≤ x ∧ x ≤ 20) : stepsB x = true := decide_eq_true h
theorem steps_out {x : Int} (h : ¬ (0 ≤ x ∧ x ≤ 20)) : stepsB x = false := decide_eq_false h
set_option maxHeartbeats 2000000 in
theorem l9Right (a v : Value) (d : Dat sSystem) (T : Option Addr) (m c : Nat) (t : List Int) (x : Int) (w : World) (h : Rd w w.heap.size sSystem [a, v] d) (hz : sz sSystem d ≤ 1048576) (ht : Seg w w.heap.size T m t) (hm : m ≤ 1048576) :
   Calls Tryz.prog 30 #[.agg #[a, v], .slice T m c, .int .i64 x] w (AnsB w (right9 d.1 d.2 t x)) := by
 obtain ⟨W, hW, rA, bel⟩ := box1 w 29 #[a, v]
 have HW := Lib.hid hW
 have L1 := Lib.hid (l7Right a v d T m c t W (h.next bel) hz (ht.next bel) hm)
 clear hW h hz ht
 cases ok : rightB d.1 d.2 t with
 | false =>
   have HR := Lib.hid ok
   clear ok
   go_enter Tryz.func30, Tryz.ntmps30
   go_wp2_with fail
   rw [← HW.out]
   refine L1.out.mono ?_
   rintro e w1 ⟨he, bb⟩
   rw [HR.out] at he
   subst he
   have F := Lib.hid (ansB (b := right9 d.1 d.2 t x) (a := false) (by unfold right9; rw [HR.out]; rfl) (next_trans bel bb))
   clear bb bel rA
   go_wp2
   go_ret
   exact F.out
 | true =>
   have HR := Lib.hid ok
   clear ok
   by_cases hx : 0 ≤ x ∧ x ≤ 20
   · have LI := Lib.hid (fun W => inYes x 0 20 W hx)
     have HX := Lib.hid (steps_in hx)
     clear hx
     go_enter Tryz.func30, Tryz.ntmps30
     go_wp2_with fail
     rw [← HW.out]
     refine L1.out.mono ?_
     rintro e w1 ⟨he, bb⟩
     rw [HR.out] at he
     subst he
     have F := Lib.hid (ansB (b := right9 d.1 d.2 t x) (a := true) (by unfold right9; rw [HR.out, HX.out]; rfl) (next_trans bel bb))
     clear bb bel rA
     go_wp2_with fail
     refine (LI.out w1).mono ?_
     rintro e w2 ⟨rfl, rfl⟩
     go_wp2
     go_ret
     exact F.out
   · have LI := Lib.hid (fun W => inNo x 0 20 W hx)
     have HX := Lib.hid (steps_out hx)
     clear hx
     go_enter Tryz.func30, Tryz.ntmps30
     go_wp2_with fail
     rw [← HW.out]
     refine L1.out.mono ?_
     rintro e w1 ⟨he, bb⟩
     rw [HR.out] at he
     subst he
     have F := Lib.hid (ansB (b := right9 d.1 d.2 t x) (a := false) (by unfold right9; rw [HR.out, HX.out]; rfl) (next_trans bel bb))
     clear bb bel rA
     go_wp2_with fail
     refine (LI.out w1).mono ?_
     rintro e w2 ⟨rfl, rfl⟩
     go_wp2
     go_ret
     exact F.out
end findSpec
end
section
namespace findSpec
open Go.RowKit base ints sig term termOk termFacts marks app sub varsOf appAt sym segs segsHelp kinds same shifted shape kindsR kindsW ruleMath ruleSpec stepMath stepSpec ownL drawX walkMath stepsMath reachMath findW heldT
set_option maxRecDepth 100000
theorem keep_alloc {w : World} {a : Addr} {v : Value} {o : Obj} (h : w.cell? a = some v) : (w.alloc o).cell? a = some v := (World.cell?_alloc_some w a o (by rw [h]; rfl)).trans h
def fromD (L : List Fi) : List Int := -1 :: (L.drop 1).map fun f => (f.2.1 : Int)
def byD (L : List Fi) : List St := (0, 0, []) :: (L.drop 1).map fun f => f.1
def deepD (L : List Fi) : List Int := L.map fun f => (f.2.2 : Int)
def fdD (S : Fs) : Dat sFound := (termsF S.1, fromD S.1, byD S.1, deepD S.1, S.2)
section
variable {w : World} {bad : Nat → Prop} {lo g n c k : Nat} {e : TypeId}
theorem drop_snoc {α : Type} {L : List α} {f : α} (h : 1 ≤ L.length) : (L ++ [f]).drop 1 = L.drop 1 ++ [f] := List.drop_append_of_le_length h
theorem fromD_app {L : List Fi} {f : Fi} (h : 1 ≤ L.length) : fromD (L ++ [f]) = fromD L ++ [(f.2.1 : Int)] := by unfold fromD; rw [drop_snoc h, List.map_append]; rfl
theorem byD_app {L : List Fi} {f : Fi} (h : 1 ≤ L.length) : byD (L ++ [f]) = byD L ++ [f.1] := by unfold byD; rw [drop_snoc h, List.map_append]; rfl
theorem deepD_app {L : List Fi} {f : Fi} : deepD (L ++ [f]) = deepD L ++ [(f.2.2 : Int)] := by unfold deepD; rw [List.map_append]; rfl
theorem termsF_app {L : List Fi} {f : Fi} : termsF (L ++ [f]) = termsF L ++ [termF f] := by unfold termsF; rw [List.map_append]; rfl
theorem deep_get {L : List Fi} {f : Fi} (h : L[k]? = some f) : (deepD L).getD k 0 = (f.2.2 : Int) := by unfold deepD; simp [List.getD, h]
theorem term_get {L : List Fi} {f : Fi} (h : L[k]? = some f) : (termsF L).getD k [] = termF f := by unfold termsF; simp [List.getD, h]
theorem XS.num {D : List Int} (h : XS w bad lo e .num g n c D) (hk : k < n) : w.cell? ⟨g, k, none⟩ = some (.int .i64 (D.getD k 0)) := by
 have h1 := h.rd (e0 := 2)
 obtain ⟨A, n', c', e1, hS, -⟩ := rd_ints.1 h1
 injection e1 with a1 a2 a3
 subst a1 a2
 obtain ⟨b, off, e2, -, hc⟩ := Seg.round hS hk
 injection e2 with e2
 injection e2 with q1 q2
 subst q1 q2
 simpa using hc
theorem XS.spot {s : Sh} {D : List (Dat s)} (h : XS w bad lo e s g n c D) (hk : k < n) : ∃ es, es.length = nc s ∧ RdQ w (NotIn w bad) s es (D.getD k (dft s)) ∧ ∀ i, i < nc s → w.cell? ⟨g, k * nc s + i, none⟩ = es[i]? := by
 obtain ⟨h1, vs, ho, h3⟩ := h
 refine ⟨_, (h3 k hk).len, h3 k hk, fun i hi => ?_⟩
 rcases ho.2 with ⟨e1, h0⟩ | ⟨g', cap, cur, e1, hg, hrow, hn, hm, hs, ht⟩
 · injection e1 with a1 a2 a3
   cases a1
 · injection e1 with a1 a2 a3
   injection a1 with a1
   injection a1 with a1
   subst a1 a3
   have hjn : k * nc s + nc s ≤ n * nc s := by
     have := Nat.mul_le_mul_right (nc s) (show k + 1 ≤ n by omega)
     rw [Nat.add_mul] at this
     omega
   rw [Row.cell (t := e) (cs := cur) hrow]
   have h5 : cur.toList[k * nc s + i]? = vs[k * nc s + i]? := by
     rw [← ht, List.getElem?_take, if_pos (by omega)]
   rw [← Array.getElem?_toList, h5]
   unfold cellsOf
   rw [List.getElem?_take, if_pos hi, List.getElem?_drop]
theorem rdq_seg0 {Q : Nat → Prop} {T : Option Addr} {m tc B : Nat} {x : List Int} (h : RdQ w Q sI [.slice T m tc] x) (hQ : ∀ b, Q b → b < B) : Seg w B T m x ∧ Cap T m tc := by
 obtain ⟨T', m', tc', e, hS, hc⟩ := rd_ints.1 (h.rd hQ)
 injection e with a1 a2 a3
 subst a1 a2 a3
 exact ⟨hS, hc⟩
theorem XS.term {D : List (List Int)} (h : XS w bad lo e sI g n c D) (hk : k < n) : ∃ T m tc, w.cell? ⟨g, k, none⟩ = some (.slice T m tc) ∧ Seg w w.heap.size T m (D.getD k []) ∧ Cap T m tc := by
 obtain ⟨es, he, hr, hc⟩ := XS.spot h hk
 obtain ⟨v, rfl⟩ : ∃ v, es = [v] := List.length_eq_one_iff.1 he
 have hr2 := notIn_rd hr
 obtain ⟨T, m, tc, rfl, hT, hcT⟩ := rd_ints.1 hr2
 have := hc 0 (by decide)
 exact ⟨T, m, tc, by simpa [nc] using this, hT, hcT⟩
theorem rdq_step {A : Option Addr} {L : List St} (h : RdQ w (NotIn w bad) sStepS [.slice A n c] L) (hk : k < n) : ∃ b off U un uc, A = some ⟨b, off, none⟩ ∧ NotIn w bad b ∧ w.cell? ⟨b, off + k * 3, none⟩ = some (.int .i64 (L.getD k (0, 0, [])).1) ∧ w.cell? ⟨b, off + k * 3 + 1, none⟩ = some (.int .i64 (L.getD k (0, 0, [])).2.1) ∧ w.cell? ⟨b, off + k * 3 + 2, none⟩ = some (.slice U un uc) ∧
   RdQ w (NotIn w bad) sI [.slice U un uc] (L.getD k (0, 0, [])).2.2 ∧ RdQ w (NotIn w bad) sStep [.int .i64 (L.getD k (0, 0, [])).1, .int .i64 (L.getD k (0, 0, [])).2.1, .slice U un uc] (L.getD k (0, 0, [])) := by
 obtain ⟨A', n', c', e, hc, hl, h1⟩ := h
 injection e with e
 injection e with e1 e2 e3
 subst e1 e2 e3
 obtain ⟨b, off, e2, hb, h2⟩ := h1 (by omega)
 obtain ⟨es, he, hp, hr⟩ := h2 k hk
 have hr : RdQ w (NotIn w bad) sStep es (L.getD k (0, 0, [])) := hr
 have hr0 := hr
 obtain ⟨v0, rfl⟩ := cells_Step (notIn_rd hr)
 obtain ⟨ca, cb, e3, h3, h4⟩ := hr
 obtain ⟨cb1, cb2, e4, h5, h6⟩ := h4
 have h3 : ca = [_] := h3
 have h5 : cb1 = [_] := h5
 subst h3 h5
 have e5 : cb2 = [v0] := by
   rw [e4] at e3
   simp at e3
   exact e3.symm
 subst e5
 have h6' := h6
 obtain ⟨U, un, uc, e6, -⟩ := h6'
 injection e6 with e6
 subst e6
 refine ⟨b, off, U, un, uc, e2, hb, ?_, ?_, ?_, h6, hr0⟩
 · have := hp 0 (by simp); simpa [nc] using this
 · have := hp 1 (by simp); simpa [nc] using this
 · have := hp 2 (by simp); simpa [nc] using this
end
structure SF (w : World) (a v : Value) (B g1 n1 c1 g2 n2 c2 g3 n3 c3 g4 n4 c4 : Nat) (D1 : List (List Int)) (D2 : List Int) (D3 : List St) (D4 : List Int) (wr : World) : Prop where
 fo : Fo wr (w.heap.size + 1 + 1) B g1 n1 c1 g2 n2 c2 g3 n3 c3 g4 n4 c4 D1 D2 D3 D4 true
 sys : Row wr w.heap.size 29 #[a, v]
 res : Row wr (w.heap.size + 1) 74 #[.slice none 0 0, .slice none 0 0, .slice none 0 0, .slice none 0 0, .bool false]
 far : w.heap.size + 1 < B
 bel : Below w.heap.size w wr
section
variable {w wr w' : World} {a v : Value} {B g1 n1 c1 g2 n2 c2 g3 n3 c3 g4 n4 c4 g' c' : Nat} {D1 : List (List Int)} {D2 : List Int} {D3 : List St} {D4 : List Int}
theorem SF.below (h : SF w a v B g1 n1 c1 g2 n2 c2 g3 n3 c3 g4 n4 c4 D1 D2 D3 D4 wr) (hb : Below wr.heap.size wr w') : SF w a v B g1 n1 c1 g2 n2 c2 g3 n3 c3 g4 n4 c4 D1 D2 D3 D4 w' := ⟨h.fo.below hb, h.sys.next hb, h.res.next hb, h.far, next_trans h.bel hb⟩
theorem SF.drew (h : SF w a v B g1 n1 c1 g2 n2 c2 g3 n3 c3 g4 n4 c4 D1 D2 D3 D4 wr) : SF w a v B g1 n1 c1 g2 n2 c2 g3 n3 c3 g4 n4 c4 D1 D2 D3 D4 wr.drew := h.below (drew_below wr)
theorem rdq_app {bad bad' : Nat → Prop} {g i : Nat} {u : Value} (hg : wr.grownBy w' (some g)) (hb : bad g) (hm : ∀ b, b < wr.heap.size → bad' b → bad b) (hB : bad' B) {s : Sh} {cs : List Value} {d : Dat s} (hL : RdQ wr (NotIn wr bad) s cs d) : RdQ (w'.setCell ⟨B, i, none⟩ u) (NotIn (w'.setCell ⟨B, i, none⟩ u) bad') s cs d :=
 notIn_kept (notIn_kept hL hg (fun k e => by injection e with e; rw [← e]; exact hb) hm) (grown_set w' B i u) (fun k e => by injection e with e; rw [← e]; exact hB) (fun _ _ q => q)
theorem SF.app1 (h : SF w a v B g1 n1 c1 g2 n2 c2 g3 n3 c3 g4 n4 c4 D1 D2 D3 D4 wr) {x : List Int} (hx : ∀ bad' : Nat → Prop, (∀ b, b < wr.heap.size → bad' b → bad5 (w.heap.size + 1 + 1) B g1 g2 g3 g4 b) → XS w' bad' (w.heap.size + 1 + 1) 24 sI g' (n1 + 1) c' (D1 ++ [x])) (hg : wr.grownBy w' (some g1)) (hat : g' = g1 ∨ g' = wr.heap.size) (hb : Below (w.heap.size + 1 + 1) wr w') :
   SF w a v B g' (n1 + 1) c' g2 n2 c2 g3 n3 c3 g4 n4 c4 (D1 ++ [x]) D2 D3 D4 (w'.setCell ⟨B, 0, none⟩ (.slice (some ⟨g', 0, none⟩) (n1 + 1) c')) ∧ ∀ {s : Sh} {cs : List Value} {d : Dat s}, RdQ wr (NotIn wr (bad5 (w.heap.size + 1 + 1) B g1 g2 g3 g4)) s cs d → RdQ (w'.setCell ⟨B, 0, none⟩ (.slice (some ⟨g', 0, none⟩) (n1 + 1) c')) (NotIn (w'.setCell ⟨B, 0, none⟩ (.slice (some ⟨g', 0, none⟩) (n1 + 1) c')) (bad5 (w.heap.size + 1 + 1) B g' g2 g3 g4)) s cs d := by
 have l0 := h.fo.row.lt
 have l1 := h.fo.x1.ge
 have l2 := h.far
 have l3 := hb.size
 refine ⟨⟨h.fo.app1 hx hg hat, Row.far (h.sys.below hb (by omega)) (by show _ ≠ B; omega) _, Row.far (h.res.below hb (by omega)) (by show _ ≠ B; omega) _, h.far, (h.bel.trans (hb.mono (by omega))).setCell (by show _ ≤ B; omega) _⟩, fun hL => rdq_app hg (by unfold bad5; omega) (fun b hb q => by unfold bad5 at q ⊢; omega) (by unfold bad5; omega) hL⟩
theorem SF.app2 (h : SF w a v B g1 n1 c1 g2 n2 c2 g3 n3 c3 g4 n4 c4 D1 D2 D3 D4 wr) {x : Int} (hx : ∀ bad' : Nat → Prop, (∀ b, b < wr.heap.size → bad' b → bad5 (w.heap.size + 1 + 1) B g1 g2 g3 g4 b) → XS w' bad' (w.heap.size + 1 + 1) 2 .num g' (n2 + 1) c' (D2 ++ [x])) (hg : wr.grownBy w' (some g2)) (hat : g' = g2 ∨ g' = wr.heap.size) (hb : Below (w.heap.size + 1 + 1) wr w') :
   SF w a v B g1 n1 c1 g' (n2 + 1) c' g3 n3 c3 g4 n4 c4 D1 (D2 ++ [x]) D3 D4 (w'.setCell ⟨B, 1, none⟩ (.slice (some ⟨g', 0, none⟩) (n2 + 1) c')) ∧ ∀ {s : Sh} {cs : List Value} {d : Dat s}, RdQ wr (NotIn wr (bad5 (w.heap.size + 1 + 1) B g1 g2 g3 g4)) s cs d → RdQ (w'.setCell ⟨B, 1, none⟩ (.slice (some ⟨g', 0, none⟩) (n2 + 1) c')) (NotIn (w'.setCell ⟨B, 1, none⟩ (.slice (some ⟨g', 0, none⟩) (n2 + 1) c')) (bad5 (w.heap.size + 1 + 1) B g1 g' g3 g4)) s cs d := by
 have l0 := h.fo.row.lt
 have l1 := h.fo.x2.ge
 have l2 := h.far
 have l3 := hb.size
 refine ⟨⟨h.fo.app2 hx hg hat, Row.far (h.sys.below hb (by omega)) (by show _ ≠ B; omega) _, Row.far (h.res.below hb (by omega)) (by show _ ≠ B; omega) _, h.far, (h.bel.trans (hb.mono (by omega))).setCell (by show _ ≤ B; omega) _⟩, fun hL => rdq_app hg (by unfold bad5; omega) (fun b hb q => by unfold bad5 at q ⊢; omega) (by unfold bad5; omega) hL⟩
theorem SF.app3 (h : SF w a v B g1 n1 c1 g2 n2 c2 g3 n3 c3 g4 n4 c4 D1 D2 D3 D4 wr) {x : St} (hx : ∀ bad' : Nat → Prop, (∀ b, b < wr.heap.size → bad' b → bad5 (w.heap.size + 1 + 1) B g1 g2 g3 g4 b) → XS w' bad' (w.heap.size + 1 + 1) 70 sStep g' (n3 + 1) c' (D3 ++ [x])) (hg : wr.grownBy w' (some g3)) (hat : g' = g3 ∨ g' = wr.heap.size) (hb : Below (w.heap.size + 1 + 1) wr w') :
   SF w a v B g1 n1 c1 g2 n2 c2 g' (n3 + 1) c' g4 n4 c4 D1 D2 (D3 ++ [x]) D4 (w'.setCell ⟨B, 2, none⟩ (.slice (some ⟨g', 0, none⟩) (n3 + 1) c')) ∧ ∀ {s : Sh} {cs : List Value} {d : Dat s}, RdQ wr (NotIn wr (bad5 (w.heap.size + 1 + 1) B g1 g2 g3 g4)) s cs d → RdQ (w'.setCell ⟨B, 2, none⟩ (.slice (some ⟨g', 0, none⟩) (n3 + 1) c')) (NotIn (w'.setCell ⟨B, 2, none⟩ (.slice (some ⟨g', 0, none⟩) (n3 + 1) c')) (bad5 (w.heap.size + 1 + 1) B g1 g2 g' g4)) s cs d := by
 have l0 := h.fo.row.lt
 have l1 := h.fo.x3.ge
 have l2 := h.far
 have l3 := hb.size
 refine ⟨⟨h.fo.app3 hx hg hat, Row.far (h.sys.below hb (by omega)) (by show _ ≠ B; omega) _, Row.far (h.res.below hb (by omega)) (by show _ ≠ B; omega) _, h.far, (h.bel.trans (hb.mono (by omega))).setCell (by show _ ≤ B; omega) _⟩, fun hL => rdq_app hg (by unfold bad5; omega) (fun b hb q => by unfold bad5 at q ⊢; omega) (by unfold bad5; omega) hL⟩
theorem SF.app4 (h : SF w a v B g1 n1 c1 g2 n2 c2 g3 n3 c3 g4 n4 c4 D1 D2 D3 D4 wr) {x : Int} (hx : ∀ bad' : Nat → Prop, (∀ b, b < wr.heap.size → bad' b → bad5 (w.heap.size + 1 + 1) B g1 g2 g3 g4 b) → XS w' bad' (w.heap.size + 1 + 1) 2 .num g' (n4 + 1) c' (D4 ++ [x])) (hg : wr.grownBy w' (some g4)) (hat : g' = g4 ∨ g' = wr.heap.size) (hb : Below (w.heap.size + 1 + 1) wr w') :
   SF w a v B g1 n1 c1 g2 n2 c2 g3 n3 c3 g' (n4 + 1) c' D1 D2 D3 (D4 ++ [x]) (w'.setCell ⟨B, 3, none⟩ (.slice (some ⟨g', 0, none⟩) (n4 + 1) c')) ∧ ∀ {s : Sh} {cs : List Value} {d : Dat s}, RdQ wr (NotIn wr (bad5 (w.heap.size + 1 + 1) B g1 g2 g3 g4)) s cs d → RdQ (w'.setCell ⟨B, 3, none⟩ (.slice (some ⟨g', 0, none⟩) (n4 + 1) c')) (NotIn (w'.setCell ⟨B, 3, none⟩ (.slice (some ⟨g', 0, none⟩) (n4 + 1) c')) (bad5 (w.heap.size + 1 + 1) B g1 g2 g3 g')) s cs d := by
 have l0 := h.fo.row.lt
 have l1 := h.fo.x4.ge
 have l2 := h.far
 have l3 := hb.size
 refine ⟨⟨h.fo.app4 hx hg hat, Row.far (h.sys.below hb (by omega)) (by show _ ≠ B; omega) _, Row.far (h.res.below hb (by omega)) (by show _ ≠ B; omega) _, h.far, (h.bel.trans (hb.mono (by omega))).setCell (by show _ ≤ B; omega) _⟩, fun hL => rdq_app hg (by unfold bad5; omega) (fun b hb q => by unfold bad5 at q ⊢; omega) (by unfold bad5; omega) hL⟩
theorem fo_start {w w1 : World} {a v : Value} {t : List Int} {X : Option Addr} {xn xc : Nat} (sys : Row w1 w.heap.size 29 #[a, v]) (res : Row w1 (w.heap.size + 1) 74 #[.slice none 0 0, .slice none 0 0, .slice none 0 0, .slice none 0 0, .bool false]) (hs : w.heap.size + 1 + 1 ≤ w1.heap.size) (bel : Below w.heap.size w w1)
   (oX : Own w1 (w.heap.size + 1 + 1) (.slice X xn xc) t) :
   SF w a v (w1.heap.size + 1 + 1 + 1 + 1) w1.heap.size 1 1 (w1.heap.size + 1) 1 1 (w1.heap.size + 1 + 1) 1 1 (w1.heap.size + 1 + 1 + 1) 1 1 (termsF [startF t]) (fromD [startF t]) (byD [startF t]) (deepD [startF t])
     (((((w1.alloc (.cells #[.slice X xn xc] 24)).alloc (.cells #[.int .i64 (-1)] 2)).alloc (.cells #[.int .i64 0, .int .i64 0, .slice none 0 0] 70)).alloc (.cells #[.int .i64 0] 2)).alloc
       (.cells #[.slice (some ⟨w1.heap.size, 0, none⟩) 1 1, .slice (some ⟨w1.heap.size + 1, 0, none⟩) 1 1, .slice (some ⟨w1.heap.size + 1 + 1, 0, none⟩) 1 1, .slice (some ⟨w1.heap.size + 1 + 1 + 1, 0, none⟩) 1 1, .bool true] 74)) := by
 obtain ⟨V1, e1⟩ : ∃ V, V = w1.alloc (.cells #[.slice X xn xc] 24) := ⟨_, rfl⟩
 obtain ⟨V2, e2⟩ : ∃ V, V = V1.alloc (.cells #[.int .i64 (-1)] 2) := ⟨_, rfl⟩
 obtain ⟨V3, e3⟩ : ∃ V, V = V2.alloc (.cells #[.int .i64 0, .int .i64 0, .slice none 0 0] 70) := ⟨_, rfl⟩
 obtain ⟨V4, e4⟩ : ∃ V, V = V3.alloc (.cells #[.int .i64 0] 2) := ⟨_, rfl⟩
 obtain ⟨V5, e5⟩ : ∃ V, V = V4.alloc (.cells #[.slice (some ⟨w1.heap.size, 0, none⟩) 1 1, .slice (some ⟨w1.heap.size + 1, 0, none⟩) 1 1, .slice (some ⟨w1.heap.size + 1 + 1, 0, none⟩) 1 1, .slice (some ⟨w1.heap.size + 1 + 1 + 1, 0, none⟩) 1 1, .bool true] 74) := ⟨_, rfl⟩
 have s1 : V1.heap.size = w1.heap.size + 1 := by rw [e1]; simp
 have s2 : V2.heap.size = w1.heap.size + 1 + 1 := by rw [e2]; simp [s1]
 have s3 : V3.heap.size = w1.heap.size + 1 + 1 + 1 := by rw [e3]; simp [s2]
 have s4 : V4.heap.size = w1.heap.size + 1 + 1 + 1 + 1 := by rw [e4]; simp [s3]
 have s5 : V5.heap.size = w1.heap.size + 1 + 1 + 1 + 1 + 1 := by rw [e5]; simp [s4]
 have r1 : Row V1 w1.heap.size 24 #[.slice X xn xc] := by rw [e1]; exact Row.new _ _ _
 have r2 : Row V2 (w1.heap.size + 1) 2 #[.int .i64 (-1)] := by have := Row.new V1 2 #[.int .i64 (-1)]; rw [← e2, s1] at this; exact this
 have r3 : Row V3 (w1.heap.size + 1 + 1) 70 #[.int .i64 0, .int .i64 0, .slice none 0 0] := by have := Row.new V2 70 #[.int .i64 0, .int .i64 0, .slice none 0 0]; rw [← e3, s2] at this; exact this
 have r4 : Row V4 (w1.heap.size + 1 + 1 + 1) 2 #[.int .i64 0] := by have := Row.new V3 2 #[.int .i64 0]; rw [← e4, s3] at this; exact this
 have r5 : Row V5 (w1.heap.size + 1 + 1 + 1 + 1) 74 #[.slice (some ⟨w1.heap.size, 0, none⟩) 1 1, .slice (some ⟨w1.heap.size + 1, 0, none⟩) 1 1, .slice (some ⟨w1.heap.size + 1 + 1, 0, none⟩) 1 1, .slice (some ⟨w1.heap.size + 1 + 1 + 1, 0, none⟩) 1 1, .bool true] := by rw [e5, ← s4]; exact Row.new _ _ _
 have b1 : Below w1.heap.size w1 V1 := by rw [e1]; exact (Below.refl _ _).alloc (Nat.le_refl _) _
 have b2 : Below V1.heap.size V1 V2 := by rw [e2]; exact (Below.refl _ _).alloc (Nat.le_refl _) _
 have b3 : Below V2.heap.size V2 V3 := by rw [e3]; exact (Below.refl _ _).alloc (Nat.le_refl _) _
 have b4 : Below V3.heap.size V3 V4 := by rw [e4]; exact (Below.refl _ _).alloc (Nat.le_refl _) _
 have b5 : Below V4.heap.size V4 V5 := by rw [e5]; exact (Below.refl _ _).alloc (Nat.le_refl _) _
 have b15 := next_trans b1 (next_trans b2 (next_trans b3 (next_trans b4 b5)))
 rw [← e1, ← e2, ← e3, ← e4, ← e5]
 have nb : ∀ k, w.heap.size + 1 + 1 ≤ k → k < w1.heap.size → ¬ bad5 (w.heap.size + 1 + 1) (w1.heap.size + 1 + 1 + 1 + 1) w1.heap.size (w1.heap.size + 1) (w1.heap.size + 1 + 1) (w1.heap.size + 1 + 1 + 1) k := fun k hl hk q => by unfold bad5 at q; omega
 have hX : RdQ V5 (NotIn V5 (bad5 (w.heap.size + 1 + 1) (w1.heap.size + 1 + 1 + 1 + 1) w1.heap.size (w1.heap.size + 1) (w1.heap.size + 1 + 1) (w1.heap.size + 1 + 1 + 1))) sI [.slice X xn xc] t :=
   (rdq_own (Q := NotIn w1 (bad5 (w.heap.size + 1 + 1) (w1.heap.size + 1 + 1 + 1 + 1) w1.heap.size (w1.heap.size + 1) (w1.heap.size + 1 + 1) (w1.heap.size + 1 + 1 + 1))) oX (fun b hl hb _ => ⟨hb, nb b hl hb⟩)).keep (fun b q => b15.block b q.1) |>.mono fun b q => ⟨Nat.lt_of_lt_of_le q.1 b15.size, q.2⟩
 refine ⟨⟨r5, XS.single ((r1.next (next_trans b2 (next_trans b3 (next_trans b4 b5))))) hX hs, XS.single (s := .num) ((r2.next (next_trans b3 (next_trans b4 b5)))) rfl (by omega), XS.single (s := sStep) ((r3.next (next_trans b4 b5))) ?_ (by omega), XS.single (s := .num) (r4.next b5) rfl (by omega), by omega⟩, sys.next b15, res.next b15, by omega, next_trans bel b15⟩
 exact ⟨[.int .i64 0], [.int .i64 0, .slice none 0 0], rfl, rfl, [.int .i64 0], [.slice none 0 0], rfl, rfl, none, 0, 0, rfl, ⟨Nat.le_refl _, by omega, fun _ => rfl⟩, rfl, fun h => absurd h (by omega)⟩
end
end findSpec
end
section
namespace heldT
section
variable {P : Program} {md : Region.Mode} {ops : Array Oper} {Q : Exit → Act → World → Prop} {S : World → Prop} {late : Nat → Bool}
def reaches (md : Region.Mode) (ops : Array Oper) : Nat → Nat → Nat → Bool
 | 0, _, _ => false
 | k + 1, j, i => ((ops[j]?).map fun o => o.after.any fun e => Region.binds md e && (e.on == i || reaches md ops k e.on i)).getD false
def Closed (md : Region.Mode) (ops : Array Oper) (listed : Array Bool) : Prop := ∀ j o, ops[j]? = some o → listed.getD j false = true → ∀ e ∈ o.after, Region.binds md e = true → listed.getD e.on false = true
def closedB (md : Region.Mode) (ops : Array Oper) (listed : Array Bool) : Bool := (List.range ops.size).all fun j => !listed.getD j false || ((ops[j]?).map fun o => o.after.all fun e => !Region.binds md e || listed.getD e.on false).getD true
theorem lt_of_get {ops : Array Oper} {j : Nat} {o : Oper} (ho : ops[j]? = some o) : j < ops.size := (Array.getElem?_eq_some_iff.1 ho).1
theorem closed_of {listed : Array Bool} (h : closedB md ops listed = true) : Closed md ops listed := by
 intro j o ho hl e he hb
 have h1 := List.all_eq_true.1 h j (List.mem_range.2 (lt_of_get ho))
 rw [hl, ho] at h1
 simp only [Bool.not_true, Bool.false_or, Option.map_some, Option.getD_some, Array.all_eq_true', Bool.or_eq_true, Bool.not_eq_true'] at h1
 rcases h1 e he with h2 | h2
 · rw [hb] at h2; cases h2
 · exact h2
theorem reach_listed {listed : Array Bool} (hc : Closed md ops listed) : ∀ {k j i : Nat} {o : Oper}, ops[j]? = some o → (∀ e ∈ o.after, Region.binds md e = true → listed.getD e.on false = true) → reaches md ops k j i = true → listed.getD i false = true
 | 0, _, _, _, _, _, h => by cases h
 | k + 1, j, i, o, ho, hall, h => by
   rw [reaches, ho] at h
   simp only [Option.map_some, Option.getD_some, Array.any_eq_true', Bool.and_eq_true, Bool.or_eq_true, beq_iff_eq] at h
   obtain ⟨e, he, hb, h⟩ := h
   have hl := hall e he hb
   rcases h with h | h
   · rw [← h]; exact hl
   · cases hq : ops[e.on]? with
     | none =>
       cases k with
       | zero => cases h
       | succ k => rw [reaches, hq] at h; cases h
     | some o2 => exact reach_listed hc hq (hc _ _ hq hl) h
theorem getD_mono {listed : Array Bool} {j k : Nat} (h : listed.getD k false = true) : (listed.setIfInBounds j true).getD k false = true := by
 by_cases e : j = k
 · subst e
   have hj : j < listed.size := by
     rcases Nat.lt_or_ge j listed.size with h' | h'
     · exact h'
     · simp [Array.getElem?_eq_none h'] at h
   simp [hj]
 · rw [getD_set_ne false e]; exact h
theorem closed_set {listed : Array Bool} {j : Nat} {o : Oper} (hc : Closed md ops listed) (ho : ops[j]? = some o) (hall : ∀ e ∈ o.after, Region.binds md e = true → listed.getD e.on false = true) : Closed md ops (listed.setIfInBounds j true) := by
 intro k o' ho' hl e he hb
 by_cases ek : j = k
 · subst ek
   rw [ho] at ho'
   injection ho' with ho'
   subst ho'
   exact getD_mono (hall e he hb)
 · rw [getD_set_ne false ek] at hl
   exact getD_mono (hc k o' ho' hl e he hb)
theorem unlisted {listed : Array Bool} {i : Nat} (h0 : listed.getD i true = false) : listed.getD i false ≠ true := by
 intro h1
 rcases Nat.lt_or_ge i listed.size with h' | h'
 · simp [h'] at h0 h1; rw [h0] at h1; cases h1
 · simp [Array.getElem?_eq_none h'] at h1
theorem AnyT.firstU {i : Nat} {oi : Oper} {v : Value} (hi : ops[i]? = some oi) (hsel : ∀ (j : Nat) (o : Oper) cs b, ops[j]? = some o → o.op ≠ .select cs b) (hQ : ∀ c a w, Q (.panic c) (a.put oi.dst v) w → Q (.panic c) a w) :
   ∀ (fuel : Nat) (listed : Array Bool) (a : Act) (w : World),
     (∀ j oj, ops[j]? = some oj → j ≠ i → listed.getD j true = false → (∀ e ∈ oj.after, Region.binds md e = true → e.on ≠ i) → oi.apart ops oj = true) → (∀ j o, ops[j]? = some o → late j = true → listed.getD j true = false → reaches md ops ops.size j i = true) → Closed md ops listed →
     i ∈ Region.ready md ops listed → YieldsIf P ops S oi v a → S w → AnyT P md ops Q S late fuel (listed.setIfInBounds i true) (a.put oi.dst v) w → AnyT P md ops Q S late (fuel + 1) listed a w := by
 intro fuel
 induction fuel with
 | zero =>
   intro listed a w _ _ _ hr hy hS H
   refine ⟨fun h => (by rw [h] at hr; cases hr), fun j hj => ?_⟩
   rcases Classical.em (j = i) with e | e
   · subst e; exact hy.wpOp hi hS ⟨fun _ h => h, H⟩
   · have := ready_mono hj e
     rw [H.1] at this
     cases this
 | succ fuel ih =>
   intro listed a w hfree hwait hclosed hr hy hS H
   refine ⟨fun h => (by rw [h] at hr; cases hr), fun j hj => ?_⟩
   rcases Classical.em (j = i) with e | hji
   · subst e; exact hy.wpOp hi hS ⟨fun _ h => h, H⟩
   have h1 := H.2 j (ready_mono hj hji)
   obtain ⟨hjun, oj, hoj, hall⟩ := mem_ready.1 hj
   have h0 := (mem_ready.1 hr).1
   have hnot : ∀ e ∈ oj.after, Region.binds md e = true → e.on ≠ i := fun e he hb heq => unlisted h0 (by rw [← heq]; exact hall e he hb)
   have hlj : late j = false := by
     cases e : late j with
     | false => rfl
     | true => exact absurd (reach_listed hclosed hoj hall (hwait j oj hoj e hjun)) (unlisted h0)
   have far : ∀ {k : Nat}, j ≠ k → (listed.setIfInBounds j true).getD k true = false → listed.getD k true = false := fun hjk h => by rwa [getD_set_ne true hjk] at h
   have un : ∀ (k : Nat), (listed.setIfInBounds j true).getD k true = false → listed.getD k true = false := fun k h => by
     rcases Classical.em (k = j) with e | e
     · rw [e]; exact hjun
     · exact far (fun e' => e e'.symm) h
   have h2 := wpOp_putIf hoj (hfree j oj hoj hji hjun hnot) (fun cs b => hsel i oi cs b hi) (fun cs b => hsel j oj cs b hoj) hQ hy h1
   refine wpOp_mono (fun a' w' h3 => ⟨h3.2.1, ih (listed.setIfInBounds j true) a' w' (fun k ok hk hki hun hno => hfree k ok hk hki (un k hun) hno) (fun k o hk hl hu => hwait k o hk hl (un k hu)) (closed_set hclosed hoj hall) (ready_mono hr (Ne.symm hji)) h3.1 (h3.2.1 hlj hS) ?_⟩) h2
   rw [Array.setIfInBounds_comm _ _ hji]
   exact h3.2.2
def waitsU (md : Region.Mode) (ops : Array Oper) (late : Nat → Bool) (listed : Array Bool) (i : Nat) : Bool := (List.range ops.size).all fun j => !late j || listed.getD j true || reaches md ops ops.size j i
theorem AnyT.takeU {i : Nat} {oi : Oper} {v : Value} {fuel : Nat} {listed : Array Bool} {a : Act} {w : World} (hi : ops[i]? = some oi) (hs : Region.noSelect ops = true) (hf : Region.free md ops listed i = true) (hw : waitsU md ops late listed i = true) (hc : closedB md ops listed = true) (hr : (Region.ready md ops listed).contains i = true)
   (hQ : ∀ c a w, Q (.panic c) (a.put oi.dst v) w → Q (.panic c) a w) (hy : YieldsIf P ops S oi v a) (hS : S w) (h : AnyT P md ops Q S late fuel (listed.setIfInBounds i true) (a.put oi.dst v) w) : AnyT P md ops Q S late (fuel + 1) listed a w :=
 AnyT.firstU hi (Region.noSelect_spec hs) hQ fuel listed a w (Region.free_spec hi hf) (fun j o ho hl hu => by
   have h1 := List.all_eq_true.1 hw j (List.mem_range.2 (lt_of_get ho))
   rw [hl, hu] at h1
   simpa using h1) (closed_of hc) (by simpa using hr) hy hS h
end
end heldT
end
end Go.Proofs.YtifckjchmjmhoabGreat
