/-
  MERGED: my texts GenAll, Big, LawT, WFnGeneralised, one behind the other, as they are. By an AI agent.
-/
import Derived.Test.YtgfgaeagbipobaaMFnGeneralised6
import Derived.Deep.QuietTactic
import Derived.BigQuiet
import Derived.Deep.RegionHeld3
namespace Go.Proofs.Ytgfgaeagbipobaa
section
open Go.Lib (hid)
namespace genAll
open Go.RowKit base ints sig cursor marks app sym segs segsHelp kinds term termOk termFacts termMath endAt inside Go.Proofs.Ytgfgaeagbipobaa.look renMath renPure rename renImpl matchMath takeMath matchSpec matchList matchImpl unifMath genMath unifLaw general genImpl
set_option maxRecDepth 100000
def GA (sg : List Int) : List Int → List (List Int) → List Int → Prop
 | o, [], g => g = o
 | o, t :: r, g => ∃ o', IsG sg o t o' ∧ GA sg o' r g
def IsGA (sg : List Int) (ts : List (List Int)) (g : List Int) : Prop :=
 (allB sg ts = true ∧ ∃ t r, ts = t :: r ∧ GA sg (renL t) r g) ∨ ((allB sg ts = false ∨ ts = []) ∧ g = [])
theorem ga_ex (sg : List Int) : ∀ (r : List (List Int)) (o : List Int), ∃ g, GA sg o r g
 | [], o => ⟨o, rfl⟩
 | t :: r, o => by
  obtain ⟨o', h⟩ := isG_ex sg o t
  obtain ⟨g, hg⟩ := ga_ex sg r o'
  exact ⟨g, o', h, hg⟩
theorem isGA_ex (sg : List Int) (ts : List (List Int)) : ∃ g, IsGA sg ts g := by
 cases h : allB sg ts with
 | false => exact ⟨[], .inr ⟨.inl h, rfl⟩⟩
 | true =>
  cases ts with
  | nil => exact ⟨[], .inr ⟨.inr rfl, rfl⟩⟩
  | cons t r =>
   obtain ⟨g, hg⟩ := ga_ex sg r (renL t)
   exact ⟨g, .inl ⟨h, t, r, rfl, hg⟩⟩
theorem isG_nil {sg t g : List Int} (h : IsG sg [] t g) : g = [] := isG_off h (.inl (by
 cases e : termOkB sg [] with
 | false => rfl
 | true => have := (term_len e).1; simp at this))
theorem ga_nil {sg g : List Int} : ∀ {r : List (List Int)}, GA sg [] r g → g = []
 | [], h => h
 | t :: r, h => by
  obtain ⟨o', h1, h2⟩ := h
  rw [isG_nil h1] at h2
  exact ga_nil h2
theorem isG_ok {sg a b g : List Int} (h : IsG sg a b g) : g = [] ∨ termOkB sg g = true := by
 by_cases e : g = []
 ·exact .inl e
 ·exact .inr (isG_facts h e).1
theorem isGA_off {sg : List Int} {ts : List (List Int)} {g : List Int} (h : IsGA sg ts g) (ho : allB sg ts = false ∨ ts.length = 0) : g = [] := by
 rcases h with ⟨h1, t, r, e, _⟩ | ⟨_, e⟩
 ·rcases ho with ho | ho
  ·rw [h1] at ho; cases ho
  ·rw [e] at ho; simp at ho
 ·exact e
theorem isGA_on {sg : List Int} {ts : List (List Int)} {g : List Int} (h : IsGA sg ts g) (h1 : allB sg ts = true) (h2 : 0 < ts.length) : GA sg (renL (ts.getD 0 [])) (ts.drop 1) g ∧ termOkB sg (ts.getD 0 []) = true := by
 rcases h with ⟨_, t, r, e, hg⟩ | ⟨ho, _⟩
 ·subst e
  refine ⟨by simpa using hg, ?_⟩
  unfold allB at h1
  simp at h1
  simpa using h1.2.2.1
 ·rcases ho with ho | ho
  ·rw [h1] at ho; cases ho
  ·rw [ho] at h2; simp at h2
theorem drop_more {ts : List (List Int)} {i : Nat} {t : List Int} (hi : i < ts.length) (ht : ts.getD i [] = t) : ts.drop i = t :: ts.drop (i + 1) := by
 rw [List.drop_eq_getElem_cons hi]
 rw [← ht]
 simp [List.getD, hi]
theorem ga_step {sg o g t : List Int} {ts : List (List Int)} {i : Nat} (h : GA sg o (ts.drop i) g) (hi : i < ts.length) (ht : ts.getD i [] = t) : ∃ o', IsG sg o t o' ∧ GA sg o' (ts.drop (i + 1)) g := by
 rw [drop_more hi ht] at h
 exact h
theorem ga_end {sg o g : List Int} {ts : List (List Int)} {i : Nat} (h : GA sg o (ts.drop i) g) (hi : ts.length ≤ i) : g = o := by
 rw [List.drop_eq_nil_of_le hi] at h
 exact h
theorem all_get {sg : List Int} {ts : List (List Int)} (h : allB sg ts = true) {i : Nat} (hi : i < ts.length) : termOkB sg (ts.getD i []) = true := by
 unfold allB at h
 rw [Bool.and_eq_true, Bool.and_eq_true] at h
 have := List.all_eq_true.1 h.2.2 ts[i] (List.getElem_mem hi)
 simpa [List.getD, hi] using this
theorem ga_len {sg g : List Int} : ∀ {r : List (List Int)} {o : List Int}, GA sg o r g → o.length ≤ 60 → g.length ≤ 60
 | [], o, h, hl => by rw [show g = o from h]; exact hl
 | t :: r, o, h, _ => by
  obtain ⟨o', h1, h2⟩ := h
  exact ga_len h2 (isG_len h1)
theorem isGA_len {sg : List Int} {ts : List (List Int)} {g : List Int} (h : IsGA sg ts g) : g.length ≤ 60 := by
 rcases h with ⟨h1, t, r, e, hg⟩ | ⟨_, e⟩
 ·subst e
  have h0 := all_get h1 (i := 0) (by simp)
  have h0 : termOkB sg t = true := by simpa using h0
  exact ga_len hg (term_len (ren_ok h0)).2
 ·rw [e]; simp
def HeadA (w : World) (A : Option Addr) (n c : Nat) (sg : List Int) (P : Option Addr) (pn : Nat) (ts : List (List Int)) (ys : List Int) (g : Nat) (r : Value) (wr : World) (i : Nat) : Prop :=
 ∃ (O : Option Addr) (on oc : Nat) (o : List Int), r = .slice O on oc ∧ i ≤ pn ∧ i + g = pn ∧ 1 ≤ i ∧ Own wr w.heap.size (.slice O on oc) o ∧ (o = [] ∨ termOkB sg o = true) ∧ GA sg o (ts.drop i) ys ∧ Fs w wr A n c sg P pn ts
set_option maxHeartbeats 4000000 in
theorem implGeneralisedAll (A P : Option Addr) (n c pn pc : Nat) (sg : List Int) (ts : List (List Int)) (w : World) (h : Seg w w.heap.size A n sg) (hp : Segs w w.heap.size P pn ts) (hn : n ≤ 1048576) (htot : tot ts ≤ 1048576) (hcp : pn ≤ pc) (hcp2 : pc ≤ 9223372036854775807) {ys : List Int} (hG : IsGA sg ts ys) :
  Calls Try.prog 31 #[.agg #[.slice A n c], .slice P pn pc] w (AnsList w ys) := by
 obtain ⟨W, hW⟩ : ∃ W, W = w.alloc (.cells #[.slice A n c] 26) := ⟨_, rfl⟩
 have f : Fs w W A n c sg P pn ts := by rw [hW]; exact Fs.start h hp
 have HW := hid hW
 have HL := hid hp.1
 have HE := hid (tot_each htot)
 have HTOT := hid htot
 have HG := hid hG
 have cA := f.cell
 have cA0 : (w.alloc (.cells #[.slice A n c] 26)).cell? ⟨w.heap.size, 0, none⟩ = some (.slice A n c) := by rw [← hW]; exact cA
 clear hW h hp htot hG
 by_cases h0 : pn = 0
 ·subst h0
  obtain rfl := isGA_off HG.out (.inr HL.out)
  have F := hid (show AnsList w [] (.returned (.slice none 0 0)) W from ⟨none, 0, 0, rfl, Own.nil _ _, f.b⟩)
  clear f cA cA0 HG
  go_enter Try.func31, Try.ntmps31
  go_wp2_with fail
  rw [← HW.out]
  go_ret
  exact F.out
 ·have hp0 : 0 < pn := by omega
  have d0 : ((pn : Int) == 0) = false := by simp; omega
  have LT := hid (implTermsOk A P n c pn pc sg ts W f.s1 (f.s'.more (Nat.le_of_lt f.size)) hn HTOT.out)
  cases hall : termsB sg ts with
  | false =>
   have HS := hid hall
   obtain rfl := isGA_off HG.out (.inl (by
    unfold allB
    rw [show (decide (ts.length ≤ 12) && ts.all (termOkB sg)) = false from hall, Bool.and_false]))
   clear hall
   go_enter Try.func31, Try.ntmps31
   go_wp2_with fail
   rw [← HW.out]
   refine LT.out.mono ?_
   rintro e w1 ⟨he, bb⟩
   rw [HS.out] at he
   subst he
   have F := hid (show AnsList w [] (.returned (.slice none 0 0)) w1 from ⟨none, 0, 0, rfl, Own.nil _ _, (f.next bb).b⟩)
   clear f bb LT cA cA0 HG
   go_wp2
   go_ret
   exact F.out
  | true =>
   have HS := hid hall
   have hp12 : pn ≤ 12 := by have h1 := (terms_parts hall).1; rw [HL.out] at h1; exact h1
   have h1st := (terms_parts hall).2 0 (by rw [HL.out]; exact hp0)
   have hAB : allB sg ts = true := by
    unfold allB
    rw [(termOk_parts h1st).1, show (decide (ts.length ≤ 12) && ts.all (termOkB sg)) = true from hall]
    rfl
   have HON := hid (isGA_on HG.out hAB (by rw [HL.out]; exact hp0))
   have HAB := hid hAB
   clear hall h1st hAB
   go_enter Try.func31, Try.ntmps31
   go_wp2_with fail
   rw [← HW.out]
   refine LT.out.mono ?_
   rintro e w1 ⟨he, bb⟩
   rw [HS.out] at he
   subst he
   replace f := f.next bb
   clear bb LT cA cA0
   obtain ⟨b, off, D, dn, dc, rfl, hbb, hc, hsg, hcap⟩ := f.s'.spot hp0
   have hdn : dn ≤ 1048576 := by have := HE.out 0; rw [hsg.1] at this; exact this
   have cA := f.cell
   have z0 := f.size
   have LR := hid (implRenamed A D n c dn dc sg (ts.getD 0 []) w1.drew f.drew.s1 (hsg.more (Nat.le_of_lt f.size)) hn hdn)
   have ER := hid (show renI sg (ts.getD 0 []) = renL (ts.getD 0 []) by unfold renI; rw [if_pos HON.out.2])
   rw [ER.out] at LR
   have HFD := hid f.drew
   clear hsg hcap f
   have hc0 : w1.cell? ⟨b, off, none⟩ = some (.slice D dn dc) := by simpa using hc
   clear hc
   have i0 : (0 : Int) < (pn : Int) := by omega
   go_wp2_with fail
   go_region_held3 (fun w' => w'.cell? ⟨w.heap.size, 0, none⟩ = some (.slice A n c) ∧ w'.cell? ⟨b, off, none⟩ = some (.slice D dn dc))
    (first | exact ⟨cA, hc0⟩ | exact ⟨y1, y2⟩)
    (first
     | (go_at_call 73; refine LR.out.mono ?_; rintro e w2 ⟨O, on, oc, rfl, ho, bb⟩; have f2 := HFD.out.next bb; have y1 := f2.cell; have y2 : w2.cell? ⟨b, off, none⟩ = some (.slice D dn dc) := (bb.cell (p := ⟨b, off, none⟩) (by show b < w1.heap.size; omega)).trans hc0))
   have HH := hid (show HeadA w A n c sg (some ⟨b, off, none⟩) pn ts ys (pn - 1) (.slice O on oc) w2 1 from ⟨O, on, oc, _, rfl, by omega, by omega, Nat.le_refl _, Own.lower ho HFD.out.b.size, .inr (ren_ok HON.out.2), HON.out.1, f2⟩)
   have HH2 := hid (show HeadA w A n c sg (some ⟨b, off, none⟩) pn ts ys (pn - 1) (.slice O on oc) w2 (0 + 1) from HH.out)
   by_cases hpc : pc = 1
   ·have hp1 : pn = 1 := by omega
    clear f2 ho bb y1 y2 LR HON HG cA hc0 HFD
    go_wp2_with fail
    go_loopg [5, 25] (pn - 1) (fun g_ r k_ wr => ∃ i : Nat, k_ = .int .i64 (i : Int) ∧ HeadA w A n c sg (some ⟨b, off, none⟩) pn ts ys g_ r wr (i + 1))
    case atStart => exact ⟨0, rfl, HH2.out⟩
    case round =>
     obtain ⟨i, rfl, O, on, oc, o, rfl, hle, hgk, _, ho, hok, hga, f⟩ := hrel
     clear HH HH2
     have hys := ga_end hga (by rw [HL.out]; omega)
     have F := hid (show AnsList w ys (.returned (.slice O on oc)) wr from ⟨O, on, oc, rfl, by rw [hys]; exact ho, f.b⟩)
     have i2 : ¬ (i : Int) < ((pn - 1 : Nat) : Int) := by omega
     clear ho hok hga f hys hgk
     go_wp2
     go_ret
     exact F.out
   ·clear f2 ho bb y1 y2 LR HON HG cA hc0 HFD
    go_wp2_with fail
    go_loopg [5, 25] (pn - 1) (fun g_ r k_ wr => ∃ i : Nat, k_ = .int .i64 (i : Int) ∧ HeadA w A n c sg (some ⟨b, off, none⟩) pn ts ys g_ r wr (i + 1))
    case atStart => exact ⟨0, rfl, HH2.out⟩
    case round =>
     obtain ⟨i, rfl, O, on, oc, o, rfl, hle, hgk, _, ho, hok, hga, f⟩ := hrel
     clear HH HH2
     by_cases hip : i < pn - 1
     ·obtain ⟨b2, off2, D2, dn2, dc2, e, hbb2, hc2, hsg, hcap⟩ := f.s'.spot (show i + 1 < pn by omega)
      injection e with e
      injection e with e1 e2
      subst e1
      subst e2
      have hc1 : wr.cell? ⟨b, off + 1 + i, none⟩ = some (.slice D2 dn2 dc2) := by rw [show off + 1 + i = off + (i + 1) by omega]; exact hc2
      have hdn2 : dn2 ≤ 1048576 := by have := HE.out (i + 1); rw [hsg.1] at this; exact this
      have hon : on ≤ 1048576 := by
       rw [Own.len ho]
       rcases hok with hok | hok
       ·rw [hok]; simp
       ·have := (term_len hok).2; omega
      obtain ⟨o', hG', hga'⟩ := ga_step hga (show i + 1 < ts.length by rw [HL.out]; omega) rfl
      have ko := look.own_cap ho
      have LG := hid (implGeneralised A O D2 n c on oc dn2 dc2 sg o (ts.getD (i + 1) []) wr o' hG' f.s1 (Own.seg ho) (hsg.more (Nat.le_of_lt f.size)) hn hon hdn2 ⟨ko.1, ko.2.1⟩ ⟨hcap.1, hcap.2.1⟩)
      have cA := f.cell
      have i1 : (i : Int) < ((pn - 1 : Nat) : Int) := by omega
      have i0 : (0 : Int) ≤ (i : Int) := by omega
      have HF := hid f
      have HGA := hid hga'
      have HOK := hid (isG_ok hG')
      have hgk2 := hid (show gk - 1 < gk ∧ i + 1 + 1 + (gk - 1) = pn ∧ i + 1 + 1 ≤ pn by omega)
      clear hsg hcap hc2 ko hG' hga' hga hok ho f hgk
      go_wp2_with fail
      refine LG.out.mono ?_
      rintro e w3 ⟨O', on', oc', rfl, ho', bb⟩
      have f3 := HF.out.next bb
      have S : HeadA w A n c sg (some ⟨b, off, none⟩) pn ts ys (gk - 1) (.slice O' on' oc') w3 (i + 1 + 1) := ⟨O', on', oc', o', rfl, hgk2.out.2.2, hgk2.out.2.1, by omega, Own.lower ho' HF.out.b.size, HOK.out, HGA.out, f3⟩
      have HSS := hid S
      clear S ho' bb f3 LG cA hc1 HF HGA HOK
      go_wp2
      go_roundg (gk - 1)
      case measure => exact hgk2.out.1
      case rel => exact ⟨i + 1, by simp, HSS.out⟩
     ·have hys := ga_end hga (by rw [HL.out]; omega)
      have F := hid (show AnsList w ys (.returned (.slice O on oc)) wr from ⟨O, on, oc, rfl, by rw [hys]; exact ho, f.b⟩)
      have i2 : ¬ (i : Int) < ((pn - 1 : Nat) : Int) := by omega
      clear ho hok hga f hys hgk
      go_wp2
      go_ret
      exact F.out
theorem isG_gs {sg a b o' : List Int} (h : IsG sg a b o') (ha : termOkB sg a = true) (hb : termOkB sg b = true) : ∃ G T', Gs sg [] 1 a b G T' ∧ o' = if T'.length ≤ 24 then G else [] := by
 rcases h with ⟨_, _, G, T', h, e⟩ | ⟨h, _⟩
 ·exact ⟨G, T', h, e⟩
 ·rcases h with h | h
  ·rw [ha] at h; cases h
  ·rw [hb] at h; cases h
set_option maxHeartbeats 4000000 in
theorem specGeneralisedAll (A P : Option Addr) (n c pn pc : Nat) (sg : List Int) (ts : List (List Int)) (w : World) (h : Seg w w.heap.size A n sg) (hp : Segs w w.heap.size P pn ts) (hn : n ≤ 1048576) (htot : tot ts ≤ 1048576) {ys : List Int} (hG : IsGA sg ts ys) :
  Calls Try.prog 32 #[.agg #[.slice A n c], .slice P pn pc] w (AnsList w ys) := by
 obtain ⟨W, hW⟩ : ∃ W, W = w.alloc (.cells #[.slice A n c] 26) := ⟨_, rfl⟩
 have f : Fs w W A n c sg P pn ts := by rw [hW]; exact Fs.start h hp
 have HW := hid hW
 have HL := hid hp.1
 have HE := hid (tot_each htot)
 have HTOT := hid htot
 have HG := hid hG
 have LT := hid (l4All A P n c pn pc sg ts W f.s1 (f.s'.more (Nat.le_of_lt f.size)) hn HTOT.out)
 clear hW h hp htot hG
 cases hall : allB sg ts with
 | false =>
  have HS := hid hall
  obtain rfl := isGA_off HG.out (.inl hall)
  clear hall
  go_enter Try.func32, Try.ntmps32
  go_wp2_with fail
  rw [← HW.out]
  refine LT.out.mono ?_
  rintro e w1 ⟨he, bb⟩
  rw [HS.out] at he
  subst he
  have B := (f.next bb).b
  have F := hid (show AnsList w [] (.returned (.slice (some ⟨w1.heap.size, 0, none⟩) 0 0)) (w1.alloc (.cells #[] 2)) from ⟨_, 0, 0, rfl, own_empty w1 _ B.size, B.alloc B.size _⟩)
  clear f bb LT HG B
  go_wp2
  go_ret
  exact F.out
 | true =>
  have HS := hid hall
  have HAB := hid hall
  have hp12 : pn ≤ 12 := by
   have h := hall
   unfold allB at h
   rw [Bool.and_eq_true, Bool.and_eq_true] at h
   have := of_decide_eq_true h.2.1
   rw [HL.out] at this
   exact this
  by_cases h0 : pn = 0
  ·subst h0
   obtain rfl := isGA_off HG.out (.inr HL.out)
   clear hall
   go_enter Try.func32, Try.ntmps32
   go_wp2_with fail
   rw [← HW.out]
   refine LT.out.mono ?_
   rintro e w1 ⟨he, bb⟩
   rw [HS.out] at he
   subst he
   have B := (f.next bb).b
   have F := hid (show AnsList w [] (.returned (.slice (some ⟨w1.heap.size, 0, none⟩) 0 0)) (w1.alloc (.cells #[] 2)) from ⟨_, 0, 0, rfl, own_empty w1 _ B.size, B.alloc B.size _⟩)
   clear f bb LT HG B
   go_wp2
   go_ret
   exact F.out
  ·have hp0 : 0 < pn := by omega
   have d0 : ((pn : Int) == 0) = false := by simp; omega
   have HON := hid (isGA_on HG.out hall (by rw [HL.out]; exact hp0))
   clear hall
   go_enter Try.func32, Try.ntmps32
   go_wp2_with fail
   rw [← HW.out]
   refine LT.out.mono ?_
   rintro e w1 ⟨he, bb⟩
   rw [HS.out] at he
   subst he
   replace f := f.next bb
   clear bb LT
   obtain ⟨b, off, D, dn, dc, rfl, hbb, hc, hsg, hcap⟩ := f.s'.spot hp0
   have hdn : dn ≤ 1048576 := by have := HE.out 0; rw [hsg.1] at this; exact this
   have LR := hid (l2Renamed D dn dc (ts.getD 0 []) w1 (hsg.more (Nat.le_of_lt f.size)) hdn)
   have HFD := hid f
   clear hsg hcap f
   have hc0 : w1.cell? ⟨b, off, none⟩ = some (.slice D dn dc) := by simpa using hc
   clear hc
   have i0 : (0 : Int) < (pn : Int) := by omega
   go_wp2_with fail
   refine LR.out.mono ?_
   rintro e w2 ⟨O, on, oc, rfl, ho, bb⟩
   have f2 := HFD.out.next bb
   have HH := hid (show HeadA w A n c sg (some ⟨b, off, none⟩) pn ts ys (pn - 1) (.slice O on oc) w2 1 from ⟨O, on, oc, _, rfl, by omega, by omega, Nat.le_refl _, Own.lower ho HFD.out.b.size, .inr (ren_ok HON.out.2), HON.out.1, f2⟩)
   clear f2 ho bb LR HON HG hc0 HFD
   go_wp2_with fail
   go_loopg [5, 6] (pn - 1) (fun g_ r k_ wr => ∃ i : Nat, k_ = .int .i64 (i : Int) ∧ HeadA w A n c sg (some ⟨b, off, none⟩) pn ts ys g_ r wr i)
   case atStart => exact ⟨1, rfl, HH.out⟩
   case round =>
    obtain ⟨i, rfl, O, on, oc, o, rfl, hle, hgk, hi1, ho, hok, hga, f⟩ := hrel
    clear HH
    have hon : on ≤ 1048576 := by
     rw [Own.len ho]
     rcases hok with hok | hok
     ·rw [hok]; simp
     ·have := (term_len hok).2; omega
    have i0' : (0 : Int) ≤ (i : Int) := by omega
    by_cases hip : i < pn
    ·have i1 : (i : Int) < (pn : Int) := by omega
     by_cases hon0 : on = 0
     ·subst hon0
      have ho0 : o = [] := List.eq_nil_of_length_eq_zero (Own.len ho).symm
      subst ho0
      have hys := ga_nil hga
      have F := hid (show AnsList w ys (.returned (.slice O 0 oc)) wr from ⟨O, 0, oc, rfl, by rw [hys]; exact ho, f.b⟩)
      clear ho hok hga f hys hgk
      go_wp2
      go_ret
      exact F.out
     ·have hon1 : (0 : Int) < (on : Int) := by omega
      have hoke : termOkB sg o = true := by
       rcases hok with hok | hok
       ·exact absurd (by rw [Own.len ho, hok]; rfl) hon0
       ·exact hok
      obtain ⟨b2, off2, D2, dn2, dc2, e, hbb2, hc2, hsg, hcap⟩ := f.s'.spot hip
      injection e with e
      injection e with e1 e2
      subst e1
      subst e2
      have hdn2 : dn2 ≤ 1048576 := by have := HE.out i; rw [hsg.1] at this; exact this
      have hokt := all_get HAB.out (i := i) (by rw [HL.out]; exact hip)
      obtain ⟨o', hG', hga'⟩ := ga_step hga (show i < ts.length by rw [HL.out]; exact hip) rfl
      obtain ⟨GG, TT, hGs, ho'⟩ := isG_gs hG' hoke hokt
      have ko := look.own_cap ho
      have fd := f.drew
      have LG := hid (l5Least A O D2 n c on oc dn2 dc2 sg o (ts.getD i []) wr.drew fd.s1 (Own.seg ho) (hsg.more (Nat.le_of_lt f.size)) hn hon hdn2 ⟨ko.1, ko.2.1⟩ ⟨hcap.1, hcap.2.1⟩ (sig_arities (termOk_parts hoke).1).1 (term_parts hoke).2.2 (term_parts hokt).2.2 GG TT hGs)
      rw [← ho'] at LG
      have cA := f.cell
      have HF := hid fd
      have HGA := hid hga'
      have HOK := hid (isG_ok hG')
      have hgk2 := hid (show gk - 1 < gk ∧ i + 1 + (gk - 1) = pn ∧ i + 1 ≤ pn by omega)
      have zf := f.size
      clear hsg hcap ko hG' hga' hga hok ho f fd hgk hGs ho' hoke hokt
      go_wp2_with fail
      go_region_held3 (fun w' => w'.cell? ⟨w.heap.size, 0, none⟩ = some (.slice A n c) ∧ w'.cell? ⟨b, off + i, none⟩ = some (.slice D2 dn2 dc2))
       (first | exact ⟨cA, hc2⟩ | exact ⟨y1, y2⟩)
       (first
        | (go_at_call 72; refine LG.out.mono ?_; rintro e w3 ⟨O', on', oc', rfl, ho', bb⟩; have f3 := HF.out.next bb; have y1 := f3.cell; have y2 : w3.cell? ⟨b, off + i, none⟩ = some (.slice D2 dn2 dc2) := (bb.cell (p := ⟨b, off + i, none⟩) (by show b < wr.heap.size; omega)).trans hc2))
      have S : HeadA w A n c sg (some ⟨b, off, none⟩) pn ts ys (gk - 1) (.slice O' on' oc') w3 (i + 1) := ⟨O', on', oc', o', rfl, hgk2.out.2.2, hgk2.out.2.1, by omega, Own.lower ho' HF.out.b.size, HOK.out, HGA.out, f3⟩
      have HSS := hid S
      clear S ho' bb f3 LG cA hc2 HF HGA HOK y1 y2
      go_wp2
      go_roundg (gk - 1)
      case measure => exact hgk2.out.1
      case rel => exact ⟨i + 1, by simp, HSS.out⟩
    ·have hys := ga_end hga (by rw [HL.out]; omega)
     have F := hid (show AnsList w ys (.returned (.slice O on oc)) wr from ⟨O, on, oc, rfl, by rw [hys]; exact ho, f.b⟩)
     have i2 : ¬ (i : Int) < (pn : Int) := by omega
     clear ho hok hga f hys hgk
     go_wp2
     go_ret
     exact F.out
end genAll
end
section
namespace bigs
open Go.RowKit base ints
theorem bigAns (A : Option Addr) (n c : Nat) (b : Bool) (w : World) (hb : decide (4096 < n) = b) (hn : n ≤ 9223372036854775807) : Calls Try.prog 7 #[.slice A n c] w fun e w' => w = w' ∧ e = .returned (.bool b) := by
 cases b with
 | true =>
  have h : (4096 : Int) < (n : Int) := by have := of_decide_eq_true hb; omega
  clear hb
  go_enter Try.func7, Try.ntmps7
  go_wp2
  go_ret
  exact ⟨rfl, rfl⟩
 | false =>
  have h : ¬ (4096 : Int) < (n : Int) := by have := of_decide_eq_false hb; omega
  have h2 : decide (4096 < n) = false := hb
  clear hb
  go_enter Try.func7, Try.ntmps7
  go_wp2
  go_ret
  exact ⟨rfl, rfl⟩
end bigs
end
section
namespace lawT
open Go.RowKit base ints segs
set_option maxRecDepth 100000
structure T1 (w : World) (v3 : Nat) (S : Option Addr) (sn sc : Nat) (sg : List Int) (O : Option Addr) (on : Nat) (p : List Int) (Q : Option Addr) (qn : Nat) (t : List Int) (wr : World) : Prop where
 s : Seg wr wr.heap.size S sn sg
 o : Seg wr wr.heap.size O on p
 q : Seg wr wr.heap.size Q qn t
 r3 : Row wr v3 26 #[.slice S sn sc]
 bel : Below w.heap.size w wr
section
variable {w : World} {v3 : Nat} {S : Option Addr} {sn sc : Nat} {sg : List Int} {O : Option Addr} {on : Nat} {p : List Int} {Q : Option Addr} {qn : Nat} {t : List Int} {wr w' : World}
theorem T1.next (f : T1 w v3 S sn sc sg O on p Q qn t wr) (hb : Below wr.heap.size wr w') : T1 w v3 S sn sc sg O on p Q qn t w' :=
 ⟨f.s.next hb, f.o.next hb, f.q.next hb, f.r3.next hb, next_trans f.bel hb⟩
theorem T1.drew (f : T1 w v3 S sn sc sg O on p Q qn t wr) : T1 w v3 S sn sc sg O on p Q qn t wr.drew := ⟨f.s, f.o, f.q, f.r3, f.bel.drew⟩
theorem T1.cell (f : T1 w v3 S sn sc sg O on p Q qn t wr) : wr.cell? ⟨v3, 0, none⟩ = some (.slice S sn sc) := f.r3.cell 0
end
structure Sv (wr : World) (v : Nat) (D : Option Addr) (dn dc : Nat) (xss : List (List Int)) : Prop where
 r : Row wr v 31 #[.slice D dn dc]
 s : Segs wr wr.heap.size D dn xss
section
variable {v : Nat} {D : Option Addr} {dn dc : Nat} {xss : List (List Int)} {wr w' : World}
theorem Sv.next (f : Sv wr v D dn dc xss) (hb : Below wr.heap.size wr w') : Sv w' v D dn dc xss := ⟨f.r.next hb, f.s.next hb⟩
end
theorem below_alloc (w : World) (x : Obj) : Below w.heap.size w (w.alloc x) := (Below.refl _ _).alloc (Nat.le_refl _) _
theorem below_drewN (w : World) (d : Nat) : Below w.heap.size w (w.drewN d) := ⟨rfl, rfl, rfl, Nat.le_refl _, fun _ _ => rfl⟩
end lawT
end
section
open Go.Lib (hid)
namespace wFnGeneralised
open Go.RowKit base ints sig same term cursor termOk marks app sym segs segsHelp dice inside Go.Proofs.Ytgfgaeagbipobaa.look plainOf drawVar drawMatched drawGenr matchMath matchSpec matchImpl unifLaw general genImpl genAll bigs lawT
set_option maxRecDepth 100000
theorem two_segs {w : World} {t : TypeId} {A1 A2 : Option Addr} {n1 c1 n2 c2 : Nat} {x1 x2 : List Int} (h1 : Seg w w.heap.size A1 n1 x1) (h2 : Seg w w.heap.size A2 n2 x2) (k1 : Cap A1 n1 c1) (k2 : Cap A2 n2 c2) :
  Segs (w.alloc (.cells #[.slice A1 n1 c1, .slice A2 n2 c2] t)) (w.alloc (.cells #[.slice A1 n1 c1, .slice A2 n2 c2] t)).heap.size (some ⟨w.heap.size, 0, none⟩) 2 [x1, x2] := by
 have r := Row.new w t #[.slice A1 n1 c1, .slice A2 n2 c2]
 have b : Below w.heap.size w (w.alloc (.cells #[.slice A1 n1 c1, .slice A2 n2 c2] t)) := (Below.refl _ _).alloc (Nat.le_refl _) _
 refine ⟨rfl, fun _ => ⟨w.heap.size, 0, rfl, r.lt, fun j hj => ?_⟩⟩
 rw [Nat.zero_add, r.cell j]
 rcases (show j = 0 ∨ j = 1 by omega) with rfl | rfl
 ·exact ⟨A1, n1, c1, rfl, h1.next b, k1⟩
 ·exact ⟨A2, n2, c2, rfl, h2.next b, k2⟩
theorem two_tot {x y : List Int} (hx : x.length ≤ 65) (hy : y.length ≤ 65) : tot [x, y] ≤ 1048576 := by
 have := tot_le (xss := [x, y]) (M := 65) (fun j => by
  match j with
  | 0 => exact hx
  | 1 => exact hy
  | j + 2 => simp)
 simp only [List.length_cons, List.length_nil] at this
 omega
set_option maxHeartbeats 16000000 in
theorem law (A : Option Addr) (n c : Nat) (_ : List Int) (w : World) (h : SegB w w.heap.size A n) (hN : n ≤ 9223372036854775807) :
  Calls Try.prog 6 #[.slice A n c] w (Fine w) := by
 by_cases hbig : n ≤ 4096
 ·have LB := hid (bigAns A n c false w (by simp; omega) hN)
  go_enter Try.func6, Try.ntmps6
  go_wp2_with fail
  refine LB.out.mono ?_
  rintro e w' ⟨rfl, rfl⟩
  clear LB
  go_wp2_with fail
  refine (drawGeneralised A n c w h hbig).mono ?_
  rintro e w2 ⟨S, sn, sc, sg, O, on, oc, a, Q, qn, qc, b, rfl, s1, s2, s3, hsn, ⟨hon, hoc⟩, ⟨hqn, hqc⟩, b2⟩
  obtain ⟨v3, h3⟩ : ∃ v, w2.heap.size = v := ⟨_, rfl⟩
  obtain ⟨W, hW⟩ : ∃ W, W = w2.alloc (.cells #[.slice S sn sc] 26) := ⟨_, rfl⟩
  have T : T1 w v3 S sn sc sg O on a Q qn b W := by
   have bb : Below w2.heap.size w2 W := by rw [hW]; exact below_alloc _ _
   exact ⟨s1.next bb, s2.next bb, s3.next bb, by rw [hW, ← h3]; exact Row.new _ _ _, next_trans b2 bb⟩
  have HW := hid hW
  have H3 := hid h3
  have c30 : (w2.alloc (.cells #[.slice S sn sc] 26)).cell? ⟨v3, 0, none⟩ = some (.slice S sn sc) := by rw [← hW]; exact T.cell
  obtain ⟨g, hG⟩ := isG_ex sg a b
  obtain ⟨ga, hGA⟩ := isGA_ex sg [a, b]
  have hgl := isG_len hG
  have hgal := isGA_len hGA
  have HG := hid hG
  have HGB := hid (isG_symm hG)
  have HGA := hid hGA
  have HTT := hid (two_tot (x := a) (y := b) (by rw [s2.1]; exact hon) (by rw [s3.1]; exact hqn))
  have hBS := hid h
  clear h hW h3 b2 s1 s2 s3 hG hGA
  have c3 := T.cell
  go_wp2_with fail
  rw [← HW.out, H3.out]
  refine (implGeneralised S O Q sn sc on oc qn qc sg a b W g HG.out T.s T.o T.q (by omega) (by omega) (by omega) ⟨hoc.1, hoc.2.1⟩ ⟨hqc.1, hqc.2.1⟩).mono ?_
  rintro e w4 ⟨D, dn, dc, rfl, od, bb⟩
  have sd := Own.seg od
  have hdn : dn ≤ 60 := by rw [Own.len od]; exact hgl
  have hdc := own_cap od
  replace T := T.next bb
  clear bb od c30
  replace c3 := T.cell
  go_wp2_with fail
  refine (specGeneralised S O Q sn sc on oc qn qc sg a b w4 g HG.out T.s T.o T.q (by omega) (by omega) (by omega) ⟨hoc.1, hoc.2.1⟩ ⟨hqc.1, hqc.2.1⟩).mono ?_
  rintro e w5 ⟨E, en, ec, rfl, oe, bb⟩
  have se := Own.seg oe
  have hen : en ≤ 60 := by rw [Own.len oe]; exact hgl
  replace T := T.next bb
  replace sd := sd.next bb
  clear bb oe
  replace c3 := T.cell
  go_wp2_with fail
  refine (implSame D E dn en dc ec g g w5 sd se (by omega) (by omega)).mono ?_
  rintro e w6 ⟨he, d, hd⟩
  have bb : Below w5.heap.size w5 w6 := by rw [hd]; exact below_drewN w5 d
  rw [decide_eq_true rfl] at he
  subst he
  replace T := T.next bb
  replace sd := sd.next bb
  clear bb se hd
  replace c3 := T.cell
  by_cases hd0 : dn = 0
  ·subst hd0
   have TB := hid T.bel
   clear T sd
   go_wp2
   go_ret
   exact ⟨rfl, TB.out⟩
  have hgne : g ≠ [] := fun e => hd0 (by rw [← sd.1, e]; rfl)
  have hdz : ¬ (dn : Int) = 0 := by omega
  have HI := hid (isG_facts HG.out hgne)
  clear hgne
  go_wp2_with fail
  refine (drawMatched A n c _ (segB_below hBS.out T.bel) hbig).mono ?_
  rintro e w8 ⟨S', sn', sc', sg', P, pn, pc, p, Q', qn', qc', t', rfl, -, q2, -, -, ⟨hpn, hpc⟩, -, bb⟩
  obtain ⟨v7, h7⟩ : ∃ v, w8.heap.size = v := ⟨_, rfl⟩
  obtain ⟨W9, hW9⟩ : ∃ W, W = w8.alloc (.cells #[.slice S' sn' sc'] 26) := ⟨_, rfl⟩
  have bb9 : Below w8.heap.size w8 W9 := by rw [hW9]; exact below_alloc _ _
  have sp := q2.next bb9
  replace T := (T.next bb).next bb9
  replace sd := (sd.next bb).next bb9
  have HW9 := hid hW9
  have H7 := hid h7
  have m3 : (w8.alloc (.cells #[.slice S' sn' sc'] 26)).cell? ⟨v3, 0, none⟩ = some (.slice S sn sc) := by rw [← hW9]; exact T.cell
  obtain ⟨b1, hb1⟩ : ∃ z, instB sg p a = z := ⟨_, rfl⟩
  obtain ⟨b2, hb2⟩ : ∃ z, instB sg p b = z := ⟨_, rfl⟩
  have HB1 := hid hb1
  have HB2 := hid hb2
  have HIA := hid HI.out.2.1
  have HIB := hid HI.out.2.2.1
  clear bb bb9 q2 hW9 h7 hb1 hb2
  replace c3 := T.cell
  go_wp2_with fail
  rw [← HW9.out, H7.out]
  refine (specInstanceIn S P O sn sc pn pc on oc sg p a W9 T.s sp T.o (by omega) (by omega) (by omega) hoc.1 hoc.2.1).mono ?_
  rintro e w10 ⟨he, bb⟩
  rw [HB1.out] at he
  subst he
  replace T := T.next bb
  replace sd := sd.next bb
  replace sp := sp.next bb
  clear bb m3
  replace c3 := T.cell
  cases b1 with
  | false =>
   clear sp
   have ho1 := hoc.1
   have ho2 := hoc.2.1
   have hq1 := hqc.1
   have hq2 := hqc.2.1
   have Tz := T.drew
   have dz : Seg w10.drew w10.drew.heap.size D dn g := sd
   clear T sd
   go_wp2_with fail
   go_region_held3 (fun w' => w'.cell? ⟨v3, 0, none⟩ = some (.slice S sn sc))
    (go_keep)
    (first
     | (go_at_call 14; (with_reducible refine (implInstanceIn S D Q sn sc dn dc qn qc sg g b w20 T20.s d20 T20.q (by omega) (by omega) (by omega) hq1 hq2).mono ?_); rintro e w21 ⟨he, bb21⟩; rw [HIB.out] at he; subst he; have T21 := T20.next bb21; have d21 := d20.next bb21; have k21 := T21.cell)
     | (go_at_call 14; (with_reducible refine (implInstanceIn S D O sn sc dn dc on oc sg g a w10.drew Tz.s dz Tz.o (by omega) (by omega) (by omega) ho1 ho2).mono ?_); rintro e w20 ⟨he, bb20⟩; rw [HIA.out] at he; subst he; have T20 := Tz.next bb20; have d20 := dz.next bb20; have k20 := T20.cell)
     | (go_at_call 28; (with_reducible refine (implGeneralised S Q O sn sc qn qc on oc sg b a w21 g HGB.out T21.s T21.q T21.o (by omega) (by omega) (by omega) ⟨hq1, hq2⟩ ⟨ho1, ho2⟩).mono ?_); rintro e w22 ⟨E2, en2, ec2, rfl, oe2, bb22⟩; have se2 := Own.seg oe2; have hen2 : en2 ≤ 60 := (by rw [Own.len oe2]; exact hgl); have T22 := T21.next bb22; have d22 := d21.next bb22; have k22 := T22.cell)
     | (go_at_call 16; (with_reducible refine (implSame R1 R2 rn1 rn2 rc1 rc2 ga ga w25 r25 r26 (by omega) (by omega)).mono ?_); rintro e w26 ⟨he, dd2, hd26⟩; have bb26 : Below w25.heap.size w25 w26 := (by rw [hd26]; exact below_drewN w25 dd2); rw [decide_eq_true rfl] at he; subst he; clear hd26; have TB := hid (next_trans T25.bel bb26); have k26 := (T25.next bb26).cell)
     | (go_at_call 16; (with_reducible refine (implSame E2 D en2 dn ec2 dc g g w22 se2 d22 (by omega) (by omega)).mono ?_); rintro e w23 ⟨he, dd, hd23⟩; have bb23 : Below w22.heap.size w22 w23 := (by rw [hd23]; exact below_drewN w22 dd); rw [decide_eq_true rfl] at he; subst he; clear hd23; have T23 := T22.next bb23; have k23 := T23.cell; have hC := two_segs (t := 24) T23.o T23.q hoc hqc; have T23a := T23.next (below_alloc w23 (.cells #[.slice O on oc, .slice Q qn qc] 24)); have T23b := T23a.next (below_alloc (w23.alloc (.cells #[.slice O on oc, .slice Q qn qc] 24)) (.cells #[.slice O on oc, .slice Q qn qc] 24)); have hA := hC.next (below_alloc (w23.alloc (.cells #[.slice O on oc, .slice Q qn qc] 24)) (.cells #[.slice O on oc, .slice Q qn qc] 24)); have hB := two_segs (t := 24) T23a.o T23a.q hoc hqc; have hsz : (w23.alloc (.cells #[.slice O on oc, .slice Q qn qc] 24)).heap.size = w23.heap.size + 1 := (by simp); rw [hsz] at hB; clear hsz)
     | (go_at_call 31; (with_reducible refine (implGeneralisedAll S _ sn sc 2 2 sg [a, b] ((w23.alloc (.cells #[.slice O on oc, .slice Q qn qc] 24)).alloc (.cells #[.slice O on oc, .slice Q qn qc] 24)) T23b.s hA (by omega) HTT.out (by omega) (by omega) HGA.out).mono ?_); rintro e w24 ⟨R1, rn1, rc1, rfl, or1, bb24⟩; have hrn1 : rn1 ≤ 60 := (by rw [Own.len or1]; exact hgal); have r24 := Own.seg or1; have T24 := T23b.next bb24; have F24 := hB.next bb24; have k24 := T24.cell)
     | (go_at_call 31; (with_reducible refine (implGeneralisedAll S _ sn sc 2 2 sg [a, b] ((w23.alloc (.cells #[.slice O on oc, .slice Q qn qc] 24)).alloc (.cells #[.slice O on oc, .slice Q qn qc] 24)) T23b.s hB (by omega) HTT.out (by omega) (by omega) HGA.out).mono ?_); rintro e w24 ⟨R1, rn1, rc1, rfl, or1, bb24⟩; have hrn1 : rn1 ≤ 60 := (by rw [Own.len or1]; exact hgal); have r24 := Own.seg or1; have T24 := T23b.next bb24; have F24 := hA.next bb24; have k24 := T24.cell)
     | (go_at_call 31; (with_reducible refine (implGeneralisedAll S _ sn sc 2 2 sg [a, b] (w23.alloc (.cells #[.slice O on oc, .slice Q qn qc] 24)) T23a.s hC (by omega) HTT.out (by omega) (by omega) HGA.out).mono ?_); rintro e w24 ⟨R1, rn1, rc1, rfl, or1, bb24⟩; have hrn1 : rn1 ≤ 60 := (by rw [Own.len or1]; exact hgal); have r24 := Own.seg or1; have T24c := T23a.next bb24; have k24 := T24c.cell; have F24 := two_segs (t := 24) T24c.o T24c.q hoc hqc; have rr24 := r24.next (below_alloc w24 (.cells #[.slice O on oc, .slice Q qn qc] 24)); have T24 := T24c.next (below_alloc w24 (.cells #[.slice O on oc, .slice Q qn qc] 24)))
     | (go_at_call 32; (with_reducible refine (specGeneralisedAll S _ sn sc 2 2 sg [a, b] (w24.alloc (.cells #[.slice O on oc, .slice Q qn qc] 24)) T24.s F24 (by omega) HTT.out HGA.out).mono ?_); rintro e w25 ⟨R2, rn2, rc2, rfl, or2, bb25⟩; have hrn2 : rn2 ≤ 60 := (by rw [Own.len or2]; exact hgal); have r26 := Own.seg or2; have T25 := T24.next bb25; have k25 := T25.cell; have r25 := rr24.next bb25)
     | (go_at_call 32; (with_reducible refine (specGeneralisedAll S _ sn sc 2 2 sg [a, b] w24 T24.s F24 (by omega) HTT.out HGA.out).mono ?_); rintro e w25 ⟨R2, rn2, rc2, rfl, or2, bb25⟩; have hrn2 : rn2 ≤ 60 := (by rw [Own.len or2]; exact hgal); have r26 := Own.seg or2; have T25 := T24.next bb25; have k25 := T25.cell; have r25 := r24.next bb25))
   all_goals (go_wp2; go_ret; exact ⟨rfl, TB.out⟩)
  | true =>
   go_wp2_with fail
   refine (specInstanceIn S P Q sn sc pn pc qn qc sg p b w10 T.s sp T.q (by omega) (by omega) (by omega) hqc.1 hqc.2.1).mono ?_
   rintro e w11 ⟨he, bb⟩
   rw [HB2.out] at he
   subst he
   replace T := T.next bb
   replace sd := sd.next bb
   replace sp := sp.next bb
   clear bb
   replace c3 := T.cell
   cases b2 with
   | false =>
    clear sp
    have ho1 := hoc.1
    have ho2 := hoc.2.1
    have hq1 := hqc.1
    have hq2 := hqc.2.1
    have Tz := T.drew
    have dz : Seg w11.drew w11.drew.heap.size D dn g := sd
    clear T sd
    go_wp2_with fail
    go_region_held3 (fun w' => w'.cell? ⟨v3, 0, none⟩ = some (.slice S sn sc))
     (go_keep)
     (first
      | (go_at_call 14; (with_reducible refine (implInstanceIn S D Q sn sc dn dc qn qc sg g b w20 T20.s d20 T20.q (by omega) (by omega) (by omega) hq1 hq2).mono ?_); rintro e w21 ⟨he, bb21⟩; rw [HIB.out] at he; subst he; have T21 := T20.next bb21; have d21 := d20.next bb21; have k21 := T21.cell)
      | (go_at_call 14; (with_reducible refine (implInstanceIn S D O sn sc dn dc on oc sg g a w11.drew Tz.s dz Tz.o (by omega) (by omega) (by omega) ho1 ho2).mono ?_); rintro e w20 ⟨he, bb20⟩; rw [HIA.out] at he; subst he; have T20 := Tz.next bb20; have d20 := dz.next bb20; have k20 := T20.cell)
      | (go_at_call 28; (with_reducible refine (implGeneralised S Q O sn sc qn qc on oc sg b a w21 g HGB.out T21.s T21.q T21.o (by omega) (by omega) (by omega) ⟨hq1, hq2⟩ ⟨ho1, ho2⟩).mono ?_); rintro e w22 ⟨E2, en2, ec2, rfl, oe2, bb22⟩; have se2 := Own.seg oe2; have hen2 : en2 ≤ 60 := (by rw [Own.len oe2]; exact hgl); have T22 := T21.next bb22; have d22 := d21.next bb22; have k22 := T22.cell)
      | (go_at_call 16; (with_reducible refine (implSame R1 R2 rn1 rn2 rc1 rc2 ga ga w25 r25 r26 (by omega) (by omega)).mono ?_); rintro e w26 ⟨he, dd2, hd26⟩; have bb26 : Below w25.heap.size w25 w26 := (by rw [hd26]; exact below_drewN w25 dd2); rw [decide_eq_true rfl] at he; subst he; clear hd26; have TB := hid (next_trans T25.bel bb26); have k26 := (T25.next bb26).cell)
      | (go_at_call 16; (with_reducible refine (implSame E2 D en2 dn ec2 dc g g w22 se2 d22 (by omega) (by omega)).mono ?_); rintro e w23 ⟨he, dd, hd23⟩; have bb23 : Below w22.heap.size w22 w23 := (by rw [hd23]; exact below_drewN w22 dd); rw [decide_eq_true rfl] at he; subst he; clear hd23; have T23 := T22.next bb23; have k23 := T23.cell; have hC := two_segs (t := 24) T23.o T23.q hoc hqc; have T23a := T23.next (below_alloc w23 (.cells #[.slice O on oc, .slice Q qn qc] 24)); have T23b := T23a.next (below_alloc (w23.alloc (.cells #[.slice O on oc, .slice Q qn qc] 24)) (.cells #[.slice O on oc, .slice Q qn qc] 24)); have hA := hC.next (below_alloc (w23.alloc (.cells #[.slice O on oc, .slice Q qn qc] 24)) (.cells #[.slice O on oc, .slice Q qn qc] 24)); have hB := two_segs (t := 24) T23a.o T23a.q hoc hqc; have hsz : (w23.alloc (.cells #[.slice O on oc, .slice Q qn qc] 24)).heap.size = w23.heap.size + 1 := (by simp); rw [hsz] at hB; clear hsz)
      | (go_at_call 31; (with_reducible refine (implGeneralisedAll S _ sn sc 2 2 sg [a, b] ((w23.alloc (.cells #[.slice O on oc, .slice Q qn qc] 24)).alloc (.cells #[.slice O on oc, .slice Q qn qc] 24)) T23b.s hA (by omega) HTT.out (by omega) (by omega) HGA.out).mono ?_); rintro e w24 ⟨R1, rn1, rc1, rfl, or1, bb24⟩; have hrn1 : rn1 ≤ 60 := (by rw [Own.len or1]; exact hgal); have r24 := Own.seg or1; have T24 := T23b.next bb24; have F24 := hB.next bb24; have k24 := T24.cell)
      | (go_at_call 31; (with_reducible refine (implGeneralisedAll S _ sn sc 2 2 sg [a, b] ((w23.alloc (.cells #[.slice O on oc, .slice Q qn qc] 24)).alloc (.cells #[.slice O on oc, .slice Q qn qc] 24)) T23b.s hB (by omega) HTT.out (by omega) (by omega) HGA.out).mono ?_); rintro e w24 ⟨R1, rn1, rc1, rfl, or1, bb24⟩; have hrn1 : rn1 ≤ 60 := (by rw [Own.len or1]; exact hgal); have r24 := Own.seg or1; have T24 := T23b.next bb24; have F24 := hA.next bb24; have k24 := T24.cell)
      | (go_at_call 31; (with_reducible refine (implGeneralisedAll S _ sn sc 2 2 sg [a, b] (w23.alloc (.cells #[.slice O on oc, .slice Q qn qc] 24)) T23a.s hC (by omega) HTT.out (by omega) (by omega) HGA.out).mono ?_); rintro e w24 ⟨R1, rn1, rc1, rfl, or1, bb24⟩; have hrn1 : rn1 ≤ 60 := (by rw [Own.len or1]; exact hgal); have r24 := Own.seg or1; have T24c := T23a.next bb24; have k24 := T24c.cell; have F24 := two_segs (t := 24) T24c.o T24c.q hoc hqc; have rr24 := r24.next (below_alloc w24 (.cells #[.slice O on oc, .slice Q qn qc] 24)); have T24 := T24c.next (below_alloc w24 (.cells #[.slice O on oc, .slice Q qn qc] 24)))
      | (go_at_call 32; (with_reducible refine (specGeneralisedAll S _ sn sc 2 2 sg [a, b] (w24.alloc (.cells #[.slice O on oc, .slice Q qn qc] 24)) T24.s F24 (by omega) HTT.out HGA.out).mono ?_); rintro e w25 ⟨R2, rn2, rc2, rfl, or2, bb25⟩; have hrn2 : rn2 ≤ 60 := (by rw [Own.len or2]; exact hgal); have r26 := Own.seg or2; have T25 := T24.next bb25; have k25 := T25.cell; have r25 := rr24.next bb25)
      | (go_at_call 32; (with_reducible refine (specGeneralisedAll S _ sn sc 2 2 sg [a, b] w24 T24.s F24 (by omega) HTT.out HGA.out).mono ?_); rintro e w25 ⟨R2, rn2, rc2, rfl, or2, bb25⟩; have hrn2 : rn2 ≤ 60 := (by rw [Own.len or2]; exact hgal); have r26 := Own.seg or2; have T25 := T24.next bb25; have k25 := T25.cell; have r25 := r24.next bb25))
    all_goals (go_wp2; go_ret; exact ⟨rfl, TB.out⟩)
   | true =>
    have HPG := hid (HI.out.2.2.2 p HB1.out HB2.out)
    go_wp2_with fail
    refine (implInstanceIn S P D sn sc pn pc dn dc sg p g w11 T.s sp sd (by omega) (by omega) (by omega) hdc.1 hdc.2.1).mono ?_
    rintro e w12 ⟨he, bb⟩
    rw [HPG.out] at he
    subst he
    replace T := T.next bb
    replace sd := sd.next bb
    clear bb sp
    replace c3 := T.cell
    have ho1 := hoc.1
    have ho2 := hoc.2.1
    have hq1 := hqc.1
    have hq2 := hqc.2.1
    have Tz := T.drew
    have dz : Seg w12.drew w12.drew.heap.size D dn g := sd
    clear T sd
    go_wp2_with fail
    go_region_held3 (fun w' => w'.cell? ⟨v3, 0, none⟩ = some (.slice S sn sc))
     (go_keep)
     (first
      | (go_at_call 14; (with_reducible refine (implInstanceIn S D Q sn sc dn dc qn qc sg g b w20 T20.s d20 T20.q (by omega) (by omega) (by omega) hq1 hq2).mono ?_); rintro e w21 ⟨he, bb21⟩; rw [HIB.out] at he; subst he; have T21 := T20.next bb21; have d21 := d20.next bb21; have k21 := T21.cell)
      | (go_at_call 14; (with_reducible refine (implInstanceIn S D O sn sc dn dc on oc sg g a w12.drew Tz.s dz Tz.o (by omega) (by omega) (by omega) ho1 ho2).mono ?_); rintro e w20 ⟨he, bb20⟩; rw [HIA.out] at he; subst he; have T20 := Tz.next bb20; have d20 := dz.next bb20; have k20 := T20.cell)
      | (go_at_call 28; (with_reducible refine (implGeneralised S Q O sn sc qn qc on oc sg b a w21 g HGB.out T21.s T21.q T21.o (by omega) (by omega) (by omega) ⟨hq1, hq2⟩ ⟨ho1, ho2⟩).mono ?_); rintro e w22 ⟨E2, en2, ec2, rfl, oe2, bb22⟩; have se2 := Own.seg oe2; have hen2 : en2 ≤ 60 := (by rw [Own.len oe2]; exact hgl); have T22 := T21.next bb22; have d22 := d21.next bb22; have k22 := T22.cell)
      | (go_at_call 16; (with_reducible refine (implSame R1 R2 rn1 rn2 rc1 rc2 ga ga w25 r25 r26 (by omega) (by omega)).mono ?_); rintro e w26 ⟨he, dd2, hd26⟩; have bb26 : Below w25.heap.size w25 w26 := (by rw [hd26]; exact below_drewN w25 dd2); rw [decide_eq_true rfl] at he; subst he; clear hd26; have TB := hid (next_trans T25.bel bb26); have k26 := (T25.next bb26).cell)
      | (go_at_call 16; (with_reducible refine (implSame E2 D en2 dn ec2 dc g g w22 se2 d22 (by omega) (by omega)).mono ?_); rintro e w23 ⟨he, dd, hd23⟩; have bb23 : Below w22.heap.size w22 w23 := (by rw [hd23]; exact below_drewN w22 dd); rw [decide_eq_true rfl] at he; subst he; clear hd23; have T23 := T22.next bb23; have k23 := T23.cell; have hC := two_segs (t := 24) T23.o T23.q hoc hqc; have T23a := T23.next (below_alloc w23 (.cells #[.slice O on oc, .slice Q qn qc] 24)); have T23b := T23a.next (below_alloc (w23.alloc (.cells #[.slice O on oc, .slice Q qn qc] 24)) (.cells #[.slice O on oc, .slice Q qn qc] 24)); have hA := hC.next (below_alloc (w23.alloc (.cells #[.slice O on oc, .slice Q qn qc] 24)) (.cells #[.slice O on oc, .slice Q qn qc] 24)); have hB := two_segs (t := 24) T23a.o T23a.q hoc hqc; have hsz : (w23.alloc (.cells #[.slice O on oc, .slice Q qn qc] 24)).heap.size = w23.heap.size + 1 := (by simp); rw [hsz] at hB; clear hsz)
      | (go_at_call 31; (with_reducible refine (implGeneralisedAll S _ sn sc 2 2 sg [a, b] ((w23.alloc (.cells #[.slice O on oc, .slice Q qn qc] 24)).alloc (.cells #[.slice O on oc, .slice Q qn qc] 24)) T23b.s hA (by omega) HTT.out (by omega) (by omega) HGA.out).mono ?_); rintro e w24 ⟨R1, rn1, rc1, rfl, or1, bb24⟩; have hrn1 : rn1 ≤ 60 := (by rw [Own.len or1]; exact hgal); have r24 := Own.seg or1; have T24 := T23b.next bb24; have F24 := hB.next bb24; have k24 := T24.cell)
      | (go_at_call 31; (with_reducible refine (implGeneralisedAll S _ sn sc 2 2 sg [a, b] ((w23.alloc (.cells #[.slice O on oc, .slice Q qn qc] 24)).alloc (.cells #[.slice O on oc, .slice Q qn qc] 24)) T23b.s hB (by omega) HTT.out (by omega) (by omega) HGA.out).mono ?_); rintro e w24 ⟨R1, rn1, rc1, rfl, or1, bb24⟩; have hrn1 : rn1 ≤ 60 := (by rw [Own.len or1]; exact hgal); have r24 := Own.seg or1; have T24 := T23b.next bb24; have F24 := hA.next bb24; have k24 := T24.cell)
      | (go_at_call 31; (with_reducible refine (implGeneralisedAll S _ sn sc 2 2 sg [a, b] (w23.alloc (.cells #[.slice O on oc, .slice Q qn qc] 24)) T23a.s hC (by omega) HTT.out (by omega) (by omega) HGA.out).mono ?_); rintro e w24 ⟨R1, rn1, rc1, rfl, or1, bb24⟩; have hrn1 : rn1 ≤ 60 := (by rw [Own.len or1]; exact hgal); have r24 := Own.seg or1; have T24c := T23a.next bb24; have k24 := T24c.cell; have F24 := two_segs (t := 24) T24c.o T24c.q hoc hqc; have rr24 := r24.next (below_alloc w24 (.cells #[.slice O on oc, .slice Q qn qc] 24)); have T24 := T24c.next (below_alloc w24 (.cells #[.slice O on oc, .slice Q qn qc] 24)))
      | (go_at_call 32; (with_reducible refine (specGeneralisedAll S _ sn sc 2 2 sg [a, b] (w24.alloc (.cells #[.slice O on oc, .slice Q qn qc] 24)) T24.s F24 (by omega) HTT.out HGA.out).mono ?_); rintro e w25 ⟨R2, rn2, rc2, rfl, or2, bb25⟩; have hrn2 : rn2 ≤ 60 := (by rw [Own.len or2]; exact hgal); have r26 := Own.seg or2; have T25 := T24.next bb25; have k25 := T25.cell; have r25 := rr24.next bb25)
      | (go_at_call 32; (with_reducible refine (specGeneralisedAll S _ sn sc 2 2 sg [a, b] w24 T24.s F24 (by omega) HTT.out HGA.out).mono ?_); rintro e w25 ⟨R2, rn2, rc2, rfl, or2, bb25⟩; have hrn2 : rn2 ≤ 60 := (by rw [Own.len or2]; exact hgal); have r26 := Own.seg or2; have T25 := T24.next bb25; have k25 := T25.cell; have r25 := r24.next bb25))
    all_goals (go_wp2; go_ret; exact ⟨rfl, TB.out⟩)
 ·have LB := hid (bigAns A n c true w (by simp; omega) hN)
  clear h
  go_enter Try.func6, Try.ntmps6
  go_wp2_with fail
  refine LB.out.mono ?_
  rintro e w' ⟨rfl, rfl⟩
  clear LB
  go_wp2
  go_ret
  exact ⟨rfl, Below.refl _ _⟩
end wFnGeneralised
end
end Go.Proofs.Ytgfgaeagbipobaa
