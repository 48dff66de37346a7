/-
  MERGED: my texts Args, Depth, TermFacts, TermText, TermTextB, TermTextC, TermTextX, WTermText, OpenX, one behind the other, as they are. By an AI agent.
-/
import Derived.Test.YtlaloakegajheaaDoorMFnExactTermText1
import Derived.Deep.RegionHeld3
import Derived.ProofKit
import Derived.OpenShut
import Derived.Lib.SmallJoins
import Derived.Deep.Slices
import Derived.Deep.Fields
namespace Go.Proofs.YtlaloakegajheaaDoor
section
open Go.Lib (hid)
namespace args
open Go.RowKit base ints sig term arity endOf cursor termOk endAt marks app sym
def argsL (sg t : List Int) (a : Nat) : List Int := places sg t (ar sg (t.getD a 0)).toNat (a + 1)
def Coll (sg t : List Int) (m : Nat) (L ys : List Int) (q p : Nat) : Prop := ys ++ places sg t q p = L ∧ ∃ i, scan sg q (t.drop p) = some i ∧ p + i ≤ m
theorem Coll.first {sg t : List Int} {m : Nat} {L ys : List Int} {q p : Nat} (h : Coll sg t m L ys (q + 1) p) : ∃ j, scan sg 1 (t.drop p) = some j ∧ p + j ≤ m ∧ p < t.length ∧ Coll sg t m L (ys ++ [(p : Int)]) q (p + j) := by
 obtain ⟨h1, i, h2, h3⟩ := h
 obtain ⟨j, e1, e2, e3, e4⟩ := scan_first h2
 have e5 := scan_le h2
 refine ⟨j, e1, by omega, ?_, ?_, i - j, e4, by omega⟩
 ·simp only [List.length_drop] at e5; omega
 ·rw [← h1, List.append_assoc]
  congr 1
  simp only [places, len1_eq e1, List.singleton_append]
theorem Coll.done {sg t : List Int} {m : Nat} {L ys : List Int} {p : Nat} (h : Coll sg t m L ys 0 p) : ys = L := by
 have := h.1
 simpa [places] using this
theorem Coll.len {sg t : List Int} {m : Nat} {L ys : List Int} {q p : Nat} (h : Coll sg t m L ys q p) : ys.length ≤ L.length := by
 rw [← h.1]; simp
theorem Coll.start {sg t : List Int} {m a j : Nat} (hm : t.length = m) (h : scan sg 1 (t.drop a) = some j) (hj : a + j ≤ m) : ¬ ar sg (t.getD a 0) < 0 ∧ Coll sg t m (argsL sg t a) [] (ar sg (t.getD a 0)).toNat (a + 1) := by
 obtain ⟨i, rfl, _, h2, h3⟩ := scan_args h
 exact ⟨h2, rfl, i, h3, by omega⟩
theorem argsL_len {sg t : List Int} (hs : Arities sg) (a : Nat) : (argsL sg t a).length ≤ 3 := by
 unfold argsL
 rw [places_len]
 have := ar_bd hs (t.getD a 0)
 omega
def HeadArgs (w : World) (A : Option Addr) (n c m : Nat) (sg t : List Int) (L : List Int) (out p k : Value) (wr : World) : Prop :=
 ∃ (q pp : Nat) (O : Option Addr) (on oc : Nat) (ys : List Int), k = .int .i64 q ∧ p = .int .i64 pp ∧ out = .slice O on oc ∧ Own wr (w.heap.size + 1) (.slice O on oc) ys ∧ Coll sg t m L ys q pp ∧ q ≤ 3 ∧ Row wr w.heap.size 26 #[.slice A n c] ∧ Below w.heap.size w wr
set_option maxHeartbeats 1000000 in
theorem l1Args (A A' : Option Addr) (n c m c' : Nat) (sg t : List Int) (a j : Nat) (w : World) (h : Seg w w.heap.size A n sg) (h' : Seg w w.heap.size A' m t) (hn : n ≤ 1048576) (hm : m ≤ 1048576)
  (hs : Arities sg) (ha : a < m) (hj : scan sg 1 (t.drop a) = some j) (hj2 : a + j ≤ m) :
  Calls Tryd.prog 43 #[.agg #[.slice A n c], .slice A' m c', .int .i64 (a : Int)] w (AnsList w (argsL sg t a)) := by
 have HL := hid h'.1
 obtain ⟨hneg, hcoll⟩ := Coll.start HL.out hj hj2
 have h3 := argsL_len (t := t) hs a
 obtain ⟨b, off, x, rfl, hbb, hx, ex⟩ := h'.spot ha
 rw [ex.out] at hneg hcoll
 have hzb := ar_bd hs x
 obtain ⟨z, hz⟩ : ∃ z, ar sg x = z := ⟨_, rfl⟩
 rw [hz] at hneg hcoll hzb
 obtain ⟨T, rfl⟩ := Int.eq_ofNat_of_zero_le (show 0 ≤ z by omega)
 rw [Int.toNat_natCast] at hcoll
 have HZ := hid hz
 obtain ⟨L, hL⟩ : ∃ L, argsL sg t a = L := ⟨_, rfl⟩
 rw [hL] at hcoll h3 ⊢
 obtain ⟨W, hW⟩ : ∃ W, W = (w.alloc (.cells #[.slice A n c] 26)).alloc (.cells #[] 2) := ⟨_, rfl⟩
 have rA : Row W w.heap.size 26 #[.slice A n c] := by rw [hW]; exact (Row.new _ _ _).alloc _
 have bel : Below w.heap.size w W := by rw [hW]; exact ((Below.refl _ _).alloc (Nat.le_refl _) _).alloc (by simp) _
 have ow : Own W (w.heap.size + 1) (.slice (some ⟨w.heap.size + 1, 0, none⟩) 0 0) [] := by
  rw [hW]
  have := own_empty (w.alloc (.cells #[.slice A n c] 26)) (w.heap.size + 1) (by simp)
  simpa using this
 have s : Seg W.drew W.heap.size A n sg := ((h.below bel).more bel.size).drew
 have hx1 : W.cell? ⟨b, off + a, none⟩ = some (.int .i64 x) := (bel.cell (p := ⟨b, off + a, none⟩) hbb).trans hx
 have cA : W.cell? ⟨w.heap.size, 0, none⟩ = some (.slice A n c) := rA.cell 0
 have i0 : (0 : Int) ≤ (a : Int) := by omega
 have i1 : (a : Int) < (m : Int) := by omega
 have HW := hid hW
 have HS0 := hid hs
 clear hW hx hL hz hj ex hs
 go_enter Tryd.func43, Tryd.ntmps43
 go_wp2_with fail
 rw [← HW.out]
 replace rA := rA.drew
 replace bel := bel.drew
 replace ow := Own.drew ow
 go_region_held3 (fun w' => w'.cell? ⟨w.heap.size, 0, none⟩ = some (.slice A n c) ∧ w'.cell? ⟨b, off + a, none⟩ = some (.int .i64 x))
  (go_keep)
  (first
   | (go_at_call 60; refine (specArity _ _ _ sg x _ s hn).mono ?_; rintro e w2 ⟨he, bb⟩; rw [HZ.out] at he; subst he; replace cA : w2.cell? ⟨w.heap.size, 0, none⟩ = some (.slice A n c) := (rA.next bb).cell 0; have cx' : w2.cell? ⟨b, off + a, none⟩ = some (.int .i64 x) := (bb.cell (p := ⟨b, off + a, none⟩) (Nat.lt_trans hbb rA.lt)).trans hx1))
 have S0 : HeadArgs w A n c m sg t L (.slice (some ⟨w.heap.size + 1, 0, none⟩) 0 0) (.int .i64 ((a + 1 : Nat) : Int)) (.int .i64 (T : Int)) w2 :=
  ⟨T, a + 1, _, _, _, [], rfl, rfl, rfl, Own.next ow bb, hcoll, by omega, rA.next bb, bel.trans (bb.mono (Nat.le_of_lt rA.lt))⟩
 have HS := hid S0
 clear S0 bb rA bel ow s hx1 cA cx' hcoll
 go_wp2_with fail
 go_loopw [7, 8, 9] (fun out p k wr => HeadArgs w A n c m sg t L out p k wr) (fun _ _ k _ => (intOf k).toNat)
 case atStart => simpa using HS.out
 case round =>
  obtain ⟨q, pp, O, on, oc, ys, rfl, rfl, rfl, ho, hc, hq, hr, hb⟩ := hrel
  clear HS
  have hon : on ≤ 3 := by have := Own.len ho; have := hc.len; omega
  cases q with
  | zero =>
   have F : AnsList w L (.returned (.slice O on oc)) wr := ⟨O, on, oc, rfl, by rw [← hc.done]; exact Own.lower ho (Nat.le_succ _), hb⟩
   have HF := hid F
   clear F ho hc hr hb h h'
   go_wp2
   go_ret
   exact HF.out
  | succ q =>
   obtain ⟨jj, hj, hj2', hlt, hc'⟩ := hc.first
   have HE := hid (endI_some hj)
   have hsz := hr.lt
   have e0 : (0 : Int) < ((q + 1 : Nat) : Int) := by omega
   have hpp : pp ≤ 1048576 := by omega
   clear hc hj
   go_wp2_with (at_builtin; refine app1 rfl _ _ rfl (w.heap.size + 1) O on oc ys rfl (Own.alloc ho _) wr.heap.size 1 (pp : Int) rfl ((Row.new _ _ _).cell 0) (by omega) (by simp; omega) ?_; intro O' oc' w2 ho2 b2; have r2 : Row w2 w.heap.size 26 #[.slice A n c] := (hr.alloc _).below b2 (Nat.lt_succ_self _); have bel2 : Below w.heap.size w w2 := (hb.alloc (Nat.le_of_lt hsz) _).trans (b2.mono (Nat.le_succ _)); have cA2 : w2.cell? ⟨w.heap.size, 0, none⟩ = some (.slice A n c) := r2.cell 0)
   have s2 : Seg w2 w2.heap.size A n sg := (h.below bel2).more bel2.size
   have s2' : Seg w2 w2.heap.size (some ⟨b, off, none⟩) m t := (h'.below bel2).more bel2.size
   clear ho b2 hr hb
   refine (specEnd A _ n c m c' sg t (pp : Int) _ s2 s2' hn hm HS0.out (by omega) (by omega)).mono ?_
   rintro e w3 ⟨he, bb⟩
   rw [Int.toNat_natCast, HE.out] at he
   subst he
   have S : HeadArgs w A n c m sg t L (.slice O' (on + 1) oc') (.int .i64 ((pp : Int) + jj)) (.int .i64 (q : Int)) w3 :=
    ⟨q, pp + jj, O', on + 1, oc', _, rfl, by simp, rfl, Own.next ho2 bb, hc', by omega, r2.next bb, next_trans bel2 bb⟩
   have HSS := hid S
   clear S bb ho2 r2 bel2 cA2 s2 s2' hc'
   go_wp2
   go_roundw
   case rel => first | exact HSS.out | simpa using HSS.out
   case measure => simp [intOf]
theorem Cur.keep {w w' : World} {p : Nat} {A : Option Addr} {n c : Nat} {A' : Option Addr} {m c' : Nat} {sg t : List Int} {k : Nat} (h : Cur w p A n c A' m c' sg t k) (hb : Below (p + 1) w w') : Cur w' p A n c A' m c' sg t k :=
 ⟨h.row.below hb (Nat.lt_succ_self _), h.s.below (hb.mono (Nat.le_succ _)), h.s'.below (hb.mono (Nat.le_succ _)), h.le, h.hn, h.hm, h.ars⟩
theorem Cur.alloc {w : World} {p : Nat} {A : Option Addr} {n c : Nat} {A' : Option Addr} {m c' : Nat} {sg t : List Int} {k : Nat} (h : Cur w p A n c A' m c' sg t k) (o : Obj) : Cur (w.alloc o) p A n c A' m c' sg t k :=
 h.below ((Below.refl _ _).alloc (Nat.le_refl _) _)
theorem args_over {w a b : World} {B : Nat} {r : Option Nat} (g : w.grownBy a r) (hb : Below B a b) (hB : w.heap.size ≤ B) : w.grownBy b r :=
 ⟨hb.os.trans g.os, hb.tape.trans g.tape, hb.output.trans g.output, Nat.le_trans g.size hb.size, fun k hk hne => (hb.block k (by omega)).trans (g.block k hk hne)⟩
end args
end
section
namespace depth
open Go.RowKit base ints sig term arity endOf cursor termOk endAt marks app sym args
def Deep (sg t : List Int) (f : Nat) (M d : Int) (q p : Nat) : Prop := max d (maxOver sg t (dep sg t f) q p) = M ∧ 0 ≤ d ∧ d ≤ f ∧ ∃ i, scan sg q (t.drop p) = some i ∧ i ≤ f ∧ p + i ≤ t.length
theorem Deep.first {sg t : List Int} {f : Nat} {M d : Int} {q p : Nat} (h : Deep sg t f M d (q + 1) p) : ∃ j, scan sg 1 (t.drop p) = some j ∧ j ≤ f ∧ p < t.length ∧ p + j ≤ t.length ∧ Deep sg t f M (max d (dep sg t f p)) q (p + j) := by
 obtain ⟨h1, h2, h3, i, h4, h5, h6⟩ := h
 obtain ⟨j, e1, e2, e3, e4⟩ := scan_first h4
 have hb := dep_bd (sg := sg) (t := t) f p
 refine ⟨j, e1, by omega, by omega, by omega, ?_, by omega, by omega, i - j, e4, by omega, by omega⟩
 simp only [maxOver, len1_eq e1] at h1
 omega
theorem Deep.done {sg t : List Int} {f : Nat} {M d : Int} {p : Nat} (h : Deep sg t f M d 0 p) : d = M := by
 have h1 := h.1
 have h2 := h.2.1
 simp only [maxOver] at h1
 omega
theorem termOk_pos {sg t : List Int} (h : termOkB sg t = true) : 0 < t.length := by
 have := scan_pos (q := 0) (termOk_parts h).2.2
 exact this
end depth
end
section
namespace termFacts
open sig term termOk
theorem term_parts {sg t : List Int} (h : termOkB sg t = true) : sigOkB sg = true ∧ t.length ≤ 60 ∧ scan sg 1 t = some t.length := by
 unfold termOkB termB at h
 simp only [Bool.and_eq_true, decide_eq_true_eq] at h
 exact h
theorem term_len {sg t : List Int} (h : termOkB sg t = true) : 1 ≤ t.length ∧ t.length ≤ 60 := ⟨scan_pos (q := 0) (term_parts h).2.2, (term_parts h).2.1⟩
theorem term_ar {sg t : List Int} (h : termOkB sg t = true) {j : Nat} (hj : j < t.length) : ¬ ar sg (t.getD j 0) < 0 := by
 obtain ⟨i, h1, _, _⟩ := scan_at (term_parts h).2.2 hj
 obtain ⟨_, _, _, h2, _⟩ := scan_args h1
 exact h2
theorem term_num {sg t : List Int} (h : termOkB sg t = true) {j : Nat} (hj : j < t.length) : -24 ≤ t.getD j 0 ∧ t.getD j 0 < 8 := by
 have h1 := term_ar h hj
 have h2 := (sig_arities (term_parts h).1).2
 unfold ar at h1
 split at h1
 ·omega
 ·split at h1
  ·omega
  ·omega
theorem term_mem {sg t : List Int} (h : termOkB sg t = true) {x : Int} (hx : x ∈ t) : -24 ≤ x ∧ x < 8 := by
 obtain ⟨j, hj, rfl⟩ := List.getElem_of_mem hx
 have := term_num h hj
 simpa [List.getD, hj] using this
end termFacts
end
section
namespace termText
open Go.RowKit base ints sig term arity endOf cursor termOk endAt marks app sym args depth termFacts text textL
set_option maxRecDepth 100000
def hdT (n : Int) : List UInt8 := if n < 0 then 120 :: dg (-1 - n).toNat else 102 :: dg n.toNat
def wordsOf (sg t : List Int) (g : Nat → List UInt8) : Nat → Nat → List (List UInt8)
 | 0, _ => []
 | k + 1, p => g p :: wordsOf sg t g k (p + len1 sg t p)
def open_ (ws : List (List UInt8)) : List UInt8 := if ws = [] then [] else 40 :: Lib.join ws [44]
def shut_ (ws : List (List UInt8)) : List UInt8 := if ws = [] then [] else [41]
def txt (sg t : List Int) : Nat → Nat → List UInt8
 | 0, _ => []
 | f + 1, a => hdT (t.getD a 0) ++ open_ (wordsOf sg t (txt sg t f) (ar sg (t.getD a 0)).toNat (a + 1)) ++ shut_ (wordsOf sg t (txt sg t f) (ar sg (t.getD a 0)).toNat (a + 1))
def Small (t : List Int) : Prop := ∀ p, p < t.length → -24 ≤ t.getD p 0 ∧ t.getD p 0 < 100
theorem hdT_len {n : Int} (h : -24 ≤ n ∧ n < 100) : (hdT n).length ≤ 3 := by
 unfold hdT
 split
 ·have := dg_len (n := (-1 - n).toNat) (by omega); simp; omega
 ·have := dg_len (n := n.toNat) (by omega); simp; omega
theorem words_count (sg t : List Int) (g : Nat → List UInt8) : ∀ k p, (wordsOf sg t g k p).length = k
 | 0, _ => rfl
 | k + 1, p => by simp [wordsOf, words_count sg t g k]
def lens (ws : List (List UInt8)) : Nat := (ws.map List.length).sum
theorem join_lens (ws : List (List UInt8)) (hne : ws ≠ []) : (Lib.join ws [44]).length + 1 ≤ lens ws + ws.length := by
 cases ws with
 | nil => exact absurd rfl hne
 | cons x r =>
  rw [Lib.join_cons]
  have h : ∀ r : List (List UInt8), (Lib.joinTail [44] r).length = lens r + r.length := by
   intro r
   induction r with
   | nil => simp [Lib.joinTail, lens]
   | cons y r ih =>
    have e : Lib.joinTail [44] (y :: r) = [44] ++ y ++ Lib.joinTail [44] r := by simp [Lib.joinTail]
    rw [e]
    simp only [List.length_append, ih, lens, List.map_cons, List.sum_cons, List.length_cons, List.length_nil]
    omega
  simp only [List.length_append, h, lens, List.map_cons, List.sum_cons, List.length_cons]
  omega
theorem txt_len {sg t : List Int} (hs : Arities sg) (hsm : Small t) : ∀ f a j, scan sg 1 (t.drop a) = some j → j ≤ f → (txt sg t f a).length ≤ 7 * j
 | 0, a, j, hj, hf => by have := scan_pos (q := 0) hj; omega
 | f + 1, a, j, hj, hf => by
  obtain ⟨r, rfl, hat, hneg, hr⟩ := scan_args hj
  have hw : ∀ q p r, scan sg q (t.drop p) = some r → r ≤ f → lens (wordsOf sg t (txt sg t f) q p) ≤ 7 * r := by
   intro q
   induction q with
   | zero => intro p r _ _; simp [wordsOf, lens]
   | succ q ih =>
    intro p r hr hf
    obtain ⟨j, e1, e2, e3, e4⟩ := scan_first hr
    have h1 := txt_len hs hsm f p j e1 (by omega)
    have h2 := ih (p + j) (r - j) e4 (by omega)
    simp only [wordsOf, len1_eq e1, lens, List.map_cons, List.sum_cons] at h2 ⊢
    omega
  have h1 := hw _ _ _ hr (by omega)
  have h2 := hdT_len (hsm a hat)
  have h3 := ar_bd hs (t.getD a 0)
  have h4 := words_count sg t (txt sg t f) (ar sg (t.getD a 0)).toNat (a + 1)
  have h5 := join_lens (wordsOf sg t (txt sg t f) (ar sg (t.getD a 0)).toNat (a + 1))
  obtain ⟨H, hH⟩ : ∃ H, hdT (t.getD a 0) = H := ⟨_, rfl⟩
  rw [hH] at h2
  show (hdT (t.getD a 0) ++ open_ _ ++ shut_ _).length ≤ _
  rw [hH]
  obtain ⟨ws, hws⟩ : ∃ ws, wordsOf sg t (txt sg t f) (ar sg (t.getD a 0)).toNat (a + 1) = ws := ⟨_, rfl⟩
  rw [hws] at h1 h4 h5 ⊢
  unfold open_ shut_
  by_cases hn : ws = []
  ·rw [if_pos hn, if_pos hn]; simp; omega
  ·have h6 := h5 hn
   rw [if_neg hn, if_neg hn]; simp only [List.length_append, List.length_cons, List.length_nil]; omega
theorem words_le {sg t : List Int} (hs : Arities sg) (hsm : Small t) {f : Nat} (hf60 : f ≤ 500) : ∀ q p r, scan sg q (t.drop p) = some r → r ≤ f → ∀ x ∈ wordsOf sg t (txt sg t f) q p, x.length ≤ 4096
 | 0, p, r, _, _ => by intro x hx; cases hx
 | q + 1, p, r, hr, hf => by
  intro x hx
  obtain ⟨j, e1, e2, e3, e4⟩ := scan_first hr
  rcases List.mem_cons.1 hx with rfl | hx
  ·have := txt_len hs hsm f p j e1 (by omega); omega
  ·rw [len1_eq e1] at hx
   exact words_le hs hsm hf60 q (p + j) (r - j) e4 (by omega) x hx
set_option maxHeartbeats 1000000 in
theorem headText (n : Int) (w : World) (h : -24 ≤ n ∧ n < 100) :
  Calls Tryd.prog 36 #[.int .i64 n] w fun e w' => e = .returned (.string (bs (hdT n))) ∧ w' = w := by
 by_cases h0 : n < 0
 ·obtain ⟨m, hm⟩ : ∃ m : Nat, -1 - n = (m : Int) := ⟨(-1 - n).toNat, by omega⟩
  have LN := Lib.hid (numberText m w (by omega))
  have e : bs [120] ++ bs (dg m) = bs (hdT n) := by
   rw [bs_app]
   unfold hdT
   rw [if_pos h0, hm, Int.toNat_natCast]
   rfl
  have E := Lib.hid e
  have h1 : -1 - n = (m : Int) := hm
  have h2 : (m : Int) < 100 := by omega
  have ho : ¬ 9223372036854775807 < (⟨#[120]⟩ : ByteArray).size + (bs (dg m)).size := by rw [bs_size]; have := dg_len (n := m) (by omega); show ¬ _ < 1 + _; omega
  clear e hm
  go_enter Tryd.func36, Tryd.ntmps36
  go_wp2_with fail
  refine LN.out.mono ?_
  rintro e w' ⟨rfl, hw⟩
  obtain rfl : w = w' := hw.symm
  clear h1
  go_wp2
  go_ret
  exact ⟨by rw [← E.out]; rfl, rfl⟩
 ·obtain ⟨m, rfl⟩ := Int.eq_ofNat_of_zero_le (Int.not_lt.1 h0)
  have LN := Lib.hid (numberText m w (by omega))
  have e : bs [102] ++ bs (dg m) = bs (hdT (m : Int)) := by
   rw [bs_app]
   unfold hdT
   rw [if_neg h0, Int.toNat_natCast]
   rfl
  have E := Lib.hid e
  have ho : ¬ 9223372036854775807 < (⟨#[102]⟩ : ByteArray).size + (bs (dg m)).size := by rw [bs_size]; have := dg_len (n := m) (by omega); show ¬ _ < 1 + _; omega
  clear e
  go_enter Tryd.func36, Tryd.ntmps36
  go_wp2_with fail
  refine LN.out.mono ?_
  rintro e w' ⟨rfl, hw⟩
  obtain rfl : w = w' := hw.symm
  go_wp2
  go_ret
  exact ⟨by rw [← E.out]; rfl, rfl⟩
end termText
end
section
open Go.Lib (hid)
namespace termText
open Go.RowKit base ints sig term arity endOf cursor termOk endAt marks app sym args depth termFacts text textL
set_option maxRecDepth 100000
def HeadTx (w : World) (A : Option Addr) (n c : Nat) (O : Option Addr) (T oc : Nat) (ys : List Int) (sg t : List Int) (f m : Nat) (H : List UInt8) (Wd : List (List UInt8)) (s i : Value) (wr : World) : Prop :=
 ∃ (k q pp r : Nat) (ws : List (List UInt8)), i = .int .i64 k ∧ k + q = T ∧ ws.length = k ∧ ws ++ wordsOf sg t (txt sg t f) q pp = Wd ∧ ys.drop k = places sg t q pp ∧ scan sg q (t.drop pp) = some r ∧ pp + r ≤ m ∧ r ≤ f ∧ s = .string (bs (H ++ open_ ws)) ∧ Own wr (w.heap.size + 1) (.slice O T oc) ys ∧ Row wr w.heap.size 26 #[.slice A n c] ∧ Below w.heap.size w wr
theorem open_len {ws : List (List UInt8)} (h3 : ws.length ≤ 3) (h : ∀ x ∈ ws, x.length ≤ 4096) : (open_ ws).length ≤ 20000 := by
 unfold open_
 split
 ·simp
 ·have := join_bd (M := 4096) [44] ws h
  have h4 : ws.length * (4096 + [(44 : UInt8)].length) ≤ 3 * 4097 := Nat.mul_le_mul h3 (by simp)
  rw [List.length_cons]
  omega
theorem open_one (w : List UInt8) : open_ ([] ++ [w]) = [40] ++ w := by unfold open_; rw [if_neg (by simp)]; rw [List.nil_append, Lib.join_one]; rfl
theorem open_more {ws : List (List UInt8)} (w : List UInt8) (h : ws ≠ []) : open_ (ws ++ [w]) = open_ ws ++ [44] ++ w := by
 unfold open_
 rw [if_neg (by simp), if_neg h, join_snoc _ _ h]
 simp
set_option maxHeartbeats 4000000 in
theorem specTxt (A A' : Option Addr) (n c m c' : Nat) (sg t : List Int) (hn : n ≤ 1048576) (hm : m ≤ 1048576) (hs : Arities sg) (hsm : Small t) : ∀ (f a j : Nat) (x : Int) (w : World), Seg w w.heap.size A n sg → Seg w w.heap.size A' m t →
  x = (a : Int) → a < m → scan sg 1 (t.drop a) = some j → a + j ≤ m → j ≤ f → f ≤ 500 →
  Calls Tryd.prog 23 #[.agg #[.slice A n c], .slice A' m c', .int .i64 x] w fun e w' => e = .returned (.string (bs (txt sg t f a))) ∧ Below w.heap.size w w' := by
 intro f
 induction f with
 | zero =>
  intro a j x w _ _ _ _ hj _ hf _
  have := scan_pos (q := 0) hj
  omega
 | succ f ih =>
  intro a j x w h h' hx ha hj hl hf hff
  subst hx
  have IH := hid ih
  clear ih
  have HL := hid h'.1
  have HSM := hid hsm
  have HWL := hid (fun q p r h1 h2 => words_le hs hsm (f := f) (by omega) q p r h1 h2)
  have HTL := hid (fun p j h1 h2 => txt_len hs hsm f p j h1 h2)
  obtain ⟨r0, hjr, hat, hneg, hr0⟩ := scan_args hj
  have hsa := hsm a hat
  have hzb := ar_bd hs (t.getD a 0)
  have e2 : argsL sg t a = places sg t (ar sg (t.getD a 0)).toNat (a + 1) := rfl
  obtain ⟨T, hT⟩ : ∃ T, (ar sg (t.getD a 0)).toNat = T := ⟨_, rfl⟩
  have e1 : txt sg t (f + 1) a = hdT (t.getD a 0) ++ open_ (wordsOf sg t (txt sg t f) T (a + 1)) ++ shut_ (wordsOf sg t (txt sg t f) T (a + 1)) := by rw [← hT]; rfl
  rw [hT] at e2 hr0
  have hT3 : T ≤ 3 := by omega
  obtain ⟨W, hW⟩ : ∃ W, W = w.alloc (.cells #[.slice A n c] 26) := ⟨_, rfl⟩
  have rA : Row W w.heap.size 26 #[.slice A n c] := by rw [hW]; exact Row.new _ _ _
  have bel : Below w.heap.size w W := by rw [hW]; exact (Below.refl _ _).alloc (Nat.le_refl _) _
  have zW : W.heap.size = w.heap.size + 1 := by rw [hW]; simp
  obtain ⟨b, off, x, hA', hbb, hcx0, ex⟩ := h'.spot ha
  have cx : (w.alloc (.cells #[.slice A n c] 26)).cell? ⟨b, off + a, none⟩ = some (.int .i64 x) := by rw [← hW]; exact (bel.cell (p := ⟨b, off + a, none⟩) hbb).trans hcx0
  have i0 : (0 : Int) ≤ (a : Int) := by omega
  have i1 : (a : Int) < (m : Int) := by omega
  rw [ex.out] at hsa e1 hT hzb
  have HW := hid hW
  clear hW hcx0
  subst hA'
  by_cases hx0 : x < 0
  ·obtain ⟨m0, hm0⟩ : ∃ z : Nat, -1 - x = (z : Int) := ⟨(-1 - x).toNat, by omega⟩
   have hT0 : T = 0 := by rw [← hT, ar_var (by omega)]; rfl
   have LI := hid (l1Int m0 W (by omega))
   have E := hid (show bs [120] ++ bs (dg m0) = bs (txt sg t (f + 1) a) by
    rw [bs_app, e1, hT0]
    unfold hdT open_ shut_ wordsOf
    rw [if_pos hx0, hm0, Int.toNat_natCast]
    simp)
   have ho : ¬ 9223372036854775807 < (⟨#[120]⟩ : ByteArray).size + (bs (dg m0)).size := by rw [bs_size]; have := dg_len (n := m0) (by omega); show ¬ _ < 1 + _; omega
   clear hj hr0 hT e1 e2 hneg hzb hat h h' HWL HTL IH
   go_enter Tryd.func23, Tryd.ntmps23
   go_wp2_with fail
   rw [← HW.out]
   refine LI.out.mono ?_
   rintro e w1 ⟨rfl, bb⟩
   have F := hid (next_trans bel bb)
   clear bb bel rA LI cx hm0
   go_wp2
   go_ret
   exact ⟨by rw [← E.out]; rfl, F.out⟩
  ·obtain ⟨x0, rfl⟩ := Int.eq_ofNat_of_zero_le (Int.not_lt.1 hx0)
   have HH := hid (show hdT (x0 : Int) = [102] ++ dg x0 by unfold hdT; rw [if_neg hx0, Int.toNat_natCast]; rfl)
   have LI := hid (l1Int x0 W (by omega))
   have hdl := dg_len (n := x0) (by omega)
   obtain ⟨Hd, hHd⟩ : ∃ z, hdT (x0 : Int) = z := ⟨_, rfl⟩
   have hHl : Hd.length ≤ 3 := by rw [← hHd]; exact hdT_len (by omega)
   rw [hHd] at HH e1
   have E0 := hid (show bs [102] ++ bs (dg x0) = bs Hd by rw [bs_app, HH.out])
   have ho : ¬ 9223372036854775807 < (⟨#[102]⟩ : ByteArray).size + (bs (dg x0)).size := by rw [bs_size]; show ¬ _ < 1 + _; omega
   obtain ⟨ys, hys⟩ : ∃ ys, argsL sg t a = ys := ⟨_, rfl⟩
   have hylen : ys.length = T := by rw [← hys, e2, places_len]
   have hpl : ys.drop 0 = places sg t T (a + 1) := by rw [← hys, e2]; rfl
   have LA := hid (fun (w1 : World) (bb : Below w.heap.size w w1) => l1Args A (some ⟨b, off, none⟩) n c m c' sg t a j w1 (h.next bb) (h'.next bb) hn hm hs ha hj hl)
   simp only [hys] at LA
   obtain ⟨Wd, hWd⟩ : ∃ z, wordsOf sg t (txt sg t f) T (a + 1) = z := ⟨_, rfl⟩
   rw [hWd] at e1
   have HE := hid e1
   have HWc := hid (show Wd.length = T by rw [← hWd]; exact words_count _ _ _ _ _)
   have HWb := hid (show ∀ x ∈ Wd, x.length ≤ 4096 by rw [← hWd]; exact HWL.out _ _ _ hr0 (by omega))
   have HST := hid (show scan sg T (t.drop (a + 1)) = some r0 ∧ a + 1 + r0 ≤ m ∧ r0 ≤ f ∧ wordsOf sg t (txt sg t f) T (a + 1) = Wd from ⟨hr0, by omega, by omega, hWd⟩)
   have HYS := hid (show ys.length = T ∧ ys.drop 0 = places sg t T (a + 1) from ⟨hylen, hpl⟩)
   have H := hid h
   have H' := hid h'
   clear hj hr0 hT e1 e2 hneg hzb hat hHd hys hWd hylen hpl hdl h h' HWL
   go_enter Tryd.func23, Tryd.ntmps23
   go_wp2_with fail
   rw [← HW.out]
   refine LI.out.mono ?_
   rintro e w1 ⟨rfl, bb⟩
   replace rA := rA.next bb
   replace bel := next_trans bel bb
   have cA : w1.cell? ⟨w.heap.size, 0, none⟩ = some (.slice A n c) := rA.cell 0
   have zw1 : w.heap.size + 1 ≤ w1.heap.size := by have := bb.size; omega
   have LA1 := hid (LA.out w1 bel)
   clear bb LI LA zW cx
   go_wp2_with fail
   refine LA1.out.mono ?_
   rintro e w2 ⟨O, on, oc, rfl, ho2, bb⟩
   have hon := Own.len ho2
   rw [HYS.out.1] at hon
   subst hon
   have S0 : HeadTx w A n c O on oc ys sg t f m Hd Wd (.string (bs Hd)) (.int .i64 0) w2 := ⟨0, on, a + 1, r0, [], rfl, by omega, rfl, by rw [List.nil_append]; exact HST.out.2.2.2, HYS.out.2, HST.out.1, HST.out.2.1, HST.out.2.2.1, by unfold open_; rw [if_pos rfl, List.append_nil], Own.lower ho2 zw1, rA.next bb, next_trans bel bb⟩
   have HS := hid S0
   clear S0 ho2 bb bel rA cA LA1
   have E1 : (⟨#[102]⟩ : ByteArray) ++ bs (dg x0) = bs Hd := E0.out
   go_wp2_with fail
   go_loopw [7, 9] (fun s i wr => HeadTx w A n c O on oc ys sg t f m Hd Wd s i wr) (fun _ i _ => on - (intOf i).toNat)
   case atStart => first | exact HS.out | (rw [E1]; exact HS.out)
   case round =>
    clear E1
    obtain ⟨k, q, pp, r, ws, rfl, hkq, hwl, hwd, hpl, hsc, hpr, hrf, rfl, ho, hr, hb⟩ := hrel
    clear HS
    have hwb : ∀ x ∈ ws, x.length ≤ 4096 := fun x hx => HWb.out x (by rw [← hwd]; exact List.mem_append_left _ hx)
    have hol := open_len (ws := ws) (by omega) hwb
    obtain ⟨V, hV⟩ : ∃ z, Hd ++ open_ ws = z := ⟨_, rfl⟩
    have hVl : V.length ≤ 20003 := by rw [← hV, List.length_append]; omega
    rw [hV]
    cases q with
    | zero =>
     have hk : k = on := by omega
     subst hk
     have hws : ws = Wd := by rw [← hwd]; simp [wordsOf]
     subst hws
     by_cases h0 : k = 0
     ·have hz : ws = [] := List.length_eq_zero_iff.1 (by omega)
      have F := hid (show bs V = bs (txt sg t (f + 1) a) ∧ Below w.heap.size w wr from ⟨by rw [HE.out, ← hV, hz]; unfold open_ shut_; simp, hb⟩)
      have hk0 : ¬ (0 : Int) < (k : Int) := by omega
      clear ho hr hb hpl hkq h0 hV hwd hz hwl
      go_wp2
      go_ret
      exact ⟨by rw [F.out.1]; rfl, F.out.2⟩
     ·have hz : ws ≠ [] := fun e => h0 (by rw [← hwl, e]; rfl)
      have F := hid (show bs V ++ bs [41] = bs (txt sg t (f + 1) a) ∧ Below w.heap.size w wr from ⟨by rw [bs_app, HE.out, ← hV]; unfold shut_; rw [if_neg hz], hb⟩)
      have hk0 : (0 : Int) < (k : Int) := by omega
      have ho3 : ¬ 9223372036854775807 < (bs V).size + (⟨#[41]⟩ : ByteArray).size := by rw [bs_size]; show ¬ _ < _ + 1; omega
      clear ho hr hb hpl hkq h0 hV hwd hz hwl
      go_wp2
      go_ret
      exact ⟨by rw [← F.out.1]; rfl, F.out.2⟩
    | succ q =>
     obtain ⟨jj, hj, hjr, hle, hsc'⟩ := scan_first hsc
     have hkT : k < on := by omega
     have hplt : pp < t.length := by have := scan_args hj; obtain ⟨_, _, h2, _⟩ := this; exact h2
     have hyk : ys.getD k 0 = (pp : Int) := by
      have : (ys.drop k)[0]? = (places sg t (q + 1) pp)[0]? := by rw [hpl]
      simp [places] at this
      simp [List.getD, this]
     have hpl' : ys.drop (k + 1) = places sg t q (pp + jj) := by
      have : (ys.drop k).drop 1 = (places sg t (q + 1) pp).drop 1 := by rw [hpl]
      rw [List.drop_drop] at this
      simpa [places, len1_eq hj] using this
     have so := Own.seg ho
     obtain ⟨bo, oo, y, rfl, hbo, hy, ey⟩ := so.spot hkT
     have hyy : y = (pp : Int) := by rw [← ey.out]; exact hyk
     subst hyy
     have cA : wr.cell? ⟨w.heap.size, 0, none⟩ = some (.slice A n c) := hr.cell 0
     have s : Seg wr.drew wr.heap.size A n sg := ((H.out.below hb).more hb.size).drew
     have s' : Seg wr.drew wr.heap.size (some ⟨b, off, none⟩) m t := ((H'.out.below hb).more hb.size).drew
     obtain ⟨X, hX⟩ : ∃ z, txt sg t f pp = z := ⟨_, rfl⟩
     have hXl : X.length ≤ 4096 := by rw [← hX]; have := HTL.out pp jj hj (by omega); omega
     have hws' : (ws ++ [X]) ++ wordsOf sg t (txt sg t f) q (pp + jj) = Wd := by
      rw [← hwd]
      simp only [wordsOf, len1_eq hj, hX, List.append_assoc, List.singleton_append]
     have HX := hid hX
     have HWS := hid hws'
     have HJ := hid hj
     have HKQ := hid hkq
     have HSC := hid (show scan sg q (t.drop (pp + jj)) = some (r - jj) ∧ pp + jj + (r - jj) ≤ m ∧ r - jj ≤ f from ⟨hsc', by omega, by omega⟩)
     have HWN := hid hwl
     have i0 : (0 : Int) ≤ (k : Int) := by omega
     have i1 : (k : Int) < (on : Int) := by omega
     have hplt' : pp < m := by rw [← HL.out]; exact hplt
     have hpj' : pp + jj ≤ m := by omega
     have hjf : jj ≤ f := by omega
     replace ho := Own.drew ho
     replace hr := hr.drew
     replace hb := hb.drew
     have HPL := hid hpl'
     have HV := hid hV
     clear hpl hpl' hyk ey so hj hkq hX hws' hwd hsc hsc' hplt hV hwb hol hle hjr hpr hrf
     by_cases h0 : k = 0
     case pos =>
      have oS1 : ¬ 9223372036854775807 < (bs V).size + (⟨#[40]⟩ : ByteArray).size := by rw [bs_size]; show ¬ _ < _ + 1; omega
      have eV : bs V ++ (⟨#[40]⟩ : ByteArray) = bs (V ++ [40]) := bs_app V [40]
      have oS2 : ¬ 9223372036854775807 < (bs V ++ (⟨#[40]⟩ : ByteArray)).size + (bs X).size := by rw [eV, bs_size, bs_size, List.length_append]; show ¬ _ < _ + 1 + _; omega
      have oS3 : ¬ 9223372036854775807 < (bs V).size + (⟨#[40]⟩ : ByteArray).size + (bs X).size := by rw [bs_size, bs_size]; show ¬ _ < _ + 1 + _; omega
      have oS4 : ¬ 9223372036854775807 < (bs V).size + 1 + (bs X).size := oS3
      have oS5 : (bs V).size + 1 + (bs X).size ≤ 9223372036854775807 := by omega
      have hrun : ∀ (v : World), (Op.stringOp .add (bs V ++ (⟨#[40]⟩ : ByteArray)) (bs X)).run Tryd.prog v = .ok (.string (bs V ++ (⟨#[40]⟩ : ByteArray) ++ bs X)) v := fun v => run_string_add_sum v _ _ (by omega)
      have EE := hid (show bs V ++ (⟨#[40]⟩ : ByteArray) ++ bs X = bs (Hd ++ open_ (ws ++ [X])) by rw [eV, bs_app, ← HV.out, List.length_eq_zero_iff.1 (show ws.length = 0 by have := HWN.out; omega), open_one]; unfold open_; simp)
      have EK : ((k : Int) == 0) = true := by rw [h0]; rfl
      clear eV h0
      go_wp2_with fail
      go_region_held3 (fun w' => w'.cell? ⟨w.heap.size, 0, none⟩ = some (.slice A n c) ∧ w'.cell? ⟨bo, oo + k, none⟩ = some (.int .i64 (pp : Int)))
       (go_keep)
       (first
        | (go_at_call 23; refine (IH.out pp jj _ _ s s' rfl hplt' HJ.out hpj' hjf (by omega)).mono ?_; rintro e w4 ⟨he, bb⟩; rw [HX.out] at he; subst he; replace hr := hr.next bb; replace ho := Own.next ho bb; replace hb := next_trans hb bb; replace cA : w4.cell? ⟨w.heap.size, 0, none⟩ = some (.slice A n c) := hr.cell 0; replace hy : w4.cell? ⟨bo, oo + k, none⟩ = some (.int .i64 (pp : Int)) := (bb.cell (p := ⟨bo, oo + k, none⟩) hbo).trans hy))
      have S : HeadTx w A n c (some ⟨bo, oo, none⟩) on oc ys sg t f m Hd Wd (.string (bs V ++ (⟨#[40]⟩ : ByteArray) ++ bs X)) (.int .i64 ((k : Int) + 1)) w4 :=
       ⟨k + 1, q, pp + jj, r - jj, ws ++ [X], by simp, by have := HKQ.out; omega, by rw [List.length_append, HWN.out]; rfl, HWS.out, HPL.out, HSC.out.1, HSC.out.2.1, HSC.out.2.2, by rw [EE.out], ho, hr, hb⟩
      have HSS := hid S
      clear S ho hr hb bb cA hy s s'
      go_wp2
      go_roundw
      case rel => exact HSS.out
      case measure => simp [intOf]; omega
     have oS1 : ¬ 9223372036854775807 < (bs V).size + (⟨#[44]⟩ : ByteArray).size := by rw [bs_size]; show ¬ _ < _ + 1; omega
     have eV : bs V ++ (⟨#[44]⟩ : ByteArray) = bs (V ++ [44]) := bs_app V [44]
     have oS2 : ¬ 9223372036854775807 < (bs V ++ (⟨#[44]⟩ : ByteArray)).size + (bs X).size := by rw [eV, bs_size, bs_size, List.length_append]; show ¬ _ < _ + 1 + _; omega
     have oS3 : ¬ 9223372036854775807 < (bs V).size + (⟨#[44]⟩ : ByteArray).size + (bs X).size := by rw [bs_size, bs_size]; show ¬ _ < _ + 1 + _; omega
     have oS4 : ¬ 9223372036854775807 < (bs V).size + 1 + (bs X).size := oS3
     have oS5 : (bs V).size + 1 + (bs X).size ≤ 9223372036854775807 := by omega
     have hrun : ∀ (v : World), (Op.stringOp .add (bs V ++ (⟨#[44]⟩ : ByteArray)) (bs X)).run Tryd.prog v = .ok (.string (bs V ++ (⟨#[44]⟩ : ByteArray) ++ bs X)) v := fun v => run_string_add_sum v _ _ (by omega)
     have EE := hid (show bs V ++ (⟨#[44]⟩ : ByteArray) ++ bs X = bs (Hd ++ open_ (ws ++ [X])) by rw [eV, bs_app, ← HV.out, open_more X (fun e => h0 (by have := HWN.out; rw [e] at this; exact this.symm))]; simp)
     have EK : ((k : Int) == 0) = false := by simp; omega
     clear eV h0
     go_wp2_with fail
     go_region_held3 (fun w' => w'.cell? ⟨w.heap.size, 0, none⟩ = some (.slice A n c) ∧ w'.cell? ⟨bo, oo + k, none⟩ = some (.int .i64 (pp : Int)))
      (go_keep)
      (first
       | (go_at_call 23; refine (IH.out pp jj _ _ s s' rfl hplt' HJ.out hpj' hjf (by omega)).mono ?_; rintro e w4 ⟨he, bb⟩; rw [HX.out] at he; subst he; replace hr := hr.next bb; replace ho := Own.next ho bb; replace hb := next_trans hb bb; replace cA : w4.cell? ⟨w.heap.size, 0, none⟩ = some (.slice A n c) := hr.cell 0; replace hy : w4.cell? ⟨bo, oo + k, none⟩ = some (.int .i64 (pp : Int)) := (bb.cell (p := ⟨bo, oo + k, none⟩) hbo).trans hy))
     have S : HeadTx w A n c (some ⟨bo, oo, none⟩) on oc ys sg t f m Hd Wd (.string (bs V ++ (⟨#[44]⟩ : ByteArray) ++ bs X)) (.int .i64 ((k : Int) + 1)) w4 :=
      ⟨k + 1, q, pp + jj, r - jj, ws ++ [X], by simp, by have := HKQ.out; omega, by rw [List.length_append, HWN.out]; rfl, HWS.out, HPL.out, HSC.out.1, HSC.out.2.1, HSC.out.2.2, by rw [EE.out], ho, hr, hb⟩
     have HSS := hid S
     clear S ho hr hb bb cA hy s s'
     go_wp2
     go_roundw
     case rel => exact HSS.out
     case measure => simp [intOf]; omega
def termT (sg t : List Int) : List UInt8 := if termOkB sg t = true then txt sg t t.length 0 else []
theorem small_of {sg t : List Int} (h : termOkB sg t = true) : Small t := fun p hp => by
 have hm : t.getD p 0 ∈ t := by simp only [List.getD, List.getElem?_eq_getElem hp, Option.getD_some]; exact List.getElem_mem hp
 have h1 := term_mem h hm
 have h2 := (sig_arities (termOk_parts h).1).2.2
 omega
set_option maxHeartbeats 2000000 in
theorem specTermText0 (A A' : Option Addr) (n c m c' : Nat) (sg t : List Int) (w : World) (h : Seg w w.heap.size A n sg) (h' : Seg w w.heap.size A' m t) (hn : n ≤ 1048576) (hm : m ≤ 1048576) :
  Calls Tryd.prog 8 #[.agg #[.slice A n c], .slice A' m c'] w fun e w' => e = .returned (.string (bs (termT sg t))) ∧ Below w.heap.size w w' := by
 obtain ⟨W, hW⟩ : ∃ W, W = w.alloc (.cells #[.slice A n c] 26) := ⟨_, rfl⟩
 have rA : Row W w.heap.size 26 #[.slice A n c] := by rw [hW]; exact Row.new _ _ _
 have bel : Below w.heap.size w W := by rw [hW]; exact (Below.refl _ _).alloc (Nat.le_refl _) _
 replace h := (h.below bel).more bel.size
 replace h' := (h'.below bel).more bel.size
 have HW := hid hW
 have HL := hid h'.1
 clear hW
 have L := hid (specTermOk A A' n c m c' sg t W h h' hn hm)
 cases hok : termOkB sg t with
 | false =>
  have HS := hid hok
  have HT := hid (show termT sg t = [] by unfold termT; rw [if_neg (by rw [hok]; simp)])
  clear hok h h'
  go_enter Tryd.func8, Tryd.ntmps8
  go_wp2_with fail
  rw [← HW.out]
  refine L.out.mono ?_
  rintro e w1 ⟨he, bb⟩
  rw [HS.out] at he
  subst he
  have F := hid (next_trans bel bb)
  clear bb bel rA L
  go_wp2
  go_ret
  exact ⟨by rw [HT.out]; rfl, F.out⟩
 | true =>
  have HS := hid hok
  have HT := hid (show termT sg t = txt sg t m 0 by unfold termT; rw [if_pos hok, HL.out])
  have hars := (sig_arities (termOk_parts HS.out).1).1
  have hsmall := small_of hok
  have hpos : 0 < m := by have := termOk_pos HS.out; rw [HL.out] at this; exact this
  have h60 : m ≤ 60 := by rw [← HL.out]; exact (term_len hok).2
  have HJ := hid (show scan sg 1 (t.drop 0) = some m by rw [← HL.out]; exact (termOk_parts HS.out).2.2)
  clear hok
  have LX := hid (fun (w1 : World) (bb : Below W.heap.size W w1) => specTxt A A' n c m c' sg t hn hm hars hsmall m 0 m 0 w1 (h.next bb) (h'.next bb) rfl hpos HJ.out (by omega) (Nat.le_refl _) (by omega))
  go_enter Tryd.func8, Tryd.ntmps8
  go_wp2_with fail
  rw [← HW.out]
  refine L.out.mono ?_
  rintro e w1 ⟨he, bb⟩
  rw [HS.out] at he
  subst he
  have LX1 := hid (LX.out w1 bb)
  replace rA := rA.next bb
  replace bel := next_trans bel bb
  have cA : w1.cell? ⟨w.heap.size, 0, none⟩ = some (.slice A n c) := rA.cell 0
  clear bb LX L h h'
  go_wp2_with fail
  refine LX1.out.mono ?_
  rintro e w2 ⟨rfl, bb⟩
  have F := hid (next_trans bel bb)
  clear bb bel rA cA LX1
  go_wp2
  go_ret
  exact ⟨by rw [HT.out]; rfl, F.out⟩
end termText
end
section
open Go.Lib (hid)
namespace termText
open Go.RowKit base ints sig term arity endOf cursor termOk endAt marks app sym args depth termFacts text textL
set_option maxRecDepth 100000
def AnsTx (w : World) (p : Nat) (A : Option Addr) (n c : Nat) (A' : Option Addr) (m c' : Nat) (sg t : List Int) (k : Nat) (X : List UInt8) (e : Ending) (w' : World) : Prop :=
 e = .returned (.string (bs X)) ∧ w.grownBy w' (some p) ∧ Cur w' p A n c A' m c' sg t k
def HeadTi (w : World) (p : Nat) (A : Option Addr) (n c : Nat) (A' : Option Addr) (m c' : Nat) (sg t : List Int) (T f last : Nat) (Wd : List (List UInt8)) (out i : Value) (wr : World) : Prop :=
 ∃ (k q pp r : Nat) (ws : List (List UInt8)) (O : Option Addr) (oc : Nat), i = .int .i64 k ∧ out = .slice O k oc ∧ k + q = T ∧ ws ++ wordsOf sg t (txt sg t f) q pp = Wd ∧ scan sg q (t.drop pp) = some r ∧ pp + r = last ∧ r ≤ f ∧ OwnS wr w.heap.size (.slice O k oc) ws ∧ Cur wr p A n c A' m c' sg t pp ∧ w.grownBy wr (some p)
set_option maxHeartbeats 4000000 in
theorem implTxt (p : Nat) (A : Option Addr) (n c : Nat) (A' : Option Addr) (m c' : Nat) (sg t : List Int) (hsm : Small t) : ∀ (f a j : Nat) (w : World), Cur w p A n c A' m c' sg t a → scan sg 1 (t.drop a) = some j → j ≤ f → f ≤ 500 →
  Calls Tryd.prog 21 #[.pointer (some ⟨p, 0, none⟩)] w (AnsTx w p A n c A' m c' sg t (a + j) (txt sg t f a)) := by
 intro f
 induction f with
 | zero =>
  intro a j w _ hj hf _
  have := scan_pos (q := 0) hj
  omega
 | succ f ih =>
  intro a j w h hj hf hff
  have IH := hid ih
  clear ih
  have HL := hid h.s'.1
  have hs := h.ars
  have hp : p < w.heap.size := h.row.lt
  obtain ⟨r, hjr, hat, hneg, hr⟩ := scan_args hj
  have ham : a < m := by rw [← HL.out]; exact hat
  have hzb := ar_bd hs (t.getD a 0)
  have hsa := hsm a hat
  have hHl := hdT_len hsa
  obtain ⟨z, hz⟩ : ∃ z, ar sg (t.getD a 0) = z := ⟨_, rfl⟩
  have e1 : txt sg t (f + 1) a = hdT (t.getD a 0) ++ open_ (wordsOf sg t (txt sg t f) z.toNat (a + 1)) ++ shut_ (wordsOf sg t (txt sg t f) z.toNat (a + 1)) := by rw [← hz]; rfl
  rw [hz] at hneg hzb hr
  obtain ⟨T, rfl⟩ := Int.eq_ofNat_of_zero_le (show 0 ≤ z by omega)
  rw [Int.toNat_natCast] at e1 hr
  have hwb := words_le hs hsm (f := f) (by omega) _ _ _ hr (by omega)
  obtain ⟨Wd, hWd⟩ : ∃ z, wordsOf sg t (txt sg t f) T (a + 1) = z := ⟨_, rfl⟩
  rw [hWd] at e1 hwb
  have HWD := hid hWd
  have HWB := hid hwb
  have HTL := hid (fun p j h1 h2 => txt_len hs hsm f p j h1 h2)
  obtain ⟨b, off, x, rfl, hbb, hcx, ex⟩ := h.s'.spot ham
  rw [ex.out] at hsa hHl e1
  have HZ := hid (show ar sg (t.getD a 0) = (T : Int) from hz)
  have HE := hid e1
  have HR := hid hr
  have HJR := hid (show a + 1 + r = a + j ∧ r ≤ f by omega)
  have LH := hid (headText x w.drew hsa)
  have LN := hid (next p A n c (some ⟨b, off, none⟩) m c' sg t a w.drew (h.drewN 1))
  have c1 : w.cell? ⟨p, 1, none⟩ = some (.slice (some ⟨b, off, none⟩) m c') := h.row.cell 1
  have c2 : w.cell? ⟨p, 2, none⟩ = some (.int .i64 (a : Int)) := h.row.cell 2
  have i0 : (0 : Int) ≤ (a : Int) := by omega
  have i1 : (a : Int) < (m : Int) := by omega
  obtain ⟨Hd, hHd⟩ : ∃ z, hdT x = z := ⟨_, rfl⟩
  rw [hHd] at LH HE hHl
  clear hz e1 hj hs hneg hr hjr hat hWd hwb ex hHd h
  go_enter Tryd.func21, Tryd.ntmps21
  go_wp2_with fail
  go_region_held3 (fun w' => w'.cell? ⟨p, 1, none⟩ = some (.slice (some ⟨b, off, none⟩) m c') ∧ w'.cell? ⟨p, 2, none⟩ = some (.int .i64 (a : Int)) ∧ w'.cell? ⟨b, off + a, none⟩ = some (.int .i64 x))
   (go_keep)
   (first
    | (go_at_call 36; refine LH.out.mono ?_; rintro e w9 ⟨rfl, hw9⟩; subst hw9))
  clear c1 c2 hcx LH
  go_wp2_with fail
  refine LN.out.mono ?_
  rintro e w1 ⟨hg, ⟨-, he, hc⟩ | ⟨hk', -, -⟩⟩
  ·rw [HZ.out] at he
   subst he
   have hg0 : w.grownBy w1 (some p) := grown_trans (grown_below (Below.refl w.heap.size w).drew _) hg
   have S0 : HeadTi w p A n c (some ⟨b, off, none⟩) m c' sg t T f (a + j) Wd (.slice none 0 0) (.int .i64 0) w1 := ⟨0, T, a + 1, r, [], none, 0, rfl, rfl, by omega, by rw [List.nil_append]; exact HWD.out, HR.out, HJR.out.1, HJR.out.2, OwnS.nil _ _, hc, hg0⟩
   have HS := hid S0
   clear S0 hc hg hg0 LN
   go_wp2_with fail
   go_loopw [4, 18] (fun out i wr => HeadTi w p A n c (some ⟨b, off, none⟩) m c' sg t T f (a + j) Wd out i wr) (fun _ i _ => T - (intOf i).toNat)
   case atStart => exact HS.out
   case round =>
    obtain ⟨k, q, pp, r', ws, O, oc, rfl, rfl, hkq, hwd, hsc, hlast, hrf, ho, hcu, hgr⟩ := hrel
    clear HS
    cases q with
    | zero =>
     have hk : k = T := by omega
     subst hk
     rw [scan_zero] at hsc
     have hr0 : r' = 0 := by injection hsc with hsc; omega
     have hws : ws = Wd := by rw [← hwd]; simp [wordsOf]
     subst hws
     have hwl : ws.length = k := ho.at.1
     have hcl : Cur wr p A n c (some ⟨b, off, none⟩) m c' sg t (a + j) := by rw [← hlast, hr0]; exact hcu
     by_cases h0 : k = 0
     ·have hz : ws = [] := List.length_eq_zero_iff.1 (by omega)
      have F := hid (show AnsTx w p A n c (some ⟨b, off, none⟩) m c' sg t (a + j) (txt sg t (f + 1) a) (.returned (.string (bs Hd))) wr from ⟨by rw [HE.out, hz]; unfold open_ shut_; simp, hgr, hcl⟩)
      have EK : ((k : Int) == 0) = true := by rw [h0]; rfl
      clear ho hcu hgr hcl hwd hlast hkq h0 hz hwl
      go_wp2
      go_ret
      exact F.out
     ·have hz : ws ≠ [] := fun e => h0 (by rw [← hwl, e]; rfl)
      have hjl := join_bd (M := 4096) [44] ws HWB.out
      have h4 : ws.length * (4096 + [(44 : UInt8)].length) ≤ 3 * 4097 := Nat.mul_le_mul (by omega) (by simp)
      have LJ := hid (joinOwn O k oc ws [44] wr ho (by omega) HWB.out (by simp))
      obtain ⟨J, hJ⟩ : ∃ z, Lib.join ws [44] = z := ⟨_, rfl⟩
      rw [hJ] at LJ hjl
      have E := hid (show bs Hd ++ bs [40] ++ bs J ++ bs [41] = bs (txt sg t (f + 1) a) by
       rw [bs_app, bs_app, bs_app, HE.out]
       unfold open_ shut_
       rw [if_neg hz, if_neg hz, hJ]
       simp)
      have EK : ((k : Int) == 0) = false := by simp; omega
      have hHb : (bs Hd).size ≤ 3 := by rw [bs_size]; exact hHl
      have hJb : (bs J).size ≤ 20000 := by rw [bs_size]; omega
      have o1 : ¬ 9223372036854775807 < (bs Hd).size + 1 := by omega
      have o2 : ¬ 9223372036854775807 < (bs Hd).size + 1 + (bs J).size := by omega
      have o3 : ¬ 9223372036854775807 < (bs Hd).size + 1 + (bs J).size + 1 := by omega
      clear ho hwd hlast hkq h0 hz hwl hJ hjl h4 hcu
      go_wp2_with fail
      refine LJ.out.mono ?_
      rintro e w2 ⟨rfl, bb⟩
      have F := hid (show AnsTx w p A n c (some ⟨b, off, none⟩) m c' sg t (a + j) (txt sg t (f + 1) a) (.returned (.string (bs (txt sg t (f + 1) a)))) w2 from ⟨rfl, args_over hgr bb hgr.size, hcl.below bb⟩)
      clear bb hgr hcl LJ EK
      go_wp2
      go_ret
      have F2 := F.out
      rw [← E.out] at F2
      exact F2
    | succ q =>
     obtain ⟨jj, hj, hjp, hle, hsc'⟩ := scan_first hsc
     have hkT : k < T := by omega
     obtain ⟨X, hX⟩ : ∃ z, txt sg t f pp = z := ⟨_, rfl⟩
     have HX := hid hX
     have HJ := hid hj
     have HKQ := hid hkq
     have HWS := hid (show (ws ++ [X]) ++ wordsOf sg t (txt sg t f) q (pp + jj) = Wd by
      rw [← hwd]
      simp only [wordsOf, len1_eq hj, hX, List.append_assoc, List.singleton_append])
     have HSC := hid (show scan sg q (t.drop (pp + jj)) = some (r' - jj) ∧ pp + jj + (r' - jj) = a + j ∧ r' - jj ≤ f from ⟨hsc', by omega, by omega⟩)
     have hjf : jj ≤ f := by omega
     have hsz := hgr.size
     clear hX hj hkq hwd hsc hsc' hlast hle hjp
     go_wp2_with fail
     refine (IH.out pp jj _ hcu HJ.out hjf (by omega)).mono ?_
     rintro e w2 ⟨he, hg2, hc2⟩
     rw [HX.out] at he
     subst he
     have ho2 : OwnS w2 w.heap.size (.slice O k oc) ws := ho.far hg2 (fun g hgg => by injection hgg; omega)
     have hgr2 := grown_trans hgr hg2
     have hz2 := hgr2.size
     clear ho hg2 hgr hcu
     go_wp2_with (at_builtin; refine app1S rfl _ _ rfl w.heap.size O k oc ws rfl (ho2.next ((Below.refl _ _).alloc (Nat.le_refl _) _)) w2.heap.size 1 X rfl ((Row.new _ _ _).cell 0) (by omega) (by simp; omega) ?_; intro O' oc' w3 ho3 b3)
     have hcu3 : Cur w3 p A n c (some ⟨b, off, none⟩) m c' sg t (pp + jj) := Cur.keep (Cur.alloc hc2 _) (b3.mono hp)
     have hgr3 : w.grownBy w3 (some p) := args_over (args_over hgr2 ((Below.refl _ _).alloc (Nat.le_refl _) _) hz2) b3 (Nat.le_refl _)
     have S : HeadTi w p A n c (some ⟨b, off, none⟩) m c' sg t T f (a + j) Wd (.slice O' (k + 1) oc') (.int .i64 ((k : Int) + 1)) w3 :=
      ⟨k + 1, q, pp + jj, r' - jj, ws ++ [X], O', oc', by simp, rfl, by have := HKQ.out; omega, HWS.out, HSC.out.1, HSC.out.2.1, HSC.out.2.2, ho3, hcu3, hgr3⟩
     have HSS := hid S
     clear S ho2 ho3 hc2 hgr2 b3 hcu3 hgr3
     go_wp2
     go_roundw
     case rel => exact HSS.out
     case measure => simp [intOf]; omega
  ·omega
set_option maxHeartbeats 2000000 in
theorem implTermText0 (A A' : Option Addr) (n c m c' : Nat) (sg t : List Int) (w : World) (h : Seg w w.heap.size A n sg) (h' : Seg w w.heap.size A' m t) (hn : n ≤ 1048576) (hm : m ≤ 1048576) :
  Calls Tryd.prog 7 #[.agg #[.slice A n c], .slice A' m c'] w fun e w' => e = .returned (.string (bs (termT sg t))) ∧ Below w.heap.size w w' := by
 obtain ⟨W, hW⟩ : ∃ W, W = w.alloc (.cells #[.slice A n c] 26) := ⟨_, rfl⟩
 have bel : Below w.heap.size w W := by rw [hW]; exact (Below.refl _ _).alloc (Nat.le_refl _) _
 have zW := bel.size
 replace h := (h.below bel).more bel.size
 replace h' := (h'.below bel).more bel.size
 have HW := hid hW
 have HL := hid h'.1
 clear hW
 have L := hid (cursorAt A A' n c m c' sg t 0 W h h' hn hm)
 clear h h'
 go_enter Tryd.func7, Tryd.ntmps7
 go_wp2_with fail
 rw [← HW.out]
 refine L.out.mono ?_
 rintro e w1 ⟨bb, ⟨ht, p, rfl, hp, hc⟩ | ⟨ht, rfl⟩⟩
 ·replace bel := next_trans bel bb
  obtain ⟨hok, -, -⟩ := there_parts ht
  have HT := hid (show termT sg t = txt sg t m 0 by unfold termT; rw [if_pos hok, HL.out])
  have h60 : m ≤ 60 := by rw [← HL.out]; exact (term_len hok).2
  have hsc : scan sg 1 (t.drop 0) = some m := by rw [← HL.out]; exact (termOk_parts hok).2.2
  have LT := hid (implTxt p A n c A' m c' sg t (small_of hok) m 0 m w1 hc hsc (Nat.le_refl _) (by omega))
  clear ht bb L hok hsc hc
  go_wp2_with fail
  refine LT.out.mono ?_
  rintro e w2 ⟨rfl, hg, -⟩
  have F := hid (bel.grown hg bel.size (fun k hk => by injection hk; omega))
  clear hg bel LT
  go_wp2
  go_ret
  exact ⟨by rw [HT.out]; rfl, F.out⟩
 ·have hnok : termOkB sg t = false := by
   cases e : termOkB sg t with
   | false => rfl
   | true =>
    have h1 := (term_len e).1
    have h2 : thereB sg t 0 = true := there_yes e (by omega) (by omega)
    rw [h2] at ht
    cases ht
  have F := hid (show termT sg t = [] ∧ Below w.heap.size w w1 from ⟨by unfold termT; rw [if_neg (by rw [hnok]; simp)], next_trans bel bb⟩)
  clear bb bel ht L hnok
  go_wp2
  go_ret
  exact ⟨by rw [F.out.1]; rfl, F.out.2⟩
end termText
end
section
namespace termTextX
open Go.RowKit base shape kindsR text termText
theorem specTermText (v u : Value) (d : Dat sSig) (t : List Int) (w : World) (h : Rd w w.heap.size sSig [v] d) (h' : Rd w w.heap.size sI [u] t) (hz : sz sSig d ≤ 1048576) (hz' : sz sI t ≤ 1048576) :
  Calls Tryd.prog 8 #[.agg #[v], u] w fun e w' => e = .returned (.string (bs (termT d t))) ∧ Below w.heap.size w w' := by
 obtain ⟨A, n, c, rfl, hA, -⟩ := rd_ints.1 h
 obtain ⟨A', n', c', rfl, hA', -⟩ := rd_ints.1 h'
 exact specTermText0 A A' n c n' c' d t w hA hA' (by have h1 := hA.1; rw [sz_ints] at hz; omega) (by have h1 := hA'.1; rw [sz_ints] at hz'; omega)
theorem implTermText (v u : Value) (d : Dat sSig) (t : List Int) (w : World) (h : Rd w w.heap.size sSig [v] d) (h' : Rd w w.heap.size sI [u] t) (hz : sz sSig d ≤ 1048576) (hz' : sz sI t ≤ 1048576) :
  Calls Tryd.prog 7 #[.agg #[v], u] w fun e w' => e = .returned (.string (bs (termT d t))) ∧ Below w.heap.size w w' := by
 obtain ⟨A, n, c, rfl, hA, -⟩ := rd_ints.1 h
 obtain ⟨A', n', c', rfl, hA', -⟩ := rd_ints.1 h'
 exact implTermText0 A A' n c n' c' d t w hA hA' (by have h1 := hA.1; rw [sz_ints] at hz; omega) (by have h1 := hA'.1; rw [sz_ints] at hz'; omega)
end termTextX
end
section
open Go.Lib (hid)
namespace wTermText
open Go.RowKit base ints sig cursor marks app sym appAt segs segsHelp segsMark kinds shape kindsR text textL termText termTextX
set_option maxRecDepth 100000
set_option maxHeartbeats 8000000 in
theorem law (v0_0 : Value) (d0 : Dat sSig) (a1 : Option Addr) (n1 c1 : Nat) (d1 : List Int) (w : World) (s0 : Rd w w.heap.size sSig [v0_0] d0) (s1 : Rd w w.heap.size sI [.slice a1 n1 c1] d1) :
  Calls Tryd.prog 4 #[.agg #[v0_0], .slice a1 n1 c1] w (Fine w) := by
 have Hl1 := hid s1.seg.1
 have cp1 := (by obtain ⟨A, c, ec, hc⟩ := s1.slice; injection ec with e1 e2 e3; subst e1 e2 e3; exact hc : Cap a1 n1 c1)
 have hN1 : n1 ≤ 9223372036854775807 := Nat.le_trans cp1.1 cp1.2.1
 clear cp1
 obtain ⟨W, hW⟩ : ∃ W, W = w.alloc (.cells #[v0_0] 35) := ⟨_, rfl⟩
 have rA0 : Row W (w.heap.size) 35 #[v0_0] := by rw [hW]; have := Row.new (w) 35 #[v0_0]; simpa using this
 have bW : Below w.heap.size w W := by rw [hW]; exact (Below.refl w.heap.size w).alloc (by simp) (.cells #[v0_0] 35)
 have zA0 := rA0.lt
 replace s0 := s0.next bW
 replace s1 := s1.next bW
 have HW := hid hW
 clear hW
 obtain ⟨t0, ht0⟩ : ∃ z, sz sSig d0 = z := ⟨_, rfl⟩
 have HT0 := hid ht0
 clear ht0
 obtain ⟨v, hv⟩ : ∃ v, bs (termT d0 d1) = v := ⟨_, rfl⟩
 have HV := hid hv
 clear hv
 have ev : (v != v) = false := Go.Proofs.YtlaloakegajheaaDoor.text.str_ne _
 by_cases h1 : n1 ≤ 1048576
 case neg =>
  go_enter Tryd.func4, Tryd.ntmps4
  go_wp2_with fail
  rw [← HW.out]
  go_ret
  exact ⟨rfl, bW⟩
 have hi1 : Hid (sz sI d1 ≤ 1048576) := hid (by rw [sz_ints, Hl1.out]; exact h1)
 have hn1 := h1
 clear h1
 have h1 := hi1
 clear hi1
 go_enter Tryd.func4, Tryd.ntmps4
 go_wp2_with fail
 rw [← HW.out]
 clear HW
 have bel := Below.refl W.heap.size W
 have cA0_0 : W.cell? ⟨w.heap.size, 0, none⟩ = some (v0_0) := (rA0.next bel).cell 0
 refine (szK_Sig _ d0 (1048576) _ (s0.next bel) (by omega) (by omega)).mono ?_
 rintro e w1 ⟨he, bb⟩
 rw [HT0.out] at he
 replace bel := next_trans bel bb
 have zw1 := bb.size
 clear bb
 by_cases q0 : t0 ≤ 1048576
 case neg =>
  rw [if_pos (by omega)] at he
  subst he
  have F := hid (bW.trans (bel.mono bW.size))
  clear bel bW cA0_0
  go_wp2
  go_ret
  exact ⟨rfl, F.out⟩
 rw [if_neg (by omega)] at he
 subst he
 have h0 : Hid (sz sSig d0 ≤ 1048576) := hid (by rw [HT0.out]; omega)
 clear cA0_0
 have cA0_0 : w1.cell? ⟨w.heap.size, 0, none⟩ = some (v0_0) := (rA0.next bel).cell 0
 go_wp2_with fail
 refine (toK_Sig _ d0 _ (s0.next bel) h0.out).mono ?_
 rintro e w2 ⟨p0A0, p0n0, p0c0, rfl, op0, bb⟩
 replace bel := next_trans bel bb
 have zw2 := bb.size
 clear bb
 clear cA0_0
 have cA0_0 : w2.cell? ⟨w.heap.size, 0, none⟩ = some (v0_0) := (rA0.next bel).cell 0
 go_wp2_with fail
 refine (toK_ints _ d1 _ (s1.next bel) h1.out).mono ?_
 rintro e w3 ⟨p1A0, p1n0, p1c0, rfl, op1, bb⟩
 replace op0 := op0.next bb
 replace bel := next_trans bel bb
 have zw3 := bb.size
 clear bb
 clear cA0_0
 have cA0_0 : w3.cell? ⟨w.heap.size, 0, none⟩ = some (v0_0) := (rA0.next bel).cell 0
 go_wp2_with fail
 refine (specTermText _ _ d0 d1 _ op0.rd op1.rd h0.out h1.out).mono ?_
 rintro e w4 ⟨he, bb⟩
 rw [HV.out] at he
 subst he
 replace op0 := op0.next bb
 replace op1 := op1.next bb
 replace bel := next_trans bel bb
 have zw4 := bb.size
 clear bb
 clear op0 op1
 clear cA0_0
 have cA0_0 : w4.cell? ⟨w.heap.size, 0, none⟩ = some (v0_0) := (rA0.next bel).cell 0
 clear cA0_0
 have cA0_0 : w4.cell? ⟨w.heap.size, 0, none⟩ = some (v0_0) := (rA0.next bel).cell 0
 go_wp2_with fail
 refine (toK_Sig _ d0 _ (s0.next bel) h0.out).mono ?_
 rintro e w5 ⟨x0A0, x0n0, x0c0, rfl, ox0, bb⟩
 replace bel := next_trans bel bb
 have zw5 := bb.size
 clear bb
 clear cA0_0
 have cA0_0 : w5.cell? ⟨w.heap.size, 0, none⟩ = some (v0_0) := (rA0.next bel).cell 0
 have dA0_0 : (w5.alloc (.cells #[.slice x0A0 x0n0 x0c0] 26)).cell? ⟨w.heap.size, 0, none⟩ = some (v0_0) := ((rA0.next bel).alloc _).cell 0
 go_wp2_with fail
 obtain ⟨w6, hw⟩ : ∃ W, W = w5.alloc (.cells #[.slice x0A0 x0n0 x0c0] 26) := ⟨_, rfl⟩
 rw [← hw]
 have rx0 : Row w6 w5.heap.size 26 #[.slice x0A0 x0n0 x0c0] := by rw [hw]; exact Row.new _ _ _
 have bb : Below w5.heap.size w5 w6 := by rw [hw]; exact (Below.refl _ _).alloc (Nat.le_refl _) _
 have yrx0 : w5.heap.size < w6.heap.size := by rw [hw]; simp
 clear hw
 replace ox0 := ox0.next bb
 replace bel := next_trans bel bb
 have zw6 := bb.size
 clear bb
 clear dA0_0
 clear cA0_0
 have cA0_0 : w6.cell? ⟨w.heap.size, 0, none⟩ = some (v0_0) := (rA0.next bel).cell 0
 have cx0_0 : w6.cell? ⟨w5.heap.size, 0, none⟩ = some (.slice x0A0 x0n0 x0c0) := (rx0).cell 0
 refine (toK_ints _ d1 _ (s1.next bel) h1.out).mono ?_
 rintro e w7 ⟨x1A0, x1n0, x1c0, rfl, ox1, bb⟩
 replace ox0 := ox0.next bb
 replace rx0 := rx0.next bb
 replace bel := next_trans bel bb
 have zw7 := bb.size
 clear bb
 clear cA0_0 cx0_0
 have cA0_0 : w7.cell? ⟨w.heap.size, 0, none⟩ = some (v0_0) := (rA0.next bel).cell 0
 have cx0_0 : w7.cell? ⟨w5.heap.size, 0, none⟩ = some (.slice x0A0 x0n0 x0c0) := (rx0).cell 0
 go_wp2_with fail
 refine (implTermText _ _ d0 d1 _ ox0.rd ox1.rd h0.out h1.out).mono ?_
 rintro e w8 ⟨he, bb⟩
 rw [HV.out] at he
 subst he
 replace ox0 := ox0.next bb
 replace rx0 := rx0.next bb
 replace ox1 := ox1.next bb
 replace bel := next_trans bel bb
 have zw8 := bb.size
 clear bb
 clear cA0_0 cx0_0
 have cA0_0 : w8.cell? ⟨w.heap.size, 0, none⟩ = some (v0_0) := (rA0.next bel).cell 0
 have cx0_0 : w8.cell? ⟨w5.heap.size, 0, none⟩ = some (.slice x0A0 x0n0 x0c0) := (rx0).cell 0
 go_wp2_with fail
 replace ox0 := ox0.drew
 replace rx0 := rx0.drew
 replace ox1 := ox1.drew
 replace bel := bel.drew
 have zdw8 := (drew_below w8).size
 go_region_held3 (fun w' => w'.cell? ⟨w5.heap.size, 0, none⟩ = some (.slice x0A0 x0n0 x0c0) ∧ w'.cell? ⟨w.heap.size, 0, none⟩ = some (v0_0))
  (go_keep)
  (first
   | (go_at_call 14; refine (toK_Sig _ d0 _ (s0.next bel) h0.out).mono ?_; rintro e w9 ⟨t0A0, t0n0, t0c0, rfl, ot, bb⟩; replace ox0 := ox0.next bb; replace rx0 := rx0.next bb; replace ox1 := ox1.next bb; replace bel := next_trans bel bb; have k0_0w9 : w9.cell? ⟨w.heap.size, 0, none⟩ = some (v0_0) := (rA0.next bel).cell 0; have l0_0w9 : w9.cell? ⟨w5.heap.size, 0, none⟩ = some (.slice x0A0 x0n0 x0c0) := rx0.cell 0; have zqw9 := bb.size; clear bb)
   | (go_at_call 16; refine (eqK_Sig _ _ d0 _ ox0.rd ot.rd h0.out).mono ?_; rintro e w10 ⟨rfl, bb⟩; replace ox0 := ox0.next bb; replace rx0 := rx0.next bb; replace ox1 := ox1.next bb; replace bel := next_trans bel bb; have k0_0w10 : w10.cell? ⟨w.heap.size, 0, none⟩ = some (v0_0) := (rA0.next bel).cell 0; have l0_0w10 : w10.cell? ⟨w5.heap.size, 0, none⟩ = some (.slice x0A0 x0n0 x0c0) := rx0.cell 0; have zqw10 := bb.size; clear bb ot))
 clear k0_0w9 l0_0w9 k0_0w10 l0_0w10
 clear ox0 rx0
 clear cA0_0 cx0_0
 have cA0_0 : w10.cell? ⟨w.heap.size, 0, none⟩ = some (v0_0) := (rA0.next bel).cell 0
 go_wp2_with fail
 refine (toK_ints _ d1 _ (s1.next bel) h1.out).mono ?_
 rintro e w11 ⟨t1A0, t1n0, t1c0, rfl, ot1, bb⟩
 replace ox1 := ox1.next bb
 replace bel := next_trans bel bb
 have zw11 := bb.size
 clear bb
 clear cA0_0
 have cA0_0 : w11.cell? ⟨w.heap.size, 0, none⟩ = some (v0_0) := (rA0.next bel).cell 0
 go_wp2_with fail
 refine (eqK_ints _ _ d1 _ ox1.rd ot1.rd h1.out).mono ?_
 rintro e w12 ⟨rfl, bb⟩
 replace ox1 := ox1.next bb
 replace ot1 := ot1.next bb
 replace bel := next_trans bel bb
 have zw12 := bb.size
 clear bb
 clear ot1 ox1
 clear cA0_0
 have cA0_0 : w12.cell? ⟨w.heap.size, 0, none⟩ = some (v0_0) := (rA0.next bel).cell 0
 have F := hid (bW.trans (bel.mono bW.size))
 clear bel bW cA0_0
 go_wp2
 go_ret
 exact ⟨rfl, F.out⟩
end wTermText
end
section
namespace openX
open Go.ChangeShapes Go.WideShapes Go.ChangeAt Go.RowKit base segs shape
def Wf : (s : Sh) → Dat s → Prop
 | .num, (x : Int) => -9223372036854775808 ≤ x ∧ x ≤ 9223372036854775807
 | .bit, _ => True
 | .row _ s, (d : List (Dat s)) => ∀ j, j < d.length → Wf s (d.getD j (dft s))
 | .cat a b, d => Wf a d.1 ∧ Wf b d.2
mutual
def fitsB (P : Program) : Nat → Sh → TypeId → Bool
 | 0, _, _ => false
 | n + 1, s, t => match P.underlying t with
  | some (.struct fs) => P.cellsOf t == nc s && fitsL P n fs.toList 0 s
  | some (.int .i64) => match s with | .num => true | _ => false
  | some .bool => match s with | .bit => true | _ => false
  | some (.slice e) => match s with | .row _ s' => P.cellsOf e == nc s' && fitsB P n s' e | _ => false
  | _ => false
def fitsL (P : Program) : Nat → List Field → Nat → Sh → Bool
 | 0, _, _, _ => false
 | _ + 1, [], _, _ => false
 | n + 1, [f], k, s => f.offset == k && (P.cellsOf f.type == nc s && fitsB P n s f.type)
 | n + 1, f :: g :: fs, k, s => match s with | .cat a b => f.offset == k && (P.cellsOf f.type == nc a && (fitsB P n a f.type && fitsL P n (g :: fs) (k + nc a) b)) | _ => false
end
section
variable {H : Type} {enc : TypeId × Value → H} {P : Program} {w : World} {held : Bool}
theorem addr_add {b off i : Nat} : (⟨b, off, none⟩ : Addr).add i = ⟨b, off + i, none⟩ := by unfold Addr.add; split <;> simp_all
theorem rd_trod : ∀ n : Nat, (∀ (s : Sh) (t : TypeId) (fuel : Nat) (cs : List Value) (x : DataW H × List MemPlace), fitsB P n s t = true → DataW.trod enc P w 0 (fun _ => true) held fuel t cs = some x → ∃ d, Rd w w.heap.size s cs d ∧ Wf s d) ∧
  (∀ (fs : List Field) (k : Nat) (s : Sh) (cs : List Value) (m : Nat), fitsL P n fs k s = true → (∀ (i : Nat) (f : Field), fs[i]? = some f → ∃ x, DataW.trod enc P w 0 (fun _ => true) held m f.type ((cs.drop f.offset).take (P.cellsOf f.type)) = some x) →
   ∃ d, Rd w w.heap.size s ((cs.drop k).take (nc s)) d ∧ Wf s d) := by
 intro n
 induction n with
 | zero => exact ⟨fun _ _ _ _ _ h => by simp [fitsB] at h, fun _ _ _ _ _ h => by simp [fitsL] at h⟩
 | succ n ih =>
  refine ⟨fun s t fuel cs x hf h => ?_, fun fs k s cs m hf h => ?_⟩
  ·unfold fitsB at hf
   split at hf
   ·rename_i fs hu
    simp only [Bool.and_eq_true, beq_iff_eq] at hf
    obtain ⟨xs, n', hfu, hx, hlen, hxl, hg⟩ := DataW.trod_struct hu h
    obtain ⟨d, hr, hw⟩ := ih.2 fs.toList 0 s cs n' hf.2 (fun i f hi => by
     have hi' : fs[i]? = some f := by simpa using hi
     have h1 := hg i f hi'
     have hlt : i < fs.size := (Array.getElem?_eq_some_iff.1 hi').1
     exact ⟨xs[i]'(by omega), by rw [h1]; exact List.getElem?_eq_getElem (by omega)⟩)
    rw [List.drop_zero, List.take_of_length_le (by omega)] at hr
    exact ⟨d, hr, hw⟩
   ·rename_i hu
    split at hf
    ·obtain ⟨z, e1, _, hw⟩ := DataW.trod_int hu h
     refine ⟨z, e1, ?_⟩
     show -9223372036854775808 ≤ z ∧ z ≤ 9223372036854775807
     simpa [Lit.wf, IntKind.min, IntKind.max, IntKind.signed, IntKind.bits] using hw
    ·cases hf
   ·rename_i hu
    split at hf
    ·obtain ⟨z, e1, _⟩ := DataW.trod_bool hu h
     exact ⟨z, e1, trivial⟩
    ·cases hf
   ·rename_i e hu
    split at hf
    ·rename_i e0 s'
     simp only [Bool.and_eq_true, beq_iff_eq] at hf
     rcases Go.Deep.open_slice hu h with ⟨hcs, _⟩ | ⟨a, len, cap, m, n', D, Pl, hcs, _, hl, hm, hmm, _, hi⟩
     ·exact ⟨[], ⟨none, 0, 0, hcs, ⟨by omega, by omega, fun _ => rfl⟩, rfl, fun h => absurd h (by omega)⟩, fun j hj => absurd hj (Nat.not_lt_zero _)⟩
     ·have hmc : m = cap := by simpa using hmm
      subst hmc
      have hd : ∀ j, j < len → ∃ (es : List Value) (dj : Dat s'), es.length = nc s' ∧ (∀ i, i < nc s' → w.cell? ((a.add (j * nc s')).add i) = es[i]?) ∧ Rd w w.heap.size s' es dj ∧ Wf s' dj := fun j hj => by
       obtain ⟨cs', hc, ht⟩ := hi j (by omega)
       obtain ⟨dj, hr, hw⟩ := ih.1 s' e n' cs' _ hf.2 ht
       rw [hf.1] at hc
       obtain ⟨_, hcl, hat⟩ := World.cells?_some hc
       exact ⟨cs', dj, hcl, hat, hr, hw⟩
      have hspot : 0 < len → a.spot = none := fun h0 => by
       obtain ⟨es, dj, h1, h2, _⟩ := hd 0 h0
       have hp := nc_pos s'
       have h3 := h2 0 (by omega)
       rw [List.getElem?_eq_getElem (by omega)] at h3
       have := World.cell?_spot h3
       simpa [Addr.add] using this
      obtain ⟨ds, hdl, hds⟩ : ∃ ds : List (Dat s'), ds.length = len ∧ ∀ j, j < len → ∃ es : List Value, es.length = nc s' ∧ (∀ i, i < nc s' → w.cell? ((a.add (j * nc s')).add i) = es[i]?) ∧ Rd w w.heap.size s' es (ds.getD j (dft s')) ∧ Wf s' (ds.getD j (dft s')) := by
       refine ⟨(List.range len).map fun j => if hj : j < len then Classical.choose (Classical.choose_spec (hd j hj)) else dft s', by simp, fun j hj => ?_⟩
       refine ⟨Classical.choose (hd j hj), ?_⟩
       have h1 := Classical.choose_spec (Classical.choose_spec (hd j hj))
       have e1 : ((List.range len).map fun j => if hj : j < len then Classical.choose (Classical.choose_spec (hd j hj)) else dft s').getD j (dft s') = Classical.choose (Classical.choose_spec (hd j hj)) := by simp [List.getD, hj]
       rw [e1]
       exact h1
      refine ⟨ds, ⟨some a, len, m, hcs, ⟨hl, by unfold maxLen at hm; omega, fun e => by cases e⟩, hdl, fun h0 => ?_⟩, fun j hj => by
       obtain ⟨es, _, _, _, hw⟩ := hds j (by rw [← hdl]; exact hj)
       exact hw⟩
      obtain ⟨b, off, spot⟩ := a
      have hs := hspot h0
      simp only at hs
      subst hs
      refine ⟨b, off, rfl, ?_, fun j hj => ?_⟩
      ·obtain ⟨es, h1, h2, _⟩ := hds 0 h0
       have hp := nc_pos s'
       have h3 := h2 0 (by omega)
       rw [List.getElem?_eq_getElem (by omega)] at h3
       have h4 := World.block_lt_of_cell? _ _ h3
       simpa [addr_add] using h4
      ·obtain ⟨es, h1, h2, h3, _⟩ := hds j hj
       refine ⟨es, h1, fun i hi2 => ?_, h3⟩
       have := h2 i (by omega)
       rw [addr_add, addr_add] at this
       exact this
    ·cases hf
   ·cases hf
  ·match fs, hf, h with
   | [], hf, _ => simp [fitsL] at hf
   | [f], hf, h =>
    unfold fitsL at hf
    simp only [Bool.and_eq_true, beq_iff_eq] at hf
    obtain ⟨h1, h2, h3⟩ := hf
    obtain ⟨x, hx⟩ := h 0 f rfl
    rw [h1, h2] at hx
    exact ih.1 s f.type m _ x h3 hx
   | f :: g :: fs, hf, h =>
    cases s with
    | cat a b =>
     unfold fitsL at hf
     simp only [Bool.and_eq_true, beq_iff_eq] at hf
     obtain ⟨h1, h2, h3, h4⟩ := hf
     obtain ⟨x, hx⟩ := h 0 f rfl
     rw [h1, h2] at hx
     obtain ⟨d1, r1, w1⟩ := ih.1 a f.type m _ x h3 hx
     obtain ⟨d2, r2, w2⟩ := ih.2 (g :: fs) (k + nc a) b cs m h4 (fun i f' hi => h (i + 1) f' hi)
     refine ⟨(d1, d2), ⟨_, _, ?_, r1, r2⟩, w1, w2⟩
     show List.take (nc a + nc b) (List.drop k cs) = _
     rw [List.take_add, List.drop_drop]
    | num => simp [fitsL] at hf
    | bit => simp [fitsL] at hf
    | row e s' => simp [fitsL] at hf
theorem open_val {s : Sh} {t : TypeId} {v : Value} {d : DataW H} {p : List MemPlace} {n : Nat} (hf : fitsB P n s t = true) (h : DataW.Trod enc P w 0 (fun _ => true) held t v d p) : ∃ x, Rd w w.heap.size s v.cells.toList x ∧ Wf s x := by
 obtain ⟨fuel, hfu⟩ := h
 exact (rd_trod n).1 s t fuel _ _ hf hfu
end
end openX
end
end Go.Proofs.YtlaloakegajheaaDoor
