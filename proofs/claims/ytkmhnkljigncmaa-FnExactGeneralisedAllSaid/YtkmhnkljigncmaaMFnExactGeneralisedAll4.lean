/-
  MERGED: my texts Inside, AnyOf, UnifDom, Then, AnsB, SubstOk, Gives, HeldT, UnifRep, GenSt, PlainOf, CompMath, one behind the other, as they are. By an AI agent.
-/
import Derived.Test.YtkmhnkljigncmaaMFnExactGeneralisedAll3
import Derived.Shelf.Abstract
import Derived.Deep.DeepCutAuto
import Derived.Laws.NewBlocks
import Derived.Laws.EntriesVeiled
import Derived.Deep.RegionHeld3
import Derived.Deep.QuietTactic
import Derived.BigQuiet
import Derived.OrdersHeld
import Derived.Deep.RegionHeld
import Derived.Deep.AppendLies
import Derived.Deep.DeepMust
section
/-
  CONTRACTS: impl.placeIn, spec.l3Right, spec.l3Inside, spec.InsideIn, impl.InsideIn, spec.ApartIn, impl.ApartIn. Conditions: the slices read as lists ('Seg'), at most 1048576 numbers; the places are int64. By an AI agent.
-/
namespace Go.Proofs.Ytkmhnkljigncmaa.inside
open Go.RowKit Go.Proofs.Ytkmhnkljigncmaa.base Go.Proofs.Ytkmhnkljigncmaa.ints Go.Proofs.Ytkmhnkljigncmaa.sig Go.Proofs.Ytkmhnkljigncmaa.term Go.Proofs.Ytkmhnkljigncmaa.arity Go.Proofs.Ytkmhnkljigncmaa.endOf Go.Proofs.Ytkmhnkljigncmaa.cursor Go.Proofs.Ytkmhnkljigncmaa.termOk Go.Proofs.Ytkmhnkljigncmaa.endAt
set_option maxRecDepth 100000

def Tells (w : World) (b : Bool) (e : Ending) (w' : World) : Prop := e = .returned (.bool b) ∧ Below w.heap.size w w'
/-- what stands in the course of a call whose first parameter, the signature, was boxed -/
structure Fr (w wr : World) (A : Option Addr) (n c : Nat) (sg : List Int) (A' : Option Addr) (m : Nat) (t : List Int) : Prop where
  r : Row wr w.heap.size 26 #[.slice A n c]
  s : Seg wr w.heap.size A n sg
  s' : Seg wr w.heap.size A' m t
  b : Below w.heap.size w wr
section
variable {w wr w' : World} {A : Option Addr} {n c : Nat} {sg : List Int} {A' : Option Addr} {m : Nat} {t : List Int}
theorem Fr.start (h : Seg w w.heap.size A n sg) (h' : Seg w w.heap.size A' m t) : Fr w (w.alloc (.cells #[.slice A n c] 26)) A n c sg A' m t :=
  have b : Below w.heap.size w (w.alloc (.cells #[.slice A n c] 26)) := (Below.refl _ _).alloc (Nat.le_refl _) _
  ⟨Row.new _ _ _, h.below b, h'.below b, b⟩
theorem Fr.next (f : Fr w wr A n c sg A' m t) (hb : Below wr.heap.size wr w') : Fr w w' A n c sg A' m t :=
  have b : Below w.heap.size wr w' := hb.mono (Nat.le_of_lt f.r.lt)
  ⟨f.r.next hb, f.s.below b, f.s'.below b, f.b.trans b⟩
theorem Fr.over (f : Fr w wr A n c sg A' m t) (hb : Below (w.heap.size + 1) wr w') : Fr w w' A n c sg A' m t :=
  have b : Below w.heap.size wr w' := hb.mono (Nat.le_succ _)
  ⟨f.r.below hb (Nat.lt_succ_self _), f.s.below b, f.s'.below b, f.b.trans b⟩
theorem Fr.alloc (f : Fr w wr A n c sg A' m t) (o : Obj) : Fr w (wr.alloc o) A n c sg A' m t := f.next ((Below.refl _ _).alloc (Nat.le_refl _) _)
theorem Fr.drew (f : Fr w wr A n c sg A' m t) : Fr w wr.drew A n c sg A' m t := f.over (Below.refl _ _).drew
theorem Fr.cell (f : Fr w wr A n c sg A' m t) : wr.cell? ⟨w.heap.size, 0, none⟩ = some (.slice A n c) := f.r.cell 0
theorem Fr.s1 (f : Fr w wr A n c sg A' m t) : Seg wr wr.heap.size A n sg := f.s.more (Nat.le_of_lt f.r.lt)
theorem Fr.t1 (f : Fr w wr A n c sg A' m t) : Seg wr wr.heap.size A' m t := f.s'.more (Nat.le_of_lt f.r.lt)
theorem Fr.size (f : Fr w wr A n c sg A' m t) : w.heap.size < wr.heap.size := f.r.lt
end

theorem end_bd {sg t : List Int} (hok : termOkB sg t = true) {a : Nat} : -1 ≤ endI sg t a ∧ endI sg t a ≤ t.length := by
  cases h : scan sg 1 (t.drop a) with
  | none => rw [endI_none h]; omega
  | some j =>
    have h2 := scan_le h
    have h1 := scan_pos (q := 0) h
    rw [endI_some h]
    simp only [List.length_drop] at h2
    omega
def insI (sg t : List Int) (x p : Int) : Bool := decide (x ≤ p ∧ p < endI sg t x.toNat)
def insideB (sg t : List Int) (x p : Int) : Bool := thereB sg t x && insI sg t x p
def apartB (sg t : List Int) (p q : Int) : Bool := (thereB sg t p && thereB sg t q) && (!insI sg t p q && !insI sg t q p)
theorem ins_there {sg t : List Int} {x p : Int} (h : thereB sg t x = true) (hi : insI sg t x p = true) : thereB sg t p = true := by
  obtain ⟨hok, h0, h1⟩ := there_parts h
  unfold insI at hi
  have h2 := (end_bd hok (a := x.toNat)).2
  simp only [decide_eq_true_eq] at hi
  exact there_yes hok (by omega) (by omega)

set_option maxHeartbeats 1000000 in
theorem right (A A' : Option Addr) (n c m c' : Nat) (sg t : List Int) (x : Int) (w : World) (h : Seg w w.heap.size A n sg) (h' : Seg w w.heap.size A' m t) (hn : n ≤ 1048576) (hm : m ≤ 1048576) :
    Calls Try.prog 130 #[.agg #[.slice A n c], .slice A' m c', .int .i64 x] w (Tells w (thereB sg t x)) := by
  obtain ⟨W, hW⟩ : ∃ W, W = w.alloc (.cells #[.slice A n c] 26) := ⟨_, rfl⟩
  have f : Fr w W A n c sg A' m t := by rw [hW]; exact Fr.start h h'
  have HW := Lib.hid hW
  have HL := Lib.hid h'.1
  have L := Lib.hid (specTermOk A A' n c m c' sg t W f.s1 f.t1 hn hm)
  clear hW h h'
  cases hok : termOkB sg t with
  | false =>
    have HS := Lib.hid hok
    have HT := Lib.hid (there_no (x := x) (.inl hok))
    clear hok
    go_enter Try.func130, Try.ntmps130
    go_wp2_with fail
    rw [← HW.out]
    refine L.out.mono ?_
    rintro e w1 ⟨he, bb⟩
    rw [HS.out] at he
    subst he
    have F := Lib.hid (show Tells w (thereB sg t x) (.returned (.bool false)) w1 from ⟨by rw [HT.out], (f.next bb).b⟩)
    clear f L bb HT
    go_wp2
    go_ret
    exact F.out
  | true =>
    have HS := Lib.hid hok
    obtain ⟨b, hb⟩ : ∃ b, decide (0 ≤ x ∧ x < (m : Int)) = b := ⟨_, rfl⟩
    have HD := Lib.hid hb
    have HT : thereB sg t x = b := by unfold thereB inB; rw [hok, HL.out, hb]; rfl
    replace HT := Lib.hid HT
    clear hok hb
    go_enter Try.func130, Try.ntmps130
    go_wp2_with fail
    rw [← HW.out]
    refine L.out.mono ?_
    rintro e w1 ⟨he, bb⟩
    rw [HS.out] at he
    subst he
    have F := Lib.hid (show Tells w (thereB sg t x) (.returned (.bool b)) w1 from ⟨by rw [HT.out], (f.next bb).b⟩)
    clear f L bb HT
    go_wp2_with fail
    refine (there _ _ _ x b _ hm HD.out).mono ?_
    rintro e w2 ⟨rfl, rfl⟩
    go_wp2
    go_ret
    exact F.out

theorem apart_no {sg t : List Int} {p q : Int} (h : thereB sg t p = false ∨ thereB sg t q = false) : apartB sg t p q = false := by
  unfold apartB
  rcases h with h | h <;> rw [h] <;> simp

theorem inside_there {sg t : List Int} {p q : Int} (h : thereB sg t p = true) : insideB sg t p q = insI sg t p q := by unfold insideB; rw [h]; rfl

end Go.Proofs.Ytkmhnkljigncmaa.inside
end

section
/-
  CONTRACTS: slices.IndexFunc, slices.ContainsFunc of a [][]int64, over whatever test ('Tests'). Conditions: the slices read as lists ('Segs'), at most 1048576 values. By an AI agent.
-/
namespace Go.Proofs.Ytkmhnkljigncmaa.anyOf
open Go.RowKit Go.Proofs.Ytkmhnkljigncmaa.base Go.Proofs.Ytkmhnkljigncmaa.ints Go.Proofs.Ytkmhnkljigncmaa.sig Go.Proofs.Ytkmhnkljigncmaa.segs Go.Proofs.Ytkmhnkljigncmaa.segsHelp Go.Proofs.Ytkmhnkljigncmaa.inside
set_option maxRecDepth 100000

/-- function g with what it has captured tests f, as long as what lies in w lies -/
def Tests (g : Nat) (lb : Array Value) (w : World) (f : List Int → Bool) : Prop :=
  ∀ (W : World) (D : Option Addr) (dn dc : Nat) (ys : List Int), Below w.heap.size w W → Seg W W.heap.size D dn ys → dn ≤ 1048576 → Cap D dn dc → Calls Try.prog g (#[.slice D dn dc] ++ lb) W (Tells W (f ys))
theorem Tests.next {g : Nat} {lb : Array Value} {w w' : World} {f : List Int → Bool} (h : Tests g lb w f) (hb : Below w.heap.size w w') : Tests g lb w' f :=
  fun W D dn dc ys hW hs hn hc => h W D dn dc ys (next_trans hb hW) hs hn hc

def AnsIx (w : World) (f : List Int → Bool) (xss : List (List Int)) (e : Ending) (w' : World) : Prop := ∃ z : Int, e = .returned (.int .i64 z) ∧ -1 ≤ z ∧ z ≤ 1048576 ∧ decide (0 ≤ z) = xss.any f ∧ Below w.heap.size w w'
def HeadIx (w : World) (n : Nat) (f : List Int → Bool) (xss : List (List Int)) (i : Value) (wr : World) : Prop := ∃ k : Nat, k ≤ n ∧ i = .int .i64 k ∧ (∀ j, j < k → f (xss.getD j []) = false) ∧ Below w.heap.size w wr
theorem any_at {f : List Int → Bool} {xss : List (List Int)} {k : Nat} (hk : k < xss.length) (h : f (xss.getD k []) = true) : xss.any f = true := by
  rw [List.any_eq_true]
  exact ⟨xss[k], List.getElem_mem hk, by simpa [List.getD, hk] using h⟩
theorem any_none {f : List Int → Bool} {xss : List (List Int)} (h : ∀ j, j < xss.length → f (xss.getD j []) = false) : xss.any f = false := by
  rw [List.any_eq_false]
  intro x hx
  obtain ⟨i, hi, rfl⟩ := List.getElem_of_mem hx
  have := h i hi
  simpa [List.getD, hi] using this

set_option maxHeartbeats 2000000 in
theorem indexFunc (g : Nat) (lb : Array Value) (eg : ∀ args w, (callFunc g args).run Try.prog w = .ok (.enter g args) w) (f : List Int → Bool) (A : Option Addr) (n c : Nat) (xss : List (List Int)) (w : World) (hT : Tests g lb w f)
    (h : Segs w w.heap.size A n xss) (hn : n ≤ 1048576) (hE : ∀ j, (xss.getD j []).length ≤ 1048576) :
    Calls Try.prog 114 #[.slice A n c, .func (.func g) #[] lb] w (AnsIx w f xss) := by
  have HE := Lib.hid hE
  have HL := Lib.hid h.1
  have HK := Lib.hid hT
  have HH : Hid (HeadIx w n f xss (.int .i64 0) w) := Lib.hid ⟨0, Nat.zero_le _, rfl, fun j hj => absurd hj (Nat.not_lt_zero _), Below.refl _ _⟩
  clear hE hT
  go_enter Try.func114, Try.ntmps114
  go_wp2_with fail
  go_loopw [8] (fun i wr => HeadIx w n f xss i wr) (fun i _ => n - (intOf i).toNat)
  case atStart => exact HH.out
  case round =>
    obtain ⟨k, hk, rfl, hlow, hb⟩ := hrel
    have HLOW := Lib.hid hlow
    clear hlow HH
    by_cases hlt : k < n
    · obtain ⟨b, off, A', n', cc, rfl, hbB, hx0, hseg, hcap⟩ := h.spot hlt
      have hx : wr.cell? ⟨b, off + k, none⟩ = some (.slice A' n' cc) := (hb.cell (p := ⟨b, off + k, none⟩) hbB).trans hx0
      have hn' : n' ≤ 1048576 := by rw [← hseg.1]; exact HE.out k
      obtain ⟨ys, hys⟩ : ∃ ys, xss.getD k [] = ys := ⟨_, rfl⟩
      rw [hys] at hseg
      have HY := Lib.hid hys
      have hcall := HK.out wr A' n' cc ys hb (hseg.below hb |>.more hb.size) hn' hcap
      obtain ⟨v, hv⟩ : ∃ v, f ys = v := ⟨_, rfl⟩
      rw [hv] at hcall
      have HV := Lib.hid hv
      have HC := Lib.hid hcall
      have i0 : (0 : Int) ≤ (k : Int) := by omega
      have i1 : (k : Int) < (n : Int) := by omega
      clear hseg hcap h hx0 hys hv hcall
      cases v with
      | true =>
        go_wp2_with (first
          | (go_at_fn g; refine HC.out.mono ?_; rintro e w1 ⟨rfl, bb⟩))
        have F : AnsIx w f xss (.returned (.int .i64 (k : Int))) w1 := ⟨k, rfl, by omega, by omega, by rw [decide_eq_true (by omega)]; exact (any_at (by rw [HL.out]; exact hlt) (by rw [HY.out]; exact HV.out)).symm, next_trans hb bb⟩
        have HF := Lib.hid F
        clear F hx bb hb HC
        go_wp2
        go_ret
        exact HF.out
      | false =>
        go_wp2_with (first
          | (go_at_fn g; refine HC.out.mono ?_; rintro e w1 ⟨rfl, bb⟩))
        have S1 : HeadIx w n f xss (.int .i64 ((k : Int) + 1)) w1 := ⟨k + 1, hlt, by simp, fun j hj => by
          by_cases e : j = k
          · rw [e, HY.out]; exact HV.out
          · exact HLOW.out j (by omega), next_trans hb bb⟩
        have HS1 := Lib.hid S1
        clear S1 hx bb hb HC
        go_wp2
        go_roundw
        case rel => exact HS1.out
        case measure => simp [intOf]; omega
    · have F : AnsIx w f xss (.returned (.int .i64 (-1))) wr := ⟨-1, rfl, by omega, by omega, (any_none (fun j hj => HLOW.out j (by rw [HL.out] at hj; omega))).symm, hb⟩
      have HF := Lib.hid F
      clear F h hb
      go_wp2
      go_ret
      exact HF.out
theorem containsFunc (g : Nat) (lb : Array Value) (eg : ∀ args w, (callFunc g args).run Try.prog w = .ok (.enter g args) w) (f : List Int → Bool) (A : Option Addr) (n c : Nat) (xss : List (List Int)) (w : World) (hT : Tests g lb w f)
    (h : Segs w w.heap.size A n xss) (hn : n ≤ 1048576) (hE : ∀ j, (xss.getD j []).length ≤ 1048576) :
    Calls Try.prog 76 #[.slice A n c, .func (.func g) #[] lb] w (Tells w (xss.any f)) := by
  have L := Lib.hid (indexFunc g lb eg f A n c xss w hT h hn hE)
  clear h hE hT
  go_enter Try.func76, Try.ntmps76
  go_wp2_with fail
  refine L.out.mono ?_
  rintro e w' ⟨z, rfl, h1, h2, hz, bb⟩
  have HZ := Lib.hid hz
  have HB := Lib.hid bb
  clear hz L bb
  go_wp2
  go_ret
  exact ⟨by rw [← HZ.out]; rfl, HB.out⟩
end Go.Proofs.Ytkmhnkljigncmaa.anyOf
end

section
/-
  PLAIN MATHEMATICS of unification: only variables of the two terms are replaced, and by terms of such variables ('Dom'); so nothing is longer than the two terms, filled; one step ('Go'). Conditions: none. By an AI agent.
-/
namespace Go.Proofs.Ytkmhnkljigncmaa.unifDom
open Go.Proofs.Ytkmhnkljigncmaa.sig Go.Proofs.Ytkmhnkljigncmaa.term Go.Proofs.Ytkmhnkljigncmaa.termOk Go.Proofs.Ytkmhnkljigncmaa.termFacts Go.Proofs.Ytkmhnkljigncmaa.endAt Go.Proofs.Ytkmhnkljigncmaa.sub Go.Proofs.Ytkmhnkljigncmaa.termMath Go.Proofs.Ytkmhnkljigncmaa.fillMath Go.Proofs.Ytkmhnkljigncmaa.posMath Go.Proofs.Ytkmhnkljigncmaa.renMath Go.Proofs.Ytkmhnkljigncmaa.matchMath Go.Proofs.Ytkmhnkljigncmaa.plainMath Go.Proofs.Ytkmhnkljigncmaa.unifMath

def InTwo (a b : List Int) (z : Int) : Prop := z ∈ a ∨ z ∈ b
structure Dom (a b : List Int) (L : Nat → List Int) : Prop where
  rng : ∀ z, InTwo a b z → z < 0 → ∀ y ∈ L (vr z), y < 0 → InTwo a b y
  out : ∀ i : Nat, ¬ InTwo a b (-1 - (i : Int)) → L i = vt i
section
variable {sg a b : List Int} {L : Nat → List Int}
theorem Dom.start (a b : List Int) : Dom a b vt := ⟨fun z hz h0 y hy _ => by rw [vt_vr h0, List.mem_singleton] at hy; rw [hy]; exact hz, fun _ _ => rfl⟩
theorem Dom.symm (h : Dom a b L) : Dom b a L := ⟨fun z hz h0 y hy h1 => (h.rng z hz.symm h0 y hy h1).symm, fun i hi => h.out i (fun e => hi e.symm)⟩
theorem Dom.fill (h : Dom a b L) {y : Int} (hy : y ∈ fillL L a ∨ y ∈ fillL L b) (h0 : y < 0) : InTwo a b y := by
  rcases hy with hy | hy
  · obtain ⟨z, h1, h2, h3⟩ := fill_mem hy h0
    exact h.rng z (.inl h1) h2 y h3 h0
  · obtain ⟨z, h1, h2, h3⟩ := fill_mem hy h0
    exact h.rng z (.inr h1) h2 y h3 h0
theorem Dom.bind (h : Dom a b L) {p : Int} {t : List Int} (hp : InTwo a b p) (h0 : p < 0) (ht : ∀ y ∈ t, y < 0 → InTwo a b y) : Dom a b (fun m => fillL (ones (vr p) t) (L m)) := by
  refine ⟨fun z hz hz0 y hy hy0 => ?_, fun i hi => ?_⟩
  · change y ∈ fillL (ones (vr p) t) (L (vr z)) at hy
    obtain ⟨q, h1, h2, h3⟩ := fill_mem hy hy0
    unfold ones at h3
    split at h3
    · exact ht y h3 hy0
    · rw [vt_vr h2, List.mem_singleton] at h3
      rw [h3]
      exact h.rng z hz hz0 q h1 h2
  · show fillL (ones (vr p) t) (L i) = vt i
    rw [h.out i hi, fill_vti]
    unfold ones
    rw [if_neg]
    intro e
    subst e
    exact hi (by rw [vr_neg h0]; exact hp)
theorem mem_len {x : Int} : ∀ {t : List Int}, x ∈ t → x < 0 → (L (vr x)).length ≤ (fillL L t).length
  | [], hx, _ => absurd hx (List.not_mem_nil)
  | y :: r, hx, h0 => by
    rw [fill_cons, List.length_append]
    rcases List.mem_cons.1 hx with rfl | hx
    · rw [rep_vr h0]; omega
    · have := mem_len hx h0; omega
theorem Dom.each (h : Dom a b L) (ha : (fillL L a).length ≤ 60) (hb : (fillL L b).length ≤ 60) (i : Nat) : (L i).length ≤ 60 := by
  by_cases hi : InTwo a b (-1 - (i : Int))
  · rcases hi with hi | hi
    · have := mem_len (L := L) hi (by omega)
      rw [vr_vt] at this
      omega
    · have := mem_len (L := L) hi (by omega)
      rw [vr_vt] at this
      omega
  · rw [h.out i hi]; simp [vt]
end

/-- what is known on the way: x and y are the two terms, filled -/
structure Wy (sg a b : List Int) (L : Nat → List Int) (x y : List Int) : Prop where
  ta : termOkB sg a = true
  tb : termOkB sg b = true
  part : Part sg a b L
  dom : Dom a b L
  ex : x = fillL L a
  ey : y = fillL L b
  lx : x.length ≤ 60
  ly : y.length ≤ 60
section
variable {sg a b x y : List Int} {L : Nat → List Int}
theorem Wy.symm (h : Wy sg a b L x y) : Wy sg b a L y x := ⟨h.tb, h.ta, h.part.symm, h.dom.symm, h.ey, h.ex, h.ly, h.lx⟩
theorem Wy.start (ha : termOkB sg a = true) (hb : termOkB sg b = true) : Wy sg a b vt a b :=
  ⟨ha, hb, Part.start sg a b, Dom.start a b, (fill_vt a).symm, (fill_vt b).symm, (term_len ha).2, (term_len hb).2⟩
theorem Wy.tx (h : Wy sg a b L x y) : Trm sg x := by rw [h.ex]; exact h.part.sub.fill (term_parts h.ta).2.2
theorem Wy.okx (h : Wy sg a b L x y) : termOkB sg x = true := term_mk (term_parts h.ta).1 h.lx h.tx
theorem Wy.each (h : Wy sg a b L x y) (i : Nat) : (L i).length ≤ 60 := h.dom.each (by rw [← h.ex]; exact h.lx) (by rw [← h.ey]; exact h.ly) i
theorem Wy.done (h : Wy sg a b L x y) (e : x = y) : IsU sg a b true (plainL L 24) :=
  isU_mg h.ta h.tb (h.part.done (by rw [← h.ex, ← h.ey]; exact e)) h.each (by rw [← h.ex]; exact h.lx)
/-- the first index at which they differ -/
theorem Wy.spot (h : Wy sg a b L x y) {k : Nat} (e : x.take k = y.take k) (kx : k < x.length) (ky : k < y.length) (ne : x.getD k 0 ≠ y.getD k 0) : Spot sg a b L k :=
  ⟨(term_parts h.ta).2.2, (term_parts h.tb).2.2, by rw [← h.ex, ← h.ey]; exact e, by rw [← h.ex]; exact kx, by rw [← h.ey]; exact ky, by rw [← h.ex, ← h.ey]; exact ne⟩
theorem Wy.clash (h : Wy sg a b L x y) {k : Nat} (s : Spot sg a b L k) (h1 : 0 ≤ x.getD k 0) (h2 : 0 ≤ y.getD k 0) : ∀ M, ¬ Short sg a b M := fun M hM =>
  s.clash h.part (by rw [← h.ex]; exact h1) (by rw [← h.ey]; exact h2) M hM.toUni
theorem Wy.occurs (h : Wy sg a b L x y) {k : Nat} (s : Spot sg a b L k) (h1 : x.getD k 0 < 0) (h2 : x.getD k 0 ∈ subL sg y k) : ∀ M, ¬ Short sg a b M := fun M hM =>
  s.occurs h.part (by rw [← h.ex]; exact h1) (by rw [← h.ex, ← h.ey]; exact h2) M hM.toUni
/-- a step: the variable at k becomes the other side's subterm -/
theorem Wy.step (h : Wy sg a b L x y) {k : Nat} (s : Spot sg a b L k) (h1 : x.getD k 0 < 0) (h2 : x.getD k 0 ∉ subL sg y k) (h3 : 0 ≤ y.getD k 0 ∨ x.getD k 0 < y.getD k 0) :
    (fillL (ones (vr (x.getD k 0)) (subL sg y k)) x).length ≤ 60 → (fillL (ones (vr (x.getD k 0)) (subL sg y k)) y).length ≤ 60 →
      Wy sg a b (fun m => fillL (ones (vr (x.getD k 0)) (subL sg y k)) (L m)) (fillL (ones (vr (x.getD k 0)) (subL sg y k)) x) (fillL (ones (vr (x.getD k 0)) (subL sg y k)) y) ∧
      free (fun m => fillL (ones (vr (x.getD k 0)) (subL sg y k)) (L m)) < free L := fun l1 l2 => by
  have hx := h.ex
  have hy := h.ey
  subst hx
  subst hy
  have hm : (fillL L a).getD k 0 ∈ fillL L a := by have := s.kx; simp [List.getD, this]
  exact ⟨⟨h.ta, h.tb, s.bind h.part h1 h2 h3, h.dom.bind (h.dom.fill (.inl hm) h1) h1 (fun z hz h0 => h.dom.fill (.inr (sub_mem hz)) h0), fill_fill _, fill_fill _, l1, l2⟩, free_bind s h.part h1 h2⟩
/-- where one becomes too long there is no short unifier -/
theorem Wy.long (h : Wy sg a b L x y) {k : Nat} (s : Spot sg a b L k) (h1 : x.getD k 0 < 0) (h2 : x.getD k 0 ∉ subL sg y k) (h3 : 0 ≤ y.getD k 0 ∨ x.getD k 0 < y.getD k 0)
    (hl : ¬ ((fillL (ones (vr (x.getD k 0)) (subL sg y k)) x).length ≤ 60 ∧ (fillL (ones (vr (x.getD k 0)) (subL sg y k)) y).length ≤ 60)) : ∀ M, ¬ Short sg a b M := fun M hM => by
  have hx := h.ex
  have hy := h.ey
  subst hx
  subst hy
  have hl2 := (s.bind h.part h1 h2 h3).len hM
  rw [← fill_fill, ← fill_fill] at hl2
  exact hl hl2
end
end Go.Proofs.Ytkmhnkljigncmaa.unifDom
end

section
/-
  CONTRACTS: impl.lookup.then and what it returns, impl.varTerm as a look-up. 'LooksE x': a look-up that goes on as it does whatever is written into block x. Conditions: the values of the first look-up are terms of at most 60 numbers. (The closure's region by wip/tools/reg.py.) By an AI agent.
-/
namespace Go.Proofs.Ytkmhnkljigncmaa.thn
open Go.RowKit Go.Proofs.Ytkmhnkljigncmaa.base Go.Proofs.Ytkmhnkljigncmaa.ints Go.Proofs.Ytkmhnkljigncmaa.cursor Go.Proofs.Ytkmhnkljigncmaa.marks Go.Proofs.Ytkmhnkljigncmaa.app Go.Proofs.Ytkmhnkljigncmaa.sym Go.Proofs.Ytkmhnkljigncmaa.segs Go.Proofs.Ytkmhnkljigncmaa.fillMath Go.Proofs.Ytkmhnkljigncmaa.look
set_option maxRecDepth 100000

/-- as 'Looks', and whatever is written into block x -/
def LooksE (x : Option Nat) (g : Nat) (lb : Array Value) (w : World) (L : Nat → List Int) (N : Nat) : Prop :=
  ∀ (W : World) (i : Nat), w.grownBy W x → i < N → Calls Try.prog g (#[.int .i64 (i : Int)] ++ lb) W (AnsLook w.heap.size W (L i))
section
variable {x : Option Nat} {g : Nat} {lb : Array Value} {w w' : World} {L L' : Nat → List Int} {N : Nat}
theorem LooksE.next (h : LooksE x g lb w L N) (hg : w.grownBy w' x) : LooksE x g lb w' L N :=
  fun W i hW hi => (h W i (grown_trans hg hW) hi).mono fun _ _ ⟨A, n, c, he, h1, h2, h3, h4⟩ => ⟨A, n, c, he, h1, h2, fun k hk => by have := h3 k hk; have := hg.size; omega, h4⟩
theorem LooksE.looks (h : LooksE x g lb w L N) : Looks g lb w L N := fun W i hW hi => h W i (grown_below hW x) hi
theorem LooksE.ext (h : LooksE x g lb w L N) (e : ∀ i, i < N → L i = L' i) : LooksE x g lb w L' N := fun W i hW hi => by rw [← e i hi]; exact h W i hW hi
theorem grown_drew {a b : World} {r : Option Nat} (h : a.grownBy b r) : a.grownBy b.drew r := ⟨h.os, h.tape, h.output, h.size, h.block⟩
theorem lookVar (x : Option Nat) (w : World) : LooksE x 59 #[] w vt 24 := fun W i _ hi =>
  (varTerm (i : Int) W (by omega) (by omega)).mono fun _ _ ⟨A, n, c, he, ho, hb⟩ => by subst he; exact look_new ho hb
end
/-- what then returns: first the one, and what the other makes of it -/
theorem lookThen (x : Option Nat) (b1 b2 g1 g2 : Nat) (lb1 lb2 : Array Value) (e1 : ∀ args w, (callFunc g1 args).run Try.prog w = .ok (.enter g1 args) w) (e2 : ∀ args w, (callFunc g2 args).run Try.prog w = .ok (.enter g2 args) w) (L1 L2 : Nat → List Int) (w : World)
    (z1 : b1 < w.heap.size) (z2 : b2 < w.heap.size) (n1 : x ≠ some b1) (n2 : x ≠ some b2) (c1 : w.cell? ⟨b1, 0, none⟩ = some (.func (.func g1) #[] lb1)) (c2 : w.cell? ⟨b2, 0, none⟩ = some (.func (.func g2) #[] lb2))
    (h1 : LooksE x g1 lb1 w L1 24) (h2 : LooksE x g2 lb2 w L2 24) (hl1 : ∀ i, i < 24 → (L1 i).length ≤ 60) (hv : ∀ i, i < 24 → ∀ y ∈ L1 i, -24 ≤ y) (hl2 : ∀ i, (L2 i).length ≤ 4096) :
    LooksE x 113 #[.pointer (some ⟨b2, 0, none⟩), .pointer (some ⟨b1, 0, none⟩)] w (fun i => fillL L2 (L1 i)) 24 := by
  intro W i hb hi
  have hsz := hb.size
  have p1 : W.cell? ⟨b1, 0, none⟩ = some (.func (.func g1) #[] lb1) := hb.cell c1 (fun e => n1 e.symm)
  have p2 : W.cell? ⟨b2, 0, none⟩ = some (.func (.func g2) #[] lb2) := hb.cell c2 (fun e => n2 e.symm)
  have HL1 := Lib.hid (h1 W.drew i (grown_drew hb) hi)
  have LU := (h2.next (grown_drew hb)).looks
  have h60 := Lib.hid (hl1 i hi)
  have HV := Lib.hid (hv i hi)
  have hM2 := Lib.hid hl2
  clear hb z1 z2 c1 c2 h1 h2 hl1 hv hl2
  show Calls Try.prog 113 #[.int .i64 (i : Int), .pointer (some ⟨b2, 0, none⟩), .pointer (some ⟨b1, 0, none⟩)] W _
  go_enter Try.func113, Try.ntmps113
  go_wp2_with fail
  refine wp_region_held_drew (S := (fun w' => w'.cell? ⟨b1, 0, none⟩ = some (.func (.func g1) #[] lb1) ∧ w'.cell? ⟨b2, 0, none⟩ = some (.func (.func g2) #[] lb2))) (by kernel_rfl) ⟨p1, p2⟩ (fun hHeld => ?_)
  refine wpAnyH_take (i := 0) (v := ?_) rfl (by kernel_rfl) (by kernel_rfl) (by kernel_rfl) (fun _ _ _ h => h) (Or.inl ⟨by rfl, ?_⟩) (by assumption) ?_
  rotate_left 1
  · (intro w0 hSw; (try dsimp only at hSw); go_simp; try with_reducible rfl)
  try simp only [Act.put, List.setIfInBounds_toArray, List.set_cons_zero, List.set_cons_succ, List.getElem_toArray, List.getElem_cons_zero, List.getElem_cons_succ]
  refine wpAnyH_take (i := 1) (v := ?_) rfl (by kernel_rfl) (by kernel_rfl) (by kernel_rfl) (fun _ _ _ h => h) (Or.inl ⟨by rfl, ?_⟩) (by assumption) ?_
  rotate_left 1
  · (intro w0 hSw; (try dsimp only at hSw); go_simp; try with_reducible rfl)
  try simp only [Act.put, List.setIfInBounds_toArray, List.set_cons_zero, List.set_cons_succ, List.getElem_toArray, List.getElem_cons_zero, List.getElem_cons_succ]
  refine wpAnyH_take (i := 2) (v := ?_) rfl (by kernel_rfl) (by kernel_rfl) (by kernel_rfl) (fun _ _ _ h => h) (Or.inl ⟨by rfl, ?_⟩) (by assumption) ?_
  rotate_left 1
  · (intro w0 hSw; (try dsimp only at hSw); go_simp; try with_reducible rfl)
  try simp only [Act.put, List.setIfInBounds_toArray, List.set_cons_zero, List.set_cons_succ, List.getElem_toArray, List.getElem_cons_zero, List.getElem_cons_succ]
  refine wpAnyH_ready (rs := [3]) (by kernel_rfl) (by simp) (AllReadyH.cons rfl (fun K hK => ?_) AllReadyH.nil)
  go_simp
  refine HL1.out.mono ?_; rintro e w3 ⟨X, xn, xc, rfl, s1, -, -, b1'⟩; have x1 : w3.cell? ⟨b1, 0, none⟩ = some (.func (.func g1) #[] lb1) := (b1'.cell (p := ⟨b1, 0, none⟩) (World.block_lt_of_cell? _ _ p1)).trans p1; have x2 : w3.cell? ⟨b2, 0, none⟩ = some (.func (.func g2) #[] lb2) := (b1'.cell (p := ⟨b2, 0, none⟩) (World.block_lt_of_cell? _ _ p2)).trans p2; go_wp2_with fail
  refine hK.out _ _ ?_ (fun hHeld => ?_)
  · first | assumption | (dsimp only; assumption) | exact ⟨by assumption, by assumption⟩
  clear hK K
  try simp only [Act.put, List.setIfInBounds_toArray, List.set_cons_zero, List.set_cons_succ, List.getElem_toArray, List.getElem_cons_zero, List.getElem_cons_succ]
  refine wpAnyH_ready (rs := [4]) (by kernel_rfl) (by simp) (AllReadyH.cons rfl (fun K hK => ?_) AllReadyH.nil)
  go_simp
  refine (fill g2 lb2 e2 X xn xc (L1 i) L2 w3 (LU.next b1') s1 (by rw [← s1.1]; exact h60.out) HV.out hM2.out).mono ?_; rintro e w4 ⟨Y, yn, yc, rfl, oy, b2'⟩; have y1 := (b2'.cell (p := ⟨b1, 0, none⟩) (World.block_lt_of_cell? _ _ x1)).trans x1; have y2 := (b2'.cell (p := ⟨b2, 0, none⟩) (World.block_lt_of_cell? _ _ x2)).trans x2; go_wp2_with fail
  refine hK.out _ _ ?_ (fun hHeld => ?_)
  · first | assumption | (dsimp only; assumption) | exact ⟨by assumption, by assumption⟩
  clear hK K
  try simp only [Act.put, List.setIfInBounds_toArray, List.set_cons_zero, List.set_cons_succ, List.getElem_toArray, List.getElem_cons_zero, List.getElem_cons_succ]
  refine wpAnyH_take (i := 5) (v := ?_) rfl (by kernel_rfl) (by kernel_rfl) (by kernel_rfl) (fun _ _ _ h => h) (Or.inl ⟨by rfl, ?_⟩) (by assumption) ?_
  rotate_left 1
  · (intro w0 hSw; (try dsimp only at hSw); go_simp; try with_reducible rfl)
  try simp only [Act.put, List.setIfInBounds_toArray, List.set_cons_zero, List.set_cons_succ, List.getElem_toArray, List.getElem_cons_zero, List.getElem_cons_succ]
  refine wpAnyH_done (by kernel_rfl) ?_ _
  have F : AnsLook w.heap.size W (fillL L2 (L1 i)) (.returned (.slice Y yn yc)) w4 :=
    look_new (w := W) (Own.lower oy (show W.drew.heap.size ≤ w3.heap.size from b1'.size)) (next_trans ((Below.refl _ _).drew : Below W.heap.size W W.drew) (next_trans b1' b2'))
  have HF := Lib.hid F
  clear F oy s1 b1' b2' HL1 LU p1 p2 x1 x2
  go_wp2
  go_ret
  exact HF.out

/-- then: two new variables hold the look-ups -/
theorem thenC (g1 g2 : Nat) (lb1 lb2 : Array Value) (w : World) :
    Calls Try.prog 75 #[.func (.func g1) #[] lb1, .func (.func g2) #[] lb2] w fun e w' => e = .returned (.func (.func 113) #[] #[.pointer (some ⟨w.heap.size + 1, 0, none⟩), .pointer (some ⟨w.heap.size, 0, none⟩)]) ∧ w' = (w.alloc (.cells #[.func (.func g1) #[] lb1] 66)).alloc (.cells #[.func (.func g2) #[] lb2] 66) := by
  have hmf : ∀ (fn : Fn) (first cap : Array Value) (w : World), (Instr.makeFunc fn first cap).run Try.prog w = .ok (.func fn first cap) w := fun _ _ _ _ => rfl
  go_enter Try.func75, Try.ntmps75
  go_wp2
  go_ret
  exact ⟨rfl, rfl⟩
/-- the same, without the addresses -/
def AnsThen (w : World) (g1 g2 : Nat) (lb1 lb2 : Array Value) (e : Ending) (w' : World) : Prop :=
  ∃ b1 b2, e = .returned (.func (.func 113) #[] #[.pointer (some ⟨b2, 0, none⟩), .pointer (some ⟨b1, 0, none⟩)]) ∧ w.heap.size ≤ b1 ∧ w.heap.size ≤ b2 ∧ w'.cell? ⟨b1, 0, none⟩ = some (.func (.func g1) #[] lb1) ∧ w'.cell? ⟨b2, 0, none⟩ = some (.func (.func g2) #[] lb2) ∧ Below w.heap.size w w'
theorem thenB (g1 g2 : Nat) (lb1 lb2 : Array Value) (w : World) :
    Calls Try.prog 75 #[.func (.func g1) #[] lb1, .func (.func g2) #[] lb2] w (AnsThen w g1 g2 lb1 lb2) :=
  (thenC g1 g2 lb1 lb2 w).mono fun e w' ⟨h1, h2⟩ => by
    subst h2
    refine ⟨_, _, h1, Nat.le_refl _, Nat.le_succ _, ((Row.new w _ _).alloc _).cell 0, ?_, ((Below.refl _ _).alloc (Nat.le_refl _) _).alloc (by simp) _⟩
    simp
end Go.Proofs.Ytkmhnkljigncmaa.thn
end

section
/-
  WORD: what a contract of a test says: a bool, and that below the call's own blocks nothing has turned. Conditions: none. By an AI agent.
-/
namespace Go.Proofs.Ytkmhnkljigncmaa.varsOf
open Go.RowKit Go.Proofs.Ytkmhnkljigncmaa.base

def AnsB (w : World) (b : Bool) (e : Ending) (w' : World) : Prop := e = .returned (.bool b) ∧ Below w.heap.size w w'
theorem ansB {w w' : World} {a b : Bool} (h : a = b) (hb : Below w.heap.size w w') : AnsB w b (.returned (.bool a)) w' := ⟨by rw [h], hb⟩
end Go.Proofs.Ytkmhnkljigncmaa.varsOf
end

section
/-
  CONTRACTS: spec.SubstOk, impl.SubstOk, spec.l2Gives, impl.lookupIn and what it returns. Conditions: the slices read as lists ('Seg', 'Segs'), at most 1048576 values. By an AI agent.
-/
namespace Go.Proofs.Ytkmhnkljigncmaa.substOk
open Go.RowKit Go.Proofs.Ytkmhnkljigncmaa.base Go.Proofs.Ytkmhnkljigncmaa.ints Go.Proofs.Ytkmhnkljigncmaa.sig Go.Proofs.Ytkmhnkljigncmaa.term Go.Proofs.Ytkmhnkljigncmaa.termOk Go.Proofs.Ytkmhnkljigncmaa.marks Go.Proofs.Ytkmhnkljigncmaa.app Go.Proofs.Ytkmhnkljigncmaa.sym Go.Proofs.Ytkmhnkljigncmaa.sub Go.Proofs.Ytkmhnkljigncmaa.segs Go.Proofs.Ytkmhnkljigncmaa.segsHelp Go.Proofs.Ytkmhnkljigncmaa.termFacts Go.Proofs.Ytkmhnkljigncmaa.varsMath Go.Proofs.Ytkmhnkljigncmaa.varsOf Go.Proofs.Ytkmhnkljigncmaa.fillMath Go.Proofs.Ytkmhnkljigncmaa.look
set_option maxRecDepth 100000

/-- nothing, or a term -/
def goodB (sg t : List Int) : Bool := decide (t.length = 0) || termOkB sg t
/-- a valid substitution -/
def substOkB (sg : List Int) (ss : List (List Int)) : Bool := sigOkB sg && (decide (ss.length ≤ 24) && ss.all (goodB sg))
theorem substOk_parts {sg : List Int} {ss : List (List Int)} (h : substOkB sg ss = true) : sigOkB sg = true ∧ ss.length ≤ 24 ∧ ∀ j, j < ss.length → goodB sg (ss.getD j []) = true := by
  unfold substOkB at h
  simp only [Bool.and_eq_true, decide_eq_true_eq, List.all_eq_true] at h
  refine ⟨h.1, h.2.1, fun j hj => ?_⟩
  have := h.2.2 (ss[j]) (List.getElem_mem hj)
  simpa [List.getD, hj] using this
theorem subst_sig {sg : List Int} {ss : List (List Int)} (h : sigOkB sg = false) : substOkB sg ss = false := by unfold substOkB; rw [h, Bool.false_and]
theorem subst_long {sg : List Int} {ss : List (List Int)} (h : ¬ ss.length ≤ 24) : substOkB sg ss = false := by unfold substOkB; rw [decide_eq_false h, Bool.false_and, Bool.and_false]
theorem subst_bad {sg : List Int} {ss : List (List Int)} {k : Nat} (hk : k < ss.length) (h : goodB sg (ss.getD k []) = false) : substOkB sg ss = false := by
  have : ss.all (goodB sg) = false := by
    rw [List.all_eq_false]
    refine ⟨ss[k], List.getElem_mem hk, ?_⟩
    have e : ss.getD k [] = ss[k] := by simp [List.getD, hk]
    rw [e] at h
    simp [h]
  unfold substOkB
  rw [this, Bool.and_false, Bool.and_false]
theorem subst_good {sg : List Int} {ss : List (List Int)} (h : sigOkB sg = true) (hl : ss.length ≤ 24) (hg : ∀ j, j < ss.length → goodB sg (ss.getD j []) = true) : substOkB sg ss = true := by
  have : ss.all (goodB sg) = true := by
    rw [List.all_eq_true]
    intro x hx
    obtain ⟨j, hj, rfl⟩ := List.getElem_of_mem hx
    have := hg j hj
    simpa [List.getD, hj] using this
  unfold substOkB
  rw [this, h, decide_eq_true hl]
  rfl

/-- the first k elements are good -/
def HeadSO (w : World) (A : Option Addr) (n c : Nat) (S : Option Addr) (m c' : Nat) (sg : List Int) (ss : List (List Int)) (i : Value) (wr : World) : Prop :=
  ∃ k : Nat, k ≤ m ∧ i = .int .i64 k ∧ (∀ j, j < k → goodB sg (ss.getD j []) = true) ∧ Row wr w.heap.size 26 #[.slice A n c] ∧ Row wr (w.heap.size + 1) 31 #[.slice S m c'] ∧ Below w.heap.size w wr
theorem headSO_step {w wr : World} {A : Option Addr} {n c : Nat} {S : Option Addr} {m c' : Nat} {sg : List Int} {ss : List (List Int)} {k : Nat} (hk : k < m) (hlow : ∀ j, j < k → goodB sg (ss.getD j []) = true) (hg : goodB sg (ss.getD k []) = true)
    (r1 : Row wr w.heap.size 26 #[.slice A n c]) (r2 : Row wr (w.heap.size + 1) 31 #[.slice S m c']) (hb : Below w.heap.size w wr) : HeadSO w A n c S m c' sg ss (.int .i64 ((k : Int) + 1)) wr :=
  ⟨k + 1, hk, by simp, fun j hj => by
    by_cases e : j = k
    · subst e; exact hg
    · exact hlow j (by omega), r1, r2, hb⟩

/-- the two boxes of the parameters -/
theorem boxes2 (w : World) (A : Option Addr) (n c : Nat) (S : Option Addr) (m c' : Nat) : ∃ W, W = (w.alloc (.cells #[.slice A n c] 26)).alloc (.cells #[.slice S m c'] 31) ∧
    Row W w.heap.size 26 #[.slice A n c] ∧ Row W (w.heap.size + 1) 31 #[.slice S m c'] ∧ Below w.heap.size w W := by
  refine ⟨_, rfl, ?_, ?_, ?_⟩
  · have := (Row.new w 26 #[.slice A n c]).alloc (.cells #[.slice S m c'] 31)
    simpa using this
  · have := Row.new (w.alloc (.cells #[.slice A n c] 26)) 31 #[.slice S m c']
    simpa using this
  · exact ((Below.refl _ _).alloc (Nat.le_refl _) _).alloc (by simp) _

set_option maxHeartbeats 4000000 in
theorem specSubstOk (A S : Option Addr) (n c m c' : Nat) (sg : List Int) (ss : List (List Int)) (w : World) (h : Seg w w.heap.size A n sg) (h' : Segs w w.heap.size S m ss) (hn : n ≤ 1048576) (ht : tot ss ≤ 1048576) :
    Calls Try.prog 65 #[.agg #[.slice A n c], .agg #[.slice S m c']] w (AnsB w (substOkB sg ss)) := by
  obtain ⟨W, hW, rA, rS, bel⟩ := boxes2 w A n c S m c'
  have HW := Lib.hid hW
  have HL := Lib.hid h'.1
  have hm : m ≤ 1048576 := tot_len h'.1 ht
  have HT := Lib.hid (tot_each ht)
  have L := Lib.hid (specSigOk A n c sg W (h.next bel) hn)
  have cS : W.cell? ⟨w.heap.size + 1, 0, none⟩ = some (.slice S m c') := rS.cell 0
  clear hW ht
  cases hsig : sigOkB sg with
  | false =>
    have HS := Lib.hid hsig
    clear hsig h h'
    go_enter Try.func65, Try.ntmps65
    go_wp2_with fail
    rw [← HW.out]
    refine L.out.mono ?_
    rintro e w1 ⟨he, bb⟩
    rw [HS.out] at he
    subst he
    have F := Lib.hid (ansB (b := substOkB sg ss) (a := false) (by rw [subst_sig HS.out]) (next_trans bel bb))
    clear bb bel rA rS cS
    go_wp2
    go_ret
    exact F.out
  | true =>
    have HS := Lib.hid hsig
    clear hsig
    by_cases h24 : m ≤ 24
    · go_enter Try.func65, Try.ntmps65
      go_wp2_with fail
      rw [← HW.out]
      refine L.out.mono ?_
      rintro e w1 ⟨he, bb⟩
      rw [HS.out] at he
      subst he
      have H0 : HeadSO w A n c S m c' sg ss (.int .i64 0) w1 := ⟨0, Nat.zero_le _, rfl, fun j hj => absurd hj (Nat.not_lt_zero _), rA.next bb, rS.next bb, next_trans bel bb⟩
      have HH := Lib.hid H0
      have cS1 : w1.cell? ⟨w.heap.size + 1, 0, none⟩ = some (.slice S m c') := (rS.next bb).cell 0
      clear H0 bb bel rA rS cS L
      go_wp2_with fail
      go_loopw [5] (fun i wr => HeadSO w A n c S m c' sg ss i wr) (fun i _ => m - (intOf i).toNat)
      case atStart => exact HH.out
      case round =>
        obtain ⟨k, hk, rfl, hlow, r1, r2, hb⟩ := hrel
        have HLOW := Lib.hid hlow
        clear hlow HH cS1
        have cS : wr.cell? ⟨w.heap.size + 1, 0, none⟩ = some (.slice S m c') := r2.cell 0
        have cA : wr.cell? ⟨w.heap.size, 0, none⟩ = some (.slice A n c) := r1.cell 0
        by_cases hlt : k < m
        · obtain ⟨b, off, A', n', cc, rfl, hbB, hx, hseg, hcap⟩ := h'.spot hlt
          have hx1 : wr.cell? ⟨b, off + k, none⟩ = some (.slice A' n' cc) := (hb.cell (p := ⟨b, off + k, none⟩) hbB).trans hx
          have hn' : n' ≤ 1048576 := by rw [← hseg.1]; exact HT.out k
          have HG := Lib.hid hseg.1
          have i0 : (0 : Int) ≤ (k : Int) := by omega
          have i1 : (k : Int) < (m : Int) := by omega
          have hbr : b < wr.heap.size := Nat.lt_of_lt_of_le hbB hb.size
          have r1d := r1.drew
          have r2d := r2.drew
          have hbd := hb.drew
          by_cases hz : n' = 0
          · subst hz
            have S1 : ∀ d : Nat, HeadSO w A n c (some ⟨b, off, none⟩) m c' sg ss (.int .i64 ((k : Int) + 1)) (wr.drewN d) := fun d => headSO_step hlt HLOW.out (by unfold goodB; rw [HG.out]; rfl) (r1.drewN d) (r2.drewN d) (below_drewN hb d)
            have HS1 := Lib.hid S1
            clear S1 r1 r2 hb hx hseg hcap r1d r2d hbd h h'
            go_wp2_with fail
            go_quiet (fail)
            go_wp2
            go_roundw
            case rel => exact HS1.out _
            case measure => simp [intOf]; omega
          · have hpos : 0 < n' := by omega
            have i2 : (0 : Int) < (n' : Int) := by omega
            have LT := Lib.hid (specTermOk A A' n c n' cc sg (ss.getD k []) wr.drew ((h.next hb).drew) (((hseg.below hb).more hb.size).drew) hn hn')
            have hne1 := World.new_ne wr _ cS
            cases hok : termOkB sg (ss.getD k []) with
            | false =>
              have HO := Lib.hid hok
              clear hok hx hseg hcap h h' r1 r2 hb
              go_wp2_with fail
              go_region_held3 (fun w' => w'.cell? ⟨w.heap.size + 1, 0, none⟩ = some (.slice (some ⟨b, off, none⟩) m c') ∧ w'.cell? ⟨w.heap.size, 0, none⟩ = some (.slice A n c) ∧ w'.cell? ⟨b, off + k, none⟩ = some (.slice A' n' cc))
                (go_keep)
                (first
                  | (go_at_call 62; refine LT.out.mono ?_; rintro e w2 ⟨he, bb⟩; rw [HO.out] at he; subst he; have cA2 : w2.cell? ⟨w.heap.size, 0, none⟩ = some (.slice A n c) := (r1d.next bb).cell 0; have cS2 : w2.cell? ⟨w.heap.size + 1, 0, none⟩ = some (.slice (some ⟨b, off, none⟩) m c') := (r2d.next bb).cell 0; have cX2 : w2.cell? ⟨b, off + k, none⟩ = some (.slice A' n' cc) := (bb.cell (p := ⟨b, off + k, none⟩) hbr).trans hx1; have F := Lib.hid (ansB (b := substOkB sg ss) (a := false) (by rw [subst_bad (k := k) (by rw [HL.out]; exact hlt) (by unfold goodB; rw [HO.out, HG.out]; simp; omega)]) (next_trans hbd bb))))
              clear r1d r2d hbd LT cA2 cS2 cX2 hx1 cA cS
              go_wp2
              go_ret
              exact F.out
            | true =>
              have HO := Lib.hid hok
              clear hok hx hseg hcap h h' r1 r2 hb
              go_wp2_with fail
              go_region_held3 (fun w' => w'.cell? ⟨w.heap.size + 1, 0, none⟩ = some (.slice (some ⟨b, off, none⟩) m c') ∧ w'.cell? ⟨w.heap.size, 0, none⟩ = some (.slice A n c) ∧ w'.cell? ⟨b, off + k, none⟩ = some (.slice A' n' cc))
                (go_keep)
                (first
                  | (go_at_call 62; refine LT.out.mono ?_; rintro e w2 ⟨he, bb⟩; rw [HO.out] at he; subst he; have cA2 : w2.cell? ⟨w.heap.size, 0, none⟩ = some (.slice A n c) := (r1d.next bb).cell 0; have cS2 : w2.cell? ⟨w.heap.size + 1, 0, none⟩ = some (.slice (some ⟨b, off, none⟩) m c') := (r2d.next bb).cell 0; have cX2 : w2.cell? ⟨b, off + k, none⟩ = some (.slice A' n' cc) := (bb.cell (p := ⟨b, off + k, none⟩) hbr).trans hx1; have F := Lib.hid (headSO_step (sg := sg) (ss := ss) hlt HLOW.out (by unfold goodB; rw [HO.out, Bool.or_true]) (r1d.next bb) (r2d.next bb) (next_trans hbd bb))))
              clear r1d r2d hbd LT cA2 cS2 cX2 hx1 cA cS
              go_wp2
              go_roundw
              case rel => exact F.out
              case measure => simp [intOf]; omega
        · have F := Lib.hid (ansB (b := substOkB sg ss) (a := true) (by rw [subst_good HS.out (by rw [HL.out]; exact h24) (fun j hj => HLOW.out j (by rw [HL.out] at hj; omega))]) hb)
          clear r1 r2 hb h h'
          go_wp2
          go_ret
          exact F.out
    · have i1 : (24 : Int) < (m : Int) := by omega
      go_enter Try.func65, Try.ntmps65
      go_wp2_with fail
      rw [← HW.out]
      refine L.out.mono ?_
      rintro e w1 ⟨he, bb⟩
      rw [HS.out] at he
      subst he
      have cS1 : w1.cell? ⟨w.heap.size + 1, 0, none⟩ = some (.slice S m c') := (rS.next bb).cell 0
      have F := Lib.hid (ansB (b := substOkB sg ss) (a := false) (by rw [subst_long (by rw [HL.out]; exact h24)]) (next_trans bel bb))
      clear bb bel rA rS cS h h' L
      go_wp2
      go_ret
      exact F.out
end Go.Proofs.Ytkmhnkljigncmaa.substOk
end

section
/-
  CONTRACTS: impl.SubstOk, spec.l2Gives, impl.lookupIn and what it returns, impl.tooLong. Conditions: the slices read as lists ('Seg', 'Segs'), at most 1048576 values. By an AI agent.
-/
namespace Go.Proofs.Ytkmhnkljigncmaa.gives
open Go.RowKit Go.Proofs.Ytkmhnkljigncmaa.base Go.Proofs.Ytkmhnkljigncmaa.ints Go.Proofs.Ytkmhnkljigncmaa.sig Go.Proofs.Ytkmhnkljigncmaa.term Go.Proofs.Ytkmhnkljigncmaa.termOk Go.Proofs.Ytkmhnkljigncmaa.marks Go.Proofs.Ytkmhnkljigncmaa.app Go.Proofs.Ytkmhnkljigncmaa.sym Go.Proofs.Ytkmhnkljigncmaa.sub Go.Proofs.Ytkmhnkljigncmaa.segs Go.Proofs.Ytkmhnkljigncmaa.segsHelp Go.Proofs.Ytkmhnkljigncmaa.termFacts Go.Proofs.Ytkmhnkljigncmaa.varsMath Go.Proofs.Ytkmhnkljigncmaa.varsOf Go.Proofs.Ytkmhnkljigncmaa.fillMath Go.Proofs.Ytkmhnkljigncmaa.look Go.Proofs.Ytkmhnkljigncmaa.substOk
set_option maxRecDepth 100000

set_option maxHeartbeats 4000000 in
theorem implSubstOk (A S : Option Addr) (n c m c' : Nat) (sg : List Int) (ss : List (List Int)) (w : World) (h : Seg w w.heap.size A n sg) (h' : Segs w w.heap.size S m ss) (hn : n ≤ 1048576) (ht : tot ss ≤ 1048576) :
    Calls Try.prog 71 #[.agg #[.slice A n c], .agg #[.slice S m c']] w (AnsB w (substOkB sg ss)) := by
  obtain ⟨W, hW, rA, rS, bel⟩ := boxes2 w A n c S m c'
  have HW := Lib.hid hW
  have HL := Lib.hid h'.1
  have hm : m ≤ 1048576 := tot_len h'.1 ht
  have HT := Lib.hid (tot_each ht)
  have L := Lib.hid (implSigOk A n c sg W (h.next bel) hn)
  have cS : W.cell? ⟨w.heap.size + 1, 0, none⟩ = some (.slice S m c') := rS.cell 0
  clear hW ht
  cases hsig : sigOkB sg with
  | false =>
    have HS := Lib.hid hsig
    clear hsig h h'
    go_enter Try.func71, Try.ntmps71
    go_wp2_with fail
    rw [← HW.out]
    refine L.out.mono ?_
    rintro e w1 ⟨he, bb⟩
    rw [HS.out] at he
    subst he
    have F := Lib.hid (ansB (b := substOkB sg ss) (a := false) (by rw [subst_sig HS.out]) (next_trans bel bb))
    clear bb bel rA rS cS
    go_wp2
    go_ret
    exact F.out
  | true =>
    have HS := Lib.hid hsig
    clear hsig
    by_cases h24 : m ≤ 24
    · go_enter Try.func71, Try.ntmps71
      go_wp2_with fail
      rw [← HW.out]
      refine L.out.mono ?_
      rintro e w1 ⟨he, bb⟩
      rw [HS.out] at he
      subst he
      have H0 : HeadSO w A n c S m c' sg ss (.int .i64 0) w1 := ⟨0, Nat.zero_le _, rfl, fun j hj => absurd hj (Nat.not_lt_zero _), rA.next bb, rS.next bb, next_trans bel bb⟩
      have HH := Lib.hid H0
      have cS1 : w1.cell? ⟨w.heap.size + 1, 0, none⟩ = some (.slice S m c') := (rS.next bb).cell 0
      clear H0 bb bel rA rS cS L
      go_wp2_with fail
      go_loopw [19] (fun i wr => HeadSO w A n c S m c' sg ss i wr) (fun i _ => m - (intOf i).toNat)
      case atStart => exact HH.out
      case round =>
        obtain ⟨k, hk, rfl, hlow, r1, r2, hb⟩ := hrel
        have HLOW := Lib.hid hlow
        clear hlow HH cS1
        have cA : wr.cell? ⟨w.heap.size, 0, none⟩ = some (.slice A n c) := r1.cell 0
        by_cases hlt : k < m
        · obtain ⟨b, off, A', n', cc, rfl, hbB, hx, hseg, hcap⟩ := h'.spot hlt
          have hx1 : wr.cell? ⟨b, off + k, none⟩ = some (.slice A' n' cc) := (hb.cell (p := ⟨b, off + k, none⟩) hbB).trans hx
          have hn' : n' ≤ 1048576 := by rw [← hseg.1]; exact HT.out k
          have HG := Lib.hid hseg.1
          by_cases hz : n' = 0
          · subst hz
            have S1 : HeadSO w A n c (some ⟨b, off, none⟩) m c' sg ss (.int .i64 ((k : Int) + 1)) wr := headSO_step hlt HLOW.out (by unfold goodB; rw [HG.out]; rfl) r1 r2 hb
            have HS1 := Lib.hid S1
            clear S1 r1 r2 hb hx hseg hcap h h'
            go_wp2
            go_roundw
            case rel => exact HS1.out
            case measure => simp [intOf]; omega
          · have hpos : 0 < n' := by omega
            have LT := Lib.hid (implTermOk A A' n c n' cc sg (ss.getD k []) wr (h.next hb) ((hseg.below hb).more hb.size) hn hn')
            cases hok : termOkB sg (ss.getD k []) with
            | false =>
              have HO := Lib.hid hok
              clear hok hx hseg hcap h h'
              go_wp2_with fail
              refine LT.out.mono ?_
              rintro e w2 ⟨he, bb⟩
              rw [HO.out] at he
              subst he
              have F := Lib.hid (ansB (b := substOkB sg ss) (a := false) (by rw [subst_bad (k := k) (by rw [HL.out]; exact hlt) (by unfold goodB; rw [HO.out, HG.out]; simp; omega)]) (next_trans hb bb))
              clear r1 r2 hb LT hx1 cA bb
              go_wp2
              go_ret
              exact F.out
            | true =>
              have HO := Lib.hid hok
              clear hok hx hseg hcap h h'
              go_wp2_with fail
              refine LT.out.mono ?_
              rintro e w2 ⟨he, bb⟩
              rw [HO.out] at he
              subst he
              have F := Lib.hid (headSO_step (sg := sg) (ss := ss) hlt HLOW.out (by unfold goodB; rw [HO.out, Bool.or_true]) (r1.next bb) (r2.next bb) (next_trans hb bb))
              clear r1 r2 hb LT hx1 cA bb
              go_wp2
              go_roundw
              case rel => exact F.out
              case measure => simp [intOf]; omega
        · have F := Lib.hid (ansB (b := substOkB sg ss) (a := true) (by rw [subst_good HS.out (by rw [HL.out]; exact h24) (fun j hj => HLOW.out j (by rw [HL.out] at hj; omega))]) hb)
          clear r1 r2 hb h h'
          go_wp2
          go_ret
          exact F.out
    · have i1 : (24 : Int) < (m : Int) := by omega
      go_enter Try.func71, Try.ntmps71
      go_wp2_with fail
      rw [← HW.out]
      refine L.out.mono ?_
      rintro e w1 ⟨he, bb⟩
      rw [HS.out] at he
      subst he
      have cS1 : w1.cell? ⟨w.heap.size + 1, 0, none⟩ = some (.slice S m c') := (rS.next bb).cell 0
      have F := Lib.hid (ansB (b := substOkB sg ss) (a := false) (by rw [subst_long (by rw [HL.out]; exact h24)]) (next_trans bel bb))
      clear bb bel rA rS cS h h' L
      go_wp2
      go_ret
      exact F.out

/-! ### what a substitution gives for a variable -/
def givesL (ss : List (List Int)) (i : Nat) : List Int := if (ss.getD i []).length = 0 then vt i else ss.getD i []
theorem gives_var {ss : List (List Int)} {i : Nat} (h : (ss.getD i []).length = 0) : givesL ss i = vt i := by unfold givesL; rw [if_pos h]
theorem gives_term {ss : List (List Int)} {i : Nat} (h : ¬ (ss.getD i []).length = 0) : givesL ss i = ss.getD i [] := by unfold givesL; rw [if_neg h]
theorem gives_out {ss : List (List Int)} {i : Nat} (h : ¬ i < ss.length) : givesL ss i = vt i := gives_var (by simp [List.getD, h])
theorem gives_ok {sg : List Int} {ss : List (List Int)} (h : substOkB sg ss = true) {i : Nat} (hi : i < 24) : termOkB sg (givesL ss i) = true := by
  obtain ⟨h1, h2, h3⟩ := substOk_parts h
  by_cases hl : i < ss.length
  · have h4 := h3 i hl
    by_cases hz : (ss.getD i []).length = 0
    · rw [gives_var hz]; exact var_term h1 hi
    · rw [gives_term hz]
      unfold goodB at h4
      rw [decide_eq_false hz, Bool.false_or] at h4
      exact h4
  · rw [gives_out hl]; exact var_term h1 hi
theorem gives_len {sg : List Int} {ss : List (List Int)} (h : substOkB sg ss = true) (i : Nat) : (givesL ss i).length ≤ 60 := by
  by_cases hi : i < ss.length
  · have h2 := (substOk_parts h).2.1
    exact (term_len (gives_ok h (show i < 24 by omega))).2
  · rw [gives_out hi]; simp [vt]
theorem gives_pos (ss : List (List Int)) (i : Nat) : 1 ≤ (givesL ss i).length := by
  unfold givesL
  split
  · simp [vt]
  · omega

set_option maxHeartbeats 2000000 in
theorem l2Gives (S : Option Addr) (m c : Nat) (ss : List (List Int)) (i : Nat) (w : World) (h : Segs w w.heap.size S m ss) (ht : tot ss ≤ 1048576) (hi : i ≤ 1048576) :
    Calls Try.prog 66 #[.agg #[.slice S m c], .int .i64 (i : Int)] w (AnsList w (givesL ss i)) := by
  have hm : m ≤ 1048576 := tot_len h.1 ht
  have HT := Lib.hid (tot_each ht)
  have HL := Lib.hid h.1
  clear ht
  have bel : Below w.heap.size w (w.alloc (.cells #[.slice S m c] 31)) := (Below.refl _ _).alloc (Nat.le_refl _) _
  have i0 : (0 : Int) ≤ (i : Int) := by omega
  have var : ∀ (hv : givesL ss i = vt i), AnsList w (givesL ss i) (.returned (.slice (some ⟨w.heap.size + 1, 0, none⟩) 1 1)) ((w.alloc (.cells #[.slice S m c] 31)).alloc (.cells #[.int .i64 (-1 - (i : Int))] 2)) := fun hv => by
    refine ⟨_, 1, 1, rfl, ?_, bel.alloc (by simp) _⟩
    rw [hv]
    have := Own.of_row (base := w.heap.size) (n := 1) (c := 1) (xs := vt i) (Row.new (w.alloc (.cells #[.slice S m c] 31)) 2 #[.int .i64 (-1 - (i : Int))]) rfl rfl (Nat.le_refl _) (by omega) (by simp) (fun j hj => by
      have e : j = 0 := by omega
      subst e
      rfl)
    simpa using this
  have VAR := Lib.hid var
  clear var
  by_cases hlt : i < m
  · obtain ⟨b, off, A', n', cc, rfl, hbB, hx, hseg, hcap⟩ := h.spot hlt
    have hx1 : (w.alloc (.cells #[.slice (some ⟨b, off, none⟩) m c] 31)).cell? ⟨b, off + i, none⟩ = some (.slice A' n' cc) := (bel.cell (p := ⟨b, off + i, none⟩) hbB).trans hx
    by_cases hz : n' = 0
    · subst hz
      have F := Lib.hid (VAR.out (gives_var hseg.1))
      clear h hseg hcap hx bel VAR
      go_enter Try.func66, Try.ntmps66
      go_wp2
      go_ret
      exact F.out
    · have hpos : 0 < n' := by omega
      have E := Lib.hid (gives_term (ss := ss) (i := i) (by rw [hseg.1]; exact hz))
      have L := Lib.hid (copyInts A' n' cc _ _ ((hseg.below bel).more bel.size) hcap.2.2 (by rw [← hseg.1]; exact HT.out i))
      clear h hseg hcap hx VAR
      go_enter Try.func66, Try.ntmps66
      go_wp2_with fail
      refine L.out.mono ?_
      rintro e w1 ⟨D, dn, dc, rfl, o1, b1⟩
      have F : AnsList w (givesL ss i) (.returned (.slice D dn dc)) w1 := ⟨D, dn, dc, rfl, by rw [E.out]; exact Own.lower o1 bel.size, next_trans bel b1⟩
      have HF := Lib.hid F
      clear F o1 b1 bel L
      go_wp2
      go_ret
      exact HF.out
  · have hge : ¬ (i : Int) < (m : Int) := by omega
    have F := Lib.hid (VAR.out (gives_out (by rw [HL.out]; exact hlt)))
    clear h bel VAR
    go_enter Try.func66, Try.ntmps66
    go_wp2
    go_ret
    exact F.out

/-! ### impl's look-up in a substitution -/
theorem lookupIn (S : Option Addr) (m c : Nat) (w : World) :
    Calls Try.prog 72 #[.agg #[.slice S m c]] w fun e w' => e = .returned (.func (.func 112) #[] #[.pointer (some ⟨w.heap.size, 0, none⟩)]) ∧ w' = w.alloc (.cells #[.slice S m c] 31) := by
  have hmf : ∀ (fn : Fn) (first cap : Array Value) (w : World), (Instr.makeFunc fn first cap).run Try.prog w = .ok (.func fn first cap) w := fun _ _ _ _ => rfl
  go_enter Try.func72, Try.ntmps72
  go_wp2
  go_ret
  exact ⟨rfl, rfl⟩

set_option maxHeartbeats 2000000 in
theorem lookSubstC (B : Nat) (S : Option Addr) (m c : Nat) (ss : List (List Int)) (w : World) (hB : B < w.heap.size) (hc : w.cell? ⟨B, 0, none⟩ = some (.slice S m c)) (h : Segs w w.heap.size S m ss) (hm : m ≤ 1048576) :
    Looks 112 #[.pointer (some ⟨B, 0, none⟩)] w (givesL ss) 24 := by
  intro W i hb hi
  have cB : W.cell? ⟨B, 0, none⟩ = some (.slice S m c) := (hb.cell (p := ⟨B, 0, none⟩) hB).trans hc
  have h1 := h.below hb
  have HL := Lib.hid h.1
  have i0 : (0 : Int) ≤ (i : Int) := by omega
  have LV := Lib.hid (varTerm (i : Int) W (by omega) (by omega))
  have hws := hb.size
  clear hB hc h hb
  show Calls Try.prog 112 #[.int .i64 (i : Int), .pointer (some ⟨B, 0, none⟩)] W _
  by_cases hlt : i < m
  · obtain ⟨b, off, A', n', cc, rfl, hbB, hx, hseg0, hcap⟩ := h1.spot hlt
    have hseg := hseg0.more hws
    by_cases hz : n' = 0
    · subst hz
      have E := Lib.hid (gives_var (ss := ss) (i := i) hseg.1)
      clear h1 hseg hseg0 hcap
      go_enter Try.func112, Try.ntmps112
      go_wp2_with fail
      refine LV.out.mono ?_
      rintro e w1 ⟨D, dn, dc, rfl, o1, b1⟩
      have F : AnsLook w.heap.size W (givesL ss i) (.returned (.slice D dn dc)) w1 := by rw [E.out]; exact look_new o1 b1
      have HF := Lib.hid F
      clear F o1 b1 LV
      go_wp2
      go_ret
      exact HF.out
    · have hpos : 0 < n' := by omega
      have F : AnsLook w.heap.size W (givesL ss i) (.returned (.slice A' n' cc)) W := ⟨A', n', cc, rfl, by rw [gives_term (by rw [hseg.1]; exact hz)]; exact hseg, hcap, fun k hk => .inl (by obtain ⟨b2, off2, e2, hb2, _⟩ := hseg0.2 hpos; rw [e2] at hk; have : b2 = k := Option.some.inj hk; omega), Below.refl _ _⟩
      have HF := Lib.hid F
      clear F h1 hseg hseg0 hcap LV
      go_enter Try.func112, Try.ntmps112
      go_wp2
      go_ret
      exact HF.out
  · have hge : ¬ (i : Int) < (m : Int) := by omega
    have E := Lib.hid (gives_out (ss := ss) (i := i) (by rw [HL.out]; exact hlt))
    clear h1
    go_enter Try.func112, Try.ntmps112
    go_wp2_with fail
    refine LV.out.mono ?_
    rintro e w1 ⟨D, dn, dc, rfl, o1, b1⟩
    have F : AnsLook w.heap.size W (givesL ss i) (.returned (.slice D dn dc)) w1 := by rw [E.out]; exact look_new o1 b1
    have HF := Lib.hid F
    clear F o1 b1 LV
    go_wp2
    go_ret
    exact HF.out

theorem lookSubst (B : Nat) (S : Option Addr) (m c : Nat) (ss : List (List Int)) (w : World) (hr : Row w B 31 #[.slice S m c]) (h : Segs w w.heap.size S m ss) (hm : m ≤ 1048576) :
    Looks 112 #[.pointer (some ⟨B, 0, none⟩)] w (givesL ss) 24 := lookSubstC B S m c ss w hr.lt (hr.cell 0) h hm

theorem tooLong (A : Option Addr) (n c : Nat) (w : World) (hn : n ≤ 9223372036854775807) :
    Calls Try.prog 74 #[.slice A n c] w fun e w' => w = w' ∧ e = .returned (.bool (decide (60 < n))) := by
  have E : decide ((60 : Int) < (n : Int)) = decide (60 < n) := decide_eq_decide.2 (by omega)
  rw [← E]
  have HE := Lib.hid E
  clear E
  generalize hz : decide ((60 : Int) < (n : Int)) = z
  have HZ := Lib.hid hz
  clear hz
  go_enter Try.func74, Try.ntmps74
  go_wp2
  go_ret
  exact ⟨rfl, by rw [← HZ.out]; rfl⟩
end Go.Proofs.Ytkmhnkljigncmaa.gives
end

section
/-
  A REGION THAT DRAWS ITS ORDER AND ENDS IN STORES TO CELLS THAT IT LOADS ('u.a, u.b = f(u.a), f(u.b)'): what is held of the world (S) is asked behind each operation but the late ones (the stores), and a load may be taken first where every late operation waits for it. Over any program. By an AI agent.
-/
namespace Go.Proofs.Ytkmhnkljigncmaa.heldT
section
variable {P : Program} {md : Region.Mode} {ops : Array Oper} {Q : Exit → Act → World → Prop} {S : World → Prop} {late : Nat → Bool}

/-- whatever order is picked from here on; each operation that is not late keeps S -/
def AnyT (P : Program) (md : Region.Mode) (ops : Array Oper) (Q : Exit → Act → World → Prop) (S : World → Prop) (late : Nat → Bool) : Nat → Array Bool → Act → World → Prop
  | 0, listed, a, w => Region.ready md ops listed = [] ∧ Q .normal a w
  | fuel + 1, listed, a, w => (Region.ready md ops listed = [] → Q .normal a w) ∧
    ∀ i ∈ Region.ready md ops listed, wpOp P ops Q i (fun a' w' => (late i = false → S w → S w') ∧ AnyT P md ops Q S late fuel (listed.setIfInBounds i true) a' w') a w
theorem AnyT.any : ∀ (fuel : Nat) (listed : Array Bool) (a : Act) (w : World), AnyT P md ops Q S late fuel listed a w → wpAny P md ops Q fuel listed a w
  | 0, _, _, _, h => h
  | fuel + 1, _, _, _, h => ⟨h.1, fun i hi => wpOp_mono (fun a' w' h' => AnyT.any fuel _ a' w' h'.2) (h.2 i hi)⟩

/-- every late operation that has not come up waits for number i -/
def Waits (md : Region.Mode) (ops : Array Oper) (late : Nat → Bool) (listed : Array Bool) (i : Nat) : Prop :=
  ∀ j o, ops[j]? = some o → late j = true → listed.getD j true = false → ∃ e ∈ o.after, Region.binds md e = true ∧ e.on = i
def waitsB (md : Region.Mode) (ops : Array Oper) (late : Nat → Bool) (listed : Array Bool) (i : Nat) : Bool :=
  (List.range ops.size).all fun j => !late j || listed.getD j true || ((ops[j]?).map fun o => o.after.any fun e => Region.binds md e && e.on == i).getD false
theorem waits_of {listed : Array Bool} {i : Nat} (h : waitsB md ops late listed i = true) : Waits md ops late listed i := by
  intro j o ho hl hu
  have hj : j < ops.size := by
    rcases Nat.lt_or_ge j ops.size with h' | h'
    · exact h'
    · rw [Array.getElem?_eq_none h'] at ho; cases ho
  have := List.all_eq_true.1 h j (List.mem_range.2 hj)
  rw [hl, hu, ho] at this
  simp only [Bool.not_true, Bool.false_or, Option.map_some, Option.getD_some, Array.any_eq_true', Bool.and_eq_true, beq_iff_eq] at this
  exact this
theorem AnyT.first {i : Nat} {oi : Oper} {v : Value} (hi : ops[i]? = some oi) (hsel : ∀ (j : Nat) (o : Oper) cs b, ops[j]? = some o → o.op ≠ .select cs b) (hQ : ∀ c a w, Q (.panic c) (a.put oi.dst v) w → Q (.panic c) a w) :
    ∀ (fuel : Nat) (listed : Array Bool) (a : Act) (w : World),
      (∀ j oj, ops[j]? = some oj → j ≠ i → listed.getD j true = false → (∀ e ∈ oj.after, Region.binds md e = true → e.on ≠ i) → oi.apart ops oj = true) → Waits md ops late listed i →
      i ∈ Region.ready md ops listed → YieldsIf P ops S oi v a → S w → AnyT P md ops Q S late fuel (listed.setIfInBounds i true) (a.put oi.dst v) w → AnyT P md ops Q S late (fuel + 1) listed a w := by
  intro fuel
  induction fuel with
  | zero =>
    intro listed a w _ _ hr hy hS H
    refine ⟨fun h => (by rw [h] at hr; cases hr), fun j hj => ?_⟩
    rcases Classical.em (j = i) with e | e
    · subst e; exact hy.wpOp hi hS ⟨fun _ h => h, H⟩
    · have := ready_mono hj e
      rw [H.1] at this
      cases this
  | succ fuel ih =>
    intro listed a w hfree hwait hr hy hS H
    refine ⟨fun h => (by rw [h] at hr; cases hr), fun j hj => ?_⟩
    rcases Classical.em (j = i) with e | hji
    · subst e; exact hy.wpOp hi hS ⟨fun _ h => h, H⟩
    have h1 := H.2 j (ready_mono hj hji)
    obtain ⟨hjun, oj, hoj, hall⟩ := mem_ready.1 hj
    have h0 := (mem_ready.1 hr).1
    have hnot : ∀ e ∈ oj.after, Region.binds md e = true → e.on ≠ i := fun e he hb heq => by
      have h1 := hall e he hb
      rw [heq] at h1
      rcases Nat.lt_or_ge i listed.size with h' | h'
      · simp [h'] at h0 h1; rw [h0] at h1; cases h1
      · simp [Array.getElem?_eq_none h'] at h1
    have hlj : late j = false := by
      cases e : late j with
      | false => rfl
      | true =>
        obtain ⟨x, hx, hb, ho⟩ := hwait j oj hoj e hjun
        exact absurd ho (hnot x hx hb)
    have far : ∀ {k : Nat}, j ≠ k → (listed.setIfInBounds j true).getD k true = false → listed.getD k true = false := fun hjk h => by rwa [getD_set_ne true hjk] at h
    have same : ∀ {k : Nat}, k = j → listed.getD k true = false := fun e => by rw [e]; exact hjun
    have un : ∀ (k : Nat), (listed.setIfInBounds j true).getD k true = false → listed.getD k true = false := fun k h => by
      rcases Classical.em (k = j) with e | e
      · exact same e
      · exact far (fun e' => e e'.symm) h
    have h2 := wpOp_putIf hoj (hfree j oj hoj hji hjun hnot) (fun cs b => hsel i oi cs b hi) (fun cs b => hsel j oj cs b hoj) hQ hy h1
    refine wpOp_mono (fun a' w' h3 => ⟨h3.2.1, ih (listed.setIfInBounds j true) a' w' (fun k ok hk hki hun hno => hfree k ok hk hki (un k hun) hno) (fun k o hk hl hu => hwait k o hk hl (un k hu)) (ready_mono hr (Ne.symm hji)) h3.1 (h3.2.1 hlj hS) ?_⟩) h2
    rw [Array.setIfInBounds_comm _ _ hji]
    exact h3.2.2
/-- take number i first: it yields v in every world that meets S, and every late one waits for it -/
theorem AnyT.take {i : Nat} {oi : Oper} {v : Value} {fuel : Nat} {listed : Array Bool} {a : Act} {w : World} (hi : ops[i]? = some oi) (hs : Region.noSelect ops = true) (hf : Region.free md ops listed i = true) (hw : waitsB md ops late listed i = true) (hr : (Region.ready md ops listed).contains i = true)
    (hQ : ∀ c a w, Q (.panic c) (a.put oi.dst v) w → Q (.panic c) a w) (hy : YieldsIf P ops S oi v a) (hS : S w) (h : AnyT P md ops Q S late fuel (listed.setIfInBounds i true) (a.put oi.dst v) w) : AnyT P md ops Q S late (fuel + 1) listed a w :=
  AnyT.first hi (Region.noSelect_spec hs) hQ fuel listed a w (Region.free_spec hi hf) (waits_of hw) (by simpa using hr) hy hS h
theorem AnyT.firstA {i : Nat} {oi : Oper} {v : Value} (hi : ops[i]? = some oi) (hsel : ∀ (j : Nat) (o : Oper) cs b, ops[j]? = some o → o.op ≠ .select cs b) (hQ : ∀ c a w, Q (.panic c) (a.put oi.dst v) w → Q (.panic c) a w) :
    ∀ (fuel : Nat) (listed : Array Bool) (a : Act) (w : World),
      (∀ j oj, ops[j]? = some oj → j ≠ i → listed.getD j true = false → (∀ e ∈ oj.after, Region.binds md e = true → e.on ≠ i) → oi.apart ops oj = true) →
      i ∈ Region.ready md ops listed → YieldsIf P ops (fun _ => True) oi v a → AnyT P md ops Q S late fuel (listed.setIfInBounds i true) (a.put oi.dst v) w → AnyT P md ops Q S late (fuel + 1) listed a w := by
  intro fuel
  induction fuel with
  | zero =>
    intro listed a w _ hr hy H
    refine ⟨fun h => (by rw [h] at hr; cases hr), fun j hj => ?_⟩
    rcases Classical.em (j = i) with e | e
    · subst e; exact hy.wpOp hi trivial ⟨fun _ h => h, H⟩
    · have := ready_mono hj e
      rw [H.1] at this
      cases this
  | succ fuel ih =>
    intro listed a w hfree hr hy H
    refine ⟨fun h => (by rw [h] at hr; cases hr), fun j hj => ?_⟩
    rcases Classical.em (j = i) with e | hji
    · subst e; exact hy.wpOp hi trivial ⟨fun _ h => h, H⟩
    have h1 := H.2 j (ready_mono hj hji)
    obtain ⟨hjun, oj, hoj, hall⟩ := mem_ready.1 hj
    have h0 := (mem_ready.1 hr).1
    have hnot : ∀ e ∈ oj.after, Region.binds md e = true → e.on ≠ i := fun e he hb heq => by
      have h1 := hall e he hb
      rw [heq] at h1
      rcases Nat.lt_or_ge i listed.size with h' | h'
      · simp [h'] at h0 h1; rw [h0] at h1; cases h1
      · simp [Array.getElem?_eq_none h'] at h1
    have un : ∀ (k : Nat), (listed.setIfInBounds j true).getD k true = false → listed.getD k true = false := fun k h => by
      rcases Classical.em (k = j) with e | e
      · rw [e]; exact hjun
      · rwa [getD_set_ne true (fun e' => e e'.symm)] at h
    have h2 := wpOp_putIf hoj (hfree j oj hoj hji hjun hnot) (fun cs b => hsel i oi cs b hi) (fun cs b => hsel j oj cs b hoj) hQ hy h1
    refine wpOp_mono (fun a' w' h3 => ⟨h3.2.1, ih (listed.setIfInBounds j true) a' w' (fun k ok hk hki hun hno => hfree k ok hk hki (un k hun) hno) (ready_mono hr (Ne.symm hji)) h3.1 ?_⟩) h2
    rw [Array.setIfInBounds_comm _ _ hji]
    exact h3.2.2
/-- take number i first: it yields v in whatever world -/
theorem AnyT.takeA {i : Nat} {oi : Oper} {v : Value} {fuel : Nat} {listed : Array Bool} {a : Act} {w : World} (hi : ops[i]? = some oi) (hs : Region.noSelect ops = true) (hf : Region.free md ops listed i = true) (hr : (Region.ready md ops listed).contains i = true)
    (hQ : ∀ c a w, Q (.panic c) (a.put oi.dst v) w → Q (.panic c) a w) (hy : YieldsIf P ops (fun _ => True) oi v a) (h : AnyT P md ops Q S late fuel (listed.setIfInBounds i true) (a.put oi.dst v) w) : AnyT P md ops Q S late (fuel + 1) listed a w :=
  AnyT.firstA hi (Region.noSelect_spec hs) hQ fuel listed a w (Region.free_spec hi hf) (by simpa using hr) hy h
/-- number i alone may come up: the way back is hidden behind K' -/
theorem AnyT.call {i : Nat} {o : Oper} {fuel : Nat} {listed : Array Bool} {a : Act} {w : World} (hr : Region.ready md ops listed = [i]) (ho : ops[i]? = some o)
    (h : ∀ K' : Act → World → Prop, Shut (∀ a w', (late i = false → S w → S w') → ((late i = false → S w → S w') → AnyT P md ops Q S late fuel (listed.setIfInBounds i true) a w') → K' a w') → if Region.wanted o (yielded ops a.tmps) = true then Oper.wp P o a w K' Q else K' (a.put o.dst undef) w) : AnyT P md ops Q S late (fuel + 1) listed a w :=
  ⟨fun h0 => absurd (hr ▸ h0) (by simp), fun j hj => by
    rw [hr, List.mem_singleton] at hj
    subst hj
    exact wpOp_step ho (fun K' hK => h K' (fun a w' hS hW => hK a w' ⟨hS, hW hS⟩))⟩
theorem AnyT.done {listed : Array Bool} {a : Act} {w : World} (hr : Region.ready md ops listed = []) (h : Q .normal a w) : ∀ fuel, AnyT P md ops Q S late fuel listed a w
  | 0 => ⟨hr, h⟩
  | _ + 1 => ⟨fun _ => h, by rw [hr]; simp⟩
theorem AnyT.start {id : Nat} {a : Act} {w : World} (late : Nat → Bool) (hm : P.follows .mixedOrders = true) (hS : S w.drew) (h : S w.drew → AnyT P .any ops Q S late ops.size (Array.replicate ops.size false) a w.drew) : (Code.region id ops true).wp P Q a w :=
  wp_region_any hm (AnyT.any _ _ _ _ (h hS))
end
end Go.Proofs.Ytkmhnkljigncmaa.heldT
end

section
/-
  CONTRACT: impl.unification.replace: one variable replaced in both terms and in the look-up; it panics where one becomes too long. Conditions: the slices read as lists ('Seg'), the terms have at most 60 numbers. By an AI agent.
-/
namespace Go.Proofs.Ytkmhnkljigncmaa.unifRep
open Go.RowKit Go.Proofs.Ytkmhnkljigncmaa.base Go.Proofs.Ytkmhnkljigncmaa.ints Go.Proofs.Ytkmhnkljigncmaa.sig Go.Proofs.Ytkmhnkljigncmaa.cursor Go.Proofs.Ytkmhnkljigncmaa.marks Go.Proofs.Ytkmhnkljigncmaa.app Go.Proofs.Ytkmhnkljigncmaa.sym Go.Proofs.Ytkmhnkljigncmaa.segs Go.Proofs.Ytkmhnkljigncmaa.fillMath Go.Proofs.Ytkmhnkljigncmaa.gives Go.Proofs.Ytkmhnkljigncmaa.unifMath Go.Proofs.Ytkmhnkljigncmaa.look Go.Proofs.Ytkmhnkljigncmaa.thn Go.Proofs.Ytkmhnkljigncmaa.heldT
set_option maxRecDepth 100000

/-- no cell holds a number -/
def NoInt (cs : Array Value) : Prop := ∀ (j : Nat) (z : Int), cs[j]? ≠ some (Value.int .i64 z)
theorem noInt4 {a b c d : Value} (h1 : ∀ z : Int, a ≠ .int .i64 z) (h2 : ∀ z : Int, b ≠ .int .i64 z) (h3 : ∀ z : Int, c ≠ .int .i64 z) (h4 : ∀ z : Int, d ≠ .int .i64 z) : NoInt #[a, b, c, d] := fun j z e => by
  rcases j with _ | _ | _ | _ | j
  · exact h1 z (by simpa using e)
  · exact h2 z (by simpa using e)
  · exact h3 z (by simpa using e)
  · exact h4 z (by simpa using e)
  · simp at e
theorem seg_ne {w : World} {B b off n : Nat} {xs : List Int} {g : Nat} {t : TypeId} {cs : Array Value} (h : Seg w B (some ⟨b, off, none⟩) n xs) (hn : 0 < n) (hr : Row w g t cs) (hno : NoInt cs) : b ≠ g := by
  rintro rfl
  obtain ⟨b', off', e, _, hc⟩ := h.2 hn
  injection e with e
  injection e with e1 e2
  subst e1 e2
  have := hc 0 hn
  rw [hr.cell] at this
  exact hno _ _ this
theorem segE {w w' : World} {n : Nat} {A : Option Addr} {xs : List Int} {g : Nat} {t : TypeId} {cs : Array Value} (h : Seg w w.heap.size A n xs) (hr : Row w g t cs) (hno : NoInt cs) (hg : w.grownBy w' (some g)) : Seg w' w'.heap.size A n xs := by
  refine ⟨h.1, fun hn => ?_⟩
  obtain ⟨b, off, rfl, hb, hc⟩ := h.2 hn
  have hne := seg_ne h hn hr hno
  exact ⟨b, off, rfl, Nat.lt_of_lt_of_le hb hg.size, fun j hj => hg.cell (hc j hj) (by show some b ≠ some g; exact fun e => hne (by injection e))⟩

/-- the unification in block g stands at x, y and the look-up L -/
structure Un (w : World) (g : Nat) (A : Option Addr) (n c : Nat) (sg : List Int) (P : Option Addr) (pn pc : Nat) (x : List Int) (Q : Option Addr) (qn qc : Nat) (y : List Int) (gl : Nat) (lb : Array Value) (L : Nat → List Int) : Prop where
  row : Row w g 68 #[.slice A n c, .slice P pn pc, .slice Q qn qc, .func (.func gl) #[] lb]
  s : Seg w w.heap.size A n sg
  p : Seg w w.heap.size P pn x
  q : Seg w w.heap.size Q qn y
  kp : Cap P pn pc
  kq : Cap Q qn qc
  eg : ∀ args w, (callFunc gl args).run Try.prog w = .ok (.enter gl args) w
  lk : LooksE (some g) gl lb w L 24
section
variable {w w' : World} {g : Nat} {A : Option Addr} {n c : Nat} {sg : List Int} {P : Option Addr} {pn pc : Nat} {x : List Int} {Q : Option Addr} {qn qc : Nat} {y : List Int} {gl : Nat} {lb : Array Value} {L : Nat → List Int}
theorem un_noInt : NoInt #[.slice A n c, .slice P pn pc, .slice Q qn qc, .func (.func gl) #[] lb] := noInt4 (fun _ e => by cases e) (fun _ e => by cases e) (fun _ e => by cases e) (fun _ e => by cases e)
theorem Un.next (h : Un w g A n c sg P pn pc x Q qn qc y gl lb L) (hb : Below w.heap.size w w') : Un w' g A n c sg P pn pc x Q qn qc y gl lb L :=
  ⟨h.row.next hb, h.s.next hb, h.p.next hb, h.q.next hb, h.kp, h.kq, h.eg, h.lk.next (grown_below hb _)⟩
theorem Un.c0 (h : Un w g A n c sg P pn pc x Q qn qc y gl lb L) : w.cell? ⟨g, 0, none⟩ = some (.slice A n c) := h.row.cell 0
theorem Un.c1 (h : Un w g A n c sg P pn pc x Q qn qc y gl lb L) : w.cell? ⟨g, 1, none⟩ = some (.slice P pn pc) := h.row.cell 1
theorem Un.c2 (h : Un w g A n c sg P pn pc x Q qn qc y gl lb L) : w.cell? ⟨g, 2, none⟩ = some (.slice Q qn qc) := h.row.cell 2
theorem Un.c3 (h : Un w g A n c sg P pn pc x Q qn qc y gl lb L) : w.cell? ⟨g, 3, none⟩ = some (.func (.func gl) #[] lb) := h.row.cell 3
end

/-- the look-up of one replacement -/
theorem lookOnce (o : Option Nat) (bi bt i : Nat) (T : Option Addr) (tn tc : Nat) (t : List Int) (w : World) (ni : o ≠ some bi) (nt : o ≠ some bt) (ci : w.cell? ⟨bi, 0, none⟩ = some (.int .i64 (i : Int))) (ct : w.cell? ⟨bt, 0, none⟩ = some (.slice T tn tc)) (hs : Seg w w.heap.size T tn t) (ht : 1 ≤ tn) (hc : Cap T tn tc) (hi : i < 24)
    (hk : ∀ W, w.grownBy W o → Seg W W.heap.size T tn t) :
    LooksE o 146 #[.pointer (some ⟨bi, 0, none⟩), .pointer (some ⟨bt, 0, none⟩)] w (ones i t) 24 := by
  intro W j hg hj
  have pi : W.cell? ⟨bi, 0, none⟩ = some (.int .i64 (i : Int)) := hg.cell ci (fun e => ni e.symm)
  have pt : W.cell? ⟨bt, 0, none⟩ = some (.slice T tn tc) := hg.cell ct (fun e => nt e.symm)
  show Calls Try.prog 146 #[.int .i64 (j : Int), .pointer (some ⟨bi, 0, none⟩), .pointer (some ⟨bt, 0, none⟩)] W _
  have HB : Hid (∀ k, blk T = some k → k < w.heap.size ∨ W.heap.size ≤ k) := Lib.hid fun k e => by
    obtain ⟨b, off, rfl, hb, _⟩ := hs.2 ht
    injection e with e
    exact .inl (by rw [← e]; exact hb)
  by_cases e : j = i
  · subst e
    have F : AnsLook w.heap.size W (ones j t j) (.returned (.slice T tn tc)) W := ⟨T, tn, tc, rfl, by unfold ones; rw [if_pos rfl]; exact hk W hg, hc, HB.out, Below.refl _ _⟩
    have HF := Lib.hid F
    clear F hg hk hs ci ct
    go_enter Try.func146, Try.ntmps146
    go_wp2
    go_ret
    exact HF.out
  · have hne : ((j : Int) == (i : Int)) = false := by simp; exact fun h => e (by omega)
    have HE := Lib.hid (show ones i t j = vt j by unfold ones; rw [if_neg e])
    clear hg hk hs ci ct
    go_enter Try.func146, Try.ntmps146
    go_wp2_with fail
    refine (varTerm (j : Int) W (by omega) (by omega)).mono ?_
    rintro e w' ⟨A, n, c, rfl, ho, hb⟩
    have F : AnsLook w.heap.size W (ones i t j) (.returned (.slice A n c)) w' := by rw [HE.out]; exact look_new ho hb
    have HF := Lib.hid F
    clear F ho hb
    go_wp2
    go_ret
    exact HF.out

/-- what replace leaves: the new state, or a panic where a term is too long -/
def AnsRep (w : World) (g : Nat) (A : Option Addr) (n c : Nat) (sg x y : List Int) (L : Nat → List Int) (e : Ending) (w' : World) : Prop :=
  w.grownBy w' (some g) ∧ ((x.length ≤ 60 ∧ y.length ≤ 60 ∧ e = .returned (.tuple #[]) ∧ ∃ P pn pc Q qn qc gl lb, Un w' g A n c sg P pn pc x Q qn qc y gl lb L) ∨
    (¬ (x.length ≤ 60 ∧ y.length ≤ 60) ∧ ∃ u v, e = .panicked [{ v := .iface u v, recovered := false }]))
/-- behind the assignment -/
def Put (w : World) (g : Nat) (A : Option Addr) (n c : Nat) (sg x y : List Int) (L : Nat → List Int) (w' : World) : Prop :=
  w.grownBy w' (some g) ∧ ∃ P pn pc Q qn qc gl lb, Un w' g A n c sg P pn pc x Q qn qc y gl lb L
theorem put_mk {w w2 w3 w4 w5 : World} {g : Nat} {A : Option Addr} {n c : Nat} {sg : List Int} {P : Option Addr} {pn pc : Nat} {x : List Int} {Q : Option Addr} {qn qc : Nat} {y : List Int} {gl : Nat} {lb : Array Value} {L : Nat → List Int} (h : Un w g A n c sg P pn pc x Q qn qc y gl lb L)
    {X : Option Addr} {xn xc : Nat} {x' : List Int} {Y : Option Addr} {yn yc : Nat} {y' : List Int} {g' : Nat} {lb' : Array Value} {L' : Nat → List Int} (b2 : Below w.heap.size w w2) (b3 : Below w2.heap.size w2 w3) (b4 : Below w3.heap.size w3 w4) (b5 : Below w4.heap.size w4 w5)
    (ox : Own w3 w2.heap.size (.slice X xn xc) x') (oy : Own w4 w3.heap.size (.slice Y yn yc) y') (eg : ∀ args w, (callFunc g' args).run Try.prog w = .ok (.enter g' args) w) (lk : LooksE (some g) g' lb' w5 L' 24) :
    Put w g A n c sg x' y' L' (((w5.setCell ⟨g, 1, none⟩ (.slice X xn xc)).setCell ⟨g, 2, none⟩ (.slice Y yn yc)).setCell ⟨g, 3, none⟩ (.func (.func g') #[] lb')) := by
  have b := next_trans b2 (next_trans b3 (next_trans b4 b5))
  have h5 := h.next b
  have hg : w5.grownBy (((w5.setCell ⟨g, 1, none⟩ (.slice X xn xc)).setCell ⟨g, 2, none⟩ (.slice Y yn yc)).setCell ⟨g, 3, none⟩ (.func (.func g') #[] lb')) (some g) := grown_put (grown_put (grown_put (World.grownBy.refl _ _) _ _) _ _) _ _
  refine ⟨grown_trans (grown_below b _) hg, X, xn, xc, Y, yn, yc, g', lb', ?_, segE h5.s h5.row un_noInt hg, segE ((Own.seg ox).next (next_trans b4 b5)) h5.row un_noInt hg, segE ((Own.seg oy).next b5) h5.row un_noInt hg, own_cap ox, own_cap oy, eg, lk.next hg⟩
  have r := ((h5.row.put 1 (.slice X xn xc)).put 2 (.slice Y yn yc)).put 3 (.func (.func g') #[] lb')
  simpa using r

set_option maxHeartbeats 4000000 in
theorem replace (g : Nat) (A P Q T : Option Addr) (n c pn pc qn qc tn tc gl : Nat) (lb : Array Value) (sg x y t : List Int) (L : Nat → List Int) (i : Nat) (w : World) (h : Un w g A n c sg P pn pc x Q qn qc y gl lb L) (hs : Seg w w.heap.size T tn t) (hc : Cap T tn tc) (ht : 1 ≤ tn) (ht60 : tn ≤ 60) (hi : i < 24) (hx : pn ≤ 60) (hy : qn ≤ 60)
    (vx : ∀ z ∈ x, -24 ≤ z) (vy : ∀ z ∈ y, -24 ≤ z) (hL : ∀ j, j < 24 → (L j).length ≤ 60) (vL : ∀ j, j < 24 → ∀ z ∈ L j, -24 ≤ z) :
    Calls Try.prog 136 #[.pointer (some ⟨g, 0, none⟩), .int .i64 (i : Int), .slice T tn tc] w (AnsRep w g A n c sg (fillL (ones i t) x) (fillL (ones i t) y) (fun m => fillL (ones i t) (L m))) := by
  have hgz := h.row.lt
  obtain ⟨W, hW⟩ : ∃ W, W = (w.alloc (.cells #[.int .i64 (i : Int)] 2)).alloc (.cells #[.slice T tn tc] 24) := ⟨_, rfl⟩
  have bW : Below w.heap.size w W := by rw [hW]; exact ((Below.refl _ _).alloc (Nat.le_refl _) _).alloc (by simp) _
  have ri : Row W w.heap.size 2 #[.int .i64 (i : Int)] := by rw [hW]; exact (Row.new w _ _).alloc _
  have rt : Row W (w.heap.size + 1) 24 #[.slice T tn tc] := by
    rw [hW]
    have := Row.new (w.alloc (.cells #[.int .i64 (i : Int)] 2)) 24 #[.slice T tn tc]
    simpa using this
  have U := h.next bW
  have hsW := hs.next bW
  have lt : t.length ≤ 60 := by rw [hs.1]; exact ht60
  have one60 : ∀ j, (ones i t j).length ≤ 60 := fun j => by unfold ones; split; exact lt; simp [vt]
  have LO : LooksE (some g) 146 #[.pointer (some ⟨w.heap.size, 0, none⟩), .pointer (some ⟨w.heap.size + 1, 0, none⟩)] W (ones i t) 24 :=
    lookOnce (some g) _ _ i T tn tc t W (by simp; omega) (by simp; omega) (ri.cell 0) (rt.cell 0) hsW ht hc hi (fun W' hg => segE hsW U.row un_noInt hg)
  have eo := enters_of Try.func146 (by kernel_rfl) rfl
  have et := enters_of Try.func113 (by kernel_rfl) rfl
  have M1 := Lib.hid (fun j => Nat.le_trans (one60 j) (show 60 ≤ 4096 by omega))
  have LF1 := Lib.hid (fun (w2 : World) (b : Below W.heap.size W w2) => fill _ _ eo P pn pc x (ones i t) w2 (LO.next (grown_below b _)).looks (U.next b).p hx vx M1.out)
  have LF2 := Lib.hid (fun (w3 : World) (b : Below W.heap.size W w3) => fill _ _ eo Q qn qc y (ones i t) w3 (LO.next (grown_below b _)).looks (U.next b).q hy vy M1.out)
  have c1 := U.c1
  have c2 := U.c2
  have c3 := U.c3
  have HW := Lib.hid hW
  have HU := Lib.hid U
  have HLO := Lib.hid LO
  have HBW := Lib.hid bW
  have hmf : ∀ (fn : Fn) (first cap : Array Value) (w : World), (Instr.makeFunc fn first cap).run Try.prog w = .ok (.func fn first cap) w := fun _ _ _ _ => rfl
  clear hW bW ri rt U hsW LO h hs
  go_enter Try.func136, Try.ntmps136
  go_wp2_with fail
  rw [← HW.out]
  go_cut [] (fun wx => Put W g A n c sg (fillL (ones i t) x) (fillL (ones i t) y) (fun m => fillL (ones i t) (L m)) wx)
  case first =>
    have BD : Hid (Below W.heap.size W W.drew) := Lib.hid (Below.refl _ _).drew
    have HV := Lib.hid vL
    have HL60 := Lib.hid hL
    clear vx vy one60 HW hL vL
    -- region
    refine AnyT.start (S := (fun w' => w'.cell? ⟨g, 1, none⟩ = some (.slice P pn pc) ∧ w'.cell? ⟨g, 2, none⟩ = some (.slice Q qn qc) ∧ w'.cell? ⟨g, 3, none⟩ = some (.func (.func gl) #[] lb))) (fun i => decide (21 ≤ i)) (by kernel_rfl) ⟨c1, c2, c3⟩ (fun hHeld => ?_)
    refine AnyT.takeA (i := 0) (v := ?_) rfl (by kernel_rfl) (by kernel_rfl) (by kernel_rfl) (fun _ _ _ h => h) (Or.inl ⟨by rfl, ?_⟩) ?_
    rotate_left 1
    · (intro w0 _; go_simp; try with_reducible rfl)
    try simp only [Act.put, List.setIfInBounds_toArray, List.set_cons_zero, List.set_cons_succ, List.getElem_toArray, List.getElem_cons_zero, List.getElem_cons_succ]
    refine AnyT.takeA (i := 1) (v := ?_) rfl (by kernel_rfl) (by kernel_rfl) (by kernel_rfl) (fun _ _ _ h => h) (Or.inl ⟨by rfl, ?_⟩) ?_
    rotate_left 1
    · (intro w0 _; go_simp; try with_reducible rfl)
    try simp only [Act.put, List.setIfInBounds_toArray, List.set_cons_zero, List.set_cons_succ, List.getElem_toArray, List.getElem_cons_zero, List.getElem_cons_succ]
    refine AnyT.takeA (i := 2) (v := ?_) rfl (by kernel_rfl) (by kernel_rfl) (by kernel_rfl) (fun _ _ _ h => h) (Or.inl ⟨by rfl, ?_⟩) ?_
    rotate_left 1
    · (intro w0 _; go_simp; try with_reducible rfl)
    try simp only [Act.put, List.setIfInBounds_toArray, List.set_cons_zero, List.set_cons_succ, List.getElem_toArray, List.getElem_cons_zero, List.getElem_cons_succ]
    refine AnyT.takeA (i := 3) (v := ?_) rfl (by kernel_rfl) (by kernel_rfl) (by kernel_rfl) (fun _ _ _ h => h) (Or.inl ⟨by rfl, ?_⟩) ?_
    rotate_left 1
    · (intro w0 _; go_simp; try with_reducible rfl)
    try simp only [Act.put, List.setIfInBounds_toArray, List.set_cons_zero, List.set_cons_succ, List.getElem_toArray, List.getElem_cons_zero, List.getElem_cons_succ]
    refine AnyT.takeA (i := 4) (v := ?_) rfl (by kernel_rfl) (by kernel_rfl) (by kernel_rfl) (fun _ _ _ h => h) (Or.inl ⟨by rfl, ?_⟩) ?_
    rotate_left 1
    · (intro w0 _; go_simp; try with_reducible rfl)
    try simp only [Act.put, List.setIfInBounds_toArray, List.set_cons_zero, List.set_cons_succ, List.getElem_toArray, List.getElem_cons_zero, List.getElem_cons_succ]
    refine AnyT.takeA (i := 5) (v := ?_) rfl (by kernel_rfl) (by kernel_rfl) (by kernel_rfl) (fun _ _ _ h => h) (Or.inl ⟨by rfl, ?_⟩) ?_
    rotate_left 1
    · (intro w0 _; go_simp; try with_reducible rfl)
    try simp only [Act.put, List.setIfInBounds_toArray, List.set_cons_zero, List.set_cons_succ, List.getElem_toArray, List.getElem_cons_zero, List.getElem_cons_succ]
    refine AnyT.takeA (i := 6) (v := ?_) rfl (by kernel_rfl) (by kernel_rfl) (by kernel_rfl) (fun _ _ _ h => h) (Or.inl ⟨by rfl, ?_⟩) ?_
    rotate_left 1
    · (intro w0 _; go_simp; try with_reducible rfl)
    try simp only [Act.put, List.setIfInBounds_toArray, List.set_cons_zero, List.set_cons_succ, List.getElem_toArray, List.getElem_cons_zero, List.getElem_cons_succ]
    refine AnyT.take (i := 7) (v := ?_) rfl (by kernel_rfl) (by kernel_rfl) (by kernel_rfl) (by kernel_rfl) (fun _ _ _ h => h) (Or.inl ⟨by rfl, ?_⟩) (by assumption) ?_
    rotate_left 1
    · (intro w0 hSw; (try dsimp only at hSw); go_simp; try with_reducible rfl)
    try simp only [Act.put, List.setIfInBounds_toArray, List.set_cons_zero, List.set_cons_succ, List.getElem_toArray, List.getElem_cons_zero, List.getElem_cons_succ]
    refine AnyT.takeA (i := 9) (v := ?_) rfl (by kernel_rfl) (by kernel_rfl) (by kernel_rfl) (fun _ _ _ h => h) (Or.inl ⟨by rfl, ?_⟩) ?_
    rotate_left 1
    · (intro w0 _; go_simp; try with_reducible rfl)
    try simp only [Act.put, List.setIfInBounds_toArray, List.set_cons_zero, List.set_cons_succ, List.getElem_toArray, List.getElem_cons_zero, List.getElem_cons_succ]
    refine AnyT.takeA (i := 10) (v := ?_) rfl (by kernel_rfl) (by kernel_rfl) (by kernel_rfl) (fun _ _ _ h => h) (Or.inl ⟨by rfl, ?_⟩) ?_
    rotate_left 1
    · (intro w0 _; go_simp; try with_reducible rfl)
    try simp only [Act.put, List.setIfInBounds_toArray, List.set_cons_zero, List.set_cons_succ, List.getElem_toArray, List.getElem_cons_zero, List.getElem_cons_succ]
    refine AnyT.takeA (i := 11) (v := ?_) rfl (by kernel_rfl) (by kernel_rfl) (by kernel_rfl) (fun _ _ _ h => h) (Or.inl ⟨by rfl, ?_⟩) ?_
    rotate_left 1
    · (intro w0 _; go_simp; try with_reducible rfl)
    try simp only [Act.put, List.setIfInBounds_toArray, List.set_cons_zero, List.set_cons_succ, List.getElem_toArray, List.getElem_cons_zero, List.getElem_cons_succ]
    refine AnyT.takeA (i := 12) (v := ?_) rfl (by kernel_rfl) (by kernel_rfl) (by kernel_rfl) (fun _ _ _ h => h) (Or.inl ⟨by rfl, ?_⟩) ?_
    rotate_left 1
    · (intro w0 _; go_simp; try with_reducible rfl)
    try simp only [Act.put, List.setIfInBounds_toArray, List.set_cons_zero, List.set_cons_succ, List.getElem_toArray, List.getElem_cons_zero, List.getElem_cons_succ]
    refine AnyT.take (i := 13) (v := ?_) rfl (by kernel_rfl) (by kernel_rfl) (by kernel_rfl) (by kernel_rfl) (fun _ _ _ h => h) (Or.inl ⟨by rfl, ?_⟩) (by assumption) ?_
    rotate_left 1
    · (intro w0 hSw; (try dsimp only at hSw); go_simp; try with_reducible rfl)
    try simp only [Act.put, List.setIfInBounds_toArray, List.set_cons_zero, List.set_cons_succ, List.getElem_toArray, List.getElem_cons_zero, List.getElem_cons_succ]
    refine AnyT.takeA (i := 15) (v := ?_) rfl (by kernel_rfl) (by kernel_rfl) (by kernel_rfl) (fun _ _ _ h => h) (Or.inl ⟨by rfl, ?_⟩) ?_
    rotate_left 1
    · (intro w0 _; go_simp; try with_reducible rfl)
    try simp only [Act.put, List.setIfInBounds_toArray, List.set_cons_zero, List.set_cons_succ, List.getElem_toArray, List.getElem_cons_zero, List.getElem_cons_succ]
    refine AnyT.takeA (i := 16) (v := ?_) rfl (by kernel_rfl) (by kernel_rfl) (by kernel_rfl) (fun _ _ _ h => h) (Or.inl ⟨by rfl, ?_⟩) ?_
    rotate_left 1
    · (intro w0 _; go_simp; try with_reducible rfl)
    try simp only [Act.put, List.setIfInBounds_toArray, List.set_cons_zero, List.set_cons_succ, List.getElem_toArray, List.getElem_cons_zero, List.getElem_cons_succ]
    refine AnyT.takeA (i := 17) (v := ?_) rfl (by kernel_rfl) (by kernel_rfl) (by kernel_rfl) (fun _ _ _ h => h) (Or.inl ⟨by rfl, ?_⟩) ?_
    rotate_left 1
    · (intro w0 _; go_simp; try with_reducible rfl)
    try simp only [Act.put, List.setIfInBounds_toArray, List.set_cons_zero, List.set_cons_succ, List.getElem_toArray, List.getElem_cons_zero, List.getElem_cons_succ]
    refine AnyT.take (i := 18) (v := ?_) rfl (by kernel_rfl) (by kernel_rfl) (by kernel_rfl) (by kernel_rfl) (fun _ _ _ h => h) (Or.inl ⟨by rfl, ?_⟩) (by assumption) ?_
    rotate_left 1
    · (intro w0 hSw; (try dsimp only at hSw); go_simp; try with_reducible rfl)
    try simp only [Act.put, List.setIfInBounds_toArray, List.set_cons_zero, List.set_cons_succ, List.getElem_toArray, List.getElem_cons_zero, List.getElem_cons_succ]
    refine AnyT.takeA (i := 19) (v := ?_) rfl (by kernel_rfl) (by kernel_rfl) (by kernel_rfl) (fun _ _ _ h => h) (Or.inl ⟨by rfl, ?_⟩) ?_
    rotate_left 1
    · (intro w0 _; go_simp; try with_reducible rfl)
    try simp only [Act.put, List.setIfInBounds_toArray, List.set_cons_zero, List.set_cons_succ, List.getElem_toArray, List.getElem_cons_zero, List.getElem_cons_succ]
    refine AnyT.call (i := 8) (by kernel_rfl) rfl (fun K hK => ?_)
    try simp only [Act.put, List.setIfInBounds_toArray, List.set_cons_zero, List.set_cons_succ, List.getElem_toArray, List.getElem_cons_zero, List.getElem_cons_succ]
    rw [if_pos (by rfl)]
    go_simp
    refine (LF1.out W.drew BD.out).mono ?_; rintro e w3 ⟨X, xn, xc, rfl, ox, b3⟩; have U3 := HU.out.next (next_trans BD.out b3); have d1 := U3.c1; have d2 := U3.c2; have d3 := U3.c3; clear U3; go_wp2_with fail
    refine hK.out _ _ (fun _ _ => ?_) (fun hKeep => ?_)
    · first | assumption | exact ⟨by assumption, by assumption⟩ | exact ⟨by assumption, by assumption, by assumption⟩
    replace hHeld := hKeep (by rfl) hHeld
    clear hK K hKeep
    try simp only [Act.put, List.setIfInBounds_toArray, List.set_cons_zero, List.set_cons_succ, List.getElem_toArray, List.getElem_cons_zero, List.getElem_cons_succ]
    refine AnyT.call (i := 14) (by kernel_rfl) rfl (fun K hK => ?_)
    try simp only [Act.put, List.setIfInBounds_toArray, List.set_cons_zero, List.set_cons_succ, List.getElem_toArray, List.getElem_cons_zero, List.getElem_cons_succ]
    rw [if_pos (by rfl)]
    go_simp
    refine (LF2.out w3 (next_trans BD.out b3)).mono ?_; rintro e w4 ⟨Y, yn, yc, rfl, oy, b4⟩; have U4 := HU.out.next (next_trans (next_trans BD.out b3) b4); have e1 := U4.c1; have e2 := U4.c2; have e3 := U4.c3; clear U4; go_wp2_with fail
    refine hK.out _ _ (fun _ _ => ?_) (fun hKeep => ?_)
    · first | assumption | exact ⟨by assumption, by assumption⟩ | exact ⟨by assumption, by assumption, by assumption⟩
    replace hHeld := hKeep (by rfl) hHeld
    clear hK K hKeep
    try simp only [Act.put, List.setIfInBounds_toArray, List.set_cons_zero, List.set_cons_succ, List.getElem_toArray, List.getElem_cons_zero, List.getElem_cons_succ]
    refine AnyT.call (i := 20) (by kernel_rfl) rfl (fun K hK => ?_)
    try simp only [Act.put, List.setIfInBounds_toArray, List.set_cons_zero, List.set_cons_succ, List.getElem_toArray, List.getElem_cons_zero, List.getElem_cons_succ]
    rw [if_pos (by rfl)]
    go_simp
    refine (thenB gl _ lb _ w4).mono ?_; rintro e w5 ⟨b1, b2, rfl, z1, z2, k1, k2, b5⟩; have U5 := HU.out.next (next_trans (next_trans (next_trans BD.out b3) b4) b5); have f1 := U5.c1; have f2 := U5.c2; have f3 := U5.c3; have fr1 := U5.row.free 1; have fr2 := U5.row.free 2; have fr3 := U5.row.free 3; clear U5; go_wp2_with fail
    refine hK.out _ _ (fun _ _ => ?_) (fun hKeep => ?_)
    · first | assumption | exact ⟨by assumption, by assumption⟩ | exact ⟨by assumption, by assumption, by assumption⟩
    replace hHeld := hKeep (by rfl) hHeld
    clear hK K hKeep
    try simp only [Act.put, List.setIfInBounds_toArray, List.set_cons_zero, List.set_cons_succ, List.getElem_toArray, List.getElem_cons_zero, List.getElem_cons_succ]
    refine AnyT.call (i := 21) (by kernel_rfl) rfl (fun K hK => ?_)
    try simp only [Act.put, List.setIfInBounds_toArray, List.set_cons_zero, List.set_cons_succ, List.getElem_toArray, List.getElem_cons_zero, List.getElem_cons_succ]
    rw [if_pos (by rfl)]
    go_simp
    refine hK.out _ _ (fun h => by cases h) (fun _ => ?_)
    clear hK K
    try simp only [Act.put, List.setIfInBounds_toArray, List.set_cons_zero, List.set_cons_succ, List.getElem_toArray, List.getElem_cons_zero, List.getElem_cons_succ]
    refine AnyT.call (i := 22) (by kernel_rfl) rfl (fun K hK => ?_)
    try simp only [Act.put, List.setIfInBounds_toArray, List.set_cons_zero, List.set_cons_succ, List.getElem_toArray, List.getElem_cons_zero, List.getElem_cons_succ]
    rw [if_pos (by rfl)]
    go_simp
    refine hK.out _ _ (fun h => by cases h) (fun _ => ?_)
    clear hK K
    try simp only [Act.put, List.setIfInBounds_toArray, List.set_cons_zero, List.set_cons_succ, List.getElem_toArray, List.getElem_cons_zero, List.getElem_cons_succ]
    refine AnyT.call (i := 23) (by kernel_rfl) rfl (fun K hK => ?_)
    try simp only [Act.put, List.setIfInBounds_toArray, List.set_cons_zero, List.set_cons_succ, List.getElem_toArray, List.getElem_cons_zero, List.getElem_cons_succ]
    rw [if_pos (by rfl)]
    go_simp
    refine hK.out _ _ (fun h => by cases h) (fun _ => ?_)
    clear hK K
    try simp only [Act.put, List.setIfInBounds_toArray, List.set_cons_zero, List.set_cons_succ, List.getElem_toArray, List.getElem_cons_zero, List.getElem_cons_succ]
    refine AnyT.call (i := 24) (by kernel_rfl) rfl (fun K hK => ?_)
    try simp only [Act.put, List.setIfInBounds_toArray, List.set_cons_zero, List.set_cons_succ, List.getElem_toArray, List.getElem_cons_zero, List.getElem_cons_succ]
    rw [if_pos (by rfl)]
    go_simp
    refine hK.out _ _ (fun h => by cases h) (fun _ => ?_)
    clear hK K
    try simp only [Act.put, List.setIfInBounds_toArray, List.set_cons_zero, List.set_cons_succ, List.getElem_toArray, List.getElem_cons_zero, List.getElem_cons_succ]
    refine AnyT.call (i := 25) (by kernel_rfl) rfl (fun K hK => ?_)
    try simp only [Act.put, List.setIfInBounds_toArray, List.set_cons_zero, List.set_cons_succ, List.getElem_toArray, List.getElem_cons_zero, List.getElem_cons_succ]
    rw [if_pos (by rfl)]
    go_simp
    refine hK.out _ _ (fun h => by cases h) (fun _ => ?_)
    clear hK K
    try simp only [Act.put, List.setIfInBounds_toArray, List.set_cons_zero, List.set_cons_succ, List.getElem_toArray, List.getElem_cons_zero, List.getElem_cons_succ]
    refine AnyT.call (i := 26) (by kernel_rfl) rfl (fun K hK => ?_)
    try simp only [Act.put, List.setIfInBounds_toArray, List.set_cons_zero, List.set_cons_succ, List.getElem_toArray, List.getElem_cons_zero, List.getElem_cons_succ]
    rw [if_pos (by rfl)]
    go_simp
    refine hK.out _ _ (fun h => by cases h) (fun _ => ?_)
    clear hK K
    try simp only [Act.put, List.setIfInBounds_toArray, List.set_cons_zero, List.set_cons_succ, List.getElem_toArray, List.getElem_cons_zero, List.getElem_cons_succ]
    refine AnyT.call (i := 27) (by kernel_rfl) rfl (fun K hK => ?_)
    try simp only [Act.put, List.setIfInBounds_toArray, List.set_cons_zero, List.set_cons_succ, List.getElem_toArray, List.getElem_cons_zero, List.getElem_cons_succ]
    rw [if_pos (by rfl)]
    go_simp
    refine hK.out _ _ (fun h => by cases h) (fun _ => ?_)
    clear hK K
    try simp only [Act.put, List.setIfInBounds_toArray, List.set_cons_zero, List.set_cons_succ, List.getElem_toArray, List.getElem_cons_zero, List.getElem_cons_succ]
    refine AnyT.call (i := 28) (by kernel_rfl) rfl (fun K hK => ?_)
    try simp only [Act.put, List.setIfInBounds_toArray, List.set_cons_zero, List.set_cons_succ, List.getElem_toArray, List.getElem_cons_zero, List.getElem_cons_succ]
    rw [if_pos (by rfl)]
    go_simp
    refine hK.out _ _ (fun h => by cases h) (fun _ => ?_)
    clear hK K
    try simp only [Act.put, List.setIfInBounds_toArray, List.set_cons_zero, List.set_cons_succ, List.getElem_toArray, List.getElem_cons_zero, List.getElem_cons_succ]
    refine AnyT.call (i := 29) (by kernel_rfl) rfl (fun K hK => ?_)
    try simp only [Act.put, List.setIfInBounds_toArray, List.set_cons_zero, List.set_cons_succ, List.getElem_toArray, List.getElem_cons_zero, List.getElem_cons_succ]
    rw [if_pos (by rfl)]
    go_simp
    refine hK.out _ _ (fun h => by cases h) (fun _ => ?_)
    clear hK K
    try simp only [Act.put, List.setIfInBounds_toArray, List.set_cons_zero, List.set_cons_succ, List.getElem_toArray, List.getElem_cons_zero, List.getElem_cons_succ]
    refine AnyT.done (by kernel_rfl) ?_ _
    -- end
    have B5 := next_trans (next_trans (next_trans BD.out b3) b4) b5
    have s1 := HBW.out.size
    have s2 := BD.out.size
    have s3 := b3.size
    have s4 := b4.size
    have lk := lookThen (some g) b1 b2 gl _ lb _ HU.out.eg eo L (ones i t) w5 (World.block_lt_of_cell? _ _ k1) (World.block_lt_of_cell? _ _ k2) (fun e => by injection e; omega) (fun e => by injection e; omega) k1 k2 (HU.out.next B5).lk (HLO.out.next (grown_below B5 _)) HL60.out HV.out M1.out
    have F := Lib.hid (put_mk HU.out BD.out b3 b4 b5 ox oy et lk)
    clear lk ox oy b3 b4 b5 B5 k1 k2 f1 f2 f3 fr1 fr2 fr3 hHeld
    go_wp2_with fail
    go_meet
    exact F.out
  case rest =>
    rename World => wc
    obtain ⟨hg, P', pn', pc', Q', qn', qc', gl', lb', U⟩ := hcut
    have HG := Lib.hid (grown_trans (grown_below HBW.out (some g)) hg)
    have hp1 := U.p.1
    have hq1 := U.q.1
    have d1 := U.c1
    have d2 := U.c2
    have np := U.kp.1
    have np2 := U.kp.2.1
    have nq := U.kq.1
    have nq2 := U.kq.2.1
    have L1 := Lib.hid (tooLong P' pn' pc' wc (by omega))
    have L2 := Lib.hid (tooLong Q' qn' qc' wc (by omega))
    have HUW := Lib.hid U
    have HP1 := Lib.hid hp1
    have HQ1 := Lib.hid hq1
    clear U hg hp1 hq1 LF1 LF2 c1 c2 c3 HU HLO HBW vx vy one60 hL vL M1
    by_cases hp : 60 < pn'
    · rw [decide_eq_true hp] at L1
      have F := Lib.hid (fun (u : TypeId) (v : Value) => (show AnsRep w g A n c sg (fillL (ones i t) x) (fillL (ones i t) y) (fun m => fillL (ones i t) (L m)) (.panicked [{ v := .iface u v, recovered := false }]) wc from ⟨HG.out, .inr ⟨fun h => by rw [HP1.out] at h; omega, u, v, rfl⟩⟩))
      clear HUW
      go_wp2_with fail
      refine L1.out.mono ?_
      rintro e w' ⟨rfl, rfl⟩
      go_wp2
      exact ⟨rfl, F.out _ _⟩
    · rw [decide_eq_false hp] at L1
      go_wp2_with fail
      refine L1.out.mono ?_
      rintro e w' ⟨rfl, rfl⟩
      by_cases hq : 60 < qn'
      · rw [decide_eq_true hq] at L2
        have F := Lib.hid (fun (u : TypeId) (v : Value) => (show AnsRep w g A n c sg (fillL (ones i t) x) (fillL (ones i t) y) (fun m => fillL (ones i t) (L m)) (.panicked [{ v := .iface u v, recovered := false }]) wc from ⟨HG.out, .inr ⟨fun h => by rw [HQ1.out] at h; omega, u, v, rfl⟩⟩))
        clear HUW
        go_wp2_with fail
        refine L2.out.mono ?_
        rintro e w' ⟨rfl, rfl⟩
        go_wp2
        exact ⟨rfl, F.out _ _⟩
      · rw [decide_eq_false hq] at L2
        have F := Lib.hid (show AnsRep w g A n c sg (fillL (ones i t) x) (fillL (ones i t) y) (fun m => fillL (ones i t) (L m)) (.returned (.tuple #[])) wc from ⟨HG.out, .inl ⟨by rw [HP1.out]; omega, by rw [HQ1.out]; omega, rfl, P', pn', pc', Q', qn', qc', gl', lb', HUW.out⟩⟩)
        clear HUW
        go_wp2_with fail
        refine L2.out.mono ?_
        rintro e w' ⟨rfl, rfl⟩
        go_wp2
        first
          | exact bodyPost_ret (results_none rfl _ _ _) rfl F.out
          | (go_end0; exact F.out)

end Go.Proofs.Ytkmhnkljigncmaa.unifRep
end

section
/-
  What stands in the block of impl.generalisation ('Gn'), its cursors' parts, the concatenation of two pieces, slices.IndexFunc with the index, what a step leaves. Conditions: the slices read as lists ('Seg') below that block. By an AI agent.
-/
namespace Go.Proofs.Ytkmhnkljigncmaa.genSt
open Go.RowKit Go.Proofs.Ytkmhnkljigncmaa.base Go.Proofs.Ytkmhnkljigncmaa.ints Go.Proofs.Ytkmhnkljigncmaa.sig Go.Proofs.Ytkmhnkljigncmaa.cursor Go.Proofs.Ytkmhnkljigncmaa.marks Go.Proofs.Ytkmhnkljigncmaa.app Go.Proofs.Ytkmhnkljigncmaa.appAt Go.Proofs.Ytkmhnkljigncmaa.sym Go.Proofs.Ytkmhnkljigncmaa.segs Go.Proofs.Ytkmhnkljigncmaa.segsHelp Go.Proofs.Ytkmhnkljigncmaa.kinds Go.Proofs.Ytkmhnkljigncmaa.term Go.Proofs.Ytkmhnkljigncmaa.sub Go.Proofs.Ytkmhnkljigncmaa.curO Go.Proofs.Ytkmhnkljigncmaa.concat Go.Proofs.Ytkmhnkljigncmaa.anyOf Go.Proofs.Ytkmhnkljigncmaa.inside Go.Proofs.Ytkmhnkljigncmaa.unifMath Go.Proofs.Ytkmhnkljigncmaa.genMath Go.Proofs.Ytkmhnkljigncmaa.genPos Go.Proofs.Ytkmhnkljigncmaa.genTab Go.Proofs.Ytkmhnkljigncmaa.appZ Go.Proofs.Ytkmhnkljigncmaa.unifRep
set_option maxRecDepth 100000

/-- the cells of the block -/
def gcs (A : Option Addr) (n c : Nat) (P : Option Addr) (m mc i : Nat) (Q : Option Addr) (k kc j : Nat) (D : Option Addr) (dn dc : Nat) : Array Value :=
  #[.slice A n c, .slice P m mc, .int .i64 (i : Int), .slice A n c, .slice Q k kc, .int .i64 (j : Int), .slice D dn dc]
/-- the generalisation in block g stands at i and j, with the pairs xss, whose memory lies below hi -/
structure Gn (w : World) (g hi : Nat) (A : Option Addr) (n c : Nat) (sg : List Int) (P : Option Addr) (m mc : Nat) (a : List Int) (i : Nat) (Q : Option Addr) (k kc : Nat) (b : List Int) (j : Nat) (D : Option Addr) (dn dc : Nat) (xss : List (List Int)) : Prop where
  row : Row w g 85 (gcs A n c P m mc i Q k kc j D dn dc)
  s : Seg w g A n sg
  pa : Seg w g P m a
  qb : Seg w g Q k b
  o : Owns w (g + 1) hi D dn dc xss
  le : hi ≤ w.heap.size
  li : i ≤ m
  lj : j ≤ k
  hn : n ≤ 1048576
  hm : m ≤ 1048576
  hk : k ≤ 1048576
  ars : Arities sg
section
variable {w w' : World} {g hi : Nat} {A : Option Addr} {n c : Nat} {sg : List Int} {P : Option Addr} {m mc : Nat} {a : List Int} {i i' : Nat} {Q : Option Addr} {k kc : Nat} {b : List Int} {j j' : Nat} {D : Option Addr} {dn dc : Nat} {xss : List (List Int)}
theorem Gn.lt (h : Gn w g hi A n c sg P m mc a i Q k kc b j D dn dc xss) : g < w.heap.size := h.row.lt
theorem Gn.next (h : Gn w g hi A n c sg P m mc a i Q k kc b j D dn dc xss) (hb : Below w.heap.size w w') : Gn w' g hi A n c sg P m mc a i Q k kc b j D dn dc xss :=
  have hp := Nat.le_of_lt h.row.lt
  ⟨h.row.next hb, h.s.below (hb.mono hp), h.pa.below (hb.mono hp), h.qb.below (hb.mono hp), h.o.next hb, Nat.le_trans h.le hb.size, h.li, h.lj, h.hn, h.hm, h.hk, h.ars⟩
theorem Gn.alloc (h : Gn w g hi A n c sg P m mc a i Q k kc b j D dn dc xss) (o : Obj) : Gn (w.alloc o) g hi A n c sg P m mc a i Q k kc b j D dn dc xss := h.next ((Below.refl _ _).alloc (Nat.le_refl _) o)
theorem Gn.drewN (h : Gn w g hi A n c sg P m mc a i Q k kc b j D dn dc xss) (d : Nat) : Gn (w.drewN d) g hi A n c sg P m mc a i Q k kc b j D dn dc xss := h.next ⟨rfl, rfl, rfl, Nat.le_refl _, fun _ _ => rfl⟩
theorem Gn.cell (h : Gn w g hi A n c sg P m mc a i Q k kc b j D dn dc xss) (z : Nat) : w.cell? ⟨g, z, none⟩ = (gcs A n c P m mc i Q k kc j D dn dc)[z]? := h.row.cell z
theorem Gn.move (h : Gn w g hi A n c sg P m mc a i Q k kc b j D dn dc xss) (hg : w.grownBy w' (some g)) (hr : Row w' g 85 (gcs A n c P m mc i' Q k kc j' D dn dc)) (hi' : i' ≤ m) (hj' : j' ≤ k) : Gn w' g hi A n c sg P m mc a i' Q k kc b j' D dn dc xss :=
  have hp := h.row.lt
  ⟨hr, seg_grown h.s hg hp, seg_grown h.pa hg hp, seg_grown h.qb hg hp, h.o.btw (Btw.of_grown (lo := g) (hi := g + 1) hg (fun z e => by injection e; omega)) (by right; omega), Nat.le_trans h.le hg.size, hi', hj', h.hn, h.hm, h.hk, h.ars⟩
theorem Gn.curA (h : Gn w g hi A n c sg P m mc a i Q k kc b j D dn dc xss) : CurO w g 0 85 (gcs A n c P m mc 0 Q k kc j D dn dc) A n c P m mc sg a i :=
  ⟨by have r := h.row; simpa [gcs] using r, by simp [gcs], by simp [gcs], by simp [gcs], h.s, h.pa, h.li, h.hn, h.hm, h.ars⟩
theorem Gn.curB (h : Gn w g hi A n c sg P m mc a i Q k kc b j D dn dc xss) : CurO w g 3 85 (gcs A n c P m mc i Q k kc 0 D dn dc) A n c Q k kc sg b j :=
  ⟨by have r := h.row; simpa [gcs] using r, by simp [gcs], by simp [gcs], by simp [gcs], h.s, h.qb, h.lj, h.hn, h.hk, h.ars⟩
theorem rowA (h : CurO w g 0 85 (gcs A n c P m mc 0 Q k kc j D dn dc) A n c P m mc sg a i) : Row w g 85 (gcs A n c P m mc i Q k kc j D dn dc) := by have r := h.row; simpa [gcs] using r
theorem rowB (h : CurO w g 3 85 (gcs A n c P m mc i Q k kc 0 D dn dc) A n c Q k kc sg b j) : Row w g 85 (gcs A n c P m mc i Q k kc j D dn dc) := by have r := h.row; simpa [gcs] using r
end

/-- the first cursor's part -/
theorem partA {w : World} {g hi : Nat} {A : Option Addr} {n c : Nat} {sg : List Int} {b1 o1 m mc : Nat} {a : List Int} {i : Nat} {Q : Option Addr} {k kc : Nat} {b : List Int} {j : Nat} {D : Option Addr} {dn dc : Nat} {xss : List (List Int)} (h : Gn w g hi A n c sg (some ⟨b1, o1, none⟩) m mc a i Q k kc b j D dn dc xss) {p : Nat} (hp : scan sg 1 (a.drop i) = some p) (hip : i + p ≤ m) (h1 : 1 ≤ p) (hmc : m ≤ mc) (hc : mc ≤ 9223372036854775807) :
    Calls Try.prog 116 #[.pointer (some ⟨g, 0, none⟩)] w fun e w' => e = .returned (.slice (some ⟨b1, o1 + i, none⟩) p (mc - i)) ∧ Gn w' g hi A n c sg (some ⟨b1, o1, none⟩) m mc a (i + p) Q k kc b j D dn dc xss ∧ w.grownBy w' (some g) :=
  (partO g 0 _ _ A n c b1 o1 m mc sg a i p w h.curA hp hip h1 hmc hc).mono fun _ _ ⟨e1, e2, e3⟩ => ⟨e1, h.move e2 (rowA e3) hip h.lj, e2⟩
/-- the second one's -/
theorem partB {w : World} {g hi : Nat} {A : Option Addr} {n c : Nat} {sg : List Int} {P : Option Addr} {m mc : Nat} {a : List Int} {i : Nat} {b2 o2 k kc : Nat} {b : List Int} {j : Nat} {D : Option Addr} {dn dc : Nat} {xss : List (List Int)} (h : Gn w g hi A n c sg P m mc a i (some ⟨b2, o2, none⟩) k kc b j D dn dc xss) {q : Nat} (hq : scan sg 1 (b.drop j) = some q) (hjq : j + q ≤ k) (h1 : 1 ≤ q) (hkc : k ≤ kc) (hc : kc ≤ 9223372036854775807) :
    Calls Try.prog 116 #[.pointer (some ⟨g, 3, none⟩)] w fun e w' => e = .returned (.slice (some ⟨b2, o2 + j, none⟩) q (kc - j)) ∧ Gn w' g hi A n c sg P m mc a i (some ⟨b2, o2, none⟩) k kc b (j + q) D dn dc xss ∧ w.grownBy w' (some g) :=
  (partO g 3 _ _ A n c b2 o2 k kc sg b j q w h.curB hq hjq h1 hkc hc).mono fun _ _ ⟨e1, e2, e3⟩ => ⟨e1, h.move e2 (rowB e3) h.li hjq, e2⟩
/-- two pieces behind one another -/
theorem catTwo {w : World} {gb : Nat} {X Y : Option Addr} {xn xc yn yc : Nat} {x y : List Int} (hr : Row w gb 24 #[.slice X xn xc, .slice Y yn yc]) (hx : Seg w w.heap.size X xn x) (hy : Seg w w.heap.size Y yn y) (kx : Cap X xn xc) (ky : Cap Y yn yc) (lx : xn ≤ 1000) (ly : yn ≤ 1000) :
    Calls Try.prog 115 #[.slice (some ⟨gb, 0, none⟩) 2 2] w (AnsList w (x ++ y)) := by
  have hs : Segs w w.heap.size (some ⟨gb, 0, none⟩) 2 [x, y] := ⟨rfl, fun _ => ⟨gb, 0, rfl, hr.lt, fun j hj => by
    match j, hj with
    | 0, _ => exact ⟨X, xn, xc, hr.cell 0, hx, kx⟩
    | 1, _ => exact ⟨Y, yn, yc, hr.cell 1, hy, ky⟩⟩⟩
  have h := concat (some ⟨gb, 0, none⟩) 2 2 [x, y] w hs (by simp [tot, sumL]; rw [hx.1, hy.1]; omega)
  simpa using h

/-- the index of the first that the test holds of -/
def AnsFx (w : World) (f : List Int → Bool) (n : Nat) (xss : List (List Int)) (e : Ending) (w' : World) : Prop :=
  Below w.heap.size w w' ∧ ((∃ k : Nat, k < n ∧ e = .returned (.int .i64 (k : Int)) ∧ f (xss.getD k []) = true) ∨ (e = .returned (.int .i64 (-1)) ∧ ∀ j, j < n → f (xss.getD j []) = false))
set_option maxHeartbeats 2000000 in
theorem indexAt (g : Nat) (lb : Array Value) (eg : ∀ args w, (callFunc g args).run Try.prog w = .ok (.enter g args) w) (f : List Int → Bool) (A : Option Addr) (n c : Nat) (xss : List (List Int)) (w : World) (hT : Tests g lb w f)
    (h : Segs w w.heap.size A n xss) (hn : n ≤ 1048576) (hE : ∀ j, (xss.getD j []).length ≤ 1048576) :
    Calls Try.prog 114 #[.slice A n c, .func (.func g) #[] lb] w (AnsFx w f n xss) := by
  have HE := Lib.hid hE
  have HL := Lib.hid h.1
  have HK := Lib.hid hT
  have HH : Hid (HeadIx w n f xss (.int .i64 0) w) := Lib.hid ⟨0, Nat.zero_le _, rfl, fun j hj => absurd hj (Nat.not_lt_zero _), Below.refl _ _⟩
  clear hE hT
  go_enter Try.func114, Try.ntmps114
  go_wp2_with fail
  go_loopw [8] (fun i wr => HeadIx w n f xss i wr) (fun i _ => n - (intOf i).toNat)
  case atStart => exact HH.out
  case round =>
    obtain ⟨k, hk, rfl, hlow, hb⟩ := hrel
    have HLOW := Lib.hid hlow
    clear hlow HH
    by_cases hlt : k < n
    · obtain ⟨b, off, A', n', cc, rfl, hbB, hx0, hseg, hcap⟩ := h.spot hlt
      have hx : wr.cell? ⟨b, off + k, none⟩ = some (.slice A' n' cc) := (hb.cell (p := ⟨b, off + k, none⟩) hbB).trans hx0
      have hn' : n' ≤ 1048576 := by rw [← hseg.1]; exact HE.out k
      obtain ⟨ys, hys⟩ : ∃ ys, xss.getD k [] = ys := ⟨_, rfl⟩
      rw [hys] at hseg
      have HY := Lib.hid hys
      have hcall := HK.out wr A' n' cc ys hb (hseg.below hb |>.more hb.size) hn' hcap
      obtain ⟨v, hv⟩ : ∃ v, f ys = v := ⟨_, rfl⟩
      rw [hv] at hcall
      have HV := Lib.hid hv
      have HC := Lib.hid hcall
      have i0 : (0 : Int) ≤ (k : Int) := by omega
      have i1 : (k : Int) < (n : Int) := by omega
      clear hseg hcap h hx0 hys hv hcall
      cases v with
      | true =>
        go_wp2_with (first
          | (go_at_fn g; refine HC.out.mono ?_; rintro e w1 ⟨rfl, bb⟩))
        have F : AnsFx w f n xss (.returned (.int .i64 (k : Int))) w1 := ⟨next_trans hb bb, .inl ⟨k, hlt, rfl, by rw [HY.out]; exact HV.out⟩⟩
        have HF := Lib.hid F
        clear F hx bb hb HC
        go_wp2
        go_ret
        exact HF.out
      | false =>
        go_wp2_with (first
          | (go_at_fn g; refine HC.out.mono ?_; rintro e w1 ⟨rfl, bb⟩))
        have S1 : HeadIx w n f xss (.int .i64 ((k : Int) + 1)) w1 := ⟨k + 1, hlt, by simp, fun j hj => by
          by_cases e : j = k
          · rw [e, HY.out]; exact HV.out
          · exact HLOW.out j (by omega), next_trans hb bb⟩
        have HS1 := Lib.hid S1
        clear S1 hx bb hb HC
        go_wp2
        go_roundw
        case rel => exact HS1.out
        case measure => simp [intOf]; omega
    · have F : AnsFx w f n xss (.returned (.int .i64 (-1))) wr := ⟨hb, .inr ⟨rfl, fun j hj => HLOW.out j (by omega)⟩⟩
      have HF := Lib.hid F
      clear F h hb
      go_wp2
      go_ret
      exact HF.out

/-- a pair, one behind the other -/
def cat (x : List Int × List Int) : List Int := x.1 ++ x.2
/-- the pairs are terms of at most 60 numbers -/
def Fine2 (sg : List Int) (T : Tb) : Prop := ∀ x ∈ T, Trm sg x.1 ∧ Trm sg x.2 ∧ x.1.length ≤ 60 ∧ x.2.length ≤ 60
theorem cat_inj {sg s t u v : List Int} (hs : Trm sg s) (hu : Trm sg u) (e : cat (s, t) = cat (u, v)) : s = u ∧ t = v := trm_front hs hu e
theorem cat_get {T : Tb} {k : Nat} (h : k < T.length) : ∃ x, T[k]? = some x ∧ (T.map cat).getD k [] = cat x := ⟨T[k], by simp [h], by simp [List.getD, h]⟩
theorem Fine2.snoc {sg u v : List Int} {T : Tb} (h : Fine2 sg T) (hu : Trm sg u) (hv : Trm sg v) (lu : u.length ≤ 60) (lv : v.length ≤ 60) : Fine2 sg (T ++ [(u, v)]) := fun x hx => by
  rcases List.mem_append.1 hx with hx | hx
  · exact h x hx
  · rw [List.mem_singleton] at hx; subst hx; exact ⟨hu, hv, lu, lv⟩
theorem Fine2.each {sg : List Int} {T : Tb} (h : Fine2 sg T) (j : Nat) : ((T.map cat).getD j []).length ≤ 120 := by
  by_cases hj : j < T.length
  · have hm : T[j] ∈ T := List.getElem_mem hj
    obtain ⟨_, _, h3, h4⟩ := h _ hm
    have e : (T.map cat).getD j [] = cat T[j] := by simp [List.getD, hj]
    rw [e]
    unfold cat
    rw [List.length_append]
    omega
  · have e : (T.map cat).getD j [] = [] := by simp [List.getD, hj]
    rw [e]; simp

/-- what a step leaves: a symbol of both, or the variable of a pair -/
def AnsNx (w : World) (g : Nat) (A : Option Addr) (n c : Nat) (sg : List Int) (P : Option Addr) (m mc : Nat) (a : List Int) (i : Nat) (Q : Option Addr) (k kc : Nat) (b : List Int) (j : Nat) (D : Option Addr) (dn : Nat) (T : Tb) (e : Ending) (w' : World) : Prop :=
  ∃ (x : Int) (i' j' : Nat) (D' : Option Addr) (dn' dc' : Nat) (T' : Tb), e = .returned (.int .i64 x) ∧ Gn w' g w'.heap.size A n c sg P m mc a i' Q k kc b j' D' dn' dc' (T'.map cat) ∧ Fine2 sg T' ∧ Two w w' (some ⟨g, 0, none⟩) D ∧ (∀ z, blk D' = some z → z < w.heap.size → blk D = some z) ∧
    (∀ Z : Nat → Prop, (∀ z, Z z → z < w.heap.size) → Avoid Z w D dn → Avoid Z w' D' dn') ∧
    ((0 ≤ x ∧ a.getD i 0 = x ∧ b.getD j 0 = x ∧ i' = i + 1 ∧ j' = j + 1 ∧ T' = T) ∨ (i' = i + (subL sg a i).length ∧ j' = j + (subL sg b j).length ∧ Gs sg T 1 (subL sg a i) (subL sg b j) [x] T'))
end Go.Proofs.Ytkmhnkljigncmaa.genSt
end

section
/-
  CONTRACTS: spec.l2Plain, spec.PlainOf, impl.PlainOf. Conditions: the slices read as lists ('Seg', 'Segs'), at most 1048576 values. By an AI agent.
-/
namespace Go.Proofs.Ytkmhnkljigncmaa.plainOf
open Go.RowKit Go.Proofs.Ytkmhnkljigncmaa.base Go.Proofs.Ytkmhnkljigncmaa.ints Go.Proofs.Ytkmhnkljigncmaa.sig Go.Proofs.Ytkmhnkljigncmaa.cursor Go.Proofs.Ytkmhnkljigncmaa.marks Go.Proofs.Ytkmhnkljigncmaa.app Go.Proofs.Ytkmhnkljigncmaa.appAt Go.Proofs.Ytkmhnkljigncmaa.sym Go.Proofs.Ytkmhnkljigncmaa.sub Go.Proofs.Ytkmhnkljigncmaa.segs Go.Proofs.Ytkmhnkljigncmaa.segsHelp Go.Proofs.Ytkmhnkljigncmaa.kinds Go.Proofs.Ytkmhnkljigncmaa.varsOf Go.Proofs.Ytkmhnkljigncmaa.fillMath Go.Proofs.Ytkmhnkljigncmaa.look Go.Proofs.Ytkmhnkljigncmaa.substOk Go.Proofs.Ytkmhnkljigncmaa.gives Go.Proofs.Ytkmhnkljigncmaa.plainMath Go.Proofs.Ytkmhnkljigncmaa.plain
set_option maxRecDepth 100000

theorem own_one {w : World} {base : Nat} {D : Option Addr} {c : Nat} {x : Int} (h : Own w base (.slice D 1 c) [x]) : ∃ g, D = some ⟨g, 0, none⟩ ∧ w.cell? ⟨g, 0, none⟩ = some (.int .i64 x) := by
  rcases own_form (n := 1) (vs := [x].map (Value.int .i64)) h with ⟨_, h1, _⟩ | ⟨g, cur, e, _, hr, _, _, _, _, hc⟩
  · omega
  · refine ⟨g, e, ?_⟩
    rw [hr.cell 0, hc 0 (by omega)]
    rfl
theorem Owns.shrink {w : World} {lo hi m n c : Nat} {A : Option Addr} {xss : List (List Int)} (h : Owns w lo hi A m c xss) (hn : n ≤ m) : Owns w lo hi A n c (xss.take n) := by
  obtain ⟨h1, ⟨vs, hr, hin, hap⟩, h3⟩ := h
  rcases own_form hr with ⟨rfl, h0, rfl, rfl⟩ | ⟨g, cur, rfl, hlo, hrow, hmc, hsz, hmax, hlen, hc⟩
  · obtain rfl : n = 0 := by omega
    simpa using Owns.nil w lo hi
  · have e1 : ∀ j, j < n → (cur.toList.take n).getD j undef = vs.getD j undef := fun j hj => by
      have := hc j (by omega)
      simp [List.getD, List.getElem?_take, hj, this]
    have e2 : ∀ j, j < n → (xss.take n).getD j [] = xss.getD j [] := fun j hj => by simp [List.getD, List.getElem?_take, hj]
    refine ⟨by rw [List.length_take, h1]; omega, ⟨_, rowsOf hrow hsz (by omega) hmax hlo, fun j hj => ?_, fun i j k hij hj a b => ?_⟩, h3⟩
    · rw [e1 j hj, e2 j hj]
      exact hin j (by omega)
    · rw [e1 i (by omega)] at a
      rw [e1 j hj] at b
      exact hap i j k hij (by omega) a b

/-- the head of l2Plain's first loop -/
def HeadL1 (w : World) (S : Option Addr) (m c : Nat) (ss : List (List Int)) (i : Value) (wr : World) : Prop :=
  ∃ (k : Nat) (A : Option Addr) (cA : Nat), k ≤ m ∧ i = .int .i64 k ∧ Owns wr (w.heap.size + 3) wr.heap.size A k cA (rowsL (givesL ss) k) ∧ Row wr w.heap.size 31 #[.slice S m c] ∧ Row wr (w.heap.size + 1) 31 #[.slice none 0 0] ∧
    Row wr (w.heap.size + 2) 31 #[.slice A k cA] ∧ Below w.heap.size w wr
theorem headL1_step {w wr w1 w5 w6 : World} {S A A' : Option Addr} {m c k cA c' : Nat} {ss : List (List Int)} (hk : k < m) (ho : Owns w6 (w.heap.size + 3) w6.heap.size A' (k + 1) c' (rowsL (givesL ss) (k + 1)))
    (r0 : Row wr w.heap.size 31 #[.slice S m c]) (r1 : Row wr (w.heap.size + 1) 31 #[.slice none 0 0]) (r2 : Row wr (w.heap.size + 2) 31 #[.slice A k cA]) (hb : Below w.heap.size w wr)
    (b1 : Below wr.heap.size wr w1) (b5 : Below w1.heap.size w1 w5) (hg : w5.grownBy w6 (blk A)) (hA : ∀ z, blk A = some z → w.heap.size + 3 ≤ z) :
    HeadL1 w S m c ss (.int .i64 ((k : Int) + 1)) (w6.setCell ⟨w.heap.size + 2, 0, none⟩ (.slice A' (k + 1) c')) := by
  have bb := next_trans b1 b5
  have q0 := Row.away (r0.next bb) hg (fun e => by have := hA _ e; omega)
  have q1 := Row.away (r1.next bb) hg (fun e => by have := hA _ e; omega)
  have q2 := Row.away (r2.next bb) hg (fun e => by have := hA _ e; omega)
  have hbb : Below w.heap.size w w6 := (hb.trans (bb.mono hb.size)).grown hg (by have := hb.size; have := bb.size; omega) (fun z hz => by have := hA z hz; omega)
  refine ⟨k + 1, A', c', hk, by simp, ?_, q0.far (by simp) _, q1.far (by simp) _, ?_, hbb.setCell (by simp) _⟩
  · have := owns_put ho q2 (by omega) 0 (.slice A' (k + 1) c')
    simpa using this
  · have := q2.put 0 (.slice A' (k + 1) c')
    simpa using this

/-- the head of the loop that shortens -/
def HeadL2 (w : World) (L : Nat → List Int) (m : Nat) (A : Option Addr) (cA : Nat) (p : Value) (wr : World) : Prop :=
  ∃ n : Nat, n ≤ m ∧ p = .pointer (some ⟨w.heap.size + 2, 0, none⟩) ∧ strip ((rowsL L m).take n) = plainL L m ∧ Owns wr (w.heap.size + 3) wr.heap.size A m cA (rowsL L m) ∧ Row wr (w.heap.size + 1) 31 #[.slice none 0 0] ∧
    Row wr (w.heap.size + 2) 31 #[.slice A n cA] ∧ Below w.heap.size w wr
def lenAt (w : World) (p : Addr) : Nat := match w.cell? p with
  | some (.slice _ n _) => n
  | _ => 0
theorem headL2_end {w wr : World} {L : Nat → List Int} {m n cA : Nat} {A : Option Addr} (hn : n ≤ m) (hs : strip ((rowsL L m).take n) = plainL L m) (ho : Owns wr (w.heap.size + 3) wr.heap.size A m cA (rowsL L m))
    (r1 : Row wr (w.heap.size + 1) 31 #[.slice none 0 0]) (hb : Below w.heap.size w wr) (hend : n = 0 ∨ (rowsL L m).getD (n - 1) [] ≠ []) :
    AnsSubst w (plainL L m) (.returned (.agg #[.slice A n cA])) (wr.setCell ⟨w.heap.size + 1, 0, none⟩ (.slice A n cA)) := by
  have e : (rowsL L m).take n = plainL L m := by
    rw [← hs]
    rcases hend with rfl | h
    · simp [strip]
    · by_cases h0 : n = 0
      · subst h0; simp [strip]
      · have := strip_last (l := rowsL L m) (q := n - 1) (by rw [rows_len]; omega) h
        rw [show n - 1 + 1 = n by omega] at this
        exact this.symm
  have h1 := Owns.shrink (owns_put ho r1 (by omega) 0 (.slice A n cA)) hn
  rw [e] at h1
  exact ⟨A, n, cA, rfl, h1.wider (by omega) (by simp), hb.setCell (by simp) _⟩

set_option maxHeartbeats 8000000 in
theorem l2Plain (S : Option Addr) (m c : Nat) (ss : List (List Int)) (w : World) (h : Segs w w.heap.size S m ss) (ht : tot ss ≤ 1048576) :
    Calls Try.prog 64 #[.agg #[.slice S m c]] w (AnsSubst w (plainL (givesL ss) m)) := by
  have HT := Lib.hid ht
  have hm : m ≤ 1048576 := tot_len h.1 ht
  have HE := Lib.hid (tot_each ht)
  clear ht
  go_enter Try.func64, Try.ntmps64
  go_wp2_with fail
  go_loopw [4] (fun i wr => HeadL1 w S m c ss i wr) (fun i _ => m - (intOf i).toNat)
  case atStart =>
    have b0 : Below w.heap.size w (((w.alloc (.cells #[.slice S m c] 31)).alloc (.cells #[.slice none 0 0] 31)).alloc (.cells #[.slice none 0 0] 31)) := (((Below.refl _ _).alloc (Nat.le_refl _) _).alloc (by simp) _).alloc (by simp; omega) _
    have q1 := Row.new (w.alloc (.cells #[.slice S m c] 31)) 31 #[.slice none 0 0]
    have q2 := Row.new ((w.alloc (.cells #[.slice S m c] 31)).alloc (.cells #[.slice none 0 0] 31)) 31 #[.slice none 0 0]
    refine ⟨0, none, 0, Nat.zero_le _, rfl, by simpa [rowsL] using Owns.nil _ _ _, ((Row.new w 31 #[.slice S m c]).alloc _).alloc _, ?_, ?_, b0⟩
    · have := q1.alloc (.cells #[.slice none 0 0] 31); simpa using this
    · simpa using q2
  case round =>
    obtain ⟨k, A, cA, hk, rfl, ho, r0, r1, r2, hb⟩ := hrel
    have c0 : wr.cell? ⟨w.heap.size, 0, none⟩ = some (.slice S m c) := r0.cell 0
    have cO : wr.cell? ⟨w.heap.size + 2, 0, none⟩ = some (.slice A k cA) := r2.cell 0
    have i0 : (0 : Int) ≤ (k : Int) := by omega
    by_cases hlt : k < m
    · have i1 : (k : Int) < (m : Int) := by omega
      have LG := Lib.hid (l2Gives S m c ss k wr ((h.below hb).more hb.size) HT.out (by omega))
      have HA : Hid (∀ z, blk A = some z → w.heap.size + 3 ≤ z) := Lib.hid (fun z hz => by
        obtain ⟨vs, hown, _⟩ := ho.row
        exact (World.ownsRow.lt hown z (by rw [blk_own]; exact hz)).1)
      have hw1 : IntKind.i64.wrap (-1 - (k : Int)) = -1 - (k : Int) := by rw [IntKind.wrap_i64]; omega
      have hrl := r2.lt
      obtain ⟨ys, hys⟩ : ∃ ys, givesL ss k = ys := ⟨_, rfl⟩
      rw [hys] at LG
      have hlen : ys.length ≤ 1048576 := by
        rw [← hys]
        unfold givesL
        split
        · simp [vt]
        · exact HE.out k
      have RS := Lib.hid (rows_succ (givesL ss) k)
      by_cases h1 : ys.length = 1
      · obtain ⟨x, rfl⟩ : ∃ x, ys = [x] := by
          match ys, h1 with
          | [x], _ => exact ⟨x, rfl⟩
        by_cases hx : x = -1 - (k : Int)
        · have RB := Lib.hid (show bare (givesL ss) k = [] by unfold bare; rw [if_pos (by rw [hys, hx]; rfl)])
          have DX : (x == -1 - (k : Int)) = true := by simp [hx]
          clear hx hys
          go_wp2_with (first
            | (go_at_call 66; go_must (refine LG.out.mono ?_; rintro e w1 ⟨D, dn, dc, rfl, od, bb⟩; obtain rfl : dn = 1 := Own.len od; obtain ⟨gD, rfl, cD⟩ := own_one od; have cO1 : w1.cell? ⟨w.heap.size + 2, 0, none⟩ = some (.slice A k cA) := (r2.next bb).cell 0; have e5 : ((w1.alloc (.cells #[] 2)).alloc (.cells #[.slice (some ⟨w1.heap.size, 0, none⟩) 0 0] 24)).cell? ⟨w1.heap.size + 1, 0, none⟩ = some (.slice (some ⟨w1.heap.size, 0, none⟩) 0 0) := (by simp); have c15 : (w1.alloc (.cells #[] 2)).cell? ⟨w.heap.size + 2, 0, none⟩ = some (.slice A k cA) := ((r2.next bb).alloc (.cells #[] 2)).cell 0; have B5 : Below w1.heap.size w1 ((w1.alloc (.cells #[] 2)).alloc (.cells #[.slice (some ⟨w1.heap.size, 0, none⟩) 0 0] 24)) := ((Below.refl _ _).alloc (Nat.le_refl _) _).alloc (by simp) _; have hz5 := B5.size; have hz1 := bb.size; have ho5 := (ho.next bb).next B5; have i5 : Inn ((w1.alloc (.cells #[] 2)).alloc (.cells #[.slice (some ⟨w1.heap.size, 0, none⟩) 0 0] 24)) wr.heap.size ((w1.alloc (.cells #[] 2)).alloc (.cells #[.slice (some ⟨w1.heap.size, 0, none⟩) 0 0] 24)).heap.size (.slice (some ⟨w1.heap.size, 0, none⟩) 0 0) [] := Inn.wider ((inn_own (own_empty w1 wr.heap.size bb.size)).next ((Below.refl _ _).alloc (Nat.le_refl _) _)) (Nat.le_refl _) (by simp); have r25 := (r2.next bb).next B5; have c25 : ((w1.alloc (.cells #[] 2)).alloc (.cells #[.slice (some ⟨w1.heap.size, 0, none⟩) 0 0] 24)).cell? ⟨w.heap.size + 2, 0, none⟩ = some (.slice A k cA) := r25.cell 0))
            | (at_builtin; go_must (refine appS1 rfl _ _ rfl (w.heap.size + 3) wr.heap.size A k cA (rowsL (givesL ss) k) rfl ho5 _ 1 (.slice (some ⟨w1.heap.size, 0, none⟩) 0 0) [] rfl e5 i5 (by omega) (by omega) (by omega) ?_; intro A' c' w6 ho6 hg6 hat6 b6; have q2 := Row.away r25 hg6 (fun e => by have := HA.out _ e; omega); have c26 : w6.cell? ⟨w.heap.size + 2, 0, none⟩ = some (.slice A k cA) := q2.cell 0; have f26 : w6.frozen? ⟨w.heap.size + 2, 0, none⟩ = false := q2.free 0)))
          have S := Lib.hid (headL1_step (ss := ss) hlt (by rw [RS.out, RB.out]; exact ho6) r0 r1 r2 hb bb B5 hg6 HA.out)
          clear ho6 hg6 hat6 b6 ho5 i5 r25 c25 c15 q2 od bb B5 r0 r1 r2 hb ho RS RB LG cO1
          go_wp2
          go_roundw
          case rel => exact S.out
          case measure => simp [intOf]; omega
        · have RB := Lib.hid (show bare (givesL ss) k = [x] by unfold bare; rw [if_neg (by rw [hys]; unfold vt; intro e; injection e with e; exact hx e), hys])
          have DX : (x == -1 - (k : Int)) = false := by simp [hx]
          clear hx hys
          go_wp2_with (first
            | (go_at_call 66; refine LG.out.mono ?_; rintro e w1 ⟨D, dn, dc, rfl, od, bb⟩; obtain rfl : dn = 1 := Own.len od; obtain ⟨gD, rfl, cD⟩ := own_one od; have cO1 : w1.cell? ⟨w.heap.size + 2, 0, none⟩ = some (.slice A k cA) := (r2.next bb).cell 0; have B5 : Below w1.heap.size w1 (w1.alloc (.cells #[.slice (some ⟨gD, 0, none⟩) 1 dc] 24)) := (Below.refl _ _).alloc (Nat.le_refl _) _; have hz5 := B5.size; have hz1 := bb.size; have ho5 := (ho.next bb).next B5; have i5 : Inn (w1.alloc (.cells #[.slice (some ⟨gD, 0, none⟩) 1 dc] 24)) wr.heap.size (w1.alloc (.cells #[.slice (some ⟨gD, 0, none⟩) 1 dc] 24)).heap.size (.slice (some ⟨gD, 0, none⟩) 1 dc) [x] := Inn.wider ((inn_own od).next ((Below.refl _ _).alloc (Nat.le_refl _) _)) (Nat.le_refl _) (by simp); have r25 := (r2.next bb).next B5; have c25 : (w1.alloc (.cells #[.slice (some ⟨gD, 0, none⟩) 1 dc] 24)).cell? ⟨w.heap.size + 2, 0, none⟩ = some (.slice A k cA) := r25.cell 0)
            | (at_builtin; refine appS1 rfl _ _ rfl (w.heap.size + 3) wr.heap.size A k cA (rowsL (givesL ss) k) rfl ho5 _ 1 (.slice (some ⟨gD, 0, none⟩) 1 dc) [x] rfl ((Row.new _ _ _).cell 0) i5 (by omega) (by omega) (by omega) ?_; intro A' c' w6 ho6 hg6 hat6 b6; have q2 := Row.away r25 hg6 (fun e => by have := HA.out _ e; omega); have c26 : w6.cell? ⟨w.heap.size + 2, 0, none⟩ = some (.slice A k cA) := q2.cell 0; have f26 : w6.frozen? ⟨w.heap.size + 2, 0, none⟩ = false := q2.free 0))
          have S := Lib.hid (headL1_step (ss := ss) hlt (by rw [RS.out, RB.out]; exact ho6) r0 r1 r2 hb bb B5 hg6 HA.out)
          clear ho6 hg6 hat6 b6 ho5 i5 r25 c25 q2 od bb B5 r0 r1 r2 hb ho RS RB LG cO1
          go_wp2
          go_roundw
          case rel => exact S.out
          case measure => simp [intOf]; omega
      · have RB := Lib.hid (show bare (givesL ss) k = ys by unfold bare; rw [if_neg (by rw [hys]; unfold vt; intro e; rw [e] at h1; exact h1 rfl), hys])
        clear hys
        go_wp2_with (first
          | (go_at_call 66; refine LG.out.mono ?_; rintro e w1 ⟨D, dn, dc, rfl, od, bb⟩; have hdn : ¬ dn = 1 := (by rw [Own.len od]; exact h1); have hdz : ¬ (dn : Int) = 1 := (by omega); have hdb : (((dn : Nat) : Int) == 1) = false := (by simp; omega); have cO1 : w1.cell? ⟨w.heap.size + 2, 0, none⟩ = some (.slice A k cA) := (r2.next bb).cell 0; have B5 : Below w1.heap.size w1 (w1.alloc (.cells #[.slice D dn dc] 24)) := (Below.refl _ _).alloc (Nat.le_refl _) _; have hz5 := B5.size; have hz1 := bb.size; have ho5 := (ho.next bb).next B5; have i5 : Inn (w1.alloc (.cells #[.slice D dn dc] 24)) wr.heap.size (w1.alloc (.cells #[.slice D dn dc] 24)).heap.size (.slice D dn dc) ys := Inn.wider ((inn_own od).next ((Below.refl _ _).alloc (Nat.le_refl _) _)) (Nat.le_refl _) (by simp); have r25 := (r2.next bb).next B5; have c25 : (w1.alloc (.cells #[.slice D dn dc] 24)).cell? ⟨w.heap.size + 2, 0, none⟩ = some (.slice A k cA) := r25.cell 0)
          | (at_builtin; refine appS1 rfl _ _ rfl (w.heap.size + 3) wr.heap.size A k cA (rowsL (givesL ss) k) rfl ho5 _ 1 (.slice D dn dc) ys rfl ((Row.new _ _ _).cell 0) i5 (by omega) (by omega) (by omega) ?_; intro A' c' w6 ho6 hg6 hat6 b6; have q2 := Row.away r25 hg6 (fun e => by have := HA.out _ e; omega); have c26 : w6.cell? ⟨w.heap.size + 2, 0, none⟩ = some (.slice A k cA) := q2.cell 0; have f26 : w6.frozen? ⟨w.heap.size + 2, 0, none⟩ = false := q2.free 0))
        have S := Lib.hid (headL1_step (ss := ss) hlt (by rw [RS.out, RB.out]; exact ho6) r0 r1 r2 hb bb B5 hg6 HA.out)
        clear ho6 hg6 hat6 b6 ho5 i5 r25 c25 q2 od bb B5 r0 r1 r2 hb ho RS RB LG cO1
        go_wp2
        go_roundw
        case rel => exact S.out
        case measure => simp [intOf]; omega
    · obtain rfl : k = m := by omega
      have HC := Lib.hid ho.cap
      have H2 : HeadL2 w (givesL ss) k A cA (.pointer (some ⟨w.heap.size + 2, 0, none⟩)) wr := ⟨k, Nat.le_refl _, rfl, by rw [List.take_of_length_le (by rw [rows_len]; exact Nat.le_refl _)]; rfl, ho, r1, r2, hb⟩
      have HH2 := Lib.hid H2
      have hc1 : cA ≤ 9223372036854775807 := ho.cap.2.1
      have hc0 : k ≤ cA := ho.cap.1
      clear H2 ho r0 r1 r2 hb cO h
      go_wp2_with fail
      go_loopw [] (fun wr => HeadL2 w (givesL ss) k A cA (.pointer (some ⟨w.heap.size + 2, 0, none⟩)) wr) (fun wr => lenAt wr ⟨w.heap.size + 2, 0, none⟩)
      case atStart => exact HH2.out
      case round =>
        obtain ⟨n, hn, -, hs, ho, r1, r2, hb⟩ := hrel
        clear HH2
        have cO : wr.cell? ⟨w.heap.size + 2, 0, none⟩ = some (.slice A n cA) := r2.cell 0
        have fO : wr.frozen? ⟨w.heap.size + 2, 0, none⟩ = false := r2.free 0
        have cR : wr.cell? ⟨w.heap.size + 1, 0, none⟩ = some (.slice none 0 0) := r1.cell 0
        have fR : wr.frozen? ⟨w.heap.size + 1, 0, none⟩ = false := r1.free 0
        by_cases h0 : n = 0
        · subst h0
          have F := Lib.hid (headL2_end hn hs ho r1 hb (.inl rfl))
          clear hs ho r1 r2 hb
          go_wp2
          exact bodyPost_ret (v := .agg #[.slice A 0 cA]) (by simp [results, Try.results64, go_sem, cR]) rfl F.out
        · obtain ⟨p, rfl⟩ : ∃ p, n = p + 1 := ⟨n - 1, by omega⟩
          obtain ⟨b, off, A', q, cq, rfl, hbb, hx, hseg, hcap⟩ := ho.segs.spot (k := p) (by omega)
          have p0 : (0 : Int) ≤ (p : Int) := by omega
          have p1 : ((p + 1 : Nat) : Int) - 1 = (p : Int) := by omega
          have p2 : (p : Int) ≤ (cA : Int) := by omega
          have p3 : (p : Int) < ((p + 1 : Nat) : Int) := by omega
          have p4 : (0 : Int) < ((p + 1 : Nat) : Int) := by omega
          have hw2 : IntKind.i64.wrap (p : Int) = (p : Int) := by rw [IntKind.wrap_i64]; omega
          by_cases hq : q = 0
          · subst hq
            have hnil : (rowsL (givesL ss) k).getD p [] = [] := List.eq_nil_of_length_eq_zero hseg.1
            have S1 : HeadL2 w (givesL ss) k (some ⟨b, off, none⟩) cA (.pointer (some ⟨w.heap.size + 2, 0, none⟩)) (wr.setCell ⟨w.heap.size + 2, 0, none⟩ (.slice (some ⟨b, off, none⟩) p cA)) := by
              refine ⟨p, by omega, rfl, by rw [← strip_drop (by rw [rows_len]; omega) hnil]; exact hs, ?_, r1.far (by simp) _, ?_, hb.setCell (by simp) _⟩
              · have := owns_put ho r2 (by omega) 0 (.slice (some ⟨b, off, none⟩) p cA)
                simpa using this
              · have := r2.put 0 (.slice (some ⟨b, off, none⟩) p cA)
                simpa using this
            have HS1 := Lib.hid S1
            have E1 : (wr.setCell ⟨w.heap.size + 2, 0, none⟩ (.slice (some ⟨b, off, none⟩) p cA)).cell? ⟨w.heap.size + 2, 0, none⟩ = some (.slice (some ⟨b, off, none⟩) p cA) := by have := (r2.put 0 (.slice (some ⟨b, off, none⟩) p cA)).cell 0; simpa using this
            have HLT := Lib.hid (show lenAt (wr.setCell ⟨w.heap.size + 2, 0, none⟩ (.slice (some ⟨b, off, none⟩) p cA)) ⟨w.heap.size + 2, 0, none⟩ < lenAt wr ⟨w.heap.size + 2, 0, none⟩ by simp only [lenAt, E1, cO]; omega)
            clear S1 E1 hs ho r1 r2 hb hseg hcap hnil
            go_wp2
            go_roundw
            case rel => exact HS1.out
            case measure => exact HLT.out
          · have hq1 : (0 : Int) < (q : Int) := by omega
            have F := Lib.hid (headL2_end hn hs ho r1 hb (.inr (fun e => by rw [show p + 1 - 1 = p by omega] at e; rw [e] at hseg; exact hq hseg.1.symm)))
            clear hs ho r1 r2 hb hseg hcap
            go_wp2
            exact bodyPost_ret (v := .agg #[.slice (some ⟨b, off, none⟩) (p + 1) cA]) (by simp [results, Try.results64, go_sem, cR]) rfl F.out

/-- what PlainOf answers -/
def plainI (sg : List Int) (ss : List (List Int)) : List (List Int) := if substOkB sg ss = true then plainL (givesL ss) ss.length else []
theorem plain_yes {sg : List Int} {ss : List (List Int)} (h : substOkB sg ss = true) : plainI sg ss = plainL (givesL ss) ss.length := by unfold plainI; rw [if_pos h]
theorem plain_no {sg : List Int} {ss : List (List Int)} (h : substOkB sg ss = false) : plainI sg ss = [] := by unfold plainI; rw [if_neg (by rw [h]; simp)]
theorem tot_le {xss : List (List Int)} {M : Nat} (h : ∀ j, (xss.getD j []).length ≤ M) : tot xss ≤ xss.length + xss.length * M := by
  have : ∀ k, k ≤ xss.length → sumL xss k ≤ k * M := fun k => by
    induction k with
    | zero => intro _; simp [sumL]
    | succ k ih =>
      intro hk
      rw [sumL_succ (by omega)]
      have h1 := ih (by omega)
      have h2 := h k
      rw [Nat.succ_mul]
      omega
  unfold tot
  have := this xss.length (Nat.le_refl _)
  omega
theorem plainI_tot {sg : List Int} {ss : List (List Int)} : tot (plainI sg ss) ≤ 1048576 := by
  cases h : substOkB sg ss with
  | false => rw [plain_no h]; simp [tot, sumL]
  | true =>
    rw [plain_yes h]
    have h1 := tot_le (plain_each (L := givesL ss) (m := ss.length) (gives_len h))
    have h2 := plain_len (givesL ss) ss.length
    have h3 := (substOk_parts h).2.1
    have h4 : (plainL (givesL ss) ss.length).length * 60 ≤ 24 * 60 := Nat.mul_le_mul_right _ (by omega)
    omega
/-- three boxes: two parameters and the result -/
theorem boxes3 (w : World) (A : Option Addr) (n c : Nat) (S : Option Addr) (m c' : Nat) : ∃ W, W = ((w.alloc (.cells #[.slice A n c] 26)).alloc (.cells #[.slice S m c'] 31)).alloc (.cells #[.slice none 0 0] 31) ∧
    Row W w.heap.size 26 #[.slice A n c] ∧ Row W (w.heap.size + 1) 31 #[.slice S m c'] ∧ Row W (w.heap.size + 2) 31 #[.slice none 0 0] ∧ Below w.heap.size w W ∧ w.heap.size + 2 < W.heap.size := by
  obtain ⟨W, hW, r1, r2, b⟩ := boxes2 w A n c S m c'
  have hz : W.heap.size = w.heap.size + 2 := by rw [hW]; simp
  refine ⟨_, rfl, ?_, ?_, ?_, ?_, ?_⟩
  · rw [← hW]; exact r1.alloc _
  · rw [← hW]; exact r2.alloc _
  · rw [← hW, ← hz]; exact Row.new _ _ _
  · rw [← hW]; exact b.alloc b.size _
  · rw [← hW]; simp; omega

end Go.Proofs.Ytkmhnkljigncmaa.plainOf
end

section
/-
  PLAIN MATHEMATICS of Composed: what the composition gives ('compL'), whether all of it fits ('compOk'), its plain form. Conditions: none. By an AI agent.
-/
namespace Go.Proofs.Ytkmhnkljigncmaa.compMath
open Go.Proofs.Ytkmhnkljigncmaa.term Go.Proofs.Ytkmhnkljigncmaa.termOk Go.Proofs.Ytkmhnkljigncmaa.termFacts Go.Proofs.Ytkmhnkljigncmaa.segsHelp Go.Proofs.Ytkmhnkljigncmaa.fillMath Go.Proofs.Ytkmhnkljigncmaa.substOk Go.Proofs.Ytkmhnkljigncmaa.gives Go.Proofs.Ytkmhnkljigncmaa.plainMath Go.Proofs.Ytkmhnkljigncmaa.plainOf

/-- what the composition gives for a variable -/
def compL (us ss : List (List Int)) (i : Nat) : List Int := fillL (givesL us) (givesL ss i)
def compOk (us ss : List (List Int)) : Bool := (List.range 24).all fun i => decide ((compL us ss i).length ≤ 60)
/-- what Composed answers -/
def composedB (sg : List Int) (ss us : List (List Int)) : Bool := substOkB sg ss && (substOkB sg us && compOk us ss)
def composedI (sg : List Int) (ss us : List (List Int)) : List (List Int) := if composedB sg ss us = true then plainL (compL us ss) 24 else []

theorem composed_s {sg : List Int} {ss us : List (List Int)} (h : substOkB sg ss = false) : composedB sg ss us = false := by unfold composedB; rw [h, Bool.false_and]
theorem composed_u {sg : List Int} {ss us : List (List Int)} (h : substOkB sg us = false) : composedB sg ss us = false := by unfold composedB; rw [h, Bool.false_and, Bool.and_false]
theorem composed_b {sg : List Int} {ss us : List (List Int)} (h : substOkB sg ss = true) (h' : substOkB sg us = true) : composedB sg ss us = compOk us ss := by unfold composedB; rw [h, h', Bool.true_and, Bool.true_and]
theorem composed_yes {sg : List Int} {ss us : List (List Int)} (h : composedB sg ss us = true) : composedI sg ss us = plainL (compL us ss) 24 := by unfold composedI; rw [if_pos h]
theorem composed_no {sg : List Int} {ss us : List (List Int)} (h : composedB sg ss us = false) : composedI sg ss us = [] := by unfold composedI; rw [if_neg (by rw [h]; simp)]

theorem compOk_iff {us ss : List (List Int)} : compOk us ss = true ↔ ∀ i, i < 24 → (compL us ss i).length ≤ 60 := by
  unfold compOk
  rw [List.all_eq_true]
  exact ⟨fun h i hi => of_decide_eq_true (h i (List.mem_range.2 hi)), fun h i hi => decide_eq_true (h i (List.mem_range.1 hi))⟩
theorem compOk_no {us ss : List (List Int)} {i : Nat} (hi : i < 24) (h : ¬ (compL us ss i).length ≤ 60) : compOk us ss = false := by
  cases e : compOk us ss with
  | false => rfl
  | true => exact absurd (compOk_iff.1 e i hi) h
theorem comp_out {us ss : List (List Int)} {i : Nat} (h : ss.length ≤ i) (h' : us.length ≤ i) : compL us ss i = vt i := by
  unfold compL
  rw [gives_out (by omega)]
  unfold vt
  rw [fill_cons, fill_nil, List.append_nil, rep_var (by omega), show (-1 - (-1 - (i : Int))).toNat = i by omega, gives_out (by omega)]
  rfl
theorem comp_pos (us ss : List (List Int)) (i : Nat) : 1 ≤ (compL us ss i).length := by
  have h1 := fill_ge (gives_pos us) (givesL ss i)
  have h2 := gives_pos ss i
  unfold compL
  omega
theorem comp_len {sg : List Int} {us ss : List (List Int)} (h : substOkB sg ss = true) (h' : substOkB sg us = true) (i : Nat) : (compL us ss i).length ≤ 3600 := by
  have h1 := fill_len (M := 60) (by omega) (gives_len h') (givesL ss i)
  have h2 := gives_len h i
  have h3 : (givesL ss i).length * 60 ≤ 60 * 60 := Nat.mul_le_mul_right _ h2
  unfold compL
  omega

/-- the composition as a list -/
def outL (us ss : List (List Int)) (k : Nat) : List (List Int) := (List.range k).map (compL us ss)
theorem out_len (us ss : List (List Int)) (k : Nat) : (outL us ss k).length = k := by simp [outL]
theorem out_get {us ss : List (List Int)} {k i : Nat} (h : i < k) : (outL us ss k).getD i [] = compL us ss i := by simp [outL, List.getD, h]
theorem out_succ (us ss : List (List Int)) (k : Nat) : outL us ss (k + 1) = outL us ss k ++ [compL us ss k] := by simp [outL, List.range_succ]
theorem out_gives {us ss : List (List Int)} {k i : Nat} (h : i < k) : givesL (outL us ss k) i = compL us ss i := by
  have := comp_pos us ss i
  rw [gives_term (by rw [out_get h]; omega), out_get h]
theorem out_plain {us ss : List (List Int)} {k : Nat} (hk : k ≤ 24) (h : ss.length ≤ k) (h' : us.length ≤ k) : plainL (givesL (outL us ss k)) k = plainL (compL us ss) 24 := by
  rw [plain_24 hk (fun i hi => comp_out (by omega) (by omega))]
  exact plain_ext fun i hi => out_gives hi
theorem out_each {us ss : List (List Int)} {k : Nat} (hk : k ≤ 24) (h : ∀ i, i < k → (compL us ss i).length ≤ 60) : tot (outL us ss k) ≤ 1048576 := by
  have h1 := tot_le (xss := outL us ss k) (M := 60) (fun j => by
    by_cases hj : j < k
    · rw [out_get hj]; exact h j hj
    · rw [show (outL us ss k).getD j [] = [] by simp [List.getD, out_len, hj]]; simp)
  rw [out_len] at h1
  have : k * 60 ≤ 24 * 60 := Nat.mul_le_mul_right _ hk
  omega

/-- one of the lists is too long for a term -/
def anyLong (xss : List (List Int)) : Bool := xss.any fun t => decide (60 < t.length)
theorem anyLong_iff {xss : List (List Int)} : anyLong xss = true ↔ ∃ i, 60 < (xss.getD i []).length := by
  unfold anyLong
  rw [List.any_eq_true]
  refine ⟨fun ⟨t, ht, h⟩ => ?_, fun ⟨i, h⟩ => ?_⟩
  · obtain ⟨i, hi, rfl⟩ := List.getElem_of_mem ht
    exact ⟨i, by simpa [List.getD, hi] using h⟩
  · by_cases hi : i < xss.length
    · refine ⟨xss[i], List.getElem_mem hi, ?_⟩
      simpa [List.getD, hi] using h
    · rw [show xss.getD i [] = [] by simp [List.getD, hi]] at h
      simp at h
theorem anyLong_comp (us ss : List (List Int)) : anyLong (plainL (compL us ss) 24) = !compOk us ss := by
  cases h : compOk us ss with
  | true =>
    cases e : anyLong (plainL (compL us ss) 24) with
    | false => rfl
    | true =>
      obtain ⟨i, hi⟩ := anyLong_iff.1 e
      rw [plain_get] at hi
      by_cases h24 : i < 24
      · rw [rows_get h24] at hi
        have := compOk_iff.1 h i h24
        unfold bare at hi
        split at hi
        · simp at hi
        · omega
      · rw [show (rowsL (compL us ss) 24).getD i [] = [] by simp [List.getD, rows_len, h24]] at hi
        simp at hi
  | false =>
    have hn : ∃ i, i < 24 ∧ ¬ (compL us ss i).length ≤ 60 := by
      refine Classical.byContradiction fun hne => ?_
      have : compOk us ss = true := compOk_iff.2 fun i hi => Classical.byContradiction fun hl => hne ⟨i, hi, hl⟩
      rw [h] at this
      cases this
    obtain ⟨i, hi, hl⟩ := hn
    refine anyLong_iff.2 ⟨i, ?_⟩
    rw [plain_get, rows_get hi]
    unfold bare
    rw [if_neg (fun e => by rw [e] at hl; simp [vt] at hl)]
    omega
theorem composed_tot {sg : List Int} {ss us : List (List Int)} : tot (composedI sg ss us) ≤ 1048576 := by
  cases h : composedB sg ss us with
  | false => rw [composed_no h]; simp [tot, sumL]
  | true =>
    rw [composed_yes h]
    unfold composedB at h
    simp only [Bool.and_eq_true] at h
    have h1 := tot_le (plain_each (L := compL us ss) (m := 24) (comp_len h.1 h.2.1))
    have h2 := plain_len (compL us ss) 24
    have h4 : (plainL (compL us ss) 24).length * 3600 ≤ 24 * 3600 := Nat.mul_le_mul_right _ h2
    omega
end Go.Proofs.Ytkmhnkljigncmaa.compMath
end
