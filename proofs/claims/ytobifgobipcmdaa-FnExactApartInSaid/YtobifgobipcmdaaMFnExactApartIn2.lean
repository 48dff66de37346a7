/-
  MERGED: my texts Inside, WApartIn, one behind the other, as they are. By an AI agent.
-/
import Derived.Test.YtobifgobipcmdaaMFnExactApartIn1
import Derived.Deep.RegionHeld3
section
/-
  CONTRACTS: impl.placeIn, spec.l3Right, spec.l3Inside, spec.InsideIn, impl.InsideIn, spec.ApartIn, impl.ApartIn. Conditions: the slices read as lists ('Seg'), at most 1048576 numbers; the places are int64. By an AI agent.
-/
namespace Go.Proofs.Ytobifgobipcmdaa.inside
open Go.RowKit Go.Proofs.Ytobifgobipcmdaa.base Go.Proofs.Ytobifgobipcmdaa.ints Go.Proofs.Ytobifgobipcmdaa.sig Go.Proofs.Ytobifgobipcmdaa.term Go.Proofs.Ytobifgobipcmdaa.arity Go.Proofs.Ytobifgobipcmdaa.endOf Go.Proofs.Ytobifgobipcmdaa.cursor Go.Proofs.Ytobifgobipcmdaa.termOk Go.Proofs.Ytobifgobipcmdaa.endAt
set_option maxRecDepth 100000

def Tells (w : World) (b : Bool) (e : Ending) (w' : World) : Prop := e = .returned (.bool b) ∧ Below w.heap.size w w'
/-- what stands in the course of a call whose first parameter, the signature, was boxed -/
structure Fr (w wr : World) (A : Option Addr) (n c : Nat) (sg : List Int) (A' : Option Addr) (m : Nat) (t : List Int) : Prop where
  r : Row wr w.heap.size 26 #[.slice A n c]
  s : Seg wr w.heap.size A n sg
  s' : Seg wr w.heap.size A' m t
  b : Below w.heap.size w wr
section
variable {w wr w' : World} {A : Option Addr} {n c : Nat} {sg : List Int} {A' : Option Addr} {m : Nat} {t : List Int}
theorem Fr.start (h : Seg w w.heap.size A n sg) (h' : Seg w w.heap.size A' m t) : Fr w (w.alloc (.cells #[.slice A n c] 26)) A n c sg A' m t :=
  have b : Below w.heap.size w (w.alloc (.cells #[.slice A n c] 26)) := (Below.refl _ _).alloc (Nat.le_refl _) _
  ⟨Row.new _ _ _, h.below b, h'.below b, b⟩
theorem Fr.next (f : Fr w wr A n c sg A' m t) (hb : Below wr.heap.size wr w') : Fr w w' A n c sg A' m t :=
  have b : Below w.heap.size wr w' := hb.mono (Nat.le_of_lt f.r.lt)
  ⟨f.r.next hb, f.s.below b, f.s'.below b, f.b.trans b⟩
theorem Fr.over (f : Fr w wr A n c sg A' m t) (hb : Below (w.heap.size + 1) wr w') : Fr w w' A n c sg A' m t :=
  have b : Below w.heap.size wr w' := hb.mono (Nat.le_succ _)
  ⟨f.r.below hb (Nat.lt_succ_self _), f.s.below b, f.s'.below b, f.b.trans b⟩
theorem Fr.alloc (f : Fr w wr A n c sg A' m t) (o : Obj) : Fr w (wr.alloc o) A n c sg A' m t := f.next ((Below.refl _ _).alloc (Nat.le_refl _) _)
theorem Fr.drew (f : Fr w wr A n c sg A' m t) : Fr w wr.drew A n c sg A' m t := f.over (Below.refl _ _).drew
theorem Fr.cell (f : Fr w wr A n c sg A' m t) : wr.cell? ⟨w.heap.size, 0, none⟩ = some (.slice A n c) := f.r.cell 0
theorem Fr.s1 (f : Fr w wr A n c sg A' m t) : Seg wr wr.heap.size A n sg := f.s.more (Nat.le_of_lt f.r.lt)
theorem Fr.t1 (f : Fr w wr A n c sg A' m t) : Seg wr wr.heap.size A' m t := f.s'.more (Nat.le_of_lt f.r.lt)
theorem Fr.size (f : Fr w wr A n c sg A' m t) : w.heap.size < wr.heap.size := f.r.lt
end

theorem end_bd {sg t : List Int} (hok : termOkB sg t = true) {a : Nat} : -1 ≤ endI sg t a ∧ endI sg t a ≤ t.length := by
  cases h : scan sg 1 (t.drop a) with
  | none => rw [endI_none h]; omega
  | some j =>
    have h2 := scan_le h
    have h1 := scan_pos (q := 0) h
    rw [endI_some h]
    simp only [List.length_drop] at h2
    omega
def insI (sg t : List Int) (x p : Int) : Bool := decide (x ≤ p ∧ p < endI sg t x.toNat)
def insideB (sg t : List Int) (x p : Int) : Bool := thereB sg t x && insI sg t x p
def apartB (sg t : List Int) (p q : Int) : Bool := (thereB sg t p && thereB sg t q) && (!insI sg t p q && !insI sg t q p)
theorem ins_there {sg t : List Int} {x p : Int} (h : thereB sg t x = true) (hi : insI sg t x p = true) : thereB sg t p = true := by
  obtain ⟨hok, h0, h1⟩ := there_parts h
  unfold insI at hi
  have h2 := (end_bd hok (a := x.toNat)).2
  simp only [decide_eq_true_eq] at hi
  exact there_yes hok (by omega) (by omega)

set_option maxHeartbeats 1000000 in
theorem placeIn (A A' : Option Addr) (n c m c' : Nat) (sg t : List Int) (x : Int) (w : World) (h : Seg w w.heap.size A n sg) (h' : Seg w w.heap.size A' m t) (hn : n ≤ 1048576) (hm : m ≤ 1048576) :
    Calls Try.prog 57 #[.agg #[.slice A n c], .slice A' m c', .int .i64 x] w (Tells w (thereB sg t x)) := by
  obtain ⟨W, hW⟩ : ∃ W, W = w.alloc (.cells #[.slice A n c] 26) := ⟨_, rfl⟩
  have f : Fr w W A n c sg A' m t := by rw [hW]; exact Fr.start h h'
  have HW := Lib.hid hW
  have L := Lib.hid (cursorAt A A' n c m c' sg t x W f.s1 f.t1 hn hm)
  clear hW h h'
  go_enter Try.func57, Try.ntmps57
  go_wp2_with fail
  rw [← HW.out]
  refine L.out.mono ?_
  rintro e w1 ⟨bb, ⟨ht, p, rfl, hp, hc⟩ | ⟨ht, rfl⟩⟩
  · have F := Lib.hid (show Tells w (thereB sg t x) (.returned (.bool true)) w1 from ⟨by rw [ht], (f.next bb).b⟩)
    clear f L bb hc hp
    go_wp2
    go_ret
    exact F.out
  · have F := Lib.hid (show Tells w (thereB sg t x) (.returned (.bool false)) w1 from ⟨by rw [ht], (f.next bb).b⟩)
    clear f L bb
    go_wp2
    go_ret
    exact F.out

set_option maxHeartbeats 1000000 in
theorem right (A A' : Option Addr) (n c m c' : Nat) (sg t : List Int) (x : Int) (w : World) (h : Seg w w.heap.size A n sg) (h' : Seg w w.heap.size A' m t) (hn : n ≤ 1048576) (hm : m ≤ 1048576) :
    Calls Try.prog 50 #[.agg #[.slice A n c], .slice A' m c', .int .i64 x] w (Tells w (thereB sg t x)) := by
  obtain ⟨W, hW⟩ : ∃ W, W = w.alloc (.cells #[.slice A n c] 26) := ⟨_, rfl⟩
  have f : Fr w W A n c sg A' m t := by rw [hW]; exact Fr.start h h'
  have HW := Lib.hid hW
  have HL := Lib.hid h'.1
  have L := Lib.hid (specTermOk A A' n c m c' sg t W f.s1 f.t1 hn hm)
  clear hW h h'
  cases hok : termOkB sg t with
  | false =>
    have HS := Lib.hid hok
    have HT := Lib.hid (there_no (x := x) (.inl hok))
    clear hok
    go_enter Try.func50, Try.ntmps50
    go_wp2_with fail
    rw [← HW.out]
    refine L.out.mono ?_
    rintro e w1 ⟨he, bb⟩
    rw [HS.out] at he
    subst he
    have F := Lib.hid (show Tells w (thereB sg t x) (.returned (.bool false)) w1 from ⟨by rw [HT.out], (f.next bb).b⟩)
    clear f L bb HT
    go_wp2
    go_ret
    exact F.out
  | true =>
    have HS := Lib.hid hok
    obtain ⟨b, hb⟩ : ∃ b, decide (0 ≤ x ∧ x < (m : Int)) = b := ⟨_, rfl⟩
    have HD := Lib.hid hb
    have HT : thereB sg t x = b := by unfold thereB inB; rw [hok, HL.out, hb]; rfl
    replace HT := Lib.hid HT
    clear hok hb
    go_enter Try.func50, Try.ntmps50
    go_wp2_with fail
    rw [← HW.out]
    refine L.out.mono ?_
    rintro e w1 ⟨he, bb⟩
    rw [HS.out] at he
    subst he
    have F := Lib.hid (show Tells w (thereB sg t x) (.returned (.bool b)) w1 from ⟨by rw [HT.out], (f.next bb).b⟩)
    clear f L bb HT
    go_wp2_with fail
    refine (there _ _ _ x b _ hm HD.out).mono ?_
    rintro e w2 ⟨rfl, rfl⟩
    go_wp2
    go_ret
    exact F.out

set_option maxHeartbeats 1000000 in
theorem l3Inside (A A' : Option Addr) (n c m c' : Nat) (sg t : List Int) (x p : Int) (w : World) (h : Seg w w.heap.size A n sg) (h' : Seg w w.heap.size A' m t) (hn : n ≤ 1048576) (hm : m ≤ 1048576) (hx : thereB sg t x = true) :
    Calls Try.prog 69 #[.agg #[.slice A n c], .slice A' m c', .int .i64 x, .int .i64 p] w (Tells w (insI sg t x p)) := by
  obtain ⟨W, hW⟩ : ∃ W, W = w.alloc (.cells #[.slice A n c] 26) := ⟨_, rfl⟩
  have f : Fr w W A n c sg A' m t := by rw [hW]; exact Fr.start h h'
  have HW := Lib.hid hW
  obtain ⟨hok, h0, h1⟩ := there_parts hx
  have hars := (sig_arities (termOk_parts hok).1).1
  have L := Lib.hid (specEnd A A' n c m c' sg t x W f.s1 f.t1 hn hm hars h0 (by rw [h'.1] at h1; omega))
  obtain ⟨z, hz⟩ : ∃ z, endI sg t x.toNat = z := ⟨_, rfl⟩
  have hzb := end_bd hok (a := x.toNat)
  rw [hz, h'.1] at hzb
  have HZ := Lib.hid hz
  clear hW h h' hz hx hars hok
  go_enter Try.func69, Try.ntmps69
  go_wp2_with fail
  rw [← HW.out]
  refine L.out.mono ?_
  rintro e w1 ⟨he, bb⟩
  rw [HZ.out] at he
  subst he
  replace f := (f.next bb).b
  clear L bb
  by_cases hin : x ≤ p ∧ p ≤ z - 1
  · have F := Lib.hid (show Tells w (insI sg t x p) (.returned (.bool true)) w1 from ⟨by unfold insI; rw [HZ.out, decide_eq_true (by omega)], f⟩)
    have HI := Lib.hid hin
    clear f hin HZ
    go_wp2_with fail
    refine (inYes _ _ _ _ HI.out).mono ?_
    rintro e w2 ⟨rfl, rfl⟩
    go_wp2
    go_ret
    exact F.out
  · have F := Lib.hid (show Tells w (insI sg t x p) (.returned (.bool false)) w1 from ⟨by unfold insI; rw [HZ.out, decide_eq_false (by omega)], f⟩)
    have HI := Lib.hid hin
    clear f hin HZ
    go_wp2_with fail
    refine (inNo _ _ _ _ HI.out).mono ?_
    rintro e w2 ⟨rfl, rfl⟩
    go_wp2
    go_ret
    exact F.out

set_option maxHeartbeats 1000000 in
theorem specInsideIn (A A' : Option Addr) (n c m c' : Nat) (sg t : List Int) (x p : Int) (w : World) (h : Seg w w.heap.size A n sg) (h' : Seg w w.heap.size A' m t) (hn : n ≤ 1048576) (hm : m ≤ 1048576) :
    Calls Try.prog 40 #[.agg #[.slice A n c], .slice A' m c', .int .i64 x, .int .i64 p] w (Tells w (insideB sg t x p)) := by
  obtain ⟨W, hW⟩ : ∃ W, W = w.alloc (.cells #[.slice A n c] 26) := ⟨_, rfl⟩
  have f : Fr w W A n c sg A' m t := by rw [hW]; exact Fr.start h h'
  have HW := Lib.hid hW
  have L := Lib.hid (right A A' n c m c' sg t x W f.s1 f.t1 hn hm)
  have HL := Lib.hid h'.1
  clear hW h h'
  cases hx : thereB sg t x with
  | false =>
    have HX := Lib.hid hx
    clear hx
    go_enter Try.func40, Try.ntmps40
    go_wp2_with fail
    rw [← HW.out]
    refine L.out.mono ?_
    rintro e w1 ⟨he, bb⟩
    rw [HX.out] at he
    subst he
    have F := Lib.hid (show Tells w (insideB sg t x p) (.returned (.bool false)) w1 from ⟨by unfold insideB; rw [HX.out]; rfl, (f.next bb).b⟩)
    clear f L bb
    go_wp2
    go_ret
    exact F.out
  | true =>
    have HX := Lib.hid hx
    have hok := (there_parts hx).1
    clear hx
    cases hp : thereB sg t p with
    | false =>
      have HD : decide (0 ≤ p ∧ p < (m : Int)) = false := by
        unfold thereB inB at hp
        rw [hok, HL.out] at hp
        exact hp
      have HI : insI sg t x p = false := by
        cases hi : insI sg t x p with
        | false => rfl
        | true => rw [ins_there HX.out hi] at hp; cases hp
      replace HD := Lib.hid HD
      replace HI := Lib.hid HI
      clear hp hok
      go_enter Try.func40, Try.ntmps40
      go_wp2_with fail
      rw [← HW.out]
      refine L.out.mono ?_
      rintro e w1 ⟨he, bb⟩
      rw [HX.out] at he
      subst he
      have F := Lib.hid (show Tells w (insideB sg t x p) (.returned (.bool false)) w1 from ⟨by unfold insideB; rw [HX.out, HI.out]; rfl, (f.next bb).b⟩)
      clear f L bb HX HI
      go_wp2_with fail
      refine (there _ _ _ p false _ hm HD.out).mono ?_
      rintro e w2 ⟨rfl, rfl⟩
      go_wp2
      go_ret
      exact F.out
    | true =>
      have HD : decide (0 ≤ p ∧ p < (m : Int)) = true := by
        unfold thereB inB at hp
        rw [hok, HL.out] at hp
        exact hp
      replace HD := Lib.hid HD
      clear hp hok
      go_enter Try.func40, Try.ntmps40
      go_wp2_with fail
      rw [← HW.out]
      refine L.out.mono ?_
      rintro e w1 ⟨he, bb⟩
      rw [HX.out] at he
      subst he
      replace f := f.next bb
      have cA := f.cell
      clear L bb
      go_wp2_with fail
      refine (there _ _ _ p true _ hm HD.out).mono ?_
      rintro e w2 ⟨rfl, rfl⟩
      go_wp2_with fail
      refine (l3Inside A A' n c m c' sg t x p _ f.s1 f.t1 hn hm HX.out).mono ?_
      rintro e w3 ⟨rfl, bb⟩
      have F : Tells w (insideB sg t x p) (.returned (.bool (insI sg t x p))) w3 := ⟨by unfold insideB; rw [HX.out]; rfl, (f.next bb).b⟩
      replace F := Lib.hid F
      clear f bb cA HX
      generalize insI sg t x p = b at *
      go_wp2
      go_ret
      exact F.out

set_option maxHeartbeats 1000000 in
theorem implInsideIn (A A' : Option Addr) (n c m c' : Nat) (sg t : List Int) (x p : Int) (w : World) (h : Seg w w.heap.size A n sg) (h' : Seg w w.heap.size A' m t) (hn : n ≤ 1048576) (hm : m ≤ 1048576) (hx1 : -9223372036854775808 ≤ x) (hx2 : x ≤ 9223372036854775807) :
    Calls Try.prog 31 #[.agg #[.slice A n c], .slice A' m c', .int .i64 x, .int .i64 p] w (Tells w (insideB sg t x p)) := by
  obtain ⟨W, hW⟩ : ∃ W, W = w.alloc (.cells #[.slice A n c] 26) := ⟨_, rfl⟩
  have f : Fr w W A n c sg A' m t := by rw [hW]; exact Fr.start h h'
  have HW := Lib.hid hW
  have L := Lib.hid (placeIn A A' n c m c' sg t x W f.s1 f.t1 hn hm)
  clear hW h h'
  cases hx : thereB sg t x with
  | false =>
    have HX := Lib.hid hx
    clear hx
    go_enter Try.func31, Try.ntmps31
    go_wp2_with fail
    rw [← HW.out]
    refine L.out.mono ?_
    rintro e w1 ⟨he, bb⟩
    rw [HX.out] at he
    subst he
    have F := Lib.hid (show Tells w (insideB sg t x p) (.returned (.bool false)) w1 from ⟨by unfold insideB; rw [HX.out]; rfl, (f.next bb).b⟩)
    clear f L bb
    go_wp2
    go_ret
    exact F.out
  | true =>
    have HX := Lib.hid hx
    clear hx
    by_cases hle : x ≤ p
    · have LE := Lib.hid hle
      go_enter Try.func31, Try.ntmps31
      go_wp2_with fail
      rw [← HW.out]
      refine L.out.mono ?_
      rintro e w1 ⟨he, bb⟩
      rw [HX.out] at he
      subst he
      replace f := f.next bb
      have cA := f.cell
      clear L bb
      go_wp2_with fail
      refine (implEndOf A A' n c m c' sg t x _ f.s1 f.t1 hn hm hx1 hx2).mono ?_
      rintro e w2 ⟨rfl, bb⟩
      have F : Tells w (insideB sg t x p) (.returned (.bool (decide (p < endOfI sg t x)))) w2 :=
        ⟨by unfold insideB insI endOfI; rw [HX.out, if_pos rfl]; congr 2; simp only [Bool.true_and]; exact decide_eq_decide.2 ⟨fun h => ⟨LE.out, h⟩, fun h => h.2⟩, (f.next bb).b⟩
      replace F := Lib.hid F
      clear f bb cA HX LE hle
      generalize endOfI sg t x = z at *
      go_wp2
      go_ret
      exact F.out
    · have LE := Lib.hid hle
      go_enter Try.func31, Try.ntmps31
      go_wp2_with fail
      rw [← HW.out]
      refine L.out.mono ?_
      rintro e w1 ⟨he, bb⟩
      rw [HX.out] at he
      subst he
      have F : Tells w (insideB sg t x p) (.returned (.bool false)) w1 := ⟨by unfold insideB insI; rw [decide_eq_false (fun h => by have := h.1; have := LE.out; omega)]; simp, (f.next bb).b⟩
      have hd : decide (x ≤ p) = false := decide_eq_false (by omega)
      replace F := Lib.hid F
      clear f bb L HX LE
      go_wp2
      go_ret
      exact F.out
theorem apart_no {sg t : List Int} {p q : Int} (h : thereB sg t p = false ∨ thereB sg t q = false) : apartB sg t p q = false := by
  unfold apartB
  rcases h with h | h <;> rw [h] <;> simp

set_option maxHeartbeats 1000000 in
theorem specApartIn (A A' : Option Addr) (n c m c' : Nat) (sg t : List Int) (p q : Int) (w : World) (h : Seg w w.heap.size A n sg) (h' : Seg w w.heap.size A' m t) (hn : n ≤ 1048576) (hm : m ≤ 1048576) :
    Calls Try.prog 41 #[.agg #[.slice A n c], .slice A' m c', .int .i64 p, .int .i64 q] w (Tells w (apartB sg t p q)) := by
  obtain ⟨W, hW⟩ : ∃ W, W = w.alloc (.cells #[.slice A n c] 26) := ⟨_, rfl⟩
  have f : Fr w W A n c sg A' m t := by rw [hW]; exact Fr.start h h'
  have HW := Lib.hid hW
  have L := Lib.hid (right A A' n c m c' sg t p W f.s1 f.t1 hn hm)
  have HL := Lib.hid h'.1
  clear hW h h'
  cases hx : thereB sg t p with
  | false =>
    have HX := Lib.hid hx
    have HF := Lib.hid (apart_no (q := q) (.inl hx))
    clear hx
    go_enter Try.func41, Try.ntmps41
    go_wp2_with fail
    rw [← HW.out]
    refine L.out.mono ?_
    rintro e w1 ⟨he, bb⟩
    rw [HX.out] at he
    subst he
    have F := Lib.hid (show Tells w (apartB sg t p q) (.returned (.bool false)) w1 from ⟨by rw [HF.out], (f.next bb).b⟩)
    clear f L bb HF
    go_wp2
    go_ret
    exact F.out
  | true =>
    have HX := Lib.hid hx
    have hok := (there_parts hx).1
    clear hx
    cases hp : thereB sg t q with
    | false =>
      have HD : decide (0 ≤ q ∧ q < (m : Int)) = false := by
        unfold thereB inB at hp
        rw [hok, HL.out] at hp
        exact hp
      replace HD := Lib.hid HD
      have HF := Lib.hid (apart_no (p := p) (.inr hp))
      clear hp hok
      go_enter Try.func41, Try.ntmps41
      go_wp2_with fail
      rw [← HW.out]
      refine L.out.mono ?_
      rintro e w1 ⟨he, bb⟩
      rw [HX.out] at he
      subst he
      have F := Lib.hid (show Tells w (apartB sg t p q) (.returned (.bool false)) w1 from ⟨by rw [HF.out], (f.next bb).b⟩)
      clear f L bb HX HF
      go_wp2_with fail
      refine (there _ _ _ q false _ hm HD.out).mono ?_
      rintro e w2 ⟨rfl, rfl⟩
      go_wp2
      go_ret
      exact F.out
    | true =>
      have HD : decide (0 ≤ q ∧ q < (m : Int)) = true := by
        unfold thereB inB at hp
        rw [hok, HL.out] at hp
        exact hp
      replace HD := Lib.hid HD
      have HQ := Lib.hid hp
      clear hp hok
      obtain ⟨b1, e1⟩ : ∃ b, insI sg t p q = b := ⟨_, rfl⟩
      obtain ⟨b2, e2⟩ : ∃ b, insI sg t q p = b := ⟨_, rfl⟩
      have E1 := Lib.hid e1
      have E2 := Lib.hid e2
      have HF := Lib.hid (show apartB sg t p q = (!b1 && !b2) by unfold apartB; rw [HX.out, HQ.out, e1, e2]; rfl)
      clear e1 e2
      go_enter Try.func41, Try.ntmps41
      go_wp2_with fail
      rw [← HW.out]
      refine L.out.mono ?_
      rintro e w1 ⟨he, bb⟩
      rw [HX.out] at he
      subst he
      replace f := f.next bb
      have cA := f.cell
      clear L bb
      go_wp2_with fail
      refine (there _ _ _ q true _ hm HD.out).mono ?_
      rintro e w2 ⟨rfl, rfl⟩
      go_wp2_with fail
      refine (l3Inside A A' n c m c' sg t p q _ f.s1 f.t1 hn hm HX.out).mono ?_
      rintro e w2 ⟨he, bb⟩
      rw [E1.out] at he
      subst he
      replace f := f.next bb
      clear cA bb
      have cA := f.cell
      cases b1 with
      | true =>
        have F := Lib.hid (show Tells w (apartB sg t p q) (.returned (.bool false)) w2 from ⟨by rw [HF.out]; rfl, f.b⟩)
        clear f cA
        go_wp2
        go_ret
        exact F.out
      | false =>
        go_wp2_with fail
        refine (l3Inside A A' n c m c' sg t q p _ f.s1 f.t1 hn hm HQ.out).mono ?_
        rintro e w3 ⟨he, bb⟩
        rw [E2.out] at he
        subst he
        have F := Lib.hid (show Tells w (apartB sg t p q) (.returned (.bool (!b2))) w3 from ⟨by rw [HF.out]; rfl, (f.next bb).b⟩)
        clear f cA bb
        go_wp2
        go_ret
        exact F.out

theorem inside_there {sg t : List Int} {p q : Int} (h : thereB sg t p = true) : insideB sg t p q = insI sg t p q := by unfold insideB; rw [h]; rfl

set_option maxHeartbeats 1000000 in
theorem implApartIn (A A' : Option Addr) (n c m c' : Nat) (sg t : List Int) (p q : Int) (w : World) (h : Seg w w.heap.size A n sg) (h' : Seg w w.heap.size A' m t) (hn : n ≤ 1048576) (hm : m ≤ 1048576) (hp1 : -9223372036854775808 ≤ p) (hp2 : p ≤ 9223372036854775807) (hq1 : -9223372036854775808 ≤ q) (hq2 : q ≤ 9223372036854775807) :
    Calls Try.prog 19 #[.agg #[.slice A n c], .slice A' m c', .int .i64 p, .int .i64 q] w (Tells w (apartB sg t p q)) := by
  obtain ⟨W, hW⟩ : ∃ W, W = w.alloc (.cells #[.slice A n c] 26) := ⟨_, rfl⟩
  have f : Fr w W A n c sg A' m t := by rw [hW]; exact Fr.start h h'
  have HW := Lib.hid hW
  have L := Lib.hid (placeIn A A' n c m c' sg t p W f.s1 f.t1 hn hm)
  clear hW h h'
  cases hx : thereB sg t p with
  | false =>
    have HX := Lib.hid hx
    have HF := Lib.hid (apart_no (q := q) (.inl hx))
    clear hx
    go_enter Try.func19, Try.ntmps19
    go_wp2_with fail
    rw [← HW.out]
    refine L.out.mono ?_
    rintro e w1 ⟨he, bb⟩
    rw [HX.out] at he
    subst he
    have F := Lib.hid (show Tells w (apartB sg t p q) (.returned (.bool false)) w1 from ⟨by rw [HF.out], (f.next bb).b⟩)
    clear f L bb HF
    go_wp2
    go_ret
    exact F.out
  | true =>
    have HX := Lib.hid hx
    clear hx
    obtain ⟨bq, eq⟩ : ∃ b, thereB sg t q = b := ⟨_, rfl⟩
    have HQ := Lib.hid eq
    clear eq
    go_enter Try.func19, Try.ntmps19
    go_wp2_with fail
    rw [← HW.out]
    refine L.out.mono ?_
    rintro e w1 ⟨he, bb⟩
    rw [HX.out] at he
    subst he
    replace f := f.next bb
    have cA := f.cell
    clear L bb
    go_wp2_with fail
    refine (placeIn A A' n c m c' sg t q _ f.s1 f.t1 hn hm).mono ?_
    rintro e w2 ⟨he, bb⟩
    rw [HQ.out] at he
    subst he
    replace f := f.next bb
    clear cA bb
    have cA := f.cell
    cases bq with
    | false =>
      have F := Lib.hid (show Tells w (apartB sg t p q) (.returned (.bool false)) w2 from ⟨by rw [apart_no (.inr HQ.out)], f.b⟩)
      clear f cA
      go_wp2
      go_ret
      exact F.out
    | true =>
      obtain ⟨b1, e1⟩ : ∃ b, insI sg t p q = b := ⟨_, rfl⟩
      obtain ⟨b2, e2⟩ : ∃ b, insI sg t q p = b := ⟨_, rfl⟩
      have E1 := Lib.hid e1
      have E2 := Lib.hid e2
      have HF := Lib.hid (show apartB sg t p q = (!b1 && !b2) by unfold apartB; rw [HX.out, HQ.out, e1, e2]; rfl)
      clear e1 e2
      go_wp2_with fail
      refine (implInsideIn A A' n c m c' sg t p q _ f.s1 f.t1 hn hm hp1 hp2).mono ?_
      rintro e w3 ⟨he, bb⟩
      rw [inside_there HX.out, E1.out] at he
      subst he
      replace f := f.next bb
      clear cA bb
      have cA := f.cell
      cases b1 with
      | true =>
        have F := Lib.hid (show Tells w (apartB sg t p q) (.returned (.bool false)) w3 from ⟨by rw [HF.out]; rfl, f.b⟩)
        clear f cA
        go_wp2
        go_ret
        exact F.out
      | false =>
        go_wp2_with fail
        refine (implInsideIn A A' n c m c' sg t q p _ f.s1 f.t1 hn hm hq1 hq2).mono ?_
        rintro e w4 ⟨he, bb⟩
        rw [inside_there HQ.out, E2.out] at he
        subst he
        have F := Lib.hid (show Tells w (apartB sg t p q) (.returned (.bool (!b2))) w4 from ⟨by rw [HF.out]; rfl, (f.next bb).b⟩)
        clear f cA bb
        go_wp2
        go_ret
        exact F.out
theorem specInsideX (A A' : Option Addr) (n c m c' : Nat) (sg t : List Int) (x p : Int) (w : World) (h : Seg w w.heap.size A n sg) (h' : Seg w w.heap.size A' m t) (hn : n ≤ 1048576) (hm : m ≤ 1048576) (hx1 : -9223372036854775808 ≤ x) (hx2 : x ≤ 9223372036854775807) (hp1 : -9223372036854775808 ≤ p) (hp2 : p ≤ 9223372036854775807) :
    Calls Try.prog 40 #[.agg #[.slice A n c], .slice A' m c', .int .i64 x, .int .i64 p] w (Tells w (insideB sg t x p)) := specInsideIn A A' n c m c' sg t x p w h h' hn hm
theorem implInsideX (A A' : Option Addr) (n c m c' : Nat) (sg t : List Int) (x p : Int) (w : World) (h : Seg w w.heap.size A n sg) (h' : Seg w w.heap.size A' m t) (hn : n ≤ 1048576) (hm : m ≤ 1048576) (hx1 : -9223372036854775808 ≤ x) (hx2 : x ≤ 9223372036854775807) (hp1 : -9223372036854775808 ≤ p) (hp2 : p ≤ 9223372036854775807) :
    Calls Try.prog 31 #[.agg #[.slice A n c], .slice A' m c', .int .i64 x, .int .i64 p] w (Tells w (insideB sg t x p)) := implInsideIn A A' n c m c' sg t x p w h h' hn hm hx1 hx2
theorem specApartX (A A' : Option Addr) (n c m c' : Nat) (sg t : List Int) (p q : Int) (w : World) (h : Seg w w.heap.size A n sg) (h' : Seg w w.heap.size A' m t) (hn : n ≤ 1048576) (hm : m ≤ 1048576) (hx1 : -9223372036854775808 ≤ p) (hx2 : p ≤ 9223372036854775807) (hp1 : -9223372036854775808 ≤ q) (hp2 : q ≤ 9223372036854775807) :
    Calls Try.prog 41 #[.agg #[.slice A n c], .slice A' m c', .int .i64 p, .int .i64 q] w (Tells w (apartB sg t p q)) := specApartIn A A' n c m c' sg t p q w h h' hn hm
theorem implApartX (A A' : Option Addr) (n c m c' : Nat) (sg t : List Int) (p q : Int) (w : World) (h : Seg w w.heap.size A n sg) (h' : Seg w w.heap.size A' m t) (hn : n ≤ 1048576) (hm : m ≤ 1048576) (hx1 : -9223372036854775808 ≤ p) (hx2 : p ≤ 9223372036854775807) (hp1 : -9223372036854775808 ≤ q) (hp2 : q ≤ 9223372036854775807) :
    Calls Try.prog 19 #[.agg #[.slice A n c], .slice A' m c', .int .i64 p, .int .i64 q] w (Tells w (apartB sg t p q)) := implApartIn A A' n c m c' sg t p q w h h' hn hm hx1 hx2 hp1 hp2
end Go.Proofs.Ytobifgobipcmdaa.inside
end

section
/-
  THE WALK of laws.FnExactApartIn: it returns true, whatever the arguments, and writes nothing that was there. Conditions: the slices read as lists. Written by a program of mine (gen_exact.py). By an AI agent.
-/
namespace Go.Proofs.Ytobifgobipcmdaa.wApartIn
open Go.RowKit Go.Proofs.Ytobifgobipcmdaa.base Go.Proofs.Ytobifgobipcmdaa.ints Go.Proofs.Ytobifgobipcmdaa.sig Go.Proofs.Ytobifgobipcmdaa.cursor Go.Proofs.Ytobifgobipcmdaa.marks Go.Proofs.Ytobifgobipcmdaa.app Go.Proofs.Ytobifgobipcmdaa.sym Go.Proofs.Ytobifgobipcmdaa.appAt Go.Proofs.Ytobifgobipcmdaa.segs Go.Proofs.Ytobifgobipcmdaa.segsHelp Go.Proofs.Ytobifgobipcmdaa.segsMark Go.Proofs.Ytobifgobipcmdaa.kinds Go.Proofs.Ytobifgobipcmdaa.term Go.Proofs.Ytobifgobipcmdaa.termOk Go.Proofs.Ytobifgobipcmdaa.endAt Go.Proofs.Ytobifgobipcmdaa.inside
set_option maxRecDepth 100000

set_option maxHeartbeats 8000000 in
theorem law (a0 : Option Addr) (n0 c0 : Nat) (xs0 : List Int) (a1 : Option Addr) (n1 c1 : Nat) (xs1 : List Int) (x2 : Int) (x3 : Int) (w : World) (s0 : Seg w w.heap.size a0 n0 xs0) (hN0 : n0 ≤ 9223372036854775807) (s1 : Seg w w.heap.size a1 n1 xs1) (hN1 : n1 ≤ 9223372036854775807) (b2 : (Lit.int .i64 x2).wf = true) (b3 : (Lit.int .i64 x3).wf = true) :
    Calls Try.prog 7 #[.agg #[.slice a0 n0 c0], .slice a1 n1 c1, .int .i64 x2, .int .i64 x3] w (Fine w) := by
  have bd2 : -9223372036854775808 ≤ x2 ∧ x2 ≤ 9223372036854775807 := by simpa [Lit.wf, IntKind.min, IntKind.max, IntKind.signed, IntKind.bits] using b2
  obtain ⟨bl2, bh2⟩ := bd2
  clear b2
  have bd3 : -9223372036854775808 ≤ x3 ∧ x3 ≤ 9223372036854775807 := by simpa [Lit.wf, IntKind.min, IntKind.max, IntKind.signed, IntKind.bits] using b3
  obtain ⟨bl3, bh3⟩ := bd3
  clear b3
  obtain ⟨W, hW⟩ : ∃ W, W = w.alloc (.cells #[.slice a0 n0 c0] 39) := ⟨_, rfl⟩
  have rA0 : Row W (w.heap.size) 39 #[.slice a0 n0 c0] := by rw [hW]; have := Row.new (w) 39 #[.slice a0 n0 c0]; simpa using this
  have bW : Below w.heap.size w W := by rw [hW]; exact (Below.refl w.heap.size w).alloc (by simp) (.cells #[.slice a0 n0 c0] 39)
  have zA0 := rA0.lt
  replace s0 := s0.next bW
  have Hl0 := Lib.hid s0.1
  replace s1 := s1.next bW
  have Hl1 := Lib.hid s1.1
  have HW := Lib.hid hW
  clear hW
  obtain ⟨v, hv⟩ : ∃ v, apartB xs0 xs1 x2 x3 = v := ⟨_, rfl⟩
  have HV := Lib.hid hv
  clear hv
  have ev : (v != v) = false := by simp
  by_cases h1 : n1 ≤ 1048576
  case neg =>
    go_enter Try.func7, Try.ntmps7
    go_wp2_with fail
    rw [← HW.out]
    go_ret
    exact ⟨rfl, bW⟩
  go_enter Try.func7, Try.ntmps7
  go_wp2_with fail
  rw [← HW.out]
  clear HW
  have bel := Below.refl W.heap.size W
  have cA0 : W.cell? ⟨w.heap.size, 0, none⟩ = some (.slice a0 n0 c0) := (rA0.next bel).cell 0
  refine (szSig _ _ _ (1048576) _ hN0 (by omega) (by omega)).mono ?_
  rintro e w1 ⟨he, bb⟩
  replace bel := next_trans bel bb
  have zw1 := bb.size
  clear bb
  by_cases q0 : n0 ≤ 1048576
  case neg =>
    rw [if_pos (by omega)] at he
    subst he
    have F := Lib.hid (bW.trans (bel.mono bW.size))
    clear bel bW cA0
    go_wp2
    go_ret
    exact ⟨rfl, F.out⟩
  rw [if_neg (by omega)] at he
  subst he
  have h0 : n0 ≤ 1048576 := by omega
  clear cA0
  have cA0 : w1.cell? ⟨w.heap.size, 0, none⟩ = some (.slice a0 n0 c0) := (rA0.next bel).cell 0
  go_wp2_with fail
  refine (sigTo _ _ _ xs0 _ (s0.next bel) h0).mono ?_
  rintro e w2 ⟨gp0, rfl, op0, yp0, bb⟩
  replace bel := next_trans bel bb
  have zw2 := bb.size
  clear bb
  clear cA0
  have cA0 : w2.cell? ⟨w.heap.size, 0, none⟩ = some (.slice a0 n0 c0) := (rA0.next bel).cell 0
  go_wp2_with fail
  refine (intsTo _ _ _ xs1 _ (s1.next bel) h1).mono ?_
  rintro e w3 ⟨gp1, rfl, op1, yp1, bb⟩
  replace op0 := op0.next bb
  replace bel := next_trans bel bb
  have zw3 := bb.size
  clear bb
  clear cA0
  have cA0 : w3.cell? ⟨w.heap.size, 0, none⟩ = some (.slice a0 n0 c0) := (rA0.next bel).cell 0
  go_wp2_with fail
  refine (specApartX _ _ _ _ _ _ xs0 xs1 x2 x3 _ op0.rd op1.rd h0 h1 bl2 bh2 bl3 bh3).mono ?_
  rintro e w4 ⟨he, bb⟩
  rw [HV.out] at he
  subst he
  replace op0 := op0.next bb
  replace op1 := op1.next bb
  replace bel := next_trans bel bb
  have zw4 := bb.size
  clear bb
  clear op0 op1
  clear cA0
  have cA0 : w4.cell? ⟨w.heap.size, 0, none⟩ = some (.slice a0 n0 c0) := (rA0.next bel).cell 0
  clear cA0
  have cA0 : w4.cell? ⟨w.heap.size, 0, none⟩ = some (.slice a0 n0 c0) := (rA0.next bel).cell 0
  go_wp2_with fail
  refine (sigTo _ _ _ xs0 _ (s0.next bel) h0).mono ?_
  rintro e w5 ⟨gx0, rfl, ox0, yx0, bb⟩
  replace bel := next_trans bel bb
  have zw5 := bb.size
  clear bb
  clear cA0
  have cA0 : w5.cell? ⟨w.heap.size, 0, none⟩ = some (.slice a0 n0 c0) := (rA0.next bel).cell 0
  have dA0 : (w5.alloc (.cells #[.slice (some ⟨gx0, 0, none⟩) n0 n0] 26)).cell? ⟨w.heap.size, 0, none⟩ = some (.slice a0 n0 c0) := ((rA0.next bel).alloc _).cell 0
  go_wp2_with fail
  obtain ⟨w6, hw⟩ : ∃ W, W = w5.alloc (.cells #[.slice (some ⟨gx0, 0, none⟩) n0 n0] 26) := ⟨_, rfl⟩
  rw [← hw]
  have rx0 : Row w6 w5.heap.size 26 #[.slice (some ⟨gx0, 0, none⟩) n0 n0] := by rw [hw]; exact Row.new _ _ _
  have bb : Below w5.heap.size w5 w6 := by rw [hw]; exact (Below.refl _ _).alloc (Nat.le_refl _) _
  have yrx0 : w5.heap.size < w6.heap.size := by rw [hw]; simp
  clear hw
  replace ox0 := ox0.next bb
  replace bel := next_trans bel bb
  have zw6 := bb.size
  clear bb
  clear dA0
  clear cA0
  have cA0 : w6.cell? ⟨w.heap.size, 0, none⟩ = some (.slice a0 n0 c0) := (rA0.next bel).cell 0
  have cx0 : w6.cell? ⟨w5.heap.size, 0, none⟩ = some (.slice (some ⟨gx0, 0, none⟩) n0 n0) := (rx0).cell 0
  refine (intsTo _ _ _ xs1 _ (s1.next bel) h1).mono ?_
  rintro e w7 ⟨gx1, rfl, ox1, yx1, bb⟩
  replace ox0 := ox0.next bb
  replace rx0 := rx0.next bb
  replace bel := next_trans bel bb
  have zw7 := bb.size
  clear bb
  clear cA0 cx0
  have cA0 : w7.cell? ⟨w.heap.size, 0, none⟩ = some (.slice a0 n0 c0) := (rA0.next bel).cell 0
  have cx0 : w7.cell? ⟨w5.heap.size, 0, none⟩ = some (.slice (some ⟨gx0, 0, none⟩) n0 n0) := (rx0).cell 0
  go_wp2_with fail
  refine (implApartX _ _ _ _ _ _ xs0 xs1 x2 x3 _ ox0.rd ox1.rd h0 h1 bl2 bh2 bl3 bh3).mono ?_
  rintro e w8 ⟨he, bb⟩
  rw [HV.out] at he
  subst he
  replace ox0 := ox0.next bb
  replace rx0 := rx0.next bb
  replace ox1 := ox1.next bb
  replace bel := next_trans bel bb
  have zw8 := bb.size
  clear bb
  clear cA0 cx0
  have cA0 : w8.cell? ⟨w.heap.size, 0, none⟩ = some (.slice a0 n0 c0) := (rA0.next bel).cell 0
  have cx0 : w8.cell? ⟨w5.heap.size, 0, none⟩ = some (.slice (some ⟨gx0, 0, none⟩) n0 n0) := (rx0).cell 0
  go_wp2_with fail
  replace ox0 := ox0.drew
  replace rx0 := rx0.drew
  replace ox1 := ox1.drew
  replace bel := bel.drew
  have zdw8 := (drew_below w8).size
  go_region_held3 (fun w' => w'.cell? ⟨w5.heap.size, 0, none⟩ = some (.slice (some ⟨gx0, 0, none⟩) n0 n0) ∧ w'.cell? ⟨w.heap.size, 0, none⟩ = some (.slice a0 n0 c0))
    (go_keep)
    (first
      | (go_at_call 33; refine (sigTo _ _ _ xs0 _ (s0.next bel) h0).mono ?_; rintro e w9 ⟨gt0, rfl, ot, yt0, bb⟩; replace ox0 := ox0.next bb; replace rx0 := rx0.next bb; replace ox1 := ox1.next bb; replace bel := next_trans bel bb; have k0w9 : w9.cell? ⟨w.heap.size, 0, none⟩ = some (.slice a0 n0 c0) := (rA0.next bel).cell 0; have l0w9 : w9.cell? ⟨w5.heap.size, 0, none⟩ = some (.slice (some ⟨gx0, 0, none⟩) n0 n0) := rx0.cell 0; have zqw9 := bb.size; clear bb)
      | (go_at_call 36; refine (sigEq _ _ _ _ _ _ xs0 _ ox0.rd ot.rd h0).mono ?_; rintro e w10 ⟨rfl, bb⟩; replace ox0 := ox0.next bb; replace rx0 := rx0.next bb; replace ox1 := ox1.next bb; replace bel := next_trans bel bb; have k0w10 : w10.cell? ⟨w.heap.size, 0, none⟩ = some (.slice a0 n0 c0) := (rA0.next bel).cell 0; have l0w10 : w10.cell? ⟨w5.heap.size, 0, none⟩ = some (.slice (some ⟨gx0, 0, none⟩) n0 n0) := rx0.cell 0; have zqw10 := bb.size; clear bb ot))
  clear k0w9 l0w9 k0w10 l0w10
  clear ox0 rx0
  clear cA0 cx0
  have cA0 : w10.cell? ⟨w.heap.size, 0, none⟩ = some (.slice a0 n0 c0) := (rA0.next bel).cell 0
  go_wp2_with fail
  refine (intsTo _ _ _ xs1 _ (s1.next bel) h1).mono ?_
  rintro e w11 ⟨gt1, rfl, ot1, yt1, bb⟩
  replace ox1 := ox1.next bb
  replace bel := next_trans bel bb
  have zw11 := bb.size
  clear bb
  clear cA0
  have cA0 : w11.cell? ⟨w.heap.size, 0, none⟩ = some (.slice a0 n0 c0) := (rA0.next bel).cell 0
  go_wp2_with fail
  refine (intsEq _ _ _ _ _ _ xs1 _ ox1.rd ot1.rd h1).mono ?_
  rintro e w12 ⟨rfl, bb⟩
  replace ox1 := ox1.next bb
  replace ot1 := ot1.next bb
  replace bel := next_trans bel bb
  have zw12 := bb.size
  clear bb
  clear ot1 ox1
  clear cA0
  have cA0 : w12.cell? ⟨w.heap.size, 0, none⟩ = some (.slice a0 n0 c0) := (rA0.next bel).cell 0
  have F := Lib.hid (bW.trans (bel.mono bW.size))
  clear bel bW cA0
  go_wp2
  go_ret
  exact ⟨rfl, F.out⟩
end Go.Proofs.Ytobifgobipcmdaa.wApartIn
end
