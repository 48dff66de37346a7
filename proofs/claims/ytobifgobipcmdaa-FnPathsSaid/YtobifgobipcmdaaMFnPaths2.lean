/-
  MERGED: my texts Args, AppAt, Copy, Sub, Depth, TermMath, PosMath, PathSpec, WayTo, Place, Deep, one behind the other, as they are. By an AI agent.
-/
import Derived.Test.YtobifgobipcmdaaMFnPaths1
import Derived.Maps.AppendAt
import Derived.WalkSpells
import Derived.Deep.LoopGhost
import Derived.Deep.RegionHeld3
section
/-
  CONTRACTS: spec.l1Args, spec.ArgsAt, impl.ArgsAt. Conditions: the slices read as lists ('Seg'), at most 1048576 numbers. By an AI agent.
-/
namespace Go.Proofs.Ytobifgobipcmdaa.args
open Go.RowKit Go.Proofs.Ytobifgobipcmdaa.base Go.Proofs.Ytobifgobipcmdaa.ints Go.Proofs.Ytobifgobipcmdaa.sig Go.Proofs.Ytobifgobipcmdaa.term Go.Proofs.Ytobifgobipcmdaa.arity Go.Proofs.Ytobifgobipcmdaa.endOf Go.Proofs.Ytobifgobipcmdaa.cursor Go.Proofs.Ytobifgobipcmdaa.termOk Go.Proofs.Ytobifgobipcmdaa.endAt Go.Proofs.Ytobifgobipcmdaa.marks Go.Proofs.Ytobifgobipcmdaa.app Go.Proofs.Ytobifgobipcmdaa.sym

/-- the places of the arguments of what begins at a place -/
def argsL (sg t : List Int) (a : Nat) : List Int := places sg t (ar sg (t.getD a 0)).toNat (a + 1)
def argsI (sg t : List Int) (x : Int) : List Int := if thereB sg t x = true then argsL sg t x.toNat else []

/-- so many terms from place p on are still to come; ys is what has been collected of L -/
def Coll (sg t : List Int) (m : Nat) (L ys : List Int) (q p : Nat) : Prop := ys ++ places sg t q p = L ∧ ∃ i, scan sg q (t.drop p) = some i ∧ p + i ≤ m
theorem Coll.first {sg t : List Int} {m : Nat} {L ys : List Int} {q p : Nat} (h : Coll sg t m L ys (q + 1) p) : ∃ j, scan sg 1 (t.drop p) = some j ∧ p + j ≤ m ∧ p < t.length ∧ Coll sg t m L (ys ++ [(p : Int)]) q (p + j) := by
  obtain ⟨h1, i, h2, h3⟩ := h
  obtain ⟨j, e1, e2, e3, e4⟩ := scan_first h2
  have e5 := scan_le h2
  refine ⟨j, e1, by omega, ?_, ?_, i - j, e4, by omega⟩
  · simp only [List.length_drop] at e5; omega
  · rw [← h1, List.append_assoc]
    congr 1
    simp only [places, len1_eq e1, List.singleton_append]
theorem Coll.done {sg t : List Int} {m : Nat} {L ys : List Int} {p : Nat} (h : Coll sg t m L ys 0 p) : ys = L := by
  have := h.1
  simpa [places] using this
theorem Coll.len {sg t : List Int} {m : Nat} {L ys : List Int} {q p : Nat} (h : Coll sg t m L ys q p) : ys.length ≤ L.length := by
  rw [← h.1]; simp
theorem Coll.start {sg t : List Int} {m a j : Nat} (hm : t.length = m) (h : scan sg 1 (t.drop a) = some j) (hj : a + j ≤ m) : ¬ ar sg (t.getD a 0) < 0 ∧ Coll sg t m (argsL sg t a) [] (ar sg (t.getD a 0)).toNat (a + 1) := by
  obtain ⟨i, rfl, _, h2, h3⟩ := scan_args h
  exact ⟨h2, rfl, i, h3, by omega⟩
theorem argsL_len {sg t : List Int} (hs : Arities sg) (a : Nat) : (argsL sg t a).length ≤ 3 := by
  unfold argsL
  rw [places_len]
  have := ar_bd hs (t.getD a 0)
  omega

def HeadArgs (w : World) (A : Option Addr) (n c m : Nat) (sg t : List Int) (L : List Int) (out p k : Value) (wr : World) : Prop :=
  ∃ (q pp : Nat) (O : Option Addr) (on oc : Nat) (ys : List Int), k = .int .i64 q ∧ p = .int .i64 pp ∧ out = .slice O on oc ∧ Own wr (w.heap.size + 1) (.slice O on oc) ys ∧ Coll sg t m L ys q pp ∧ q ≤ 3 ∧ Row wr w.heap.size 26 #[.slice A n c] ∧ Below w.heap.size w wr

set_option maxHeartbeats 1000000 in
theorem l1Args (A A' : Option Addr) (n c m c' : Nat) (sg t : List Int) (a j : Nat) (w : World) (h : Seg w w.heap.size A n sg) (h' : Seg w w.heap.size A' m t) (hn : n ≤ 1048576) (hm : m ≤ 1048576)
    (hs : Arities sg) (ha : a < m) (hj : scan sg 1 (t.drop a) = some j) (hj2 : a + j ≤ m) :
    Calls Try.prog 66 #[.agg #[.slice A n c], .slice A' m c', .int .i64 (a : Int)] w (AnsList w (argsL sg t a)) := by
  have HL := Lib.hid h'.1
  obtain ⟨hneg, hcoll⟩ := Coll.start HL.out hj hj2
  have h3 := argsL_len (t := t) hs a
  obtain ⟨b, off, x, rfl, hbb, hx, ex⟩ := h'.spot ha
  rw [ex.out] at hneg hcoll
  have hzb := ar_bd hs x
  obtain ⟨z, hz⟩ : ∃ z, ar sg x = z := ⟨_, rfl⟩
  rw [hz] at hneg hcoll hzb
  obtain ⟨T, rfl⟩ := Int.eq_ofNat_of_zero_le (show 0 ≤ z by omega)
  rw [Int.toNat_natCast] at hcoll
  have HZ := Lib.hid hz
  obtain ⟨L, hL⟩ : ∃ L, argsL sg t a = L := ⟨_, rfl⟩
  rw [hL] at hcoll h3 ⊢
  obtain ⟨W, hW⟩ : ∃ W, W = (w.alloc (.cells #[.slice A n c] 26)).alloc (.cells #[] 2) := ⟨_, rfl⟩
  have rA : Row W w.heap.size 26 #[.slice A n c] := by rw [hW]; exact (Row.new _ _ _).alloc _
  have bel : Below w.heap.size w W := by rw [hW]; exact ((Below.refl _ _).alloc (Nat.le_refl _) _).alloc (by simp) _
  have ow : Own W (w.heap.size + 1) (.slice (some ⟨w.heap.size + 1, 0, none⟩) 0 0) [] := by
    rw [hW]
    have := own_empty (w.alloc (.cells #[.slice A n c] 26)) (w.heap.size + 1) (by simp)
    simpa using this
  have s : Seg W.drew W.heap.size A n sg := ((h.below bel).more bel.size).drew
  have hx1 : W.cell? ⟨b, off + a, none⟩ = some (.int .i64 x) := (bel.cell (p := ⟨b, off + a, none⟩) hbb).trans hx
  have cA : W.cell? ⟨w.heap.size, 0, none⟩ = some (.slice A n c) := rA.cell 0
  have i0 : (0 : Int) ≤ (a : Int) := by omega
  have i1 : (a : Int) < (m : Int) := by omega
  have HW := Lib.hid hW
  have HS0 := Lib.hid hs
  clear hW hx hL hz hj ex hs
  go_enter Try.func66, Try.ntmps66
  go_wp2_with fail
  rw [← HW.out]
  replace rA := rA.drew
  replace bel := bel.drew
  replace ow := Own.drew ow
  go_region_held3 (fun w' => w'.cell? ⟨w.heap.size, 0, none⟩ = some (.slice A n c) ∧ w'.cell? ⟨b, off + a, none⟩ = some (.int .i64 x))
    (go_keep)
    (first
      | (go_at_call 79; refine (specArity _ _ _ sg x _ s hn).mono ?_; rintro e w2 ⟨he, bb⟩; rw [HZ.out] at he; subst he; replace cA : w2.cell? ⟨w.heap.size, 0, none⟩ = some (.slice A n c) := (rA.next bb).cell 0; have cx' : w2.cell? ⟨b, off + a, none⟩ = some (.int .i64 x) := (bb.cell (p := ⟨b, off + a, none⟩) (Nat.lt_trans hbb rA.lt)).trans hx1))
  have S0 : HeadArgs w A n c m sg t L (.slice (some ⟨w.heap.size + 1, 0, none⟩) 0 0) (.int .i64 ((a + 1 : Nat) : Int)) (.int .i64 (T : Int)) w2 :=
    ⟨T, a + 1, _, _, _, [], rfl, rfl, rfl, Own.next ow bb, hcoll, by omega, rA.next bb, bel.trans (bb.mono (Nat.le_of_lt rA.lt))⟩
  have HS := Lib.hid S0
  clear S0 bb rA bel ow s hx1 cA cx' hcoll
  go_wp2_with fail
  go_loopw [7, 8, 9] (fun out p k wr => HeadArgs w A n c m sg t L out p k wr) (fun _ _ k _ => (intOf k).toNat)
  case atStart => simpa using HS.out
  case round =>
    obtain ⟨q, pp, O, on, oc, ys, rfl, rfl, rfl, ho, hc, hq, hr, hb⟩ := hrel
    clear HS
    have hon : on ≤ 3 := by have := Own.len ho; have := hc.len; omega
    cases q with
    | zero =>
      have F : AnsList w L (.returned (.slice O on oc)) wr := ⟨O, on, oc, rfl, by rw [← hc.done]; exact Own.lower ho (Nat.le_succ _), hb⟩
      have HF := Lib.hid F
      clear F ho hc hr hb h h'
      go_wp2
      go_ret
      exact HF.out
    | succ q =>
      obtain ⟨jj, hj, hj2', hlt, hc'⟩ := hc.first
      have HE := Lib.hid (endI_some hj)
      have hsz := hr.lt
      have e0 : (0 : Int) < ((q + 1 : Nat) : Int) := by omega
      have hpp : pp ≤ 1048576 := by omega
      clear hc hj
      go_wp2_with (at_builtin; refine app1 rfl _ _ rfl (w.heap.size + 1) O on oc ys rfl (Own.alloc ho _) wr.heap.size 1 (pp : Int) rfl ((Row.new _ _ _).cell 0) (by omega) (by simp; omega) ?_; intro O' oc' w2 ho2 b2; have r2 : Row w2 w.heap.size 26 #[.slice A n c] := (hr.alloc _).below b2 (Nat.lt_succ_self _); have bel2 : Below w.heap.size w w2 := (hb.alloc (Nat.le_of_lt hsz) _).trans (b2.mono (Nat.le_succ _)); have cA2 : w2.cell? ⟨w.heap.size, 0, none⟩ = some (.slice A n c) := r2.cell 0)
      have s2 : Seg w2 w2.heap.size A n sg := (h.below bel2).more bel2.size
      have s2' : Seg w2 w2.heap.size (some ⟨b, off, none⟩) m t := (h'.below bel2).more bel2.size
      clear ho b2 hr hb
      refine (specEnd A _ n c m c' sg t (pp : Int) _ s2 s2' hn hm HS0.out (by omega) (by omega)).mono ?_
      rintro e w3 ⟨he, bb⟩
      rw [Int.toNat_natCast, HE.out] at he
      subst he
      have S : HeadArgs w A n c m sg t L (.slice O' (on + 1) oc') (.int .i64 ((pp : Int) + jj)) (.int .i64 (q : Int)) w3 :=
        ⟨q, pp + jj, O', on + 1, oc', _, rfl, by simp, rfl, Own.next ho2 bb, hc', by omega, r2.next bb, next_trans bel2 bb⟩
      have HSS := Lib.hid S
      clear S bb ho2 r2 bel2 cA2 s2 s2' hc'
      go_wp2
      go_roundw
      case rel => first | exact HSS.out | simpa using HSS.out
      case measure => simp [intOf]

theorem args_no {w w' : World} {sg t : List Int} {x : Int} {A : Option Addr} {c : Nat} (h : thereB sg t x = false) (ho : Own w' w.heap.size (.slice A 0 c) []) (hb : Below w.heap.size w w') : AnsList w (argsI sg t x) (.returned (.slice A 0 c)) w' :=
  ⟨A, 0, c, rfl, by unfold argsI; rw [if_neg (by rw [h]; simp)]; exact ho, hb⟩

theorem Cur.keep {w w' : World} {p : Nat} {A : Option Addr} {n c : Nat} {A' : Option Addr} {m c' : Nat} {sg t : List Int} {k : Nat} (h : Cur w p A n c A' m c' sg t k) (hb : Below (p + 1) w w') : Cur w' p A n c A' m c' sg t k :=
  ⟨h.row.below hb (Nat.lt_succ_self _), h.s.below (hb.mono (Nat.le_succ _)), h.s'.below (hb.mono (Nat.le_succ _)), h.le, h.hn, h.hm, h.ars⟩
theorem Cur.alloc {w : World} {p : Nat} {A : Option Addr} {n c : Nat} {A' : Option Addr} {m c' : Nat} {sg t : List Int} {k : Nat} (h : Cur w p A n c A' m c' sg t k) (o : Obj) : Cur (w.alloc o) p A n c A' m c' sg t k :=
  h.below ((Below.refl _ _).alloc (Nat.le_refl _) _)

def HeadImpl (w : World) (p : Nat) (A : Option Addr) (n c : Nat) (A' : Option Addr) (m c' : Nat) (sg t : List Int) (T : Nat) (L : List Int) (out i : Value) (wr : World) : Prop :=
  ∃ (k q pp : Nat) (O : Option Addr) (on oc : Nat) (ys : List Int), i = .int .i64 k ∧ k + q = T ∧ out = .slice O on oc ∧ Own wr (p + 1) (.slice O on oc) ys ∧ Coll sg t m L ys q pp ∧ Cur wr p A n c A' m c' sg t pp ∧ Below w.heap.size w wr

theorem argsI_len {sg t : List Int} {x : Int} : (argsI sg t x).length ≤ 1048576 := by
  unfold argsI
  split
  · rename_i h
    have := argsL_len (t := t) (sig_arities (termOk_parts (there_parts h).1).1).1 x.toNat
    omega
  · simp
end Go.Proofs.Ytobifgobipcmdaa.args
end

section
/-
  append OF A WHOLE SLICE, AND WHERE THE NEW ONE LIES. Conditions: lengths up to 2097152. By an AI agent.
-/
namespace Go.Proofs.Ytobifgobipcmdaa.appAt
open Go.RowKit Go.Proofs.Ytobifgobipcmdaa.base Go.Proofs.Ytobifgobipcmdaa.ints Go.Proofs.Ytobifgobipcmdaa.marks Go.Proofs.Ytobifgobipcmdaa.app
set_option maxRecDepth 100000

theorem blk_own (A : Option Addr) (n c : Nat) : (Value.slice A n c).ownBlock = blk A := by cases A <;> rfl

theorem appAllAt {w : World} {ops : Array Oper} {rest : List Oper} {o : Oper} {a : Act} {Q : Exit → Act → World → Prop} (hgd : o.guard = none) (s x : Operand)
    (ho : o.op = .call { callee := .builtin .append, args := #[s, x], argTypes := #[24, 24] })
    (base : Nat) (A : Option Addr) (n c : Nat) (xs : List Int) (hs : a.eval s = .slice A n c) (hown : Own w base (.slice A n c) xs)
    (S : Option Addr) (m c2 B : Nat) (ys : List Int) (hx : a.eval x = .slice S m c2) (hseg : Seg w B S m ys) (hm1 : 1 ≤ m) (hn : n ≤ 2097152) (hm : m ≤ 2097152) (hbase : base ≤ w.heap.size)
    (h : ∀ A' c' w', Own w' base (.slice A' (n + m) c') (xs ++ ys) → w.grownBy w' (blk A) → (blk A' = blk A ∨ blk A' = some w.heap.size) → wpList Try.prog ops Q rest (a.put o.dst (.slice A' (n + m) c')) w') : wpList Try.prog ops Q (o :: rest) a w := by
  obtain ⟨i0, hi, hz0, hz1, hz2⟩ := info_parts info_i64
  have hl : xs.length = n := by
    obtain ⟨A', c', e⟩ := hown.slice
    injection e with _ e _
    exact e.symm
  have ho1 : w.ownsRow base 2 1 (.slice A n c) n (xs.map (Value.int .i64)) := by rw [← hl]; rw [← hl] at hown; exact hown
  obtain ⟨b, off, e, _, hc⟩ := hseg.2 (by omega)
  subst e
  refine wpList_append_own_at w hgd s x 24 ho base 2 i0 (.int .i64 0) 1 8 Try.underlying24 hi hz0 hz1 hz2 rfl (by decide) (.slice A n c) n (xs.map (Value.int .i64)) hs ho1
    ⟨b, off, none⟩ m c2 (ys.map (Value.int .i64)) hx (by simp [hseg.1]) (fun j u hj => ?_) (fun u hu => ?_) (by unfold maxLen; omega) (by omega) hbase ?_
  · have hjl : j < m := by
      have := (List.getElem?_eq_some_iff.1 hj).1
      simp at this
      have := hseg.1
      omega
    have hcj := hc j hjl
    have e2 : (⟨b, off, none⟩ : Addr).add j = ⟨b, off + j, none⟩ := by unfold Addr.add; split <;> simp_all
    rw [e2, hcj, ← hj]
    have := hseg.1
    simp [List.getD, show j < ys.length by omega]
  · obtain ⟨y, _, rfl⟩ := List.mem_map.1 hu
    rfl
  · intro v' w' hown' hg _ hat
    rw [← List.map_append] at hown'
    obtain ⟨A', c', rfl, ho'⟩ := own_of hown'
    rw [blk_own] at hg
    rw [blk_own, blk_own] at hat
    exact h A' c' w' ho' hg hat
theorem Own.kept {w w' : World} {base : Nat} {A : Option Addr} {n c : Nat} {xs : List Int} {r : Option Nat} (h : Own w base (.slice A n c) xs) (hg : w.grownBy w' r) (hne : blk A = none ∨ blk A ≠ r) : Own w' base (.slice A n c) xs :=
  World.ownsRow.kept h hg (by rw [blk_own]; exact hne)
end Go.Proofs.Ytobifgobipcmdaa.appAt
end

section
/-
  CONTRACTS: spec.l1Copy, slices.Clone at []int64; a part of a slice. Conditions: the slices read as lists ('Seg'), at most 1048576 numbers. By an AI agent.
-/
namespace Go.Proofs.Ytobifgobipcmdaa.sub
open Go.RowKit Go.Proofs.Ytobifgobipcmdaa.base Go.Proofs.Ytobifgobipcmdaa.ints Go.Proofs.Ytobifgobipcmdaa.marks Go.Proofs.Ytobifgobipcmdaa.app Go.Proofs.Ytobifgobipcmdaa.sym

theorem Seg.cut {w : World} {B b off m a j : Nat} {t : List Int} (h : Seg w B (some ⟨b, off, none⟩) m t) (hj : a + j ≤ m) : Seg w B (some ⟨b, off + a, none⟩) j ((t.drop a).take j) := by
  refine ⟨by have := h.1; simp; omega, fun hn => ?_⟩
  obtain ⟨b', off', e, hb, hc⟩ := h.2 (by omega)
  injection e with e
  injection e with e1 e2
  subst e1 e2
  refine ⟨_, _, rfl, hb, fun q hq => ?_⟩
  rw [Nat.add_assoc, hc (a + q) (by omega)]
  simp [List.getD, List.getElem?_take, hq]

set_option maxHeartbeats 400000 in
theorem copyInts (S : Option Addr) (m c : Nat) (ys : List Int) (w : World) (h : Seg w w.heap.size S m ys) (hnone : S = none → c = 0) (hm : m ≤ 1048576) :
    Calls Try.prog 77 #[.slice S m c] w (AnsList w ys) := by
  have ho := own_empty w w.heap.size (Nat.le_refl _)
  have bb : Below w.heap.size w (w.alloc (.cells #[] 2)) := (Below.refl _ _).alloc (Nat.le_refl _) _
  have hs := h.alloc (Nat.le_refl _) (.cells #[] 2)
  have HN := Lib.hid hnone
  clear hnone h
  go_enter Try.func77, Try.ntmps77
  go_wp2_with (at_builtin; refine appAll rfl _ _ rfl w.heap.size (some ⟨w.heap.size, 0, none⟩) 0 0 [] rfl ho S m c w.heap.size ys rfl hs HN.out (by omega) (by omega) (by simp) ?_; intro A' c' w' ho' b')
  simp only [Nat.zero_add, List.nil_append] at ho'
  have F : AnsList w ys (.returned (.slice A' m c')) w' := ⟨A', m, c', rfl, ho', bb.trans b'⟩
  have HF := Lib.hid F
  clear F ho' b' bb hs ho
  go_wp2
  go_ret
  exact HF.out

set_option maxHeartbeats 400000 in
theorem cloneInts (b off m c : Nat) (ys : List Int) (w : World) (h : Seg w w.heap.size (some ⟨b, off, none⟩) m ys) (hm : m ≤ 1048576) :
    Calls Try.prog 55 #[.slice (some ⟨b, off, none⟩) m c] w (AnsList w ys) := by
  have ho := own_empty w w.heap.size (Nat.le_refl _)
  have bb : Below w.heap.size w (w.alloc (.cells #[] 2)) := (Below.refl _ _).alloc (Nat.le_refl _) _
  have hs := h.alloc (Nat.le_refl _) (.cells #[] 2)
  clear h
  have hnil : ∀ (w : World) (a : Option Addr) (n c n' c' : Nat), (binOp .eql 24 (.slice a n c) (.slice none n' c')).run Try.prog w = .ok (.bool a.isNone) w := fun w a n c n' c' => Lib.run_eql_slice_nil w _ _ a n c n' c' Try.underlying24
  go_enter Try.func55, Try.ntmps55
  go_wp2_with (at_builtin; refine appAll rfl _ _ rfl w.heap.size (some ⟨w.heap.size, 0, none⟩) 0 0 [] rfl ho (some ⟨b, off, none⟩) m c w.heap.size ys rfl hs (fun e => by cases e) (by omega) (by omega) (by simp) ?_; intro A' c' w' ho' b')
  simp only [Nat.zero_add, List.nil_append] at ho'
  have F : AnsList w ys (.returned (.slice A' m c')) w' := ⟨A', m, c', rfl, ho', bb.trans b'⟩
  have HF := Lib.hid F
  clear F ho' b' bb hs ho hnil
  go_wp2
  go_ret
  exact HF.out

end Go.Proofs.Ytobifgobipcmdaa.sub
end

section
/-
  CONTRACTS: spec.l1Copy, slices.Clone at []int64, spec.l1Sub, spec.SubAt, impl.SubAt. Conditions: the slices read as lists ('Seg'), at most 1048576 numbers, a length is at most the capacity. By an AI agent.
-/
namespace Go.Proofs.Ytobifgobipcmdaa.sub
open Go.RowKit Go.Proofs.Ytobifgobipcmdaa.base Go.Proofs.Ytobifgobipcmdaa.ints Go.Proofs.Ytobifgobipcmdaa.sig Go.Proofs.Ytobifgobipcmdaa.term Go.Proofs.Ytobifgobipcmdaa.arity Go.Proofs.Ytobifgobipcmdaa.endOf Go.Proofs.Ytobifgobipcmdaa.cursor Go.Proofs.Ytobifgobipcmdaa.termOk Go.Proofs.Ytobifgobipcmdaa.endAt Go.Proofs.Ytobifgobipcmdaa.marks Go.Proofs.Ytobifgobipcmdaa.app Go.Proofs.Ytobifgobipcmdaa.sym

def subL (sg t : List Int) (a : Nat) : List Int := (t.drop a).take (len1 sg t a)
def subI (sg t : List Int) (x : Int) : List Int := if thereB sg t x = true then subL sg t x.toNat else []

set_option maxHeartbeats 1000000 in
theorem l1Sub (A A' : Option Addr) (n c m c' : Nat) (sg t : List Int) (a j : Nat) (w : World) (h : Seg w w.heap.size A n sg) (h' : Seg w w.heap.size A' m t) (hn : n ≤ 1048576) (hm : m ≤ 1048576) (hc' : m ≤ c') (hc2 : c' ≤ 9223372036854775807)
    (hs : Arities sg) (ha : a < m) (hj : scan sg 1 (t.drop a) = some j) (hj1 : 1 ≤ j) (hj2 : a + j ≤ m) :
    Calls Try.prog 61 #[.agg #[.slice A n c], .slice A' m c', .int .i64 (a : Int)] w (AnsList w (subL sg t a)) := by
  obtain ⟨b, off, x, rfl, -, -, -⟩ := h'.spot ha
  obtain ⟨W, hW⟩ : ∃ W, W = w.alloc (.cells #[.slice A n c] 26) := ⟨_, rfl⟩
  have bel : Below w.heap.size w W := by rw [hW]; exact (Below.refl _ _).alloc (Nat.le_refl _) _
  have zW : w.heap.size < W.heap.size := by rw [hW]; simp
  replace h := (h.below bel).more bel.size
  replace h' := (h'.below bel).more bel.size
  have HW := Lib.hid hW
  clear hW
  have L := Lib.hid (specEnd A _ n c m c' sg t (a : Int) W h h' hn hm hs (by omega) (by omega))
  have HE := Lib.hid (endI_some hj)
  have HL := Lib.hid (len1_eq hj)
  have hcut := Seg.cut (a := a) (j := j) h' hj2
  clear h h' hj hs
  have i0 : (0 : Int) ≤ (a : Int) := by omega
  have i1 : (a : Int) ≤ (a : Int) + (j : Int) := by omega
  have i2 : (a : Int) + (j : Int) ≤ (c' : Int) := by omega
  have i3 : ¬ c' = a := by omega
  go_enter Try.func61, Try.ntmps61
  go_wp2_with fail
  rw [← HW.out]
  refine L.out.mono ?_
  rintro e w1 ⟨he, bb⟩
  rw [Int.toNat_natCast, HE.out] at he
  subst he
  replace hcut := hcut.next bb
  replace bel := next_trans bel bb
  clear bb L
  go_wp2_with fail
  refine (copyInts _ j _ _ w1 hcut (fun e => by cases e) (by omega)).mono ?_
  rintro e w2 ⟨A2, n2, c2, rfl, o2, bb⟩
  have F : AnsList w (subL sg t a) (.returned (.slice A2 n2 c2)) w2 := ⟨A2, n2, c2, rfl, by unfold subL; rw [HL.out]; exact Own.lower o2 bel.size, next_trans bel bb⟩
  have HF := Lib.hid F
  clear F o2 bb bel hcut
  go_wp2
  go_ret
  exact HF.out

theorem sub_no {w w' : World} {sg t : List Int} {x : Int} {A : Option Addr} {c : Nat} (h : thereB sg t x = false) (ho : Own w' w.heap.size (.slice A 0 c) []) (hb : Below w.heap.size w w') : AnsList w (subI sg t x) (.returned (.slice A 0 c)) w' :=
  ⟨A, 0, c, rfl, by unfold subI; rw [if_neg (by rw [h]; simp)]; exact ho, hb⟩

set_option maxHeartbeats 1000000 in
theorem specSubAt (A A' : Option Addr) (n c m c' : Nat) (sg t : List Int) (x : Int) (w : World) (h : Seg w w.heap.size A n sg) (h' : Seg w w.heap.size A' m t) (hn : n ≤ 1048576) (hm : m ≤ 1048576) (_ : -9223372036854775808 ≤ x) (_ : x ≤ 9223372036854775807) (hc' : m ≤ c') (hc2 : c' ≤ 9223372036854775807) :
    Calls Try.prog 22 #[.agg #[.slice A n c], .slice A' m c', .int .i64 x] w (AnsList w (subI sg t x)) := by
  obtain ⟨W, hW⟩ : ∃ W, W = w.alloc (.cells #[.slice A n c] 26) := ⟨_, rfl⟩
  have rA : Row W w.heap.size 26 #[.slice A n c] := by rw [hW]; exact Row.new _ _ _
  have bel : Below w.heap.size w W := by rw [hW]; exact (Below.refl _ _).alloc (Nat.le_refl _) _
  replace h := (h.below bel).more bel.size
  replace h' := (h'.below bel).more bel.size
  have HW := Lib.hid hW
  have HL := Lib.hid h'.1
  clear hW
  have L := Lib.hid (specTermOk A A' n c m c' sg t W h h' hn hm)
  cases hok : termOkB sg t with
  | false =>
    have HS := Lib.hid hok
    clear hok h h'
    go_enter Try.func22, Try.ntmps22
    go_wp2_with fail
    rw [← HW.out]
    refine L.out.mono ?_
    rintro e w1 ⟨he, bb⟩
    rw [HS.out] at he
    subst he
    replace bel := next_trans bel bb
    have F := Lib.hid (sub_no (x := x) (there_no (.inl HS.out)) (own_empty w1 w.heap.size bel.size) (bel.alloc bel.size _))
    clear bb bel rA
    go_wp2
    go_ret
    exact F.out
  | true =>
    have HS := Lib.hid hok
    clear hok
    by_cases hin : 0 ≤ x ∧ x < (m : Int)
    · have hd : decide (0 ≤ x ∧ x < (m : Int)) = true := by simp [hin]
      have HD := Lib.hid hd
      clear hd
      have hars := (sig_arities (termOk_parts HS.out).1).1
      have HT := Lib.hid (there_yes HS.out hin.1 (by rw [HL.out]; exact hin.2))
      obtain ⟨a, rfl⟩ := Int.eq_ofNat_of_zero_le hin.1
      have ham : a < m := by omega
      obtain ⟨j, hj, hj1, hj2⟩ := scan_at (termOk_parts HS.out).2.2 (a := a) (by rw [HL.out]; exact ham)
      have HJ := Lib.hid hj
      replace hj2 : a + j ≤ m := by rw [HL.out] at hj2; exact hj2
      clear hj
      go_enter Try.func22, Try.ntmps22
      go_wp2_with fail
      rw [← HW.out]
      refine L.out.mono ?_
      rintro e w1 ⟨he, bb⟩
      rw [HS.out] at he
      subst he
      replace h := h.next bb
      replace h' := h'.next bb
      replace rA := rA.next bb
      replace bel := next_trans bel bb
      have cA : w1.cell? ⟨w.heap.size, 0, none⟩ = some (.slice A n c) := rA.cell 0
      clear bb
      go_wp2_with fail
      refine (there _ _ _ (a : Int) true _ hm HD.out).mono ?_
      rintro e w2 ⟨rfl, rfl⟩
      go_wp2_with fail
      refine (l1Sub A A' n c m c' sg t a j _ h h' hn hm hc' hc2 hars ham HJ.out hj1 hj2).mono ?_
      rintro e w2 ⟨A2, n2, c2, rfl, o2, bb⟩
      have F : AnsList w (subI sg t (a : Int)) (.returned (.slice A2 n2 c2)) w2 := ⟨A2, n2, c2, rfl, by unfold subI; rw [if_pos HT.out, Int.toNat_natCast]; exact Own.lower o2 bel.size, next_trans bel bb⟩
      have HF := Lib.hid F
      clear F o2 bb bel rA cA h h' hars HT
      go_wp2
      go_ret
      exact HF.out
    · have hd : decide (0 ≤ x ∧ x < (m : Int)) = false := by simp; omega
      have HD := Lib.hid hd
      have HT := Lib.hid (there_no (sg := sg) (t := t) (x := x) (by rw [HL.out]; omega))
      clear hd hin
      go_enter Try.func22, Try.ntmps22
      go_wp2_with fail
      rw [← HW.out]
      refine L.out.mono ?_
      rintro e w1 ⟨he, bb⟩
      rw [HS.out] at he
      subst he
      replace bel := next_trans bel bb
      have F := Lib.hid (sub_no HT.out (own_empty w1 w.heap.size bel.size) (bel.alloc bel.size _))
      clear bb bel rA h h'
      go_wp2_with fail
      refine (there _ _ _ x false _ hm HD.out).mono ?_
      rintro e w2 ⟨rfl, rfl⟩
      go_wp2
      go_ret
      exact F.out

set_option maxHeartbeats 1000000 in
theorem implSubAt (A A' : Option Addr) (n c m c' : Nat) (sg t : List Int) (x : Int) (w : World) (h : Seg w w.heap.size A n sg) (h' : Seg w w.heap.size A' m t) (hn : n ≤ 1048576) (hm : m ≤ 1048576) (_ : -9223372036854775808 ≤ x) (_ : x ≤ 9223372036854775807) (hc' : m ≤ c') (hc2 : c' ≤ 9223372036854775807) :
    Calls Try.prog 17 #[.agg #[.slice A n c], .slice A' m c', .int .i64 x] w (AnsList w (subI sg t x)) := by
  obtain ⟨W, hW⟩ : ∃ W, W = w.alloc (.cells #[.slice A n c] 26) := ⟨_, rfl⟩
  have bel : Below w.heap.size w W := by rw [hW]; exact (Below.refl _ _).alloc (Nat.le_refl _) _
  have zW : w.heap.size < W.heap.size := by rw [hW]; simp
  replace h := (h.below bel).more bel.size
  replace h' := (h'.below bel).more bel.size
  have HW := Lib.hid hW
  have HL := Lib.hid h'.1
  clear hW
  have L := Lib.hid (cursorAt A A' n c m c' sg t x W h h' hn hm)
  clear h
  go_enter Try.func17, Try.ntmps17
  go_wp2_with fail
  rw [← HW.out]
  refine L.out.mono ?_
  rintro e w1 ⟨bb, ⟨ht, p, rfl, hp, hc⟩ | ⟨ht, rfl⟩⟩
  · replace h' := h'.next bb
    replace bel := next_trans bel bb
    have HT := Lib.hid ht
    clear ht bb
    obtain ⟨hok, h0, h1⟩ := there_parts HT.out
    have ht := (termOk_parts hok).2.2
    obtain ⟨a, rfl⟩ := Int.eq_ofNat_of_zero_le h0
    rw [Int.toNat_natCast] at hc
    have ham : a < m := by rw [HL.out] at h1; omega
    obtain ⟨j, hj, hj1, hj2⟩ := scan_at ht (a := a) (by rw [HL.out]; exact ham)
    rw [HL.out] at hj2
    obtain ⟨b, off, y, rfl, -, -, -⟩ := h'.spot ham
    have hcut := Seg.cut (a := a) (j := j) h' hj2
    have HJ := Lib.hid hj
    have HLen := Lib.hid (len1_eq hj)
    clear hj ht hok h1
    have i0 : (0 : Int) ≤ (a : Int) := by omega
    have i1 : (a : Int) ≤ (a : Int) + (j : Int) := by omega
    have i2 : (a : Int) + (j : Int) ≤ (c' : Int) := by omega
    have i3 : ¬ c' = a := by omega
    have i4 : a + j ≤ c' := by omega
    go_wp2_with fail
    refine (pass p A n c _ m c' sg t a _ hc).mono ?_
    rintro e w2 ⟨hg, ⟨j', hj', rfl, hc2'⟩ | ⟨hj', rfl, -⟩⟩
    · obtain rfl : j = j' := by rw [HJ.out] at hj'; injection hj'
      have cp : w2.cell? ⟨p, 2, none⟩ = some (.int .i64 ((a + j : Nat) : Int)) := hc2'.row.cell 2
      have b2 : Below w.heap.size w w2 := bel.grown hg bel.size (fun k hk => by injection hk; omega)
      have hcut2 : Seg w2 w2.heap.size (some ⟨b, off + a, none⟩) j ((t.drop a).take j) := (Seg.cut (a := a) (j := j) hc2'.s' hj2).more (Nat.le_of_lt hc2'.row.lt)
      clear hc2' hg hcut hc h' bel hj' L
      go_wp2_with fail
      refine (cloneInts b (off + a) j _ _ w2 hcut2 (by omega)).mono ?_
      rintro e w3 ⟨A2, n2, c2, rfl, o2, bb⟩
      have F : AnsList w (subI sg t (a : Int)) (.returned (.slice A2 n2 c2)) w3 := ⟨A2, n2, c2, rfl, by unfold subI; rw [if_pos HT.out, Int.toNat_natCast]; unfold subL; rw [HLen.out]; exact Own.lower o2 b2.size, next_trans b2 bb⟩
      have HF := Lib.hid F
      clear F o2 bb b2 hcut2 cp
      go_wp2
      go_ret
      exact HF.out
    · rw [HJ.out] at hj'
      cases hj'
  · have F := Lib.hid (sub_no ht (Own.nil w1 w.heap.size) (next_trans bel bb))
    clear bb bel ht h' L
    go_wp2
    go_ret
    exact F.out
theorem subI_len {sg t : List Int} {x : Int} {m : Nat} (h : t.length = m) (hm : m ≤ 1048576) : (subI sg t x).length ≤ 1048576 := by
  unfold subI subL
  split
  · simp only [List.length_take, List.length_drop]; omega
  · simp

end Go.Proofs.Ytobifgobipcmdaa.sub
end

section
/-
  CONTRACTS: spec.l1Max, spec.l1Depth, spec.DepthOf, impl's cursor depth, impl.DepthOf. Conditions: the slices read as lists ('Seg'), at most 1048576 numbers. By an AI agent.
-/
namespace Go.Proofs.Ytobifgobipcmdaa.depth
open Go.RowKit Go.Proofs.Ytobifgobipcmdaa.base Go.Proofs.Ytobifgobipcmdaa.ints Go.Proofs.Ytobifgobipcmdaa.sig Go.Proofs.Ytobifgobipcmdaa.term Go.Proofs.Ytobifgobipcmdaa.arity Go.Proofs.Ytobifgobipcmdaa.endOf Go.Proofs.Ytobifgobipcmdaa.cursor Go.Proofs.Ytobifgobipcmdaa.termOk Go.Proofs.Ytobifgobipcmdaa.endAt Go.Proofs.Ytobifgobipcmdaa.marks Go.Proofs.Ytobifgobipcmdaa.app Go.Proofs.Ytobifgobipcmdaa.sym Go.Proofs.Ytobifgobipcmdaa.args

theorem max_any (x y : Int) (w : World) : Calls Try.prog 80 #[.int .i64 x, .int .i64 y] w fun e w' => w = w' ∧ e = .returned (.int .i64 (max x y)) := by
  by_cases h : y < x
  · have e : max x y = x := by omega
    rw [e]
    go_enter Try.func80, Try.ntmps80
    go_wp2
    go_ret
    exact ⟨rfl, rfl⟩
  · have e : max x y = y := by omega
    rw [e]
    go_enter Try.func80, Try.ntmps80
    go_wp2
    go_ret
    exact ⟨rfl, rfl⟩

/-- the greatest of what comes: d so far, q terms from place p on still to come, M in the end -/
def Deep (sg t : List Int) (f : Nat) (M d : Int) (q p : Nat) : Prop := max d (maxOver sg t (dep sg t f) q p) = M ∧ 0 ≤ d ∧ d ≤ f ∧ ∃ i, scan sg q (t.drop p) = some i ∧ i ≤ f ∧ p + i ≤ t.length
theorem Deep.first {sg t : List Int} {f : Nat} {M d : Int} {q p : Nat} (h : Deep sg t f M d (q + 1) p) : ∃ j, scan sg 1 (t.drop p) = some j ∧ j ≤ f ∧ p < t.length ∧ p + j ≤ t.length ∧ Deep sg t f M (max d (dep sg t f p)) q (p + j) := by
  obtain ⟨h1, h2, h3, i, h4, h5, h6⟩ := h
  obtain ⟨j, e1, e2, e3, e4⟩ := scan_first h4
  have hb := dep_bd (sg := sg) (t := t) f p
  refine ⟨j, e1, by omega, by omega, by omega, ?_, by omega, by omega, i - j, e4, by omega, by omega⟩
  simp only [maxOver, len1_eq e1] at h1
  omega
theorem Deep.done {sg t : List Int} {f : Nat} {M d : Int} {p : Nat} (h : Deep sg t f M d 0 p) : d = M := by
  have h1 := h.1
  have h2 := h.2.1
  simp only [maxOver] at h1
  omega
theorem Deep.start {sg t : List Int} {f a j : Nat} (h : scan sg 1 (t.drop a) = some j) (hj : j ≤ f + 1) (hl : a + j ≤ t.length) :
    ¬ ar sg (t.getD a 0) < 0 ∧ Deep sg t f (maxOver sg t (dep sg t f) (ar sg (t.getD a 0)).toNat (a + 1)) 0 (ar sg (t.getD a 0)).toNat (a + 1) := by
  obtain ⟨i, rfl, _, h2, h3⟩ := scan_args h
  have hb := maxOver_bd (sg := sg) (t := t) (g := dep sg t f) (B := f) (by omega) (fun p => dep_bd f p) (ar sg (t.getD a 0)).toNat (a + 1)
  exact ⟨h2, by omega, by omega, by omega, i, h3, by omega, by omega⟩

def AnsDep (w : World) (z : Int) (e : Ending) (w' : World) : Prop := e = .returned (.int .i64 z) ∧ Below w.heap.size w w'

def HeadDep (w : World) (A : Option Addr) (n c : Nat) (O : Option Addr) (T oc : Nat) (ys : List Int) (sg t : List Int) (f : Nat) (M : Int) (deep i : Value) (wr : World) : Prop :=
  ∃ (k q pp : Nat) (d : Int), i = .int .i64 k ∧ deep = .int .i64 d ∧ k + q = T ∧ ys.drop k = places sg t q pp ∧ Deep sg t f M d q pp ∧ Own wr (w.heap.size + 1) (.slice O T oc) ys ∧ Row wr w.heap.size 26 #[.slice A n c] ∧ Below w.heap.size w wr

set_option maxHeartbeats 2000000 in
theorem specDepth (A A' : Option Addr) (n c m c' : Nat) (sg t : List Int) (hn : n ≤ 1048576) (hm : m ≤ 1048576) (hs : Arities sg) : ∀ (f a j : Nat) (x : Int) (w : World), Seg w w.heap.size A n sg → Seg w w.heap.size A' m t →
    x = (a : Int) → a < m → scan sg 1 (t.drop a) = some j → a + j ≤ m → j ≤ f → f ≤ 1048576 →
    Calls Try.prog 67 #[.agg #[.slice A n c], .slice A' m c', .int .i64 x] w (AnsDep w (dep sg t f a)) := by
  intro f
  induction f with
  | zero =>
    intro a j x w _ _ _ _ hj _ hf _
    have := scan_pos (q := 0) hj
    omega
  | succ f ih =>
    intro a j x w h h' hx ha hj hl hf hff
    subst hx
    have IH := Lib.hid ih
    clear ih
    have HL := Lib.hid h'.1
    obtain ⟨hneg, hdeep⟩ := Deep.start (f := f) hj hf (by rw [HL.out]; exact hl)
    have hzb := ar_bd hs (t.getD a 0)
    have e1 : dep sg t (f + 1) a = maxOver sg t (dep sg t f) (ar sg (t.getD a 0)).toNat (a + 1) + 1 := rfl
    have e2 : argsL sg t a = places sg t (ar sg (t.getD a 0)).toNat (a + 1) := rfl
    obtain ⟨M, hM⟩ : ∃ M, maxOver sg t (dep sg t f) (ar sg (t.getD a 0)).toNat (a + 1) = M := ⟨_, rfl⟩
    rw [hM] at hdeep e1
    obtain ⟨T, hT⟩ : ∃ T, (ar sg (t.getD a 0)).toNat = T := ⟨_, rfl⟩
    rw [hT] at hdeep e2
    obtain ⟨ys, hys⟩ : ∃ ys, argsL sg t a = ys := ⟨_, rfl⟩
    have hylen : ys.length = T := by rw [← hys, e2, places_len]
    have hT3 : T ≤ 3 := by omega
    have hpl : ys.drop 0 = places sg t T (a + 1) := by rw [← hys, e2]; rfl
    obtain ⟨W, hW⟩ : ∃ W, W = w.alloc (.cells #[.slice A n c] 26) := ⟨_, rfl⟩
    have rA : Row W w.heap.size 26 #[.slice A n c] := by rw [hW]; exact Row.new _ _ _
    have bel : Below w.heap.size w W := by rw [hW]; exact (Below.refl _ _).alloc (Nat.le_refl _) _
    have zW : W.heap.size = w.heap.size + 1 := by rw [hW]; simp
    have cA : W.cell? ⟨w.heap.size, 0, none⟩ = some (.slice A n c) := rA.cell 0
    have L := Lib.hid (l1Args A A' n c m c' sg t a j W ((h.below bel).more bel.size) ((h'.below bel).more bel.size) hn hm hs ha hj hl)
    rw [hys] at L
    have HW := Lib.hid hW
    have HE := Lib.hid e1
    clear hW hM hT hys e1 e2 hj hs hneg
    go_enter Try.func67, Try.ntmps67
    go_wp2_with fail
    rw [← HW.out]
    refine L.out.mono ?_
    rintro e w1 ⟨O, on, oc, rfl, ho, bb⟩
    have hon := Own.len ho
    rw [hylen] at hon
    subst hon
    rw [zW] at ho
    have S0 : HeadDep w A n c O on oc ys sg t f M (.int .i64 0) (.int .i64 0) w1 := ⟨0, on, a + 1, 0, rfl, rfl, by omega, hpl, hdeep, ho, rA.next bb, next_trans bel bb⟩
    have HS := Lib.hid S0
    have HYL := Lib.hid hylen
    clear S0 ho bb bel rA cA hpl hdeep L zW hylen
    go_wp2_with fail
    go_loopw [7, 9] (fun deep i wr => HeadDep w A n c O on oc ys sg t f M deep i wr) (fun _ i _ => on - (intOf i).toNat)
    case atStart => exact HS.out
    case round =>
      obtain ⟨k, q, pp, d, rfl, rfl, hkq, hpl, hdp, ho, hr, hb⟩ := hrel
      clear HS
      have hd0 := hdp.2.1
      have hd1 := hdp.2.2.1
      cases q with
      | zero =>
        have hk : k = on := by omega
        subst hk
        have F : AnsDep w (dep sg t (f + 1) a) (.returned (.int .i64 (d + 1))) wr := ⟨by rw [HE.out, ← hdp.done], hb⟩
        have HF := Lib.hid F
        clear F hdp ho hr hb h h' hpl hkq
        go_wp2
        go_ret
        exact HF.out
      | succ q =>
        obtain ⟨jj, hj, hjf, hplt, hpj, hdp'⟩ := hdp.first
        have hkT : k < on := by omega
        have hyk : ys.getD k 0 = (pp : Int) := by
          have : (ys.drop k)[0]? = (places sg t (q + 1) pp)[0]? := by rw [hpl]
          simp [places] at this
          simp [List.getD, this]
        have hpl' : ys.drop (k + 1) = places sg t q (pp + jj) := by
          have : (ys.drop k).drop 1 = (places sg t (q + 1) pp).drop 1 := by rw [hpl]
          rw [List.drop_drop] at this
          simpa [places, len1_eq hj] using this
        have so := Own.seg ho
        obtain ⟨bo, oo, y, rfl, hbo, hy, ey⟩ := so.spot hkT
        have hyy : y = (pp : Int) := by rw [← ey.out]; exact hyk
        subst hyy
        have cA : wr.cell? ⟨w.heap.size, 0, none⟩ = some (.slice A n c) := hr.cell 0
        have s : Seg wr.drew wr.heap.size A n sg := ((h.below hb).more hb.size).drew
        have s' : Seg wr.drew wr.heap.size A' m t := ((h'.below hb).more hb.size).drew
        have HJ := Lib.hid hj
        have HKQ := Lib.hid hkq
        have i0 : (0 : Int) ≤ (k : Int) := by omega
        have i1 : (k : Int) < (on : Int) := by omega
        have hlen := HL.out
        have hplt' : pp < m := by rw [HL.out] at hplt; exact hplt
        have hpj' : pp + jj ≤ m := by rw [HL.out] at hpj; exact hpj
        obtain ⟨z, hz⟩ : ∃ z, dep sg t f pp = z := ⟨_, rfl⟩
        have hzb := dep_bd (sg := sg) (t := t) f pp
        rw [hz] at hdp' hzb
        have HZ := Lib.hid hz
        replace ho := Own.drew ho
        replace hr := hr.drew
        replace hb := hb.drew
        have HDP := Lib.hid hdp'
        have HPL := Lib.hid hpl'
        clear hdp hdp' hpl hpl' hyk ey so hj hkq hz hlen hplt hpj
        go_wp2_with fail
        go_region_held3 (fun w' => w'.cell? ⟨w.heap.size, 0, none⟩ = some (.slice A n c) ∧ w'.cell? ⟨bo, oo + k, none⟩ = some (.int .i64 (pp : Int)))
          (go_keep)
          (first
            | (go_at_call 67; refine (IH.out pp jj _ _ s s' rfl hplt' HJ.out hpj' hjf (by omega)).mono ?_; rintro e w2 ⟨he, bb⟩; rw [HZ.out] at he; subst he; replace hr := hr.next bb; replace ho := Own.next ho bb; replace hb := next_trans hb bb; replace cA : w2.cell? ⟨w.heap.size, 0, none⟩ = some (.slice A n c) := hr.cell 0; replace hy : w2.cell? ⟨bo, oo + k, none⟩ = some (.int .i64 (pp : Int)) := (bb.cell (p := ⟨bo, oo + k, none⟩) hbo).trans hy)
            | (go_at_call 80; refine (max_any _ _ _).mono ?_; rintro e w3 ⟨rfl, rfl⟩))
        have S : HeadDep w A n c (some ⟨bo, oo, none⟩) on oc ys sg t f M (.int .i64 (max d z)) (.int .i64 ((k : Int) + 1)) w2 :=
          ⟨k + 1, q, pp + jj, max d z, by simp, rfl, by have := HKQ.out; omega, HPL.out, HDP.out, ho, hr, hb⟩
        have HSS := Lib.hid S
        clear S ho hr hb bb cA hy s s'
        generalize max d z = mx at *
        go_wp2
        go_roundw
        case rel => exact HSS.out
        case measure => simp [intOf]; omega

/-- impl's depth at place k: the depth, and the cursor behind it -/
def AnsCDep (w : World) (p : Nat) (A : Option Addr) (n c : Nat) (A' : Option Addr) (m c' : Nat) (sg t : List Int) (k : Nat) (z : Int) (e : Ending) (w' : World) : Prop :=
  e = .returned (.int .i64 z) ∧ w.grownBy w' (some p) ∧ Cur w' p A n c A' m c' sg t k

def HeadCDep (w : World) (p : Nat) (A : Option Addr) (n c : Nat) (A' : Option Addr) (m c' : Nat) (sg t : List Int) (T f last : Nat) (M : Int) (deep i : Value) (wr : World) : Prop :=
  ∃ (k q pp r : Nat) (d : Int), i = .int .i64 k ∧ deep = .int .i64 d ∧ k + q = T ∧ Deep sg t f M d q pp ∧ scan sg q (t.drop pp) = some r ∧ pp + r = last ∧ Cur wr p A n c A' m c' sg t pp ∧ w.grownBy wr (some p)

/-! ### DepthOf -/
def depthI (sg t : List Int) : Int := if termOkB sg t = true then dep sg t t.length 0 else 0
def AnsDepthOf (w : World) (sg t : List Int) (e : Ending) (w' : World) : Prop := e = .returned (.int .i64 (depthI sg t)) ∧ Below w.heap.size w w'
theorem depth_no {w w' : World} {sg t : List Int} (h : termOkB sg t = false) (hb : Below w.heap.size w w') : AnsDepthOf w sg t (.returned (.int .i64 0)) w' := ⟨by unfold depthI; rw [if_neg (by rw [h]; simp)], hb⟩
theorem depth_yes {w w' : World} {sg t : List Int} {m : Nat} (hm : t.length = m) (h : termOkB sg t = true) (hb : Below w.heap.size w w') : AnsDepthOf w sg t (.returned (.int .i64 (dep sg t m 0))) w' := ⟨by unfold depthI; rw [if_pos h, hm], hb⟩
theorem termOk_pos {sg t : List Int} (h : termOkB sg t = true) : 0 < t.length := by
  have := scan_pos (q := 0) (termOk_parts h).2.2
  exact this

set_option maxHeartbeats 1000000 in
theorem specDepthOf (A A' : Option Addr) (n c m c' : Nat) (sg t : List Int) (w : World) (h : Seg w w.heap.size A n sg) (h' : Seg w w.heap.size A' m t) (hn : n ≤ 1048576) (hm : m ≤ 1048576) :
    Calls Try.prog 30 #[.agg #[.slice A n c], .slice A' m c'] w (AnsDepthOf w sg t) := by
  obtain ⟨W, hW⟩ : ∃ W, W = w.alloc (.cells #[.slice A n c] 26) := ⟨_, rfl⟩
  have rA : Row W w.heap.size 26 #[.slice A n c] := by rw [hW]; exact Row.new _ _ _
  have bel : Below w.heap.size w W := by rw [hW]; exact (Below.refl _ _).alloc (Nat.le_refl _) _
  replace h := (h.below bel).more bel.size
  replace h' := (h'.below bel).more bel.size
  have HW := Lib.hid hW
  have HL := Lib.hid h'.1
  clear hW
  have L := Lib.hid (specTermOk A A' n c m c' sg t W h h' hn hm)
  cases hok : termOkB sg t with
  | false =>
    have HS := Lib.hid hok
    clear hok h h'
    go_enter Try.func30, Try.ntmps30
    go_wp2_with fail
    rw [← HW.out]
    refine L.out.mono ?_
    rintro e w1 ⟨he, bb⟩
    rw [HS.out] at he
    subst he
    have F := Lib.hid (depth_no HS.out (next_trans bel bb))
    clear bb bel rA
    go_wp2
    go_ret
    exact F.out
  | true =>
    have HS := Lib.hid hok
    clear hok
    have hars := (sig_arities (termOk_parts HS.out).1).1
    have hpos : 0 < m := by have := termOk_pos HS.out; rw [HL.out] at this; exact this
    have HJ := Lib.hid (show scan sg 1 (t.drop 0) = some m by rw [← HL.out]; exact (termOk_parts HS.out).2.2)
    go_enter Try.func30, Try.ntmps30
    go_wp2_with fail
    rw [← HW.out]
    refine L.out.mono ?_
    rintro e w1 ⟨he, bb⟩
    rw [HS.out] at he
    subst he
    replace h := h.next bb
    replace h' := h'.next bb
    replace rA := rA.next bb
    replace bel := next_trans bel bb
    have cA : w1.cell? ⟨w.heap.size, 0, none⟩ = some (.slice A n c) := rA.cell 0
    clear bb
    go_wp2_with fail
    refine (specDepth A A' n c m c' sg t hn hm hars m 0 m 0 _ h h' rfl hpos HJ.out (by omega) (Nat.le_refl _) hm).mono ?_
    rintro e w2 ⟨rfl, bb⟩
    have F := Lib.hid (depth_yes HL.out HS.out (next_trans bel bb))
    clear bb bel rA cA h h' hars
    generalize dep sg t m 0 = z at *
    go_wp2
    go_ret
    exact F.out

end Go.Proofs.Ytobifgobipcmdaa.depth
end

section
/-
  PLAIN MATHEMATICS for laws.FnTerms: a subterm is a term, consists of its head and its arguments, and its depth is one more than the deepest of theirs. Conditions: none. By an AI agent.
-/
namespace Go.Proofs.Ytobifgobipcmdaa.termMath
open Go.Proofs.Ytobifgobipcmdaa.term Go.Proofs.Ytobifgobipcmdaa.termOk Go.Proofs.Ytobifgobipcmdaa.endAt Go.Proofs.Ytobifgobipcmdaa.sub Go.Proofs.Ytobifgobipcmdaa.args Go.Proofs.Ytobifgobipcmdaa.depth Go.Proofs.Ytobifgobipcmdaa.sig

theorem scan_append {sg : List Int} : ∀ {l r : List Int} {q j : Nat}, scan sg q l = some j → scan sg q (l ++ r) = some j := by
  intro l
  induction l with
  | nil =>
    intro r q j h
    cases q with
    | zero => rw [scan_zero] at h ⊢; exact h
    | succ q => rw [scan_nil] at h; cases h
  | cons x l ih =>
    intro r q j h
    cases q with
    | zero => rw [scan_zero] at h ⊢; exact h
    | succ q =>
      by_cases ha : ar sg x < 0
      · rw [scan_bad ha] at h; cases h
      · rw [scan_step ha] at h
        rw [List.cons_append, scan_step ha]
        obtain ⟨j', hj', rfl⟩ := Option.map_eq_some_iff.1 h
        rw [ih hj']
        rfl
theorem scan_take {sg : List Int} : ∀ {l : List Int} {q j : Nat}, scan sg q l = some j → scan sg q (l.take j) = some j := by
  intro l
  induction l with
  | nil => intro q j h; simpa using h
  | cons x l ih =>
    intro q j h
    cases q with
    | zero => rw [scan_zero] at h ⊢; exact h
    | succ q =>
      by_cases ha : ar sg x < 0
      · rw [scan_bad ha] at h; cases h
      · rw [scan_step ha] at h
        obtain ⟨j', hj', rfl⟩ := Option.map_eq_some_iff.1 h
        rw [List.take_succ_cons, scan_step ha, ih hj']
        rfl
/-- a scan goes by the numbers that it takes alone -/
theorem scan_same {sg l l' : List Int} {q j : Nat} (h : scan sg q l = some j) (e : l.take j = l'.take j) : scan sg q l' = some j := by
  have h1 := scan_take h
  rw [e] at h1
  have h2 := scan_append (r := l'.drop j) h1
  rwa [List.take_append_drop] at h2
theorem take_less {l l' : List Int} {i j : Nat} (e : l.take i = l'.take i) (h : j ≤ i) : l.take j = l'.take j := by
  have : (l.take i).take j = (l'.take i).take j := by rw [e]
  rwa [List.take_take, List.take_take, Nat.min_eq_left h] at this
theorem drop_same {l l' : List Int} {i j : Nat} (e : l.take i = l'.take i) : (l.drop j).take (i - j) = (l'.drop j).take (i - j) := by
  rw [← List.drop_take, ← List.drop_take, e]
theorem get_same {t t' : List Int} {a a' i : Nat} (e : (t.drop a).take i = (t'.drop a').take i) (h : 1 ≤ i) : t.getD a 0 = t'.getD a' 0 := by
  have : ((t.drop a).take i)[0]? = ((t'.drop a').take i)[0]? := by rw [e]
  rw [List.getElem?_take, List.getElem?_take, if_pos (by omega), if_pos (by omega), List.getElem?_drop, List.getElem?_drop] at this
  simpa [List.getD] using congrArg (fun o => o.getD 0) this

theorem max_same {sg t t' : List Int} {f f' : Nat} (hd : ∀ a a' j, (t.drop a).take j = (t'.drop a').take j → scan sg 1 (t.drop a) = some j → j ≤ f → j ≤ f' → dep sg t f a = dep sg t' f' a') :
    ∀ q p p' i, (t.drop p).take i = (t'.drop p').take i → scan sg q (t.drop p) = some i → i ≤ f → i ≤ f' → maxOver sg t (dep sg t f) q p = maxOver sg t' (dep sg t' f') q p'
  | 0, _, _, _, _, _, _, _ => rfl
  | q + 1, p, p', i, e, h, h1, h2 => by
    obtain ⟨j, e1, e2, e3, e4⟩ := scan_first h
    have e5 := scan_same e1 (take_less e e3)
    have hdr : (t.drop (p + j)).take (i - j) = (t'.drop (p' + j)).take (i - j) := by
      have := drop_same (j := j) e
      rwa [List.drop_drop, List.drop_drop] at this
    simp only [maxOver, len1_eq e1, len1_eq e5]
    rw [hd p p' j (take_less e e3) e1 (by omega) (by omega), max_same hd q (p + j) (p' + j) (i - j) hdr e4 (by omega) (by omega)]
/-- the depth goes by the numbers of the term alone -/
theorem dep_same {sg : List Int} : ∀ (f f' : Nat) (t t' : List Int) (a a' j : Nat), (t.drop a).take j = (t'.drop a').take j → scan sg 1 (t.drop a) = some j → j ≤ f → j ≤ f' → dep sg t f a = dep sg t' f' a'
  | 0, _, _, _, _, _, _, _, h, h1, _ => by have := scan_pos (q := 0) h; omega
  | _ + 1, 0, _, _, _, _, _, _, h, _, h2 => by have := scan_pos (q := 0) h; omega
  | f + 1, f' + 1, t, t', a, a', j, e, h, h1, h2 => by
    have hj := scan_pos (q := 0) h
    have hg := get_same e hj
    obtain ⟨i, e1, _, _, e2⟩ := scan_args h
    have hdr : (t.drop (a + 1)).take i = (t'.drop (a' + 1)).take i := by
      have := drop_same (j := 1) e
      rw [List.drop_drop, List.drop_drop] at this
      have e3 : j - 1 = i := by omega
      rwa [e3] at this
    simp only [dep]
    rw [← hg, max_same (fun a a' j e h h1 h2 => dep_same f f' t t' a a' j e h h1 h2) _ (a + 1) (a' + 1) i hdr e2 (by omega) (by omega)]

/-- the subterm at a place of a term -/
theorem sub_term {sg t : List Int} {a : Nat} (hok : termOkB sg t = true) (ha : a < t.length) : termOkB sg (subL sg t a) = true ∧ depthI sg (subL sg t a) = dep sg t (t.length + 1) a ∧ endI sg t a = (a : Int) + ((subL sg t a).length : Int) ∧ 1 ≤ (subL sg t a).length := by
  have hp := termOk_parts hok
  obtain ⟨j, hj, hj1, hj2⟩ := scan_at hp.2.2 ha
  have hl : len1 sg t a = j := len1_eq hj
  have hs : subL sg t a = (t.drop a).take j := by unfold subL; rw [hl]
  have hlen : (subL sg t a).length = j := by rw [hs]; simp; omega
  have hsc : scan sg 1 (subL sg t a) = some (subL sg t a).length := by rw [hlen, hs]; exact scan_take hj
  have hok2 : termOkB sg (subL sg t a) = true := by
    unfold termOkB termB
    rw [hp.1, hsc]
    simp
    omega
  refine ⟨hok2, ?_, by rw [endI_some hj, hlen], by omega⟩
  unfold depthI
  rw [if_pos hok2, hlen]
  refine (dep_same _ _ _ _ _ _ j ?_ ?_ (Nat.le_refl _) (by omega))
  · rw [List.drop_zero, hs, List.take_take, Nat.min_self]
  · rw [List.drop_zero, hsc, hlen]

/-- in the course of the law's loop: q arguments from place pp on are still to come -/
def Loop (sg t : List Int) (a : Nat) (M : Int) (zs args : List Int) (d : Int) (k q pp : Nat) : Prop :=
  args.drop k = places sg t q pp ∧ max d (maxOver sg t (dep sg t t.length) q pp) = M ∧ 0 ≤ d ∧ d ≤ t.length ∧ ∃ i, scan sg q (t.drop pp) = some i ∧ pp + i ≤ t.length ∧ zs ++ (t.drop pp).take i = subL sg t a
theorem Loop.start {sg t : List Int} {a : Nat} (hok : termOkB sg t = true) (ha : a < t.length) :
    Loop sg t a (maxOver sg t (dep sg t t.length) (ar sg (t.getD a 0)).toNat (a + 1)) [t.getD a 0] (argsL sg t a) 0 0 (ar sg (t.getD a 0)).toNat (a + 1) := by
  have hp := termOk_parts hok
  obtain ⟨j, hj, hj1, hj2⟩ := scan_at hp.2.2 ha
  obtain ⟨i, rfl, _, _, hi⟩ := scan_args hj
  have hb := maxOver_bd (sg := sg) (t := t) (g := dep sg t t.length) (B := t.length) (by omega) (fun p => dep_bd t.length p) (ar sg (t.getD a 0)).toNat (a + 1)
  refine ⟨rfl, by omega, by omega, by omega, i, hi, by omega, ?_⟩
  unfold subL
  rw [len1_eq hj, drop_cons ha, List.take_succ_cons]
  rfl
theorem Loop.done {sg t : List Int} {a : Nat} {M : Int} {zs args : List Int} {d : Int} {k pp : Nat} (h : Loop sg t a M zs args d k 0 pp) : zs = subL sg t a ∧ d = M := by
  obtain ⟨_, h2, h3, _, i, h5, _, h7⟩ := h
  rw [scan_zero] at h5
  injection h5 with h5
  subst h5
  simp only [maxOver] at h2
  exact ⟨by simpa using h7, by omega⟩
theorem Loop.step {sg t : List Int} {a : Nat} {M : Int} {zs args : List Int} {d : Int} {k q pp : Nat} (hok : termOkB sg t = true) (h : Loop sg t a M zs args d k (q + 1) pp) :
    pp < t.length ∧ args.getD k 0 = (pp : Int) ∧ ∃ jj, Loop sg t a M (zs ++ subL sg t pp) args (max d (depthI sg (subL sg t pp))) (k + 1) q (pp + jj) := by
  obtain ⟨h1, h2, h3, h4, i, h5, h6, h7⟩ := h
  obtain ⟨j, e1, e2, e3, e4⟩ := scan_first h5
  have hlt : pp < t.length := by omega
  refine ⟨hlt, ?_, j, ?_⟩
  · have : (args.drop k)[0]? = (places sg t (q + 1) pp)[0]? := by rw [h1]
    simp [places] at this
    simp [List.getD, this]
  · have hdep : depthI sg (subL sg t pp) = dep sg t t.length pp := by
      rw [(sub_term hok hlt).2.1]
      exact dep_same _ _ _ _ _ _ j rfl e1 (by omega) (by omega)
    have hb := dep_bd (sg := sg) (t := t) t.length pp
    refine ⟨?_, ?_, by omega, by rw [hdep]; omega, i - j, e4, by omega, ?_⟩
    · have : (args.drop k).drop 1 = (places sg t (q + 1) pp).drop 1 := by rw [h1]
      rw [List.drop_drop] at this
      simpa [places, len1_eq e1] using this
    · rw [hdep]
      simp only [maxOver, len1_eq e1] at h2
      omega
    · rw [← h7, List.append_assoc]
      congr 1
      unfold subL
      rw [len1_eq e1, ← List.drop_drop, ← List.drop_take]
      have := List.take_append_drop j ((t.drop pp).take i)
      rwa [List.take_take, Nat.min_eq_left e3] at this
theorem depth_head {sg t : List Int} {a : Nat} (hok : termOkB sg t = true) (ha : a < t.length) : depthI sg (subL sg t a) = maxOver sg t (dep sg t t.length) (ar sg (t.getD a 0)).toNat (a + 1) + 1 := by
  rw [(sub_term hok ha).2.1]
  rfl
end Go.Proofs.Ytobifgobipcmdaa.termMath
end

section
/-
  PLAIN MATHEMATICS for chapter 3: ways from the root down to a position, what lies above it, paths, the deepest position, and what a replaced subterm does to them. Conditions: none. By an AI agent.
-/
namespace Go.Proofs.Ytobifgobipcmdaa.posMath
open Go.Proofs.Ytobifgobipcmdaa.sig Go.Proofs.Ytobifgobipcmdaa.term Go.Proofs.Ytobifgobipcmdaa.termOk Go.Proofs.Ytobifgobipcmdaa.termFacts Go.Proofs.Ytobifgobipcmdaa.endAt Go.Proofs.Ytobifgobipcmdaa.sub Go.Proofs.Ytobifgobipcmdaa.args Go.Proofs.Ytobifgobipcmdaa.depth Go.Proofs.Ytobifgobipcmdaa.termMath

theorem scan_cat {sg : List Int} : ∀ {l l' : List Int} {q q' j : Nat}, scan sg q l = some l.length → scan sg q' l' = some j → scan sg (q + q') (l ++ l') = some (l.length + j)
  | [], l', q, q', j, h, h' => by
    cases q with
    | zero => simpa using h'
    | succ q => rw [scan_nil] at h; cases h
  | x :: r, l', q, q', j, h, h' => by
    cases q with
    | zero => rw [scan_zero] at h; simp at h
    | succ q =>
      by_cases ha : ar sg x < 0
      · rw [scan_bad ha] at h; cases h
      · rw [scan_step ha] at h
        obtain ⟨i, hi, e⟩ := Option.map_eq_some_iff.1 h
        have e2 : i = r.length := by simp at e; omega
        subst e2
        have h2 := scan_cat hi h'
        rw [show q + 1 + q' = (q + q') + 1 by omega, List.cons_append, scan_step ha, show q + q' + (ar sg x).toNat = q + (ar sg x).toNat + q' by omega, h2]
        simp
        omega
theorem term_at {sg t : List Int} (h : termOkB sg t = true) {a : Nat} (ha : a < t.length) : scan sg 1 (t.drop a) = some (len1 sg t a) ∧ 1 ≤ len1 sg t a ∧ a + len1 sg t a ≤ t.length := by
  obtain ⟨j, e, h1, h2⟩ := scan_at (term_parts h).2.2 ha
  rw [len1_eq e]
  exact ⟨e, h1, h2⟩
theorem end_at {sg t : List Int} (h : termOkB sg t = true) {a : Nat} (ha : a < t.length) : endI sg t a = ((a + len1 sg t a : Nat) : Int) := by
  rw [endI_some (term_at h ha).1]; omega
/-- what begins within a row of terms ends within it -/
theorem nest {sg t : List Int} {q a i : Nat} (h : scan sg q (t.drop a) = some i) {p : Nat} (h1 : a ≤ p) (h2 : p < a + i) : p + len1 sg t p ≤ a + i ∧ scan sg 1 (t.drop p) = some (len1 sg t p) ∧ 1 ≤ len1 sg t p := by
  obtain ⟨q', hq⟩ := scan_tail h (show p - a < i by omega)
  rw [List.drop_drop, show a + (p - a) = p by omega] at hq
  obtain ⟨j, e, j1, j2, _⟩ := scan_first hq
  rw [len1_eq e]
  exact ⟨by omega, e, j1⟩

/-- where the k-th of the terms from place p on begins -/
def argP (sg t : List Int) : Nat → Nat → Nat
  | 0, p => p
  | k + 1, p => argP sg t k (p + len1 sg t p)
theorem argP_succ {sg t : List Int} : ∀ k p, argP sg t (k + 1) p = argP sg t k p + len1 sg t (argP sg t k p)
  | 0, _ => rfl
  | k + 1, p => by
    show argP sg t (k + 1) (p + len1 sg t p) = _
    rw [argP_succ k]
    rfl
theorem argP_mono {sg t : List Int} {p k : Nat} : ∀ {k' : Nat}, k ≤ k' → argP sg t k p ≤ argP sg t k' p := by
  intro k' h
  induction k' with
  | zero => rw [Nat.le_zero.1 h]; exact Nat.le_refl _
  | succ k' ih =>
    by_cases e : k = k' + 1
    · rw [e]; exact Nat.le_refl _
    · have := ih (by omega)
      rw [argP_succ]
      omega
theorem argP_scan {sg t : List Int} : ∀ {k q p i : Nat}, scan sg q (t.drop p) = some i → k ≤ q → scan sg k (t.drop p) = some (argP sg t k p - p) ∧ p ≤ argP sg t k p ∧ argP sg t k p ≤ p + i := by
  intro k
  induction k with
  | zero => intro q p i _ _; exact ⟨by rw [scan_zero]; simp [argP], Nat.le_refl _, by simp [argP]⟩
  | succ k ih =>
    intro q p i h hk
    obtain ⟨q, rfl⟩ : ∃ q', q = q' + 1 := ⟨q - 1, by omega⟩
    obtain ⟨j, e1, e2, e3, e4⟩ := scan_first h
    have hj := len1_eq e1
    obtain ⟨a1, a2, a3⟩ := ih e4 (show k ≤ q by omega)
    have ea : argP sg t (k + 1) p = argP sg t k (p + j) := by show argP sg t k (p + len1 sg t p) = _; rw [hj]
    have hsc : scan sg (k + 1) (t.drop p) = some (argP sg t (k + 1) p - p) := by
      have hx := scan_cat (l := (t.drop p).take j) (l' := t.drop (p + j)) (q := 1) (q' := k) (j := argP sg t k (p + j) - (p + j))
        (by have := scan_take e1; rw [this]; have hl := scan_le this; have hl2 := scan_le e1; rw [List.length_take, Nat.min_eq_left hl2]) a1
      have hl2 := scan_le e1
      rw [← List.drop_drop, List.take_append_drop, List.length_take, Nat.min_eq_left hl2, Nat.add_comm 1 k] at hx
      rw [hx, ea]
      congr 1
      omega
    rw [ea] at hsc ⊢
    exact ⟨hsc, by omega, by omega⟩
theorem places_get {sg t : List Int} : ∀ {q p k : Nat}, k < q → (places sg t q p).getD k 0 = (argP sg t k p : Int) := by
  intro q
  induction q with
  | zero => intro p k h; omega
  | succ q ih =>
    intro p k h
    cases k with
    | zero => rfl
    | succ k =>
      show ((p : Int) :: places sg t q (p + len1 sg t p)).getD (k + 1) 0 = _
      rw [List.getD_cons_succ, ih (by omega)]
      rfl
theorem find_arg {sg t : List Int} {at_ : Nat} : ∀ {q p i : Nat}, scan sg q (t.drop p) = some i → p ≤ at_ → at_ < p + i → ∃ k, k < q ∧ argP sg t k p ≤ at_ ∧ at_ < argP sg t k p + len1 sg t (argP sg t k p) := by
  intro q
  induction q with
  | zero => intro p i h h1 h2; rw [scan_zero] at h; injection h; omega
  | succ q ih =>
    intro p i h h1 h2
    obtain ⟨j, e1, e2, e3, e4⟩ := scan_first h
    have hj := len1_eq e1
    by_cases hlt : at_ < p + j
    · exact ⟨0, by omega, h1, by show at_ < p + len1 sg t p; omega⟩
    · obtain ⟨k, k1, k2, k3⟩ := ih e4 (by omega) (by omega)
      have e : argP sg t (k + 1) p = argP sg t k (p + j) := by show argP sg t k (p + len1 sg t p) = _; rw [hj]
      exact ⟨k + 1, by omega, by rw [e]; exact k2, by rw [e]; exact k3⟩

/-- the number of arguments of what begins at a place -/
def arN (sg t : List Int) (p : Nat) : Nat := (ar sg (t.getD p 0)).toNat
/-- the way from a place down to another one: what is above it, and the indexes of the arguments -/
inductive Trail (sg t : List Int) (at_ : Nat) : Nat → List Int → List Int → Prop
  | here : Trail sg t at_ at_ [] []
  | down {p k : Nat} {ab pa : List Int} (h1 : p < at_) (h2 : k < arN sg t p) (h3 : argP sg t k (p + 1) ≤ at_) (h4 : at_ < argP sg t k (p + 1) + len1 sg t (argP sg t k (p + 1))) (h5 : p < argP sg t k (p + 1)) (h6 : at_ < p + len1 sg t p) (hw : Trail sg t at_ (argP sg t k (p + 1)) ab pa) : Trail sg t at_ p ((p : Int) :: ab) ((k : Int) :: pa)
theorem head_scan {sg t : List Int} (h : termOkB sg t = true) {p : Nat} (hp : p < t.length) : ¬ ar sg (t.getD p 0) < 0 ∧ ∃ i, len1 sg t p = i + 1 ∧ scan sg (arN sg t p) (t.drop (p + 1)) = some i := by
  obtain ⟨i, e, _, h1, h2⟩ := scan_args (term_at h hp).1
  exact ⟨h1, i, e, h2⟩
theorem arg_at {sg t : List Int} (h : termOkB sg t = true) {p : Nat} (hp : p < t.length) {k : Nat} (hk : k < arN sg t p) : p < argP sg t k (p + 1) ∧ argP sg t k (p + 1) + len1 sg t (argP sg t k (p + 1)) ≤ p + len1 sg t p ∧ argP sg t k (p + 1) < t.length := by
  obtain ⟨_, i, e, hs⟩ := head_scan h hp
  obtain ⟨_, a2, _⟩ := argP_scan hs (Nat.le_of_lt hk)
  obtain ⟨_, _, b3⟩ := argP_scan hs hk
  rw [argP_succ] at b3
  have hm := argP_scan hs (Nat.le_of_lt hk)
  have hl := (term_at h hp).2.2
  refine ⟨by omega, by omega, ?_⟩
  by_cases hx : argP sg t k (p + 1) < p + 1 + i
  · omega
  · exfalso
    have hsc := argP_scan hs hk
    have h0 := argP_succ (sg := sg) (t := t) k (p + 1)
    have hpos : scan sg (arN sg t p) (t.drop (p + 1)) = some (argP sg t k (p + 1) - (p + 1)) := by rw [hs]; congr 1; omega
    obtain ⟨i', _, s1, s2⟩ := scan_split (p := k) (q := arN sg t p - k - 1 + 1) (l := t.drop (p + 1)) (j := i) (by rw [← hs]; congr 1; omega)
    rw [hm.1] at s1
    injection s1 with s1
    have := scan_pos s2
    omega
theorem way_ex {sg t : List Int} (h : termOkB sg t = true) {at_ : Nat} (hat : at_ < t.length) : ∀ (n p : Nat), at_ - p ≤ n → p ≤ at_ → at_ < p + len1 sg t p → ∃ ab pa, Trail sg t at_ p ab pa := by
  intro n
  induction n with
  | zero =>
    intro p hn hp _
    obtain rfl : p = at_ := by omega
    exact ⟨[], [], .here⟩
  | succ n ih =>
    intro p hn hp hl
    by_cases he : p = at_
    · subst he; exact ⟨[], [], .here⟩
    · obtain ⟨_, i, e, hs⟩ := head_scan h (show p < t.length by omega)
      obtain ⟨k, k1, k2, k3⟩ := find_arg hs (show p + 1 ≤ at_ by omega) (by omega)
      have hlt := (arg_at h (show p < t.length by omega) k1).1
      obtain ⟨ab, pa, hw⟩ := ih _ (by omega) k2 k3
      exact ⟨_, _, .down (by omega) k1 k2 k3 hlt hl hw⟩
theorem root_len {sg t : List Int} (h : termOkB sg t = true) : len1 sg t 0 = t.length := by
  have := (term_parts h).2.2
  exact len1_eq (by simpa using this)
theorem way_root {sg t : List Int} (h : termOkB sg t = true) {at_ : Nat} (hat : at_ < t.length) : ∃ ab pa, Trail sg t at_ 0 ab pa :=
  way_ex h hat at_ 0 (by omega) (by omega) (by rw [root_len h]; omega)
theorem Trail.here_eq {sg t : List Int} {at_ : Nat} {ab pa : List Int} (h : Trail sg t at_ at_ ab pa) : ab = [] ∧ pa = [] := by
  cases h with
  | here => exact ⟨rfl, rfl⟩
  | down h1 => omega
theorem arg_one {sg t : List Int} {p at_ k k' : Nat} (h3 : argP sg t k p ≤ at_) (h4 : at_ < argP sg t k p + len1 sg t (argP sg t k p)) (h3' : argP sg t k' p ≤ at_) (h4' : at_ < argP sg t k' p + len1 sg t (argP sg t k' p)) : k = k' := by
  rcases Nat.lt_trichotomy k k' with h | h | h
  · have := argP_mono (sg := sg) (t := t) (p := p) (show k + 1 ≤ k' by omega)
    rw [argP_succ] at this
    omega
  · exact h
  · have := argP_mono (sg := sg) (t := t) (p := p) (show k' + 1 ≤ k by omega)
    rw [argP_succ] at this
    omega
theorem Trail.one {sg t : List Int} {at_ p : Nat} {ab pa : List Int} (h : Trail sg t at_ p ab pa) : ∀ {ab' pa' : List Int}, Trail sg t at_ p ab' pa' → ab = ab' ∧ pa = pa' := by
  induction h with
  | here => intro ab' pa' h'; obtain ⟨rfl, rfl⟩ := h'.here_eq; exact ⟨rfl, rfl⟩
  | @down p k ab pa h1 h2 h3 h4 h5 h6 hw ih =>
    intro ab' pa' h'
    cases h' with
    | here => omega
    | @down _ k' ab' pa' g1 g2 g3 g4 g5 g6 gw =>
      obtain rfl := arg_one h3 h4 g3 g4
      obtain ⟨rfl, rfl⟩ := ih gw
      exact ⟨rfl, rfl⟩
theorem Trail.len {sg t : List Int} {at_ p : Nat} {ab pa : List Int} (h : Trail sg t at_ p ab pa) : ab.length = pa.length := by
  induction h with
  | here => rfl
  | down _ _ _ _ _ _ _ ih => simp [ih]
theorem Trail.le {sg t : List Int} {at_ p : Nat} {ab pa : List Int} (h : Trail sg t at_ p ab pa) : p ≤ at_ ∧ pa.length ≤ at_ - p := by
  induction h with
  | here => simp
  | down h1 _ _ _ h5 _ _ ih => simp only [List.length_cons]; omega

/-- of the n places from p on those that a place is below -/
def upTo (sg t : List Int) (at_ : Nat) : Nat → Nat → List Int
  | _, 0 => []
  | p, n + 1 => (if at_ < p + len1 sg t p then [(p : Int)] else []) ++ upTo sg t at_ (p + 1) n
theorem upTo_add {sg t : List Int} {at_ : Nat} : ∀ n p m, upTo sg t at_ p (n + m) = upTo sg t at_ p n ++ upTo sg t at_ (p + n) m
  | 0, p, m => by simp [upTo]
  | n + 1, p, m => by
    rw [show n + 1 + m = (n + m) + 1 by omega]
    simp only [upTo]
    rw [upTo_add n (p + 1) m, List.append_assoc, show p + 1 + n = p + (n + 1) by omega]
theorem upTo_snoc {sg t : List Int} {at_ : Nat} (n p : Nat) : upTo sg t at_ p (n + 1) = upTo sg t at_ p n ++ (if at_ < (p + n) + len1 sg t (p + n) then [((p + n : Nat) : Int)] else []) := by
  rw [upTo_add]
  simp [upTo]
theorem upTo_skip {sg t : List Int} {at_ : Nat} : ∀ n p, (∀ r, p ≤ r → r < p + n → ¬ at_ < r + len1 sg t r) → upTo sg t at_ p n = []
  | 0, _, _ => rfl
  | n + 1, p, h => by
    simp only [upTo]
    rw [if_neg (h p (by omega) (by omega)), upTo_skip n (p + 1) (fun r h1 h2 => h r (by omega) (by omega))]
    rfl
def aboveL (sg t : List Int) (at_ : Nat) : List Int := upTo sg t at_ 0 at_
theorem Trail.above {sg t : List Int} (hok : termOkB sg t = true) {at_ p : Nat} (hat : at_ < t.length) {ab pa : List Int} (h : Trail sg t at_ p ab pa) : upTo sg t at_ p (at_ - p) = ab := by
  induction h with
  | here => simp [upTo]
  | @down p k ab pa h1 h2 h3 h4 h5 h6 hw ih =>
    obtain ⟨_, i, e, hs⟩ := head_scan hok (show p < t.length by omega)
    obtain ⟨s1, s2, s3⟩ := argP_scan hs (Nat.le_of_lt h2)
    rw [show at_ - p = (argP sg t k (p + 1) - (p + 1)) + (at_ - argP sg t k (p + 1)) + 1 by omega]
    simp only [upTo]
    rw [if_pos h6, upTo_add, upTo_skip (argP sg t k (p + 1) - (p + 1)), show p + 1 + (argP sg t k (p + 1) - (p + 1)) = argP sg t k (p + 1) by omega, ih]
    · rfl
    · intro r r1 r2 r3
      have := (nest s1 r1 (by omega)).1
      omega
theorem Trail.aboveL {sg t : List Int} (hok : termOkB sg t = true) {at_ : Nat} (hat : at_ < t.length) {ab pa : List Int} (h : Trail sg t at_ 0 ab pa) : aboveL sg t at_ = ab := h.above hok hat

/-- where a path leads to, or -1 -/
def walkI (sg t : List Int) : Nat → List Int → Int
  | p, [] => (p : Int)
  | p, s :: r => if 0 ≤ s ∧ s < ar sg (t.getD p 0) then walkI sg t (argP sg t s.toNat (p + 1)) r else -1
theorem walk_step {sg t : List Int} {p k : Nat} {r : List Int} (h : k < arN sg t p) : walkI sg t p ((k : Int) :: r) = walkI sg t (argP sg t k (p + 1)) r := by
  unfold arN at h
  simp only [walkI]
  rw [if_pos (by omega), Int.toNat_natCast]
theorem walk_no {sg t : List Int} {p : Nat} {s : Int} {r : List Int} (h : ¬ (0 ≤ s ∧ s < ar sg (t.getD p 0))) : walkI sg t p (s :: r) = -1 := by
  simp only [walkI]
  rw [if_neg h]
theorem Trail.walk {sg t : List Int} {at_ p : Nat} {ab pa : List Int} (h : Trail sg t at_ p ab pa) : walkI sg t p pa = (at_ : Int) := by
  induction h with
  | here => rfl
  | down _ h2 _ _ _ _ _ ih => rw [walk_step h2, ih]
theorem Trail.prefix_ {sg t : List Int} {at_ p : Nat} {ab pa : List Int} (h : Trail sg t at_ p ab pa) : ∀ i, i < ab.length → ∃ r : Nat, ab.getD i 0 = (r : Int) ∧ walkI sg t p (pa.take i) = (r : Int) ∧ r < at_ ∧ at_ < r + len1 sg t r := by
  induction h with
  | here => intro i hi; simp at hi
  | @down p k ab pa h1 h2 h3 h4 h5 h6 hw ih =>
    intro i hi
    cases i with
    | zero => exact ⟨p, rfl, rfl, h1, h6⟩
    | succ i =>
      obtain ⟨r, e1, e2, e3, e4⟩ := ih i (by simpa using hi)
      exact ⟨r, by rw [List.getD_cons_succ, e1], by rw [List.take_succ_cons, walk_step h2, e2], e3, e4⟩

/-- the number of steps from the root to a place -/
def pl (sg t : List Int) (at_ : Nat) : Nat := (aboveL sg t at_).length
def deepN (sg t : List Int) : Nat → Nat
  | 0 => 0
  | k + 1 => if pl sg t (deepN sg t k) < pl sg t k then k else deepN sg t k
theorem deep_le {sg t : List Int} : ∀ k, deepN sg t k ≤ k - 1
  | 0 => by simp [deepN]
  | k + 1 => by
    have := deep_le (sg := sg) (t := t) k
    simp only [deepN]
    split <;> omega
theorem deep_most {sg t : List Int} : ∀ k r, r < k → pl sg t r ≤ pl sg t (deepN sg t k)
  | 0, r, h => by omega
  | k + 1, r, h => by
    have ih := deep_most (sg := sg) (t := t) k r
    simp only [deepN]
    by_cases e : r = k
    · subst e; split <;> omega
    · have := ih (by omega)
      split <;> omega
theorem over_ge {sg t : List Int} {g : Nat → Int} : ∀ {q k p : Nat}, k < q → g (argP sg t k p) ≤ maxOver sg t g q p := by
  intro q
  induction q with
  | zero => intro k p h; omega
  | succ q ih =>
    intro k p h
    cases k with
    | zero => simp only [maxOver, argP]; omega
    | succ k =>
      have := ih (k := k) (p := p + len1 sg t p) (by omega)
      simp only [maxOver, argP]
      omega
theorem over_nonneg {sg t : List Int} {g : Nat → Int} : ∀ (q p : Nat), 0 ≤ maxOver sg t g q p
  | 0, _ => by simp [maxOver]
  | q + 1, p => by
    have := over_nonneg (sg := sg) (t := t) (g := g) q (p + len1 sg t p)
    simp only [maxOver]
    omega
theorem over_max {sg t : List Int} {g : Nat → Int} : ∀ (q p : Nat), maxOver sg t g q p = 0 ∨ ∃ k, k < q ∧ g (argP sg t k p) = maxOver sg t g q p
  | 0, _ => .inl rfl
  | q + 1, p => by
    simp only [maxOver]
    rcases Int.le_total (g p) (maxOver sg t g q (p + len1 sg t p)) with h | h
    · rw [Int.max_eq_right h]
      rcases over_max (sg := sg) (t := t) (g := g) q (p + len1 sg t p) with e | ⟨k, k1, k2⟩
      · exact .inl e
      · exact .inr ⟨k + 1, by omega, k2⟩
    · rw [Int.max_eq_left h]
      exact .inr ⟨0, by omega, rfl⟩
theorem Trail.depth {sg t : List Int} {at_ p : Nat} {ab pa : List Int} (h : Trail sg t at_ p ab pa) : ∀ f, pa.length < f → (pa.length : Int) + 1 ≤ dep sg t f p := by
  induction h with
  | here =>
    intro f hf
    obtain ⟨f, rfl⟩ : ∃ f', f = f' + 1 := ⟨f - 1, by simp at hf; omega⟩
    have := over_nonneg (sg := sg) (t := t) (g := dep sg t f) (ar sg (t.getD at_ 0)).toNat (at_ + 1)
    simp only [dep, List.length_nil]
    omega
  | @down p k ab pa h1 h2 h3 h4 h5 h6 hw ih =>
    intro f hf
    simp only [List.length_cons] at hf ⊢
    obtain ⟨f, rfl⟩ : ∃ f', f = f' + 1 := ⟨f - 1, by omega⟩
    have e := ih f (by omega)
    have e2 := over_ge (sg := sg) (t := t) (g := dep sg t f) (p := p + 1) h2
    unfold arN at e2
    simp only [dep]
    omega
theorem depth_way {sg t : List Int} (hok : termOkB sg t = true) : ∀ f p, p < t.length → ∃ at_ ab pa, p ≤ at_ ∧ at_ < p + len1 sg t p ∧ Trail sg t at_ p ab pa ∧ (pa.length : Int) + 1 = dep sg t (f + 1) p := by
  intro f
  induction f with
  | zero =>
    intro p hp
    refine ⟨p, [], [], Nat.le_refl _, by have := (term_at hok hp).2.1; omega, .here, ?_⟩
    have : dep sg t (0 + 1) p = 1 := by
      have e : dep sg t (0 + 1) p = maxOver sg t (dep sg t 0) (ar sg (t.getD p 0)).toNat (p + 1) + 1 := rfl
      have h1 := (dep_bd (sg := sg) (t := t) (0 + 1) p).2
      have h0 := over_nonneg (sg := sg) (t := t) (g := dep sg t 0) (ar sg (t.getD p 0)).toNat (p + 1)
      rw [e] at h1 ⊢
      omega
    rw [this]; rfl
  | succ f ih =>
    intro p hp
    have hl := (term_at hok hp).2
    rcases over_max (sg := sg) (t := t) (g := dep sg t (f + 1)) (arN sg t p) (p + 1) with e | ⟨k, k1, k2⟩
    · refine ⟨p, [], [], Nat.le_refl _, by omega, .here, ?_⟩
      rw [show dep sg t (f + 1 + 1) p = maxOver sg t (dep sg t (f + 1)) (arN sg t p) (p + 1) + 1 from rfl, e]
      rfl
    · obtain ⟨a1, a2, a3⟩ := arg_at hok hp k1
      obtain ⟨at_, ab, pa, b1, b2, b3, b4⟩ := ih _ a3
      refine ⟨at_, _, _, by omega, by omega, .down (by omega) k1 b1 b2 a1 (by omega) b3, ?_⟩
      rw [show dep sg t (f + 1 + 1) p = maxOver sg t (dep sg t (f + 1)) (arN sg t p) (p + 1) + 1 from rfl, ← k2, ← b4]
      simp
/-- the deepest position's path is one shorter than the term is deep -/
theorem deep_depth {sg t : List Int} (hok : termOkB sg t = true) : (pl sg t (deepN sg t t.length) : Int) = depthI sg t - 1 := by
  have h1 := (term_len hok).1
  have hd := deep_le (sg := sg) (t := t) t.length
  have hD : depthI sg t = dep sg t t.length 0 := by unfold depthI; rw [if_pos hok]
  rw [hD]
  obtain ⟨ab, pa, hw⟩ := way_root hok (show deepN sg t t.length < t.length by omega)
  have e1 := hw.depth t.length (by have := hw.le; omega)
  have e2 : pl sg t (deepN sg t t.length) = pa.length := by unfold pl; rw [hw.aboveL hok (by omega), hw.len]
  obtain ⟨f, hf⟩ : ∃ f, t.length = f + 1 := ⟨t.length - 1, by omega⟩
  obtain ⟨at_, ab', pa', b1, b2, b3, b4⟩ := depth_way hok f 0 (by omega)
  have hat : at_ < t.length := by rw [root_len hok] at b2; omega
  have e3 : pl sg t at_ = pa'.length := by unfold pl; rw [b3.aboveL hok hat, b3.len]
  have e4 := deep_most (sg := sg) (t := t) t.length at_ hat
  rw [← hf] at b4
  omega
end Go.Proofs.Ytobifgobipcmdaa.posMath
end

section
/-
  CONTRACTS: spec.AboveOf, spec.l3Path, spec.PathOf. Conditions: the slices read as lists ('Seg'), at most 1048576 numbers; the places are int64. By an AI agent.
-/
namespace Go.Proofs.Ytobifgobipcmdaa.pathSpec
open Go.RowKit Go.Proofs.Ytobifgobipcmdaa.base Go.Proofs.Ytobifgobipcmdaa.ints Go.Proofs.Ytobifgobipcmdaa.sig Go.Proofs.Ytobifgobipcmdaa.term Go.Proofs.Ytobifgobipcmdaa.arity Go.Proofs.Ytobifgobipcmdaa.endOf Go.Proofs.Ytobifgobipcmdaa.cursor Go.Proofs.Ytobifgobipcmdaa.termOk Go.Proofs.Ytobifgobipcmdaa.endAt Go.Proofs.Ytobifgobipcmdaa.inside Go.Proofs.Ytobifgobipcmdaa.marks Go.Proofs.Ytobifgobipcmdaa.app Go.Proofs.Ytobifgobipcmdaa.appAt Go.Proofs.Ytobifgobipcmdaa.sym Go.Proofs.Ytobifgobipcmdaa.args Go.Proofs.Ytobifgobipcmdaa.posMath
set_option maxRecDepth 100000

theorem own_lt {w : World} {base : Nat} {A : Option Addr} {n c : Nat} {xs : List Int} (h : Own w base (.slice A n c) xs) : ∀ k, blk A = some k → base ≤ k ∧ k < w.heap.size := fun k hk => World.ownsRow.lt h k (by rw [blk_own]; exact hk)
def aboveI (sg t : List Int) (x : Int) : List Int := if thereB sg t x = true then aboveL sg t x.toNat else []
theorem above_no {sg t : List Int} {x : Int} (h : thereB sg t x = false) : aboveI sg t x = [] := by unfold aboveI; rw [if_neg (by rw [h]; simp)]
theorem above_yes {sg t : List Int} {a : Nat} (h : thereB sg t (a : Int) = true) : aboveI sg t (a : Int) = upTo sg t a 0 a := by unfold aboveI aboveL; rw [if_pos h, Int.toNat_natCast]
/-- the path of a place; none where there is no such place -/
def PathIs (sg t : List Int) (x : Int) (pa : List Int) : Prop := (thereB sg t x = true ∧ ∃ ab, Trail sg t x.toNat 0 ab pa) ∨ (thereB sg t x = false ∧ pa = [])
theorem path_ex (sg t : List Int) (x : Int) : ∃ pa, PathIs sg t x pa := by
  cases h : thereB sg t x with
  | false => exact ⟨[], .inr ⟨h, rfl⟩⟩
  | true =>
    obtain ⟨hok, h0, h1⟩ := there_parts h
    obtain ⟨ab, pa, hw⟩ := way_root hok (show x.toNat < t.length by omega)
    exact ⟨pa, .inl ⟨h, ab, hw⟩⟩
theorem PathIs.one {sg t : List Int} {x : Int} {pa pa' : List Int} (h : PathIs sg t x pa) (h' : PathIs sg t x pa') : pa = pa' := by
  rcases h with ⟨e, ab, hw⟩ | ⟨e, rfl⟩ <;> rcases h' with ⟨e', ab', hw'⟩ | ⟨e', rfl⟩
  · exact (hw.one hw').2
  · rw [e] at e'; cases e'
  · rw [e] at e'; cases e'
  · rfl
theorem PathIs.len {sg t : List Int} {x : Int} {pa : List Int} (h : PathIs sg t x pa) : pa.length ≤ 60 := by
  rcases h with ⟨e, ab, hw⟩ | ⟨e, rfl⟩
  · obtain ⟨hok, h0, h1⟩ := there_parts e
    have := hw.le
    have := (termOk_parts hok).2.1
    omega
  · simp
theorem ins_nat {sg t : List Int} (hok : termOkB sg t = true) {k a : Nat} (hk : k < t.length) : insI sg t (k : Int) (a : Int) = decide (k ≤ a ∧ a < k + len1 sg t k) := by
  unfold insI
  rw [Int.toNat_natCast, end_at hok hk]
  exact decide_eq_decide.2 ⟨fun h => ⟨by omega, by omega⟩, fun h => ⟨by omega, by omega⟩⟩
theorem up_yes {sg t : List Int} (hok : termOkB sg t = true) {k a : Nat} (ha : a < t.length) (hk : k < a) (h : insI sg t (k : Int) (a : Int) = true) : upTo sg t a 0 (k + 1) = upTo sg t a 0 k ++ [(k : Int)] := by
  rw [ins_nat hok (by omega), decide_eq_true_eq] at h
  rw [upTo_snoc, Nat.zero_add, if_pos h.2]
theorem up_no {sg t : List Int} (hok : termOkB sg t = true) {k a : Nat} (ha : a < t.length) (hk : k < a) (h : insI sg t (k : Int) (a : Int) = false) : upTo sg t a 0 (k + 1) = upTo sg t a 0 k := by
  rw [ins_nat hok (by omega), decide_eq_false_iff_not] at h
  rw [upTo_snoc, Nat.zero_add, if_neg (by omega), List.append_nil]
theorem up_len {sg t : List Int} {a : Nat} : ∀ n p, (upTo sg t a p n).length ≤ n
  | 0, _ => by simp [upTo]
  | n + 1, p => by
    have := up_len (sg := sg) (t := t) (a := a) n (p + 1)
    simp only [upTo, List.length_append]
    split <;> simp <;> omega
theorem list_of {w w' : World} {xs ys : List Int} {A : Option Addr} {n c base : Nat} (e : ys = xs) (ho : Own w' base (.slice A n c) xs) (hB : w.heap.size ≤ base) (hb : Below w.heap.size w w') : AnsList w ys (.returned (.slice A n c)) w' :=
  ⟨A, n, c, rfl, by rw [e]; exact Own.lower ho hB, hb⟩
theorem there_dec {sg t : List Int} {x : Int} {m : Nat} (hm : t.length = m) (hok : termOkB sg t = true) : thereB sg t x = decide (0 ≤ x ∧ x < (m : Int)) := by
  unfold thereB inB
  rw [hok, hm]
  rfl

def HeadAb (w : World) (A : Option Addr) (n c : Nat) (sg : List Int) (A' : Option Addr) (m : Nat) (t : List Int) (a : Nat) (out p : Value) (wr : World) : Prop :=
  ∃ (k : Nat) (O : Option Addr) (on oc : Nat), p = .int .i64 k ∧ k ≤ a ∧ out = .slice O on oc ∧ Own wr (w.heap.size + 1) (.slice O on oc) (upTo sg t a 0 k) ∧ Fr w wr A n c sg A' m t

set_option maxHeartbeats 2000000 in
theorem specAboveOf (A A' : Option Addr) (n c m c' : Nat) (sg t : List Int) (x : Int) (w : World) (h : Seg w w.heap.size A n sg) (h' : Seg w w.heap.size A' m t) (hn : n ≤ 1048576) (hm : m ≤ 1048576) (_ : -9223372036854775808 ≤ x) (_ : x ≤ 9223372036854775807) :
    Calls Try.prog 42 #[.agg #[.slice A n c], .slice A' m c', .int .i64 x] w (AnsList w (aboveI sg t x)) := by
  obtain ⟨W, hW⟩ : ∃ W, W = (w.alloc (.cells #[.slice A n c] 26)).alloc (.cells #[] 2) := ⟨_, rfl⟩
  have f : Fr w W A n c sg A' m t := by rw [hW]; exact (Fr.start h h').alloc _
  have ow : Own W (w.heap.size + 1) (.slice (some ⟨w.heap.size + 1, 0, none⟩) 0 0) [] := by
    rw [hW]
    have := own_empty (w.alloc (.cells #[.slice A n c] 26)) (w.heap.size + 1) (by simp)
    simpa using this
  have HW := Lib.hid hW
  have HL := Lib.hid h'.1
  clear hW h h'
  cases hx : thereB sg t x with
  | false =>
    have HX := Lib.hid hx
    have HF := Lib.hid (above_no hx)
    clear hx
    by_cases h0 : 0 < x
    · have L := Lib.hid (right A A' n c m c' sg t x W f.s1 f.t1 hn hm)
      have cA := f.cell
      go_enter Try.func42, Try.ntmps42
      go_wp2_with fail
      rw [← HW.out]
      clear HW
      go_loopg [7, 8] 0 (fun _ out p wr => out = .slice (some ⟨w.heap.size + 1, 0, none⟩) 0 0 ∧ p = .int .i64 0 ∧ W = wr)
      case atStart => exact ⟨rfl, rfl, rfl⟩
      case round =>
        obtain ⟨rfl, rfl, rfl⟩ := hrel
        go_wp2_with fail
        refine L.out.mono ?_
        rintro e w1 ⟨he, bb⟩
        rw [HX.out] at he
        subst he
        have F := Lib.hid (list_of (w := w) HF.out (Own.next ow bb) (Nat.le_succ _) (f.next bb).b)
        clear f ow bb L cA HF
        go_wp2
        go_ret
        exact F.out
    · have F := Lib.hid (list_of (w := w) HF.out ow (Nat.le_succ _) f.b)
      clear f ow HF
      go_enter Try.func42, Try.ntmps42
      go_wp2_with fail
      rw [← HW.out]
      clear HW
      go_loopg [7, 8] 0 (fun _ out p wr => out = .slice (some ⟨w.heap.size + 1, 0, none⟩) 0 0 ∧ p = .int .i64 0 ∧ W = wr)
      case atStart => exact ⟨rfl, rfl, rfl⟩
      case round =>
        obtain ⟨rfl, rfl, rfl⟩ := hrel
        go_wp2
        go_ret
        exact F.out
  | true =>
    have HX := Lib.hid hx
    obtain ⟨hok, i0, i1⟩ := there_parts hx
    obtain ⟨a, rfl⟩ := Int.eq_ofNat_of_zero_le i0
    have HOK := Lib.hid hok
    have h60 := (termOk_parts hok).2.1
    have hal : a < t.length := by omega
    have HAL := Lib.hid hal
    have HF := Lib.hid (above_yes hx)
    have ha60 : a ≤ 60 := by omega
    clear hx hok i0 i1 h60 hal
    go_enter Try.func42, Try.ntmps42
    go_wp2_with fail
    rw [← HW.out]
    clear HW
    have S0 : HeadAb w A n c sg A' m t a (.slice (some ⟨w.heap.size + 1, 0, none⟩) 0 0) (.int .i64 0) W := ⟨0, _, 0, 0, rfl, Nat.zero_le _, rfl, ow, f⟩
    have HS := Lib.hid S0
    clear S0 f ow
    go_loopg [7, 8] a (fun g out p wr => HeadAb w A n c sg A' m t a out p wr ∧ p = .int .i64 ((a - g : Nat) : Int) ∧ g ≤ a)
    case atStart => exact ⟨HS.out, by simp, Nat.le_refl _⟩
    case round =>
      obtain ⟨⟨k, O, on, oc, rfl, hka, rfl, ho, f⟩, hp, hg⟩ := hrel
      have hkg : k = a - gk := by injection hp with _ hp; omega
      have HKG := Lib.hid hkg
      clear HS hp hkg
      have hon : on ≤ 60 := by rw [Own.len ho]; have := up_len (sg := sg) (t := t) (a := a) k 0; omega
      have cA := f.cell
      by_cases hk : k < a
      · go_wp2_with fail
        refine (right A A' n c m c' sg t (a : Int) _ f.s1 f.t1 hn hm).mono ?_
        rintro e w1 ⟨he, bb⟩
        rw [HX.out] at he
        subst he
        replace f := f.next bb
        replace ho := Own.next ho bb
        clear bb cA
        have cA := f.cell
        go_wp2_with fail
        refine (l3Inside A A' n c m c' sg t (k : Int) (a : Int) _ f.s1 f.t1 hn hm (there_yes HOK.out (by omega) (by have := HAL.out; omega))).mono ?_
        rintro e w2 ⟨he, bb⟩
        replace f := f.next bb
        replace ho := Own.next ho bb
        clear bb cA
        cases hi : insI sg t (k : Int) (a : Int) with
        | false =>
          rw [hi] at he
          subst he
          have S : HeadAb w A n c sg A' m t a (.slice O on oc) (.int .i64 ((k : Int) + 1)) w2 := ⟨k + 1, O, on, oc, by simp, by omega, rfl, by rw [up_no HOK.out HAL.out hk hi]; exact ho, f⟩
          have HS := Lib.hid S
          clear S ho f hi
          go_wp2
          go_roundg (gk - 1)
          case measure => have := HKG.out; omega
          case rel => exact ⟨HS.out, by have := HKG.out; simp; omega, by omega⟩
        | true =>
          rw [hi] at he
          subst he
          have E := Lib.hid (up_yes HOK.out HAL.out hk hi)
          have z1 : w.heap.size + 1 ≤ w2.heap.size := f.size
          clear hi
          go_wp2_with (at_builtin; refine app1 rfl _ _ rfl (w.heap.size + 1) O on oc _ rfl (Own.alloc ho _) w2.heap.size 1 (k : Int) rfl ((Row.new _ _ _).cell 0) (by omega) (by simp; omega) ?_; intro O' oc' w3 ho3 b3)
          have S : HeadAb w A n c sg A' m t a (.slice O' (on + 1) oc') (.int .i64 ((k : Int) + 1)) w3 := ⟨k + 1, O', on + 1, oc', by simp, by omega, rfl, by rw [E.out]; exact ho3, (f.alloc _).over b3⟩
          have HS := Lib.hid S
          clear S ho ho3 f b3 E
          go_wp2
          go_roundg (gk - 1)
          case measure => have := HKG.out; omega
          case rel => exact ⟨HS.out, by have := HKG.out; simp; omega, by omega⟩
      · obtain rfl : k = a := by omega
        have F := Lib.hid (list_of (w := w) HF.out ho (Nat.le_succ _) f.b)
        clear f ho HF cA
        go_wp2
        go_ret
        exact F.out
/-- an append of one number: where it lies, and that nothing else has turned -/
theorem app1At {w : World} {ops : Array Oper} {rest : List Oper} {o : Oper} {a : Act} {Q : Exit → Act → World → Prop} (hgd : o.guard = none) (s x : Operand)
    (ho : o.op = .call { callee := .builtin .append, args := #[s, x], argTypes := #[24, 24] })
    (base : Nat) (A : Option Addr) (n c : Nat) (xs : List Int) (hs : a.eval s = .slice A n c) (hown : Own w base (.slice A n c) xs)
    (g c2 : Nat) (y : Int) (hx : a.eval x = .slice (some ⟨g, 0, none⟩) 1 c2) (hy : w.cell? ⟨g, 0, none⟩ = some (.int .i64 y)) (hn : n ≤ 2097152) (hbase : base ≤ w.heap.size)
    (h : ∀ A' c' w', Own w' base (.slice A' (n + 1) c') (xs ++ [y]) → w.grownBy w' (blk A) → (blk A' = blk A ∨ blk A' = some w.heap.size) → wpList Try.prog ops Q rest (a.put o.dst (.slice A' (n + 1) c')) w') : wpList Try.prog ops Q (o :: rest) a w :=
  appAllAt hgd s x ho base A n c xs hs hown (some ⟨g, 0, none⟩) 1 c2 (g + 1) [y] hx ⟨rfl, fun _ => ⟨g, 0, rfl, Nat.lt_succ_self _, fun j hj => by
    obtain rfl : j = 0 := by omega
    exact hy⟩⟩ (Nat.le_refl _) hn (by omega) hbase h
theorem Trail.split {sg t : List Int} {a q : Nat} {ab pa : List Int} (h : Trail sg t a q ab pa) (hne : q ≠ a) : ∃ (k : Nat) (ab' pa' : List Int), ab = (q : Int) :: ab' ∧ pa = (k : Int) :: pa' ∧ q < a ∧ k < arN sg t q ∧ argP sg t k (q + 1) ≤ a ∧ a < argP sg t k (q + 1) + len1 sg t (argP sg t k (q + 1)) ∧ q < argP sg t k (q + 1) ∧ Trail sg t a (argP sg t k (q + 1)) ab' pa' := by
  cases h with
  | here => exact absurd rfl hne
  | @down _ k ab' pa' h1 h2 h3 h4 h5 h6 hw => exact ⟨k, ab', pa', rfl, rfl, h1, h2, h3, h4, h5, hw⟩
theorem argsL_get {sg t : List Int} {q k : Nat} (h : k < arN sg t q) : (argsL sg t q).getD k 0 = (argP sg t k (q + 1) : Int) := places_get h
theorem argsL_arN {sg t : List Int} {q : Nat} : (argsL sg t q).length = arN sg t q := places_len _ _
theorem own_cell {w : World} {base : Nat} {A : Option Addr} {n c : Nat} {xs : List Int} (h : Own w base (.slice A n c) xs) {k : Nat} (hk : k < n) : ∃ g off, A = some ⟨g, off, none⟩ ∧ base ≤ g ∧ w.cell? ⟨g, off + k, none⟩ = some (.int .i64 (xs.getD k 0)) := by
  obtain ⟨b, off, e, _, hc⟩ := (Own.seg h).round hk
  subst e
  exact ⟨b, off, rfl, (own_lt h b rfl).1, hc⟩
theorem cell_kept {w w' : World} {r : Option Nat} {p : Addr} {v : Value} (hg : w.grownBy w' r) (hr : ∀ k, r = some k → p.block ≠ k) (hp : p.block < w.heap.size) (h : w.cell? p = some v) : w'.cell? p = some v := by
  exact hg.cell h (fun e => hr _ e.symm rfl)

def HeadPa (w : World) (A : Option Addr) (n c : Nat) (sg : List Int) (A' : Option Addr) (m : Nat) (t : List Int) (a : Nat) (pa : List Int) (g : Nat) (out p : Value) (wr : World) : Prop :=
  ∃ (q : Nat) (O : Option Addr) (on oc : Nat) (ys ab' pa' : List Int), p = .int .i64 q ∧ q + g = a ∧ out = .slice O on oc ∧ Own wr (w.heap.size + 1) (.slice O on oc) ys ∧ Trail sg t a q ab' pa' ∧ ys ++ pa' = pa ∧ Fr w wr A n c sg A' m t
def InPa (w : World) (A : Option Addr) (n c : Nat) (sg : List Int) (A' : Option Addr) (m : Nat) (t : List Int) (k0 B : Nat) (O : Option Addr) (on oc : Nat) (ys : List Int) (A2 : Option Addr) (n2 c2 : Nat) (L : List Int) (g : Nat) (k : Value) (wr : World) : Prop :=
  ∃ j : Nat, k = .int .i64 j ∧ j + g = k0 ∧ Own wr (w.heap.size + 1) (.slice O on oc) ys ∧ (∀ b, blk O = some b → b < B) ∧ Own wr B (.slice A2 n2 c2) L ∧ Fr w wr A n c sg A' m t ∧ B ≤ wr.heap.size

set_option maxHeartbeats 4000000 in
theorem l3Path (A A' : Option Addr) (n c m c' : Nat) (sg t : List Int) (a : Nat) (ab pa : List Int) (w : World) (h : Seg w w.heap.size A n sg) (h' : Seg w w.heap.size A' m t) (hn : n ≤ 1048576) (hm : m ≤ 1048576) (hok : termOkB sg t = true) (hat : a < t.length) (hw : Trail sg t a 0 ab pa) :
    Calls Try.prog 62 #[.agg #[.slice A n c], .slice A' m c', .int .i64 (a : Int)] w (AnsList w pa) := by
  obtain ⟨W, hW⟩ : ∃ W, W = (w.alloc (.cells #[.slice A n c] 26)).alloc (.cells #[] 2) := ⟨_, rfl⟩
  have f : Fr w W A n c sg A' m t := by rw [hW]; exact (Fr.start h h').alloc _
  have ow : Own W (w.heap.size + 1) (.slice (some ⟨w.heap.size + 1, 0, none⟩) 0 0) [] := by
    rw [hW]
    have := own_empty (w.alloc (.cells #[.slice A n c] 26)) (w.heap.size + 1) (by simp)
    simpa using this
  have HW := Lib.hid hW
  have HL := Lib.hid h'.1
  have h60 := (termOk_parts hok).2.1
  have ha60 : a < 60 := by omega
  have HOK := Lib.hid hok
  have HAT := Lib.hid hat
  have HLP := Lib.hid hw.le.2
  have S0 : HeadPa w A n c sg A' m t a pa a (.slice (some ⟨w.heap.size + 1, 0, none⟩) 0 0) (.int .i64 0) W := ⟨0, _, 0, 0, [], ab, pa, rfl, by omega, rfl, ow, hw, rfl, f⟩
  have HS := Lib.hid S0
  clear S0 f ow hW h h' hok hat hw h60
  go_enter Try.func62, Try.ntmps62
  go_wp2_with fail
  rw [← HW.out]
  clear HW
  go_loopg [7, 8] a (fun g out p wr => HeadPa w A n c sg A' m t a pa g out p wr)
  case atStart => exact HS.out
  case round =>
    obtain ⟨q, O, on, oc, ys, ab', pa', rfl, hq, rfl, ho, htr, hpa, f⟩ := hrel
    obtain ⟨G, hG⟩ : ∃ G, G = gk := ⟨_, rfl⟩
    subst hG
    clear HS
    have hon : on ≤ 60 := by
      rw [Own.len ho]
      have h1 := HLP.out
      rw [← hpa] at h1
      simp only [List.length_append] at h1
      omega
    have HQ := Lib.hid hq
    have HPA := Lib.hid hpa
    clear hq hpa
    by_cases hqa : q = a
    · subst hqa
      have F : AnsList w pa (.returned (.slice O on oc)) wr := list_of (by rw [← HPA.out, htr.here_eq.2, List.append_nil]) ho (Nat.le_succ _) f.b
      have HF := Lib.hid F
      clear F ho f htr
      go_wp2
      go_ret
      exact HF.out
    · obtain ⟨k0, ab2, pa2, -, e2, hqlt, hk0, h3, h4, h5, htr'⟩ := Trail.split htr hqa
      have HE2 := Lib.hid e2
      have hok := HOK.out
      have hal := HAT.out
      have hars := (sig_arities (termOk_parts hok).1).1
      obtain ⟨s1, s2, s3⟩ := term_at hok (show q < t.length by omega)
      have hne : ¬ (q : Int) = (a : Int) := by omega
      have cA := f.cell
      obtain ⟨B, hB⟩ : ∃ B, wr.heap.size = B := ⟨_, rfl⟩
      have hL3 : (argsL sg t q).length = arN sg t q := argsL_arN
      have hars3 : arN sg t q ≤ 3 := by have := ar_bd hars (t.getD q 0); unfold arN; omega
      have LA := Lib.hid (l1Args A A' n c m c' sg t q (len1 sg t q) wr f.s1 f.t1 hn hm hars (by rw [← HL.out]; omega) s1 (by rw [← HL.out]; exact s3))
      have HX : Hid (∀ j : Nat, j ≤ k0 → thereB sg t (argP sg t j (q + 1) : Int) = true ∧ argP sg t j (q + 1) ≤ a ∧ insI sg t (argP sg t j (q + 1) : Int) (a : Int) = decide (j = k0)) := Lib.hid (fun j hj => by
        obtain ⟨b1, b2, b3⟩ := arg_at hok (show q < t.length by omega) (show j < arN sg t q by omega)
        have b4 := argP_mono (sg := sg) (t := t) (p := q + 1) hj
        refine ⟨there_yes hok (by omega) (by omega), by omega, ?_⟩
        rw [ins_nat hok b3]
        by_cases hjk : j = k0
        · rw [decide_eq_true hjk, decide_eq_true (by subst hjk; exact ⟨h3, h4⟩)]
        · have b5 := argP_mono (sg := sg) (t := t) (p := q + 1) (show j + 1 ≤ k0 by omega)
          rw [argP_succ] at b5
          rw [decide_eq_false hjk, decide_eq_false (by omega)])
      have HG : Hid (∀ j : Nat, j ≤ k0 → (argsL sg t q).getD j 0 = (argP sg t j (q + 1) : Int)) := Lib.hid (fun j hj => argsL_get (by omega))
      obtain ⟨L, hL⟩ : ∃ L, argsL sg t q = L := ⟨_, rfl⟩
      rw [hL] at LA HG hL3
      have HTR := Lib.hid htr'
      have H3 := Lib.hid h3
      have H5 := Lib.hid h5
      obtain ⟨z, hz⟩ : ∃ z, arN sg t q = z := ⟨_, rfl⟩
      rw [hz] at hk0 hL3 hars3
      have HL3 := Lib.hid hL3
      clear hok hal hars s1 s2 s3 htr htr' h3 h4 h5 e2 hL hL3 hz
      go_wp2_with fail
      refine LA.out.mono ?_
      rintro e w1 ⟨A2, n2, c2, rfl, o2, bb⟩
      have hbO : ∀ b, blk O = some b → b < B := fun b hb => by rw [← hB]; exact (own_lt ho b hb).2
      have hn2 : n2 = z := by rw [Own.len o2, HL3.out]
      rw [hB] at o2
      have S1 : InPa w A n c sg A' m t k0 B O on oc ys A2 n2 c2 L k0 (.int .i64 0) w1 := ⟨0, rfl, by omega, Own.next ho bb, hbO, o2, f.next bb, by rw [← hB]; exact bb.size⟩
      have HS1 := Lib.hid S1
      clear S1 ho bb o2 f cA hbO hB LA
      go_wp2_with fail
      go_loopg [7, 10] k0 (fun g out k wr => out = .slice O on oc ∧ InPa w A n c sg A' m t k0 B O on oc ys A2 n2 c2 L g k wr)
      case atStart => exact ⟨rfl, HS1.out⟩
      case round =>
        obtain ⟨rfl, j, rfl, hj, ho, hbO, o2, f, hBw⟩ := hrel
        clear HS1
        have HJ := Lib.hid hj
        have hjn : j < n2 := by omega
        obtain ⟨b2, off, rfl, hb2, hc2⟩ := own_cell o2 hjn
        obtain ⟨i1, i2, i3⟩ := HX.out j (by omega)
        rw [HG.out j (by omega)] at hc2
        have hjz : (j : Int) < (n2 : Int) := by omega
        have cA := f.cell
        obtain ⟨y, hy⟩ : ∃ y, argP sg t j (q + 1) = y := ⟨_, rfl⟩
        rw [hy] at hc2 i1 i2 i3
        obtain ⟨bj, hbj⟩ : ∃ b, decide (j = k0) = b := ⟨_, rfl⟩
        rw [hbj] at i3
        have HBJ := Lib.hid hbj
        have HY := Lib.hid hy
        have HI3 := Lib.hid i3
        have hb2w := (own_lt o2 b2 rfl).2
        have s1 : Seg wr.drew wr.heap.size A n sg := f.s1.drew
        have s1' : Seg wr.drew wr.heap.size A' m t := f.t1.drew
        replace f := f.drew
        replace ho := Own.drew ho
        replace o2 := Own.drew o2
        clear hj hy i3 hbj
        go_wp2_with fail
        go_region_held3 (fun w' => w'.cell? ⟨w.heap.size, 0, none⟩ = some (.slice A n c) ∧ w'.cell? ⟨b2, off + j, none⟩ = some (.int .i64 y))
          (go_keep)
          (first
            | (go_at_call 69; refine (l3Inside A A' n c m c' sg t (y : Int) (a : Int) _ s1 s1' hn hm i1).mono ?_; rintro e w2 ⟨he, bb⟩; replace cA : w2.cell? ⟨w.heap.size, 0, none⟩ = some (.slice A n c) := (f.next bb).cell; replace hc2 : w2.cell? ⟨b2, off + j, none⟩ = some (.int .i64 y) := (bb.cell (p := ⟨b2, off + j, none⟩) hb2w).trans hc2; rw [HI3.out] at he; subst he))
        replace f := f.next bb
        replace ho := Own.next ho bb
        replace o2 := Own.next o2 bb
        have hBw2 : B ≤ w2.heap.size := Nat.le_trans hBw bb.size
        have hb2l : b2 < w2.heap.size := (own_lt o2 b2 rfl).2
        clear bb s1 s1' hBw hb2w
        cases bj with
        | false =>
          have S : InPa w A n c sg A' m t k0 B O on oc ys (some ⟨b2, off, none⟩) n2 c2 L (gk - 1) (.int .i64 ((j : Int) + 1)) w2 := ⟨j + 1, by simp, by have h1 := HJ.out; have h2 := of_decide_eq_false HBJ.out; omega, ho, hbO, o2, f, hBw2⟩
          have HSS := Lib.hid S
          have hgk : gk - 1 < gk := by have h1 := HJ.out; have h2 := of_decide_eq_false HBJ.out; omega
          clear S ho o2 f cA hc2 i1 i2
          go_wp2
          go_roundg (gk - 1)
          case measure => exact hgk
          case rel => exact ⟨rfl, HSS.out⟩
        | true =>
          have hjk := Lib.hid (show j = k0 from of_decide_eq_true HBJ.out)
          have HC : Hid (∀ (o : Obj) (w3 : World), (w2.alloc o).grownBy w3 (blk O) → w3.cell? ⟨b2, off + j, none⟩ = some (.int .i64 y)) := Lib.hid (fun o w3 hg => cell_kept hg (fun k hk => by have := hbO k hk; show b2 ≠ k; omega) (by show b2 < (w2.alloc o).heap.size; simp; omega) ((((Below.refl w2.heap.size w2).alloc (Nat.le_refl _) o).cell (p := ⟨b2, off + j, none⟩) hb2l).trans hc2))
          have z1 : w.heap.size + 1 ≤ w2.heap.size := f.size
          clear o2 i1
          go_wp2_with (at_builtin; refine app1At rfl _ _ rfl (w.heap.size + 1) O on oc ys rfl (Own.alloc ho _) w2.heap.size 1 (j : Int) rfl ((Row.new _ _ _).cell 0) (by omega) (by simp; omega) ?_; intro O' oc' w3 ho3 hg3 hbl3; have hc3 := HC.out _ _ hg3)
          have b3 : Below (w.heap.size + 1) w2 w3 := (((Below.refl (w.heap.size + 1) w2).alloc z1 _).trans ((Below.refl _ _).grown hg3 (by simp; omega) (fun k hk => (own_lt ho k hk).1)))
          have S : HeadPa w A n c sg A' m t a pa (a - y) (.slice O' (on + 1) oc') (.int .i64 (y : Int)) w3 := ⟨y, O', on + 1, oc', ys ++ [(j : Int)], ab2, pa2, rfl, by omega, rfl, ho3, by have h1 := HTR.out; rw [← hjk.out, HY.out] at h1; exact h1, by rw [← HPA.out, HE2.out, hjk.out]; simp, f.over b3⟩
          have HSS := Lib.hid S
          have hgk : a - y < G := by have h1 := HQ.out; have h5 := H5.out; rw [← hjk.out, HY.out] at h5; omega
          clear S ho ho3 hg3 hbl3 b3 f cA hc2 HC i2
          go_wp2
          go_roundg (a - y)
          case measure => exact hgk
          case rel => exact HSS.out

set_option maxHeartbeats 1000000 in
theorem specPathOf (A A' : Option Addr) (n c m c' : Nat) (sg t : List Int) (x : Int) (pa : List Int) (w : World) (h : Seg w w.heap.size A n sg) (h' : Seg w w.heap.size A' m t) (hn : n ≤ 1048576) (hm : m ≤ 1048576) (hpa : PathIs sg t x pa) :
    Calls Try.prog 25 #[.agg #[.slice A n c], .slice A' m c', .int .i64 x] w (AnsList w pa) := by
  obtain ⟨W, hW⟩ : ∃ W, W = w.alloc (.cells #[.slice A n c] 26) := ⟨_, rfl⟩
  have f : Fr w W A n c sg A' m t := by rw [hW]; exact Fr.start h h'
  have HW := Lib.hid hW
  have L := Lib.hid (right A A' n c m c' sg t x W f.s1 f.t1 hn hm)
  clear hW h h'
  rcases hpa with ⟨hx, ab, hw⟩ | ⟨hx, rfl⟩
  · have HX := Lib.hid hx
    have HTR := Lib.hid hw
    obtain ⟨hok, i0, i1⟩ := there_parts hx
    obtain ⟨a, rfl⟩ := Int.eq_ofNat_of_zero_le i0
    rw [Int.toNat_natCast] at HTR
    have HOK := Lib.hid hok
    have HAL := Lib.hid (show a < t.length by omega)
    clear hx hw hok i0 i1
    go_enter Try.func25, Try.ntmps25
    go_wp2_with fail
    rw [← HW.out]
    refine L.out.mono ?_
    rintro e w1 ⟨he, bb⟩
    rw [HX.out] at he
    subst he
    replace f := f.next bb
    have cA := f.cell
    clear bb L
    go_wp2_with fail
    refine (l3Path A A' n c m c' sg t a ab pa _ f.s1 f.t1 hn hm HOK.out HAL.out HTR.out).mono ?_
    rintro e w2 ⟨A2, n2, c2, rfl, o2, bb⟩
    have F := Lib.hid (list_of (w := w) rfl o2 (Nat.le_of_lt f.size) (f.next bb).b)
    clear f bb o2 cA
    go_wp2
    go_ret
    exact F.out
  · have HX := Lib.hid hx
    clear hx
    go_enter Try.func25, Try.ntmps25
    go_wp2_with fail
    rw [← HW.out]
    refine L.out.mono ?_
    rintro e w1 ⟨he, bb⟩
    rw [HX.out] at he
    subst he
    replace f := f.next bb
    have F := Lib.hid (list_of (w := w) (xs := []) rfl (own_empty w1 w1.heap.size (Nat.le_refl _)) (Nat.le_of_lt f.size) (f.alloc _).b)
    clear f bb L
    go_wp2
    go_ret
    exact F.out
end Go.Proofs.Ytobifgobipcmdaa.pathSpec
end

section
/-
  CONTRACTS: impl.wayTo, impl.AboveOf, impl.PathOf. Conditions: the slices read as lists ('Seg'), at most 1048576 numbers; the places are int64. By an AI agent.
-/
namespace Go.Proofs.Ytobifgobipcmdaa.wayTo
open Go.RowKit Go.Proofs.Ytobifgobipcmdaa.base Go.Proofs.Ytobifgobipcmdaa.ints Go.Proofs.Ytobifgobipcmdaa.sig Go.Proofs.Ytobifgobipcmdaa.term Go.Proofs.Ytobifgobipcmdaa.arity Go.Proofs.Ytobifgobipcmdaa.endOf Go.Proofs.Ytobifgobipcmdaa.cursor Go.Proofs.Ytobifgobipcmdaa.termOk Go.Proofs.Ytobifgobipcmdaa.endAt Go.Proofs.Ytobifgobipcmdaa.inside Go.Proofs.Ytobifgobipcmdaa.marks Go.Proofs.Ytobifgobipcmdaa.app Go.Proofs.Ytobifgobipcmdaa.appAt Go.Proofs.Ytobifgobipcmdaa.sym Go.Proofs.Ytobifgobipcmdaa.args Go.Proofs.Ytobifgobipcmdaa.posMath Go.Proofs.Ytobifgobipcmdaa.pathSpec
set_option maxRecDepth 100000

/-- what stands in the course of wayTo: the cursor at k, the two lists, apart -/
structure Wy (w wr : World) (P : Nat) (A : Option Addr) (n c : Nat) (A' : Option Addr) (m c' : Nat) (sg t : List Int) (k : Nat) (O1 : Option Addr) (n1 c1 : Nat) (ys1 : List Int) (O2 : Option Addr) (n2 c2 : Nat) (ys2 : List Int) : Prop where
  cu : Cur wr P A n c A' m c' sg t k
  b : Below w.heap.size w wr
  hP : w.heap.size ≤ P
  o1 : Own wr (P + 1) (.slice O1 n1 c1) ys1
  o2 : Own wr (P + 1) (.slice O2 n2 c2) ys2
  dj : blk O1 = none ∨ blk O1 ≠ blk O2
section
variable {w wr w' : World} {P : Nat} {A : Option Addr} {n c : Nat} {A' : Option Addr} {m c' : Nat} {sg t : List Int} {k k' : Nat} {O1 : Option Addr} {n1 c1 : Nat} {ys1 : List Int} {O2 : Option Addr} {n2 c2 : Nat} {ys2 : List Int}
theorem Wy.lt (y : Wy w wr P A n c A' m c' sg t k O1 n1 c1 ys1 O2 n2 c2 ys2) : P < wr.heap.size := y.cu.row.lt
theorem Wy.move (y : Wy w wr P A n c A' m c' sg t k O1 n1 c1 ys1 O2 n2 c2 ys2) (hg : wr.grownBy w' (some P)) (cu : Cur w' P A n c A' m c' sg t k') : Wy w w' P A n c A' m c' sg t k' O1 n1 c1 ys1 O2 n2 c2 ys2 :=
  ⟨cu, y.b.grown hg (Nat.le_trans y.hP (Nat.le_of_lt y.lt)) (fun j hj => by injection hj with hj; rw [← hj]; exact y.hP), y.hP, Own.far y.o1 hg (fun j hj => by injection hj; omega), Own.far y.o2 hg (fun j hj => by injection hj; omega), y.dj⟩
theorem Wy.over (y : Wy w wr P A n c A' m c' sg t k O1 n1 c1 ys1 O2 n2 c2 ys2) {o : Obj} {r : Option Nat} (hg : (wr.alloc o).grownBy w' r) (hr : ∀ j, r = some j → P + 1 ≤ j) : Below (P + 1) wr w' :=
  ((Below.refl (P + 1) wr).alloc y.lt _).grown hg (by have := y.lt; simp; omega) hr
theorem Wy.app1 (y : Wy w wr P A n c A' m c' sg t k O1 n1 c1 ys1 O2 n2 c2 ys2) {o : Obj} {O1' : Option Addr} {n1' c1' : Nat} {zs : List Int} (ho : Own w' (P + 1) (.slice O1' n1' c1') zs) (hg : (wr.alloc o).grownBy w' (blk O1)) (hb : blk O1' = blk O1 ∨ blk O1' = some (wr.alloc o).heap.size) :
    Wy w w' P A n c A' m c' sg t k O1' n1' c1' zs O2 n2 c2 ys2 := by
  have hov := y.over hg (fun j hj => (own_lt y.o1 j hj).1)
  refine ⟨Cur.keep y.cu hov, y.b.trans (hov.mono (Nat.le_succ_of_le y.hP)), y.hP, ho, Own.kept (Own.alloc y.o2 _) hg ?_, ?_⟩
  · cases h2 : blk O2 with
    | none => exact .inl rfl
    | some z =>
      refine .inr (fun e => ?_)
      rcases y.dj with h | h
      · rw [h] at e; cases e
      · exact h (by rw [← e, h2])
  · rcases hb with e | e
    · rw [e]; exact y.dj
    · refine .inr (fun h => ?_)
      rw [e] at h
      have := (own_lt y.o2 _ h.symm).2
      simp at this
      omega
theorem Wy.app2 (y : Wy w wr P A n c A' m c' sg t k O1 n1 c1 ys1 O2 n2 c2 ys2) {o : Obj} {O2' : Option Addr} {n2' c2' : Nat} {zs : List Int} (ho : Own w' (P + 1) (.slice O2' n2' c2') zs) (hg : (wr.alloc o).grownBy w' (blk O2)) (hb : blk O2' = blk O2 ∨ blk O2' = some (wr.alloc o).heap.size) :
    Wy w w' P A n c A' m c' sg t k O1 n1 c1 ys1 O2' n2' c2' zs := by
  have hov := y.over hg (fun j hj => (own_lt y.o2 j hj).1)
  refine ⟨Cur.keep y.cu hov, y.b.trans (hov.mono (Nat.le_succ_of_le y.hP)), y.hP, Own.kept (Own.alloc y.o1 _) hg y.dj, ho, ?_⟩
  rcases hb with e | e
  · rw [e]; exact y.dj
  · refine .inr (fun h => ?_)
    rw [e] at h
    have := (own_lt y.o1 _ h).2
    simp at this
    omega
theorem Cur.setAt {p : Nat} (h : Cur w p A n c A' m c' sg t k) (hk : k' ≤ m) : Cur (w.setCell ⟨p, 2, none⟩ (.int .i64 (k' : Int))) p A n c A' m c' sg t k' :=
  ⟨h.row.put 2 _, h.s.put (Nat.le_refl _) _, h.s'.put (Nat.le_refl _) _, hk, h.hn, h.hm, h.ars⟩
theorem Wy.set (y : Wy w wr P A n c A' m c' sg t k O1 n1 c1 ys1 O2 n2 c2 ys2) (hk : k' ≤ m) : Wy w (wr.setCell ⟨P, 2, none⟩ (.int .i64 (k' : Int))) P A n c A' m c' sg t k' O1 n1 c1 ys1 O2 n2 c2 ys2 :=
  y.move (grown_put (World.grownBy.refl _ _) _ _) (Cur.setAt y.cu hk)
end

def AnsTwo (w : World) (ab pa : List Int) (e : Ending) (w' : World) : Prop :=
  ∃ (O1 : Option Addr) (n1 c1 : Nat) (O2 : Option Addr) (n2 c2 : Nat), e = .returned (.tuple #[.slice O1 n1 c1, .slice O2 n2 c2]) ∧ Own w' w.heap.size (.slice O1 n1 c1) ab ∧ Own w' w.heap.size (.slice O2 n2 c2) pa ∧ Below w.heap.size w w'
def TrailIs (sg t : List Int) (x : Int) (ab pa : List Int) : Prop := (thereB sg t x = true ∧ Trail sg t x.toNat 0 ab pa) ∨ (thereB sg t x = false ∧ ab = [] ∧ pa = [])
theorem PathIs.trail {sg t : List Int} {x : Int} {pa : List Int} (h : PathIs sg t x pa) : ∃ ab, TrailIs sg t x ab pa := by
  rcases h with ⟨e, ab, hw⟩ | ⟨e, rfl⟩
  · exact ⟨ab, .inl ⟨e, hw⟩⟩
  · exact ⟨[], .inr ⟨e, rfl, rfl⟩⟩
theorem TrailIs.above {sg t : List Int} {x : Int} {ab pa : List Int} (h : TrailIs sg t x ab pa) : ab = aboveI sg t x := by
  rcases h with ⟨e, hw⟩ | ⟨e, rfl, rfl⟩
  · obtain ⟨hok, h0, h1⟩ := there_parts e
    unfold aboveI
    rw [if_pos e, hw.aboveL hok (by omega)]
  · rw [above_no e]
theorem TrailIs.path {sg t : List Int} {x : Int} {ab pa : List Int} (h : TrailIs sg t x ab pa) : PathIs sg t x pa := by
  rcases h with ⟨e, hw⟩ | ⟨e, rfl, rfl⟩
  · exact .inl ⟨e, ab, hw⟩
  · exact .inr ⟨e, rfl⟩

def HeadWy (w : World) (P : Nat) (A : Option Addr) (n c : Nat) (A' : Option Addr) (m c' : Nat) (sg t : List Int) (a : Nat) (ab pa : List Int) (g : Nat) (s6 s7 : Value) (wr : World) : Prop :=
  ∃ (q : Nat) (O1 : Option Addr) (n1 c1 : Nat) (ys1 : List Int) (O2 : Option Addr) (n2 c2 : Nat) (ys2 ab' pa' : List Int), q + g = a ∧ s6 = .slice O1 n1 c1 ∧ s7 = .slice O2 n2 c2 ∧ Wy w wr P A n c A' m c' sg t q O1 n1 c1 ys1 O2 n2 c2 ys2 ∧ Trail sg t a q ab' pa' ∧ ys1 ++ ab' = ab ∧ ys2 ++ pa' = pa

set_option maxHeartbeats 4000000 in
theorem wayTo (A A' : Option Addr) (n c m c' : Nat) (sg t : List Int) (x : Int) (ab pa : List Int) (w : World) (h : Seg w w.heap.size A n sg) (h' : Seg w w.heap.size A' m t) (hn : n ≤ 1048576) (hm : m ≤ 1048576) (hw : TrailIs sg t x ab pa) :
    Calls Try.prog 59 #[.agg #[.slice A n c], .slice A' m c', .int .i64 x] w (AnsTwo w ab pa) := by
  obtain ⟨W, hW⟩ : ∃ W, W = w.alloc (.cells #[.slice A n c] 26) := ⟨_, rfl⟩
  have f : Fr w W A n c sg A' m t := by rw [hW]; exact Fr.start h h'
  have HW := Lib.hid hW
  have HL := Lib.hid h'.1
  have L := Lib.hid (placeIn A A' n c m c' sg t x W f.s1 f.t1 hn hm)
  clear hW h h'
  rcases hw with ⟨hx, hw⟩ | ⟨hx, rfl, rfl⟩
  · obtain ⟨hok, i0, i1⟩ := there_parts hx
    obtain ⟨a, rfl⟩ := Int.eq_ofNat_of_zero_le i0
    rw [Int.toNat_natCast] at hw
    have hal : a < t.length := by omega
    have h60 := (termOk_parts hok).2.1
    have ha60 : a < 60 := by omega
    have hars := (sig_arities (termOk_parts hok).1).1
    have HX := Lib.hid hx
    have HOK := Lib.hid hok
    have HAL := Lib.hid hal
    have HLP := Lib.hid hw.le.2
    have HLA := Lib.hid hw.len
    have HTR := Lib.hid hw
    clear hx hok hal h60 i0 i1 hw
    go_enter Try.func59, Try.ntmps59
    go_wp2_with fail
    go_step3
    go_wp2_with fail
    rw [← HW.out]
    refine L.out.mono ?_
    rintro e w1 ⟨he, bb⟩
    rw [HX.out] at he
    subst he
    replace f := f.next bb
    have cA := f.cell
    clear bb L
    have y0 : Wy w (w1.alloc (.cells #[.slice A n c, .slice A' m c', .int .i64 (0 : Nat)] 63)) w1.heap.size A n c A' m c' sg t 0 none 0 0 [] none 0 0 [] :=
      ⟨cur_new f.s1 f.t1 hn hm hars 0 (Nat.zero_le _), (f.alloc _).b, Nat.le_of_lt f.size, Own.nil _ _, Own.nil _ _, .inl rfl⟩
    have S0 : HeadWy w w1.heap.size A n c A' m c' sg t a ab pa a (.slice none 0 0) (.slice none 0 0) (w1.alloc (.cells #[.slice A n c, .slice A' m c', .int .i64 0] 63)) := ⟨0, none, 0, 0, [], none, 0, 0, [], ab, pa, by omega, rfl, rfl, y0, HTR.out, rfl, rfl⟩
    have HS := Lib.hid S0
    clear S0 y0 f
    go_wp2
    go_step3
    go_wp2
    clear cA
    generalize w1.heap.size = P at *
    go_loopg [6, 7] a (fun g s6 s7 wr => HeadWy w P A n c A' m c' sg t a ab pa g s6 s7 wr)
    case atStart => exact HS.out
    case round =>
      obtain ⟨q, O1, n1, c1, ys1, O2, n2, c2, ys2, ab', pa', hq, rfl, rfl, y, htr, hab, hpa⟩ := hrel
      obtain ⟨G, hG⟩ : ∃ G, G = gk := ⟨_, rfl⟩
      subst hG
      clear HS
      have hn1 : n1 ≤ 60 := by
        rw [Own.len y.o1]
        have h1 := HLP.out
        have h2 := HLA.out
        rw [← hab] at h2
        simp only [List.length_append] at h2
        omega
      have hn2 : n2 ≤ 60 := by
        rw [Own.len y.o2]
        have h1 := HLP.out
        rw [← hpa] at h1
        simp only [List.length_append] at h1
        omega
      have HQ := Lib.hid hq
      have HPA := Lib.hid hpa
      have HAB := Lib.hid hab
      have cp : wr.cell? ⟨P, 2, none⟩ = some (.int .i64 (q : Int)) := y.cu.row.cell 2
      have hPw := y.lt
      clear hq hpa hab
      by_cases hqa : q = a
      · subst hqa
        obtain ⟨rfl, rfl⟩ := htr.here_eq
        have F : AnsTwo w ab pa (.returned (.tuple #[.slice O1 n1 c1, .slice O2 n2 c2])) wr := ⟨O1, n1, c1, O2, n2, c2, rfl, by rw [← HAB.out, List.append_nil]; exact Own.lower y.o1 (Nat.le_succ_of_le y.hP), by rw [← HPA.out, List.append_nil]; exact Own.lower y.o2 (Nat.le_succ_of_le y.hP), y.b⟩
        have HF := Lib.hid F
        clear F y htr
        go_wp2
        try rw [Exit.noGoto_ret]
        go_ret2
        exact HF.out
      · obtain ⟨k0, ab2, pa2, e1, e2, hqlt, hk0, h3, h4, h5, htr'⟩ := Trail.split htr hqa
        have HE1 := Lib.hid e1
        have HE2 := Lib.hid e2
        have hok := HOK.out
        have hal := HAL.out
        have hneg := (head_scan hok (show q < t.length by omega)).1
        have hzb := ar_bd hars (t.getD q 0)
        have HX2 : Hid (∀ j : Nat, j ≤ k0 → scan sg 1 (t.drop (argP sg t j (q + 1))) = some (len1 sg t (argP sg t j (q + 1))) ∧ decide (a < argP sg t (j + 1) (q + 1)) = decide (j = k0) ∧ argP sg t (j + 1) (q + 1) = argP sg t j (q + 1) + len1 sg t (argP sg t j (q + 1)) ∧ argP sg t j (q + 1) ≤ a) := Lib.hid (fun j hj => by
          obtain ⟨b1, b2, b3⟩ := arg_at hok (show q < t.length by omega) (show j < arN sg t q by omega)
          refine ⟨(term_at hok b3).1, ?_, argP_succ _ _, by have := argP_mono (sg := sg) (t := t) (p := q + 1) hj; omega⟩
          by_cases hjk : j = k0
          · rw [decide_eq_true hjk, decide_eq_true (by subst hjk; rw [argP_succ]; exact h4)]
          · have b5 := argP_mono (sg := sg) (t := t) (p := q + 1) (show j + 1 ≤ k0 by omega)
            rw [decide_eq_false hjk, decide_eq_false (by omega)])
        obtain ⟨z, hz⟩ : ∃ z, ar sg (t.getD q 0) = z := ⟨_, rfl⟩
        have hk0z : (k0 : Int) < z := by unfold arN at hk0; omega
        have HZ := Lib.hid hz
        have HTR := Lib.hid htr'
        have H3 := Lib.hid h3
        have H5 := Lib.hid h5
        have HA0 : Hid (argP sg t 0 (q + 1) = q + 1) := Lib.hid rfl
        rw [hz] at hzb hneg
        clear hok hal htr htr' h3 h4 h5 e1 e2 hz hk0
        go_wp2_with (at_builtin; refine app1At rfl _ _ rfl (P + 1) O1 n1 c1 ys1 rfl (Own.alloc y.o1 _) wr.heap.size 1 (q : Int) rfl ((Row.new _ _ _).cell 0) (by omega) (by simp; omega) ?_; intro O1' c1' w3 ho3 hg3 hb3)
        have y3 := y.app1 ho3 hg3 hb3
        clear y ho3 hg3 hb3 cp hPw
        refine (next P A n c A' m c' sg t q _ y3.cu).mono ?_
        rintro e w4 ⟨hg4, ⟨-, he, hc4⟩ | ⟨hk', -, -⟩⟩
        case inr => have := HAL.out; have := HL.out; omega
        rw [HZ.out] at he
        subst he
        have y4 := y3.move hg4 hc4
        clear y3 hg4 hc4
        have HS1 := Lib.hid y4
        clear y4
        go_wp2_with fail
        go_loopg [7, 29] k0 (fun g s7 s29 wr => s7 = .slice O2 n2 c2 ∧ ∃ j : Nat, s29 = .int .i64 j ∧ j + g = k0 ∧ Wy w wr P A n c A' m c' sg t (argP sg t j (q + 1)) O1' (n1 + 1) c1' (ys1 ++ [(q : Int)]) O2 n2 c2 ys2)
        case atStart => exact ⟨rfl, 0, rfl, by omega, by rw [HA0.out]; exact HS1.out⟩
        case round =>
          obtain ⟨rfl, j, rfl, hj, y⟩ := hrel
          clear HS1
          have HJ := Lib.hid hj
          have hjz : (j : Int) < z := by omega
          obtain ⟨i1, i2, i3, i4⟩ := HX2.out j (by omega)
          obtain ⟨r, hr⟩ : ∃ r, argP sg t j (q + 1) = r := ⟨_, rfl⟩
          rw [hr] at i1 i3 i4 y
          have HR := Lib.hid hr
          have I1 := Lib.hid i1
          have I3 := Lib.hid i3
          obtain ⟨bj, hbj⟩ : ∃ b, decide (j = k0) = b := ⟨_, rfl⟩
          rw [hbj] at i2
          have HBJ := Lib.hid hbj
          have I2 := Lib.hid i2
          have cp : wr.cell? ⟨P, 2, none⟩ = some (.int .i64 (r : Int)) := y.cu.row.cell 2
          have hj64 : j ≤ 60 := by have := hzb.2; omega
          clear hj hr i1 i2 i3 hbj
          go_wp2_with fail
          refine (pass P A n c A' m c' sg t r _ y.cu).mono ?_
          rintro e w5 ⟨hg5, ⟨j', hj', rfl, hc5⟩ | ⟨hj', -, -⟩⟩
          case inr => rw [I1.out] at hj'; cases hj'
          have hj2 : len1 sg t r = j' := len1_eq hj'
          have y5 := y.move hg5 hc5
          obtain ⟨s, hs⟩ : ∃ s, argP sg t (j + 1) (q + 1) = s := ⟨_, rfl⟩
          have hrs : r + j' = s := by rw [← hs, I3.out, hj2]
          rw [hrs] at y5
          have HS2 := Lib.hid hs
          have i2 := I2.out
          rw [hs] at i2
          clear y cp hg5 hc5 hj' hj2 hs hrs
          have cp : w5.cell? ⟨P, 2, none⟩ = some (.int .i64 (s : Int)) := y5.cu.row.cell 2
          have hPw := y5.lt
          cases bj with
          | false =>
            have hle : ¬ (a : Int) < (s : Int) := by have := of_decide_eq_false i2; omega
            have SS := Lib.hid (show Wy w w5 P A n c A' m c' sg t (argP sg t (j + 1) (q + 1)) O1' (n1 + 1) c1' (ys1 ++ [(q : Int)]) O2 n2 c2 ys2 by rw [HS2.out]; exact y5)
            have hgk : gk - 1 < gk ∧ j + 1 + (gk - 1) = k0 := by have h1 := HJ.out; have h2 := of_decide_eq_false HBJ.out; omega
            have HGK := Lib.hid hgk
            clear y5 i2 hgk i4
            go_wp2
            go_roundg (gk - 1)
            case measure => exact HGK.out.1
            case rel => exact ⟨rfl, j + 1, by simp, HGK.out.2, SS.out⟩
          | true =>
            have hlt : (a : Int) < (s : Int) := by have := of_decide_eq_true i2; omega
            have hjk := Lib.hid (show j = k0 from of_decide_eq_true HBJ.out)
            clear i2
            go_wp2_with (at_builtin; refine app1At rfl _ _ rfl (P + 1) O2 n2 c2 ys2 rfl (Own.alloc y5.o2 _) w5.heap.size 1 (j : Int) rfl ((Row.new _ _ _).cell 0) (by omega) (by simp; omega) ?_; intro O2' c2' w6 ho6 hg6 hb6; have y6 := y5.app2 ho6 hg6 hb6; have fr6 := y6.cu.row.free 2; have cp6 := y6.cu.row.cell 2)
            have hrm : r ≤ m := by have := HAL.out; have := HL.out; omega
            have y7 := y6.set (k' := r) hrm
            have S : HeadWy w P A n c A' m c' sg t a ab pa (a - r) (.slice O1' (n1 + 1) c1') (.slice O2' (n2 + 1) c2') (w6.setCell ⟨P, 2, none⟩ (.int .i64 (r : Int))) :=
              ⟨r, O1', n1 + 1, c1', ys1 ++ [(q : Int)], O2', n2 + 1, c2', ys2 ++ [(j : Int)], ab2, pa2, by omega, rfl, rfl, y7, by have h1 := HTR.out; rw [← hjk.out, HR.out] at h1; exact h1, by rw [← HAB.out, HE1.out]; simp, by rw [← HPA.out, HE2.out, hjk.out]; simp⟩
            have HSS := Lib.hid S
            have hgk := Lib.hid (show a - r < G by have h1 := HQ.out; have h5 := H5.out; rw [← hjk.out, HR.out] at h5; omega)
            clear S y7 y5 y6 cp ho6 hg6 hb6 hlt i4
            go_wp2
            go_roundg (a - r)
            case measure => exact hgk.out
            case rel => exact HSS.out
  · have HX := Lib.hid hx
    clear hx
    go_enter Try.func59, Try.ntmps59
    go_wp2_with fail
    go_step3
    go_wp2_with fail
    rw [← HW.out]
    refine L.out.mono ?_
    rintro e w1 ⟨he, bb⟩
    rw [HX.out] at he
    subst he
    have F : AnsTwo w [] [] (.returned (.tuple #[.slice none 0 0, .slice none 0 0])) w1 := ⟨none, 0, 0, none, 0, 0, rfl, Own.nil _ _, Own.nil _ _, (f.next bb).b⟩
    replace F := Lib.hid F
    clear f bb L
    go_wp2
    try rw [Exit.noGoto_ret]
    go_ret2
    exact F.out

set_option maxHeartbeats 1000000 in
theorem implAboveOf (A A' : Option Addr) (n c m c' : Nat) (sg t : List Int) (x : Int) (w : World) (h : Seg w w.heap.size A n sg) (h' : Seg w w.heap.size A' m t) (hn : n ≤ 1048576) (hm : m ≤ 1048576) (_ : -9223372036854775808 ≤ x) (_ : x ≤ 9223372036854775807) :
    Calls Try.prog 28 #[.agg #[.slice A n c], .slice A' m c', .int .i64 x] w (AnsList w (aboveI sg t x)) := by
  obtain ⟨W, hW⟩ : ∃ W, W = w.alloc (.cells #[.slice A n c] 26) := ⟨_, rfl⟩
  have f : Fr w W A n c sg A' m t := by rw [hW]; exact Fr.start h h'
  have HW := Lib.hid hW
  obtain ⟨pa, hpa⟩ := path_ex sg t x
  obtain ⟨ab, htr⟩ := PathIs.trail hpa
  have L := Lib.hid (wayTo A A' n c m c' sg t x ab pa W f.s1 f.t1 hn hm htr)
  have HA := Lib.hid (TrailIs.above htr)
  have z := f.size
  have b0 := f.b
  clear hW h h' hpa htr f
  go_enter Try.func28, Try.ntmps28
  go_wp2_with fail
  rw [← HW.out]
  refine L.out.mono ?_
  rintro e w1 ⟨O1, n1, c1, O2, n2, c2, rfl, o1, o2, bb⟩
  have F := Lib.hid (list_of (w := w) HA.out.symm o1 (Nat.le_of_lt z) (next_trans b0 bb))
  clear bb L HA o1 o2 b0
  go_wp2
  go_ret
  exact F.out

set_option maxHeartbeats 1000000 in
theorem implPathOf (A A' : Option Addr) (n c m c' : Nat) (sg t : List Int) (x : Int) (pa : List Int) (w : World) (h : Seg w w.heap.size A n sg) (h' : Seg w w.heap.size A' m t) (hn : n ≤ 1048576) (hm : m ≤ 1048576) (hpa : PathIs sg t x pa) :
    Calls Try.prog 21 #[.agg #[.slice A n c], .slice A' m c', .int .i64 x] w (AnsList w pa) := by
  obtain ⟨W, hW⟩ : ∃ W, W = w.alloc (.cells #[.slice A n c] 26) := ⟨_, rfl⟩
  have f : Fr w W A n c sg A' m t := by rw [hW]; exact Fr.start h h'
  have HW := Lib.hid hW
  obtain ⟨ab, htr⟩ := PathIs.trail hpa
  have L := Lib.hid (wayTo A A' n c m c' sg t x ab pa W f.s1 f.t1 hn hm htr)
  have z := f.size
  have b0 := f.b
  clear hW h h' hpa htr f
  go_enter Try.func21, Try.ntmps21
  go_wp2_with fail
  rw [← HW.out]
  refine L.out.mono ?_
  rintro e w1 ⟨O1, n1, c1, O2, n2, c2, rfl, o1, o2, bb⟩
  have F := Lib.hid (list_of (w := w) rfl o2 (Nat.le_of_lt z) (next_trans b0 bb))
  clear bb L o1 o2 b0
  go_wp2
  go_ret
  exact F.out
theorem above_len {sg t : List Int} {x : Int} : (aboveI sg t x).length ≤ 1048576 := by
  unfold aboveI
  split
  · rename_i h
    obtain ⟨hok, h0, h1⟩ := there_parts h
    have := (termOk_parts hok).2.1
    have := up_len (sg := sg) (t := t) (a := x.toNat) x.toNat 0
    unfold aboveL
    omega
  · simp
theorem path_len {sg t : List Int} {x : Int} {pa : List Int} (h : PathIs sg t x pa) : pa.length ≤ 1048576 := by have := h.len; omega
theorem specPathX (A A' : Option Addr) (n c m c' : Nat) (sg t : List Int) (x : Int) (w : World) (h : Seg w w.heap.size A n sg) (h' : Seg w w.heap.size A' m t) (hn : n ≤ 1048576) (hm : m ≤ 1048576) (_ : -9223372036854775808 ≤ x) (_ : x ≤ 9223372036854775807) {pa : List Int} (hpa : PathIs sg t x pa) :
    Calls Try.prog 25 #[.agg #[.slice A n c], .slice A' m c', .int .i64 x] w (AnsList w pa) := specPathOf A A' n c m c' sg t x pa w h h' hn hm hpa
theorem implPathX (A A' : Option Addr) (n c m c' : Nat) (sg t : List Int) (x : Int) (w : World) (h : Seg w w.heap.size A n sg) (h' : Seg w w.heap.size A' m t) (hn : n ≤ 1048576) (hm : m ≤ 1048576) (_ : -9223372036854775808 ≤ x) (_ : x ≤ 9223372036854775807) {pa : List Int} (hpa : PathIs sg t x pa) :
    Calls Try.prog 21 #[.agg #[.slice A n c], .slice A' m c', .int .i64 x] w (AnsList w pa) := implPathOf A A' n c m c' sg t x pa w h h' hn hm hpa
end Go.Proofs.Ytobifgobipcmdaa.wayTo
end

section
/-
  CONTRACTS: spec.PlaceOf, impl.PlaceOf. Conditions: the slices read as lists ('Seg'), at most 1048576 numbers. By an AI agent.
-/
namespace Go.Proofs.Ytobifgobipcmdaa.place
open Go.RowKit Go.Proofs.Ytobifgobipcmdaa.base Go.Proofs.Ytobifgobipcmdaa.ints Go.Proofs.Ytobifgobipcmdaa.sig Go.Proofs.Ytobifgobipcmdaa.term Go.Proofs.Ytobifgobipcmdaa.arity Go.Proofs.Ytobifgobipcmdaa.endOf Go.Proofs.Ytobifgobipcmdaa.cursor Go.Proofs.Ytobifgobipcmdaa.termOk Go.Proofs.Ytobifgobipcmdaa.endAt Go.Proofs.Ytobifgobipcmdaa.inside Go.Proofs.Ytobifgobipcmdaa.marks Go.Proofs.Ytobifgobipcmdaa.app Go.Proofs.Ytobifgobipcmdaa.appAt Go.Proofs.Ytobifgobipcmdaa.sym Go.Proofs.Ytobifgobipcmdaa.args Go.Proofs.Ytobifgobipcmdaa.posMath Go.Proofs.Ytobifgobipcmdaa.pathSpec Go.Proofs.Ytobifgobipcmdaa.wayTo
set_option maxRecDepth 100000

def placeI (sg t path : List Int) : Int := if termOkB sg t = true then walkI sg t 0 path else -1
def GivesI (w : World) (v : Int) (e : Ending) (w' : World) : Prop := e = .returned (.int .i64 v) ∧ Below w.heap.size w w'
theorem drop_step {path : List Int} {i : Nat} (h : i < path.length) : path.drop i = path.getD i 0 :: path.drop (i + 1) := drop_cons h

/-- so far: at place q, i steps of the path made -/
def HeadPl (w : World) (A : Option Addr) (n c : Nat) (sg : List Int) (A' : Option Addr) (m : Nat) (t : List Int) (Ap : Option Addr) (pn : Nat) (path : List Int) (R : Int) (g : Nat) (p i : Value) (wr : World) : Prop :=
  ∃ (q k : Nat), p = .int .i64 q ∧ i = .int .i64 k ∧ k + g = pn ∧ q < t.length ∧ walkI sg t q (path.drop k) = R ∧ Fr w wr A n c sg A' m t ∧ Seg wr w.heap.size Ap pn path

set_option maxHeartbeats 1000000 in
theorem specPlaceOf (A A' Ap : Option Addr) (n c m c' pn pc : Nat) (sg t path : List Int) (w : World) (h : Seg w w.heap.size A n sg) (h' : Seg w w.heap.size A' m t) (hp : Seg w w.heap.size Ap pn path) (hn : n ≤ 1048576) (hm : m ≤ 1048576) (hpn : pn ≤ 1048576) :
    Calls Try.prog 27 #[.agg #[.slice A n c], .slice A' m c', .slice Ap pn pc] w (GivesI w (placeI sg t path)) := by
  obtain ⟨W, hW⟩ : ∃ W, W = w.alloc (.cells #[.slice A n c] 26) := ⟨_, rfl⟩
  have f : Fr w W A n c sg A' m t := by rw [hW]; exact Fr.start h h'
  replace hp : Seg W w.heap.size Ap pn path := hp.below f.b
  have HW := Lib.hid hW
  have HL := Lib.hid h'.1
  have HLP := Lib.hid hp.1
  have L := Lib.hid (specTermOk A A' n c m c' sg t W f.s1 f.t1 hn hm)
  clear hW h h'
  cases hok : termOkB sg t with
  | false =>
    have HS := Lib.hid hok
    have HR := Lib.hid (show placeI sg t path = -1 by unfold placeI; rw [if_neg (by rw [hok]; simp)])
    clear hok hp
    go_enter Try.func27, Try.ntmps27
    go_wp2_with fail
    rw [← HW.out]
    refine L.out.mono ?_
    rintro e w1 ⟨he, bb⟩
    rw [HS.out] at he
    subst he
    have F := Lib.hid (show GivesI w (placeI sg t path) (.returned (.int .i64 (-1))) w1 from ⟨by rw [HR.out], (f.next bb).b⟩)
    clear f L bb
    go_wp2
    go_ret
    exact F.out
  | true =>
    have HS := Lib.hid hok
    have HR := Lib.hid (show placeI sg t path = walkI sg t 0 path by unfold placeI; rw [if_pos hok])
    have h60 := (termOk_parts hok).2.1
    have h1 := (root_len hok)
    have hpos : 0 < t.length := by
      by_cases e : 0 < t.length
      · exact e
      · have h3 := (termOk_parts hok).2.2
        have h2 := scan_pos (q := 0) h3
        omega
    obtain ⟨R, hR⟩ : ∃ R, walkI sg t 0 path = R := ⟨_, rfl⟩
    rw [hR] at HR
    have hars := (sig_arities (termOk_parts hok).1).1
    go_enter Try.func27, Try.ntmps27
    go_wp2_with fail
    rw [← HW.out]
    refine L.out.mono ?_
    rintro e w1 ⟨he, bb⟩
    rw [HS.out] at he
    subst he
    have bw : Below w.heap.size W w1 := bb.mono (Nat.le_of_lt f.size)
    have S0 : HeadPl w A n c sg A' m t Ap pn path R pn (.int .i64 0) (.int .i64 0) w1 := ⟨0, 0, rfl, rfl, by omega, hpos, hR, f.next bb, hp.below bw⟩
    have HS0 := Lib.hid S0
    clear S0 f bb bw hp L hR h1 hpos hok h60
    go_wp2_with fail
    go_loopg [7, 8] pn (fun g p i wr => HeadPl w A n c sg A' m t Ap pn path R g p i wr)
    case atStart => exact HS0.out
    case round =>
      obtain ⟨q, k, rfl, rfl, hk, hq, hwk, f, hp⟩ := hrel
      clear HS0
      have HK := Lib.hid hk
      have HWK := Lib.hid hwk
      have HQ := Lib.hid hq
      have hpnB := hpn
      clear hk hwk
      by_cases hlt : k < pn
      · obtain ⟨b, off, s, rfl, hbb, hs, es⟩ := hp.spot hlt
        have hok := HS.out
        obtain ⟨t1, t2, t3⟩ := term_at hok hq
        have LA := Lib.hid (l1Args A A' n c m c' sg t q (len1 sg t q) wr f.s1 f.t1 hn hm hars (by rw [← HL.out]; exact hq) t1 (by rw [← HL.out]; exact t3))
        have hL3 : (argsL sg t q).length = arN sg t q := argsL_arN
        have hars3 : arN sg t q ≤ 3 := by have := ar_bd hars (t.getD q 0); unfold arN; omega
        have hz0 : ar sg (t.getD q 0) = (arN sg t q : Int) := by have := (head_scan hok hq).1; unfold arN; omega
        have HSTEP := Lib.hid (show path.drop k = s :: path.drop (k + 1) by rw [drop_step (by rw [HLP.out]; exact hlt), es.out])
        have HG : Hid (∀ j : Nat, j < arN sg t q → (argsL sg t q).getD j 0 = (argP sg t j (q + 1) : Int) ∧ argP sg t j (q + 1) < t.length) := Lib.hid (fun j hj => ⟨argsL_get hj, (arg_at hok hq hj).2.2⟩)
        obtain ⟨Ls, hLs⟩ : ∃ L, argsL sg t q = L := ⟨_, rfl⟩
        rw [hLs] at LA HG hL3
        obtain ⟨z, hz⟩ : ∃ z, arN sg t q = z := ⟨_, rfl⟩
        rw [hz] at hL3 hars3 HG hz0
        have HZ := Lib.hid hz
        have HZ0 := Lib.hid hz0
        have HL3 := Lib.hid hL3
        have cA := f.cell
        have hbs := f.size
        clear hok t1 t2 t3 hLs hz hz0 hL3 es hq
        go_wp2_with fail
        refine LA.out.mono ?_
        rintro e w2 ⟨A2, n2, c2, rfl, o2, bb⟩
        obtain rfl : n2 = z := by rw [Own.len o2, HL3.out]
        have hs2 : w2.cell? ⟨b, off + k, none⟩ = some (.int .i64 s) := (bb.cell (p := ⟨b, off + k, none⟩) (by show b < wr.heap.size; omega)).trans hs
        replace f := f.next bb
        replace hp := hp.below (bb.mono (Nat.le_of_lt hbs))
        clear LA bb cA hs hbs
        by_cases hin : 0 ≤ s ∧ s ≤ (n2 : Int) - 1
        · obtain ⟨j, rfl⟩ := Int.eq_ofNat_of_zero_le hin.1
          have hjz : j < n2 := by omega
          obtain ⟨b2, off2, rfl, hb2, hc2⟩ := own_cell o2 (show j < n2 by omega)
          obtain ⟨g1, g2⟩ := HG.out j hjz
          rw [g1] at hc2
          have hjn : (j : Int) < (n2 : Int) := by omega
          have hIN := Lib.hid hin
          have S : HeadPl w A n c sg A' m t (some ⟨b, off, none⟩) pn path R (gk - 1) (.int .i64 (argP sg t j (q + 1) : Nat)) (.int .i64 ((k : Int) + 1)) w2 :=
            ⟨argP sg t j (q + 1), k + 1, rfl, by simp, by have := HK.out; omega, g2, by rw [← HWK.out, HSTEP.out, walk_step (by rw [HZ.out]; exact hjz)], f, hp⟩
          have HSS := Lib.hid S
          have hgk := Lib.hid (show gk - 1 < gk by have := HK.out; omega)
          generalize argP sg t j (q + 1) = y at *
          clear S f hp o2 g1 g2 hin
          go_wp2_with fail
          refine (inYes _ _ _ _ hIN.out).mono ?_
          rintro e w3 ⟨rfl, rfl⟩
          go_wp2
          go_roundg (gk - 1)
          case measure => exact hgk.out
          case rel => exact HSS.out
        · have F := Lib.hid (show GivesI w (placeI sg t path) (.returned (.int .i64 (-1))) w2 from ⟨by rw [HR.out, ← HWK.out, HSTEP.out, walk_no (by rw [HZ0.out]; omega)], f.b⟩)
          have hIN := Lib.hid hin
          clear f hp o2 hin
          go_wp2_with fail
          refine (inNo _ _ _ _ hIN.out).mono ?_
          rintro e w3 ⟨rfl, rfl⟩
          go_wp2
          go_ret
          exact F.out
      · have hkp : k = pn := by have := HK.out; omega
        have F := Lib.hid (show GivesI w (placeI sg t path) (.returned (.int .i64 (q : Int))) wr from ⟨by rw [HR.out, ← HWK.out, List.drop_eq_nil_of_le (by rw [HLP.out]; omega)]; rfl, f.b⟩)
        clear f hp hkp hq
        go_wp2
        go_ret
        exact F.out
/-- so far: the cursor at q, k steps of the path made -/
def HeadPi (w : World) (P : Nat) (A : Option Addr) (n c : Nat) (A' : Option Addr) (m c' : Nat) (sg t : List Int) (Ap : Option Addr) (pn : Nat) (path : List Int) (R : Int) (g : Nat) (i : Value) (wr : World) : Prop :=
  ∃ (q k : Nat), i = .int .i64 k ∧ k + g = pn ∧ q < t.length ∧ walkI sg t q (path.drop k) = R ∧ Cur wr P A n c A' m c' sg t q ∧ Seg wr P Ap pn path ∧ Below w.heap.size w wr ∧ w.heap.size ≤ P

set_option maxHeartbeats 1000000 in
theorem implPlaceOf (A A' Ap : Option Addr) (n c m c' pn pc : Nat) (sg t path : List Int) (w : World) (h : Seg w w.heap.size A n sg) (h' : Seg w w.heap.size A' m t) (hp : Seg w w.heap.size Ap pn path) (hn : n ≤ 1048576) (hm : m ≤ 1048576) (hpn : pn ≤ 1048576) :
    Calls Try.prog 20 #[.agg #[.slice A n c], .slice A' m c', .slice Ap pn pc] w (GivesI w (placeI sg t path)) := by
  obtain ⟨W, hW⟩ : ∃ W, W = w.alloc (.cells #[.slice A n c] 26) := ⟨_, rfl⟩
  have f : Fr w W A n c sg A' m t := by rw [hW]; exact Fr.start h h'
  replace hp : Seg W W.heap.size Ap pn path := (hp.below f.b).more (Nat.le_of_lt f.size)
  have HW := Lib.hid hW
  have HL := Lib.hid h'.1
  have HLP := Lib.hid hp.1
  have L := Lib.hid (cursorAt A A' n c m c' sg t 0 W f.s1 f.t1 hn hm)
  have bel := f.b
  have hWs := f.size
  clear hW h h' f
  go_enter Try.func20, Try.ntmps20
  go_wp2_with fail
  go_step3
  go_wp2_with fail
  rw [← HW.out]
  refine L.out.mono ?_
  rintro e w1 ⟨bb, ⟨ht, P, rfl, hP, hc⟩ | ⟨ht, rfl⟩⟩
  · obtain ⟨hok, -, hpos⟩ := there_parts ht
    have HS := Lib.hid hok
    obtain ⟨R, hR⟩ : ∃ R, walkI sg t 0 path = R := ⟨_, rfl⟩
    have HR := Lib.hid (show placeI sg t path = R by unfold placeI; rw [if_pos hok, hR])
    have hars := hc.ars
    have S0 : HeadPi w P A n c A' m c' sg t Ap pn path R pn (.int .i64 0) w1 := ⟨0, 0, rfl, by omega, by omega, hR, hc, (hp.below bb).more hP, next_trans bel bb, by omega⟩
    have HS0 := Lib.hid S0
    clear S0 bb hp hc hR ht hok hpos bel L hWs hP
    go_wp2
    go_step3
    go_wp2
    go_loopg [18] pn (fun g i wr => HeadPi w P A n c A' m c' sg t Ap pn path R g i wr)
    case atStart => exact HS0.out
    case round =>
      obtain ⟨q, k, rfl, hk, hq, hwk, hc, hp, hb, hwP⟩ := hrel
      obtain ⟨G, hG⟩ : ∃ G, G = gk := ⟨_, rfl⟩
      subst hG
      clear HS0
      have HK := Lib.hid hk
      have HWK := Lib.hid hwk
      clear hk hwk
      by_cases hlt : k < pn
      · obtain ⟨b, off, s, rfl, hbb, hs, es⟩ := hp.spot hlt
        have hok := HS.out
        have hneg := (head_scan hok hq).1
        have hzb := ar_bd hars (t.getD q 0)
        obtain ⟨z, hz⟩ : ∃ z, arN sg t q = z := ⟨_, rfl⟩
        have hz0 : ar sg (t.getD q 0) = (z : Int) := by rw [← hz]; unfold arN; omega
        have HSTEP := Lib.hid (show path.drop k = s :: path.drop (k + 1) by rw [drop_step (by rw [HLP.out]; exact hlt), es.out])
        have HX : Hid (∀ j : Nat, j < z → scan sg 1 (t.drop (argP sg t j (q + 1))) = some (len1 sg t (argP sg t j (q + 1))) ∧ argP sg t (j + 1) (q + 1) = argP sg t j (q + 1) + len1 sg t (argP sg t j (q + 1)) ∧ argP sg t j (q + 1) < t.length) := Lib.hid (fun j hj => by
          obtain ⟨b1, b2, b3⟩ := arg_at hok hq (show j < arN sg t q by omega)
          exact ⟨(term_at hok b3).1, argP_succ _ _, b3⟩)
        have HZ := Lib.hid hz
        have HZ0 := Lib.hid hz0
        have hz3 : z ≤ 3 := by omega
        have HQL := Lib.hid hq
        have HA0 : Hid (argP sg t 0 (q + 1) = q + 1) := Lib.hid rfl
        clear hok hneg hzb hz hz0 es hq
        go_wp2_with fail
        refine (next P A n c A' m c' sg t q _ hc).mono ?_
        rintro e w2 ⟨hg, ⟨-, he, hc2⟩ | ⟨hk', -, -⟩⟩
        case inr => have := HQL.out; have := HL.out; omega
        rw [HZ0.out] at he
        subst he
        have hPw := hc.row.lt
        have hp2 := Seg.far hp hg (Nat.le_of_lt hPw) (fun j hj => by injection hj; omega)
        have hb2 := hb.grown hg (Nat.le_trans hwP (Nat.le_of_lt hPw)) (fun j hj => by injection hj; omega)
        clear hp hc hb hg hs hPw
        have HS1 := Lib.hid (show Cur w2 P A n c A' m c' sg t (argP sg t 0 (q + 1)) ∧ Seg w2 P (some ⟨b, off, none⟩) pn path ∧ Below w.heap.size w w2 from ⟨by rw [HA0.out]; exact hc2, hp2, hb2⟩)
        clear hc2 hp2 hb2
        go_wp2_with fail
        go_loopg [24] z (fun g i wr => ∃ j : Nat, i = .int .i64 j ∧ j + g = z ∧ (∀ j' : Nat, j' < j → (j' : Int) ≠ s) ∧ Cur wr P A n c A' m c' sg t (argP sg t j (q + 1)) ∧ Seg wr P (some ⟨b, off, none⟩) pn path ∧ Below w.heap.size w wr)
        case atStart => exact ⟨0, rfl, by omega, fun j' hj' => absurd hj' (Nat.not_lt_zero _), HS1.out⟩
        case round =>
          obtain ⟨j, rfl, hj, hne, hc, hp, hb⟩ := hrel
          clear HS1
          have HNE := Lib.hid hne
          have HJ := Lib.hid hj
          clear hne hj
          by_cases hjz : j < z
          · obtain ⟨x1, x2, x3⟩ := HX.out j hjz
            have X2 := Lib.hid x2
            have X1 := Lib.hid x1
            have X3 := Lib.hid x3
            clear x1 x2 x3
            by_cases hjs : (j : Int) = s
            · have S : HeadPi w P A n c A' m c' sg t (some ⟨b, off, none⟩) pn path R (G - 1) (.int .i64 ((k : Int) + 1)) wr :=
                ⟨argP sg t j (q + 1), k + 1, by simp, by have := HK.out; omega, X3.out, by rw [← HWK.out, HSTEP.out, ← hjs, walk_step (by rw [HZ.out]; exact hjz)], hc, hp, hb, hwP⟩
              have HSS := Lib.hid S
              have hgk := Lib.hid (show G - 1 < G by have := HK.out; omega)
              subst hjs
              clear S hc hp hb
              go_wp2
              go_roundg (G - 1)
              case measure => exact hgk.out
              case rel => exact HSS.out
            · obtain ⟨r, hr⟩ : ∃ r, argP sg t j (q + 1) = r := ⟨_, rfl⟩
              rw [hr] at hc X1 X2
              have hd : ((j : Int) == s) = false := by simp [hjs]
              have HJS := Lib.hid hjs
              clear hjs hr
              go_wp2_with fail
              refine (pass P A n c A' m c' sg t r _ hc).mono ?_
              rintro e w5 ⟨hg5, ⟨j', hj', rfl, hc5⟩ | ⟨hj', -, -⟩⟩
              case inr => rw [X1.out] at hj'; cases hj'
              have hj2 : len1 sg t r = j' := len1_eq hj'
              have hPw := hc.row.lt
              have S := Lib.hid (show Cur w5 P A n c A' m c' sg t (argP sg t (j + 1) (q + 1)) ∧ Seg w5 P (some ⟨b, off, none⟩) pn path ∧ Below w.heap.size w w5 from ⟨by rw [X2.out, hj2]; exact hc5, Seg.far hp hg5 (Nat.le_of_lt hPw) (fun j hj => by injection hj; omega), hb.grown hg5 (Nat.le_trans hwP (Nat.le_of_lt hPw)) (fun j hj => by injection hj; omega)⟩)
              have hgk := Lib.hid (show gk - 1 < gk ∧ j + 1 + (gk - 1) = z by have := HJ.out; omega)
              clear hc hp hb hg5 hj' hc5 hj2 hPw
              go_wp2
              go_roundg (gk - 1)
              case measure => exact hgk.out.1
              case rel => exact ⟨j + 1, by simp, hgk.out.2, fun j' hj' => by
                by_cases e : j' = j
                · subst e; exact HJS.out
                · exact HNE.out j' (by omega), S.out⟩
          · have F := Lib.hid (show GivesI w (placeI sg t path) (.returned (.int .i64 (-1))) wr from ⟨by
              rw [HR.out, ← HWK.out, HSTEP.out, walk_no]
              rintro ⟨e1, e2⟩
              rw [HZ0.out] at e2
              obtain ⟨jj, rfl⟩ := Int.eq_ofNat_of_zero_le e1
              exact HNE.out jj (by omega) rfl, hb⟩)
            clear hc hp hb
            go_wp2
            try rw [Exit.noGoto_ret]
            go_ret
            exact F.out
      · have hkp : k = pn := by have := HK.out; omega
        have F := Lib.hid (show GivesI w (placeI sg t path) (.returned (.int .i64 (q : Int))) wr from ⟨by rw [HR.out, ← HWK.out, List.drop_eq_nil_of_le (by rw [HLP.out]; omega)]; rfl, hb⟩)
        have cp : wr.cell? ⟨P, 2, none⟩ = some (.int .i64 (q : Int)) := hc.row.cell 2
        clear hc hp hb hkp hq
        go_wp2
        try rw [Exit.noGoto_ret]
        go_ret
        exact F.out
  · have hno : placeI sg t path = -1 := by
      unfold placeI
      cases hok : termOkB sg t with
      | false => rw [if_neg (by simp)]
      | true =>
        exfalso
        have h3 := (termOk_parts hok).2.2
        have h2 := scan_pos (q := 0) h3
        rw [there_yes hok (by omega) (by omega)] at ht
        cases ht
    have F := Lib.hid (show GivesI w (placeI sg t path) (.returned (.int .i64 (-1))) w1 from ⟨by rw [hno], next_trans bel bb⟩)
    clear bb L bel hp
    go_wp2
    try rw [Exit.noGoto_ret]
    go_ret
    exact F.out
end Go.Proofs.Ytobifgobipcmdaa.place
end

section
/-
  CONTRACTS: spec.DeepestOf, impl.DeepestOf. Conditions: the slices read as lists ('Seg'), at most 1048576 numbers. By an AI agent.
-/
namespace Go.Proofs.Ytobifgobipcmdaa.deep
open Go.RowKit Go.Proofs.Ytobifgobipcmdaa.base Go.Proofs.Ytobifgobipcmdaa.ints Go.Proofs.Ytobifgobipcmdaa.sig Go.Proofs.Ytobifgobipcmdaa.term Go.Proofs.Ytobifgobipcmdaa.arity Go.Proofs.Ytobifgobipcmdaa.endOf Go.Proofs.Ytobifgobipcmdaa.cursor Go.Proofs.Ytobifgobipcmdaa.termOk Go.Proofs.Ytobifgobipcmdaa.endAt Go.Proofs.Ytobifgobipcmdaa.inside Go.Proofs.Ytobifgobipcmdaa.marks Go.Proofs.Ytobifgobipcmdaa.app Go.Proofs.Ytobifgobipcmdaa.appAt Go.Proofs.Ytobifgobipcmdaa.sym Go.Proofs.Ytobifgobipcmdaa.args Go.Proofs.Ytobifgobipcmdaa.posMath Go.Proofs.Ytobifgobipcmdaa.pathSpec Go.Proofs.Ytobifgobipcmdaa.wayTo Go.Proofs.Ytobifgobipcmdaa.place
set_option maxRecDepth 100000

def deepI (sg t : List Int) : Int := if termOkB sg t = true then (deepN sg t t.length : Nat) else -1
theorem deep_no {sg t : List Int} (h : termOkB sg t = false) : deepI sg t = -1 := by unfold deepI; rw [if_neg (by rw [h]; simp)]
theorem deep_yes {sg t : List Int} (h : termOkB sg t = true) : deepI sg t = (deepN sg t t.length : Nat) := by unfold deepI; rw [if_pos h]
theorem way_pl {sg t : List Int} (hok : termOkB sg t = true) {a : Nat} (ha : a < t.length) : ∃ ab pa, Trail sg t a 0 ab pa ∧ pa.length = pl sg t a := by
  obtain ⟨ab, pa, hw⟩ := way_root hok ha
  exact ⟨ab, pa, hw, by unfold pl; rw [hw.aboveL hok ha, hw.len]⟩
theorem deep_lt {sg t : List Int} {k : Nat} (h : 0 < t.length) (hk : k ≤ t.length) : deepN sg t k < t.length := by
  have := deep_le (sg := sg) (t := t) k
  omega
theorem deep_up {sg t : List Int} {k : Nat} (h : pl sg t (deepN sg t k) < pl sg t k) : deepN sg t (k + 1) = k := by simp only [deepN]; rw [if_pos h]
theorem deep_same {sg t : List Int} {k : Nat} (h : ¬ pl sg t (deepN sg t k) < pl sg t k) : deepN sg t (k + 1) = deepN sg t k := by simp only [deepN]; rw [if_neg h]
theorem pl_zero {sg t : List Int} : pl sg t 0 = 0 := rfl

def HeadDp (w : World) (A : Option Addr) (n c : Nat) (sg : List Int) (A' : Option Addr) (m : Nat) (t : List Int) (g : Nat) (best k : Value) (wr : World) : Prop :=
  ∃ i : Nat, k = .int .i64 i ∧ i + g = m ∧ best = .int .i64 (deepN sg t i : Nat) ∧ Fr w wr A n c sg A' m t

set_option maxHeartbeats 1000000 in
theorem specDeepestOf (A A' : Option Addr) (n c m c' : Nat) (sg t : List Int) (w : World) (h : Seg w w.heap.size A n sg) (h' : Seg w w.heap.size A' m t) (hn : n ≤ 1048576) (hm : m ≤ 1048576) :
    Calls Try.prog 43 #[.agg #[.slice A n c], .slice A' m c'] w (GivesI w (deepI sg t)) := by
  obtain ⟨W, hW⟩ : ∃ W, W = w.alloc (.cells #[.slice A n c] 26) := ⟨_, rfl⟩
  have f : Fr w W A n c sg A' m t := by rw [hW]; exact Fr.start h h'
  have HW := Lib.hid hW
  have HL := Lib.hid h'.1
  have L := Lib.hid (specTermOk A A' n c m c' sg t W f.s1 f.t1 hn hm)
  clear hW h h'
  cases hok : termOkB sg t with
  | false =>
    have HS := Lib.hid hok
    have HR := Lib.hid (deep_no hok)
    clear hok
    go_enter Try.func43, Try.ntmps43
    go_wp2_with fail
    rw [← HW.out]
    refine L.out.mono ?_
    rintro e w1 ⟨he, bb⟩
    rw [HS.out] at he
    subst he
    have F := Lib.hid (show GivesI w (deepI sg t) (.returned (.int .i64 (-1))) w1 from ⟨by rw [HR.out], (f.next bb).b⟩)
    clear f L bb
    go_wp2
    go_ret
    exact F.out
  | true =>
    have HS := Lib.hid hok
    have HR := Lib.hid (deep_yes hok)
    have HT := Lib.hid (termOk_parts hok).2.1
    have h60 : m ≤ 60 := by have := HT.out; have := HL.out; omega
    clear hok
    go_enter Try.func43, Try.ntmps43
    go_wp2_with fail
    rw [← HW.out]
    refine L.out.mono ?_
    rintro e w1 ⟨he, bb⟩
    rw [HS.out] at he
    subst he
    have S0 : HeadDp w A n c sg A' m t m (.int .i64 0) (.int .i64 0) w1 := ⟨0, rfl, by omega, rfl, f.next bb⟩
    have HS0 := Lib.hid S0
    clear S0 f bb L
    go_wp2_with fail
    go_loopg [5, 6] m (fun g best k wr => HeadDp w A n c sg A' m t g best k wr)
    case atStart => exact HS0.out
    case round =>
      obtain ⟨i, rfl, hi, rfl, f⟩ := hrel
      clear HS0
      have HI := Lib.hid hi
      clear hi
      by_cases him : i < m
      · have hml := HL.out
        obtain ⟨ab1, pa1, tr1, l1⟩ := way_pl HS.out (show i < t.length by omega)
        have hbl : deepN sg t i < t.length := deep_lt (by omega) (by omega)
        obtain ⟨ab2, pa2, tr2, l2⟩ := way_pl HS.out hbl
        have HUP := Lib.hid (deep_up (sg := sg) (t := t) (k := i))
        have HSA := Lib.hid (deep_same (sg := sg) (t := t) (k := i))
        obtain ⟨d, hd⟩ : ∃ d, deepN sg t i = d := ⟨_, rfl⟩
        rw [hd] at hbl tr2 l2 HUP HSA
        have hd60 : d ≤ 60 := by omega
        rw [hd]
        have HD := Lib.hid hd
        have T1 := Lib.hid tr1
        have T2 := Lib.hid tr2
        have L1 := Lib.hid l1
        have L2 := Lib.hid l2
        have HBL := Lib.hid hbl
        have HIL := Lib.hid (show i < t.length by omega)
        replace f := f.drew
        have cA := f.cell
        clear tr1 tr2 l1 l2 hbl hml hd
        go_wp2_with fail
        go_region_held3 (fun w' => w'.cell? ⟨w.heap.size, 0, none⟩ = some (.slice A n c))
          (go_keep)
          (first
            | (go_at_call 62; have X := l3Path A A' n c m c' sg t i ab1 pa1 _ f.s1 f.t1 hn hm HS.out HIL.out T1.out; (with_reducible refine X.mono ?_); clear X; rintro e w2 ⟨A2, n2, c2, rfl, o2, bb2⟩; have f2 := f.next bb2; have cA2 : w2.cell? ⟨w.heap.size, 0, none⟩ = some (.slice A n c) := f2.cell)
            | (go_at_call 62; refine (l3Path A A' n c m c' sg t d ab2 pa2 _ f2.s1 f2.t1 hn hm HS.out HBL.out T2.out).mono ?_; rintro e w3 ⟨A3, n3, c3, rfl, o3, bb3⟩; have f3 := f2.next bb3; have cA3 : w3.cell? ⟨w.heap.size, 0, none⟩ = some (.slice A n c) := f3.cell))
        have e2 : n2 = pl sg t i := by rw [Own.len o2, L1.out]
        have e3 : n3 = pl sg t d := by rw [Own.len o3, L2.out]
        have E2 := Lib.hid e2
        have E3 := Lib.hid e3
        have hgk := Lib.hid (show gk - 1 < gk ∧ i + 1 + (gk - 1) = m by have := HI.out; omega)
        clear o2 o3 bb2 bb3 e2 e3 cA cA2 cA3 f f2
        by_cases hlt : n3 < n2
        · have S : HeadDp w A n c sg A' m t (gk - 1) (.int .i64 (i : Int)) (.int .i64 ((i : Int) + 1)) w3 := ⟨i + 1, by simp, hgk.out.2, by rw [HUP.out (by rw [← E2.out, ← E3.out]; exact hlt)], f3⟩
          have HSS := Lib.hid S
          clear S f3
          go_wp2
          go_roundg (gk - 1)
          case measure => exact hgk.out.1
          case rel => exact HSS.out
        · have S : HeadDp w A n c sg A' m t (gk - 1) (.int .i64 (d : Int)) (.int .i64 ((i : Int) + 1)) w3 := ⟨i + 1, by simp, hgk.out.2, by rw [HSA.out (by rw [← E2.out, ← E3.out]; exact hlt)], f3⟩
          have HSS := Lib.hid S
          have hle : decide ((n3 : Int) < (n2 : Int)) = false := by simp; omega
          clear S f3
          go_wp2
          go_roundg (gk - 1)
          case measure => exact hgk.out.1
          case rel => exact HSS.out
      · have him2 : i = t.length := by have := HI.out; have := HL.out; omega
        have F := Lib.hid (show GivesI w (deepI sg t) (.returned (.int .i64 (deepN sg t i : Nat))) wr from ⟨by rw [HR.out, him2], f.b⟩)
        clear f him2
        generalize deepN sg t i = d at *
        go_wp2
        go_ret
        exact F.out

def HeadDi (w : World) (A : Option Addr) (n c : Nat) (sg : List Int) (A' : Option Addr) (m : Nat) (t : List Int) (g : Nat) (best long k : Value) (wr : World) : Prop :=
  ∃ i : Nat, k = .int .i64 i ∧ i + g = m ∧ best = .int .i64 (deepN sg t i : Nat) ∧ long = .int .i64 (pl sg t (deepN sg t i) : Nat) ∧ Fr w wr A n c sg A' m t

set_option maxHeartbeats 1000000 in
theorem implDeepestOf (A A' : Option Addr) (n c m c' : Nat) (sg t : List Int) (w : World) (h : Seg w w.heap.size A n sg) (h' : Seg w w.heap.size A' m t) (hn : n ≤ 1048576) (hm : m ≤ 1048576) :
    Calls Try.prog 29 #[.agg #[.slice A n c], .slice A' m c'] w (GivesI w (deepI sg t)) := by
  obtain ⟨W, hW⟩ : ∃ W, W = w.alloc (.cells #[.slice A n c] 26) := ⟨_, rfl⟩
  have f : Fr w W A n c sg A' m t := by rw [hW]; exact Fr.start h h'
  have HW := Lib.hid hW
  have HL := Lib.hid h'.1
  have L := Lib.hid (implTermOk A A' n c m c' sg t W f.s1 f.t1 hn hm)
  clear hW h h'
  cases hok : termOkB sg t with
  | false =>
    have HS := Lib.hid hok
    have HR := Lib.hid (deep_no hok)
    clear hok
    go_enter Try.func29, Try.ntmps29
    go_wp2_with fail
    rw [← HW.out]
    refine L.out.mono ?_
    rintro e w1 ⟨he, bb⟩
    rw [HS.out] at he
    subst he
    have F := Lib.hid (show GivesI w (deepI sg t) (.returned (.int .i64 (-1))) w1 from ⟨by rw [HR.out], (f.next bb).b⟩)
    clear f L bb
    go_wp2
    go_ret
    exact F.out
  | true =>
    have HS := Lib.hid hok
    have HR := Lib.hid (deep_yes hok)
    have HT := Lib.hid (termOk_parts hok).2.1
    have h60 : m ≤ 60 := by have := HT.out; have := HL.out; omega
    clear hok
    go_enter Try.func29, Try.ntmps29
    go_wp2_with fail
    rw [← HW.out]
    refine L.out.mono ?_
    rintro e w1 ⟨he, bb⟩
    rw [HS.out] at he
    subst he
    have S0 : HeadDi w A n c sg A' m t m (.int .i64 0) (.int .i64 0) (.int .i64 0) w1 := ⟨0, rfl, by omega, rfl, rfl, f.next bb⟩
    have HS0 := Lib.hid S0
    clear S0 f bb L
    go_wp2_with fail
    go_loopg [5, 6, 15] m (fun g best long k wr => HeadDi w A n c sg A' m t g best long k wr)
    case atStart => exact HS0.out
    case round =>
      obtain ⟨i, rfl, hi, rfl, rfl, f⟩ := hrel
      clear HS0
      have HI := Lib.hid hi
      clear hi
      by_cases him : i < m
      · have hml := HL.out
        have hil : i < t.length := by omega
        obtain ⟨ab1, pa1, tr1, l1⟩ := way_pl HS.out hil
        have hbl : deepN sg t i < t.length := deep_lt (by omega) (by omega)
        have HUP := Lib.hid (deep_up (sg := sg) (t := t) (k := i))
        have HSA := Lib.hid (deep_same (sg := sg) (t := t) (k := i))
        obtain ⟨d, hd⟩ : ∃ d, deepN sg t i = d := ⟨_, rfl⟩
        rw [hd] at hbl HUP HSA
        rw [hd]
        have T1 := Lib.hid tr1
        have HP := Lib.hid (show PathIs sg t (i : Int) pa1 from .inl ⟨there_yes HS.out (by omega) (by omega), ab1, by rw [Int.toNat_natCast]; exact tr1⟩)
        have hl1 : pa1.length ≤ 60 := by have := tr1.le; omega
        have L1 := Lib.hid l1
        have hd60 : d ≤ 60 := by omega
        obtain ⟨z, hz⟩ : ∃ z, pl sg t d = z := ⟨_, rfl⟩
        rw [hz]
        have HZ := Lib.hid hz
        have cA := f.cell
        clear tr1 l1 hbl hml hd hz hil
        go_wp2_with fail
        refine (implPathOf A A' n c m c' sg t (i : Int) pa1 _ f.s1 f.t1 hn hm HP.out).mono ?_
        rintro e w2 ⟨A2, n2, c2, rfl, o2, bb⟩
        have e2 : n2 = pl sg t i := by rw [Own.len o2, L1.out]
        have E2 := Lib.hid e2
        have hgk := Lib.hid (show gk - 1 < gk ∧ i + 1 + (gk - 1) = m by have := HI.out; omega)
        replace f := f.next bb
        clear o2 bb e2 cA
        by_cases hlt : z < n2
        · have S : HeadDi w A n c sg A' m t (gk - 1) (.int .i64 (i : Int)) (.int .i64 (n2 : Int)) (.int .i64 ((i : Int) + 1)) w2 := ⟨i + 1, by simp, hgk.out.2, by rw [HUP.out (by rw [← E2.out, HZ.out]; exact hlt)], by rw [HUP.out (by rw [← E2.out, HZ.out]; exact hlt), E2.out], f⟩
          have HSS := Lib.hid S
          clear S f
          go_wp2
          go_roundg (gk - 1)
          case measure => exact hgk.out.1
          case rel => exact HSS.out
        · have S : HeadDi w A n c sg A' m t (gk - 1) (.int .i64 (d : Int)) (.int .i64 (z : Int)) (.int .i64 ((i : Int) + 1)) w2 := ⟨i + 1, by simp, hgk.out.2, by rw [HSA.out (by rw [← E2.out, HZ.out]; exact hlt)], by rw [HSA.out (by rw [← E2.out, HZ.out]; exact hlt), HZ.out], f⟩
          have HSS := Lib.hid S
          have hle : decide ((z : Int) < (n2 : Int)) = false := by simp; omega
          clear S f
          go_wp2
          go_roundg (gk - 1)
          case measure => exact hgk.out.1
          case rel => exact HSS.out
      · have him2 : i = t.length := by have := HI.out; have := HL.out; omega
        have F := Lib.hid (show GivesI w (deepI sg t) (.returned (.int .i64 (deepN sg t i : Nat))) wr from ⟨by rw [HR.out, him2], f.b⟩)
        clear f him2
        generalize deepN sg t i = d at *
        go_wp2
        go_ret
        exact F.out
end Go.Proofs.Ytobifgobipcmdaa.deep
end
