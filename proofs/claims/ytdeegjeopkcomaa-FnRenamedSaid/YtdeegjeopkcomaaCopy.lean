/-
  CONTRACTS: spec.l1Copy, slices.Clone at []int64; a part of a slice. Conditions: the slices read as lists ('Seg'), at most 1048576 numbers. By an AI agent.
-/
import Derived.Test.YtdeegjeopkcomaaList
import Derived.WalkSpells
namespace Go.Proofs.Ytdeegjeopkcomaa.sub
open Go.RowKit Go.Proofs.Ytdeegjeopkcomaa.base Go.Proofs.Ytdeegjeopkcomaa.ints Go.Proofs.Ytdeegjeopkcomaa.marks Go.Proofs.Ytdeegjeopkcomaa.app Go.Proofs.Ytdeegjeopkcomaa.sym

theorem Seg.cut {w : World} {B b off m a j : Nat} {t : List Int} (h : Seg w B (some ⟨b, off, none⟩) m t) (hj : a + j ≤ m) : Seg w B (some ⟨b, off + a, none⟩) j ((t.drop a).take j) := by
  refine ⟨by have := h.1; simp; omega, fun hn => ?_⟩
  obtain ⟨b', off', e, hb, hc⟩ := h.2 (by omega)
  injection e with e
  injection e with e1 e2
  subst e1 e2
  refine ⟨_, _, rfl, hb, fun q hq => ?_⟩
  rw [Nat.add_assoc, hc (a + q) (by omega)]
  simp [List.getD, List.getElem?_take, hq]

set_option maxHeartbeats 400000 in
theorem copyInts (S : Option Addr) (m c : Nat) (ys : List Int) (w : World) (h : Seg w w.heap.size S m ys) (hnone : S = none → c = 0) (hm : m ≤ 1048576) :
    Calls Try.prog 108 #[.slice S m c] w (AnsList w ys) := by
  have ho := own_empty w w.heap.size (Nat.le_refl _)
  have bb : Below w.heap.size w (w.alloc (.cells #[] 2)) := (Below.refl _ _).alloc (Nat.le_refl _) _
  have hs := h.alloc (Nat.le_refl _) (.cells #[] 2)
  have HN := Lib.hid hnone
  clear hnone h
  go_enter Try.func108, Try.ntmps108
  go_wp2_with (at_builtin; refine appAll rfl _ _ rfl w.heap.size (some ⟨w.heap.size, 0, none⟩) 0 0 [] rfl ho S m c w.heap.size ys rfl hs HN.out (by omega) (by omega) (by simp) ?_; intro A' c' w' ho' b')
  simp only [Nat.zero_add, List.nil_append] at ho'
  have F : AnsList w ys (.returned (.slice A' m c')) w' := ⟨A', m, c', rfl, ho', bb.trans b'⟩
  have HF := Lib.hid F
  clear F ho' b' bb hs ho
  go_wp2
  go_ret
  exact HF.out

set_option maxHeartbeats 400000 in
theorem cloneInts (b off m c : Nat) (ys : List Int) (w : World) (h : Seg w w.heap.size (some ⟨b, off, none⟩) m ys) (hm : m ≤ 1048576) :
    Calls Try.prog 106 #[.slice (some ⟨b, off, none⟩) m c] w (AnsList w ys) := by
  have ho := own_empty w w.heap.size (Nat.le_refl _)
  have bb : Below w.heap.size w (w.alloc (.cells #[] 2)) := (Below.refl _ _).alloc (Nat.le_refl _) _
  have hs := h.alloc (Nat.le_refl _) (.cells #[] 2)
  clear h
  have hnil : ∀ (w : World) (a : Option Addr) (n c n' c' : Nat), (binOp .eql 24 (.slice a n c) (.slice none n' c')).run Try.prog w = .ok (.bool a.isNone) w := fun w a n c n' c' => Lib.run_eql_slice_nil w _ _ a n c n' c' Try.underlying24
  go_enter Try.func106, Try.ntmps106
  go_wp2_with (at_builtin; refine appAll rfl _ _ rfl w.heap.size (some ⟨w.heap.size, 0, none⟩) 0 0 [] rfl ho (some ⟨b, off, none⟩) m c w.heap.size ys rfl hs (fun e => by cases e) (by omega) (by omega) (by simp) ?_; intro A' c' w' ho' b')
  simp only [Nat.zero_add, List.nil_append] at ho'
  have F : AnsList w ys (.returned (.slice A' m c')) w' := ⟨A', m, c', rfl, ho', bb.trans b'⟩
  have HF := Lib.hid F
  clear F ho' b' bb hs ho hnil
  go_wp2
  go_ret
  exact HF.out

end Go.Proofs.Ytdeegjeopkcomaa.sub
