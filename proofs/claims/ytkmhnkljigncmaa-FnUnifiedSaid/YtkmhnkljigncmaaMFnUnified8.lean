/-
  MERGED: my texts CompSpec, CompImpl, Big, LawT, WFnUnified, one behind the other, as they are. By an AI agent.
-/
import Derived.Test.YtkmhnkljigncmaaMFnUnified7
import Derived.Deep.RegionHeld3
import Derived.Deep.DeepCutAuto
import Derived.Laws.NewBlocks
import Derived.Laws.EntriesVeiled
import Derived.Deep.QuietTactic
import Derived.BigQuiet
section
/-
  CONTRACTS: spec.Composed. Conditions: the slices read as lists ('Seg', 'Segs'), at most 1048576 values. (The region's walk by wip/tools/reg.py.) By an AI agent.
-/
namespace Go.Proofs.Ytkmhnkljigncmaa.compSpec
open Go.RowKit Go.Proofs.Ytkmhnkljigncmaa.base Go.Proofs.Ytkmhnkljigncmaa.ints Go.Proofs.Ytkmhnkljigncmaa.sig Go.Proofs.Ytkmhnkljigncmaa.cursor Go.Proofs.Ytkmhnkljigncmaa.marks Go.Proofs.Ytkmhnkljigncmaa.app Go.Proofs.Ytkmhnkljigncmaa.appAt Go.Proofs.Ytkmhnkljigncmaa.sym Go.Proofs.Ytkmhnkljigncmaa.segs Go.Proofs.Ytkmhnkljigncmaa.segsHelp Go.Proofs.Ytkmhnkljigncmaa.kinds Go.Proofs.Ytkmhnkljigncmaa.termFacts Go.Proofs.Ytkmhnkljigncmaa.fillMath Go.Proofs.Ytkmhnkljigncmaa.substOk Go.Proofs.Ytkmhnkljigncmaa.gives Go.Proofs.Ytkmhnkljigncmaa.shifted Go.Proofs.Ytkmhnkljigncmaa.filled Go.Proofs.Ytkmhnkljigncmaa.plainMath Go.Proofs.Ytkmhnkljigncmaa.plain Go.Proofs.Ytkmhnkljigncmaa.plainOf Go.Proofs.Ytkmhnkljigncmaa.compMath Go.Proofs.Ytkmhnkljigncmaa.maxi
set_option maxRecDepth 100000

/-- a substitution of the call's own, and whether -/
def AnsSubB (w : World) (xss : List (List Int)) (b : Bool) (e : Ending) (w' : World) : Prop := ∃ A n c, e = .returned (.tuple #[.agg #[.slice A n c], .bool b]) ∧ Owns w' w.heap.size w'.heap.size A n c xss ∧ Below w.heap.size w w'
theorem subB_no {w w' : World} {sg : List Int} {ss us : List (List Int)} (h : composedB sg ss us = false) (hb : Below w.heap.size w w') : AnsSubB w (composedI sg ss us) (composedB sg ss us) (.returned (.tuple #[.agg #[.slice none 0 0], .bool false])) w' :=
  ⟨none, 0, 0, by rw [h], by rw [composed_no h]; exact Owns.nil _ _ _, hb⟩
/-- four boxes: three parameters and the result -/
theorem boxes4 (w : World) (A : Option Addr) (n c : Nat) (S : Option Addr) (m c' : Nat) (T : Option Addr) (q cq : Nat) : ∃ W, W = (((w.alloc (.cells #[.slice A n c] 26)).alloc (.cells #[.slice S m c'] 31)).alloc (.cells #[.slice T q cq] 31)).alloc (.cells #[.slice none 0 0] 31) ∧
    Row W w.heap.size 26 #[.slice A n c] ∧ Row W (w.heap.size + 1) 31 #[.slice S m c'] ∧ Row W (w.heap.size + 2) 31 #[.slice T q cq] ∧ Row W (w.heap.size + 3) 31 #[.slice none 0 0] ∧ Below w.heap.size w W := by
  obtain ⟨W, hW, r1, r2, b⟩ := boxes2 w A n c S m c'
  have hz : W.heap.size = w.heap.size + 2 := by rw [hW]; simp
  have hz2 : (W.alloc (.cells #[.slice T q cq] 31)).heap.size = w.heap.size + 3 := by simp [hz]
  refine ⟨_, rfl, ?_, ?_, ?_, ?_, ?_⟩
  · rw [← hW]; exact (r1.alloc _).alloc _
  · rw [← hW]; exact (r2.alloc _).alloc _
  · rw [← hW, ← hz]; exact (Row.new _ _ _).alloc _
  · rw [← hW, ← hz2]; exact Row.new _ _ _
  · rw [← hW]; exact (b.alloc b.size _).alloc (by simp; have := b.size; omega) _

/-- the head of the loop: the result so far lies in block o -/
def HeadC (w : World) (o M : Nat) (S : Option Addr) (m c : Nat) (T : Option Addr) (q cq : Nat) (ss us : List (List Int)) (i : Value) (wr : World) : Prop :=
  ∃ (k : Nat) (A : Option Addr) (cA : Nat), k ≤ M ∧ i = .int .i64 k ∧ (∀ j, j < k → (compL us ss j).length ≤ 60) ∧ Owns wr (o + 1) wr.heap.size A k cA (outL us ss k) ∧ Row wr (w.heap.size + 1) 31 #[.slice S m c] ∧ Row wr (w.heap.size + 2) 31 #[.slice T q cq] ∧
    Row wr (w.heap.size + 3) 31 #[.slice none 0 0] ∧ Row wr o 31 #[.slice A k cA] ∧ Below w.heap.size w wr
theorem headC_step {w wr w5 w6 : World} {S T A A' : Option Addr} {o M m c q cq k cA c' : Nat} {ss us : List (List Int)} (hk : k < M) (hoz : w.heap.size + 3 < o) (hlow : ∀ j, j < k → (compL us ss j).length ≤ 60) (hkk : (compL us ss k).length ≤ 60) (ho : Owns w6 (o + 1) w6.heap.size A' (k + 1) c' (outL us ss (k + 1)))
    (r1 : Row wr (w.heap.size + 1) 31 #[.slice S m c]) (r2 : Row wr (w.heap.size + 2) 31 #[.slice T q cq]) (r3 : Row wr (w.heap.size + 3) 31 #[.slice none 0 0]) (ro : Row wr o 31 #[.slice A k cA]) (hb : Below w.heap.size w wr)
    (bb : Below wr.heap.size wr w5) (hg : w5.grownBy w6 (blk A)) (hA : ∀ z, blk A = some z → o + 1 ≤ z) :
    HeadC w o M S m c T q cq ss us (.int .i64 ((k : Int) + 1)) (w6.setCell ⟨o, 0, none⟩ (.slice A' (k + 1) c')) := by
  have q1 := Row.away (r1.next bb) hg (fun e => by have := hA _ e; omega)
  have q2 := Row.away (r2.next bb) hg (fun e => by have := hA _ e; omega)
  have q3 := Row.away (r3.next bb) hg (fun e => by have := hA _ e; omega)
  have qo := Row.away (ro.next bb) hg (fun e => by have := hA _ e; omega)
  have hbb : Below w.heap.size w w6 := (hb.trans (bb.mono hb.size)).grown hg (by have := hb.size; have := bb.size; omega) (fun z hz => by have := hA z hz; omega)
  refine ⟨k + 1, A', c', hk, by simp, fun j hj => ?_, ?_, q1.far (by simp; omega) _, q2.far (by simp; omega) _, q3.far (by simp; omega) _, ?_, hbb.setCell (by simp; omega) _⟩
  · by_cases e : j = k
    · rw [e]; exact hkk
    · exact hlow j (by omega)
  · have := owns_put ho qo (by omega) 0 (.slice A' (k + 1) c')
    simpa using this
  · have := qo.put 0 (.slice A' (k + 1) c')
    simpa using this

end Go.Proofs.Ytkmhnkljigncmaa.compSpec
end

section
/-
  CONTRACTS: slices.IndexFunc, slices.ContainsFunc over impl.tooLong, the closure of impl.Composed, impl.Composed. Conditions: the slices read as lists ('Seg', 'Segs'), at most 1048576 values. (The closure's region by wip/tools/reg.py.) By an AI agent.
-/
namespace Go.Proofs.Ytkmhnkljigncmaa.compImpl
open Go.RowKit Go.Proofs.Ytkmhnkljigncmaa.base Go.Proofs.Ytkmhnkljigncmaa.ints Go.Proofs.Ytkmhnkljigncmaa.sig Go.Proofs.Ytkmhnkljigncmaa.cursor Go.Proofs.Ytkmhnkljigncmaa.marks Go.Proofs.Ytkmhnkljigncmaa.app Go.Proofs.Ytkmhnkljigncmaa.appAt Go.Proofs.Ytkmhnkljigncmaa.sym Go.Proofs.Ytkmhnkljigncmaa.segs Go.Proofs.Ytkmhnkljigncmaa.segsHelp Go.Proofs.Ytkmhnkljigncmaa.kinds Go.Proofs.Ytkmhnkljigncmaa.termFacts Go.Proofs.Ytkmhnkljigncmaa.fillMath Go.Proofs.Ytkmhnkljigncmaa.look Go.Proofs.Ytkmhnkljigncmaa.substOk Go.Proofs.Ytkmhnkljigncmaa.gives Go.Proofs.Ytkmhnkljigncmaa.shifted Go.Proofs.Ytkmhnkljigncmaa.filled Go.Proofs.Ytkmhnkljigncmaa.plainMath Go.Proofs.Ytkmhnkljigncmaa.plain Go.Proofs.Ytkmhnkljigncmaa.plainOf Go.Proofs.Ytkmhnkljigncmaa.compMath Go.Proofs.Ytkmhnkljigncmaa.compSpec Go.Proofs.Ytkmhnkljigncmaa.thn
set_option maxRecDepth 100000

def AnsIdx (w : World) (xss : List (List Int)) (e : Ending) (w' : World) : Prop := w = w' ∧ ∃ z : Int, e = .returned (.int .i64 z) ∧ -1 ≤ z ∧ z ≤ 1048576 ∧ decide (0 ≤ z) = anyLong xss
def HeadIdx (w : World) (n : Nat) (xss : List (List Int)) (i : Value) (wr : World) : Prop := ∃ k : Nat, k ≤ n ∧ i = .int .i64 k ∧ (∀ j, j < k → ¬ 60 < (xss.getD j []).length) ∧ w = wr

set_option maxHeartbeats 2000000 in
theorem indexLong (A : Option Addr) (n c : Nat) (xss : List (List Int)) (w : World) (h : Segs w w.heap.size A n xss) (hn : n ≤ 1048576) (hE : ∀ j, (xss.getD j []).length ≤ 1048576) :
    Calls Try.prog 114 #[.slice A n c, .func (.func 74) #[] #[]] w (AnsIdx w xss) := by
  have HE := Lib.hid hE
  have HL := Lib.hid h.1
  have HH : Hid (HeadIdx w n xss (.int .i64 0) w) := Lib.hid ⟨0, Nat.zero_le _, rfl, fun j hj => absurd hj (Nat.not_lt_zero _), rfl⟩
  clear hE
  go_enter Try.func114, Try.ntmps114
  go_wp2_with fail
  go_loopw [8] (fun i wr => HeadIdx w n xss i wr) (fun i _ => n - (intOf i).toNat)
  case atStart => exact HH.out
  case round =>
    obtain ⟨k, hk, rfl, hlow, rfl⟩ := hrel
    have HLOW := Lib.hid hlow
    clear hlow HH
    by_cases hlt : k < n
    · obtain ⟨b, off, A', n', cc, rfl, hbB, hx, hseg, hcap⟩ := h.spot hlt
      have hn' : n' ≤ 1048576 := by rw [← hseg.1]; exact HE.out k
      have HG := Lib.hid hseg.1
      have i0 : (0 : Int) ≤ (k : Int) := by omega
      have i1 : (k : Int) < (n : Int) := by omega
      clear hseg hcap h
      go_wp2_with fail
      refine (tooLong A' n' cc w (by omega)).mono ?_
      rintro e w' ⟨rfl, rfl⟩
      by_cases h60 : 60 < n'
      · rw [decide_eq_true h60]
        have F : AnsIdx w xss (.returned (.int .i64 (k : Int))) w := ⟨rfl, k, rfl, by omega, by omega, by rw [decide_eq_true (by omega)]; exact (anyLong_iff.2 ⟨k, by rw [HG.out]; exact h60⟩).symm⟩
        have HF := Lib.hid F
        clear F hx
        go_wp2
        go_ret
        exact HF.out
      · rw [decide_eq_false h60]
        have S1 : HeadIdx w n xss (.int .i64 ((k : Int) + 1)) w := ⟨k + 1, hlt, by simp, fun j hj => by
          by_cases e : j = k
          · rw [e, HG.out]; exact h60
          · exact HLOW.out j (by omega), rfl⟩
        have HS1 := Lib.hid S1
        clear S1 hx
        go_wp2
        go_roundw
        case rel => exact HS1.out
        case measure => simp [intOf]; omega
    · have F : AnsIdx w xss (.returned (.int .i64 (-1))) w := ⟨rfl, -1, rfl, by omega, by omega, by
        cases e : anyLong xss with
        | false => rfl
        | true =>
          obtain ⟨i, hi⟩ := anyLong_iff.1 e
          by_cases hin : i < n
          · exact absurd hi (HLOW.out i (by omega))
          · rw [show xss.getD i [] = [] by simp [List.getD, HL.out, hin]] at hi
            simp at hi⟩
      have HF := Lib.hid F
      clear F h
      go_wp2
      go_ret
      exact HF.out
theorem containsLong (A : Option Addr) (n c : Nat) (xss : List (List Int)) (w : World) (h : Segs w w.heap.size A n xss) (hn : n ≤ 1048576) (hE : ∀ j, (xss.getD j []).length ≤ 1048576) :
    Calls Try.prog 76 #[.slice A n c, .func (.func 74) #[] #[]] w fun e w' => w = w' ∧ e = .returned (.bool (anyLong xss)) := by
  have L := Lib.hid (indexLong A n c xss w h hn hE)
  clear h hE
  go_enter Try.func76, Try.ntmps76
  go_wp2_with fail
  refine L.out.mono ?_
  rintro e w' ⟨rfl, z, rfl, h1, h2, hz⟩
  have HZ := Lib.hid hz
  clear hz L
  go_wp2
  go_ret
  exact ⟨rfl, by rw [← HZ.out]; rfl⟩

/-- the composition of two look-ups -/
theorem lookBoth (b1 b2 l1 l2 : Nat) (S : Option Addr) (m c : Nat) (T : Option Addr) (q cq : Nat) (sg : List Int) (ss us : List (List Int)) (w wx : World) (hok : substOkB sg ss = true) (hok2 : substOkB sg us = true) (hb : Below w.heap.size w wx) (h : Segs w w.heap.size S m ss) (h' : Segs w w.heap.size T q us)
    (c1 : wx.cell? ⟨b1, 0, none⟩ = some (.func (.func 112) #[] #[.pointer (some ⟨l1, 0, none⟩)])) (c2 : wx.cell? ⟨b2, 0, none⟩ = some (.func (.func 112) #[] #[.pointer (some ⟨l2, 0, none⟩)]))
    (k1 : wx.cell? ⟨l1, 0, none⟩ = some (.slice S m c)) (k2 : wx.cell? ⟨l2, 0, none⟩ = some (.slice T q cq)) :
    Calls Try.prog 61 #[.func (.func 113) #[] #[.pointer (some ⟨b2, 0, none⟩), .pointer (some ⟨b1, 0, none⟩)]] wx (fun e w' => ∃ O on oc, e = .returned (.agg #[.slice O on oc]) ∧ Owns w' wx.heap.size w'.heap.size O on oc (plainL (compL us ss) 24) ∧ Below wx.heap.size wx w' ∧ Below w.heap.size w wx) := by
  have m24 : m ≤ 1048576 := by have := (substOk_parts hok).2.1; rw [h.1] at this; omega
  have q24 : q ≤ 1048576 := by have := (substOk_parts hok2).2.1; rw [h'.1] at this; omega
  have eq := enters_of Try.func112 (by kernel_rfl) rfl
  have no : ∀ {g : Nat} {lb : Array Value} {L : Nat → List Int}, Looks g lb wx L 24 → LooksE none g lb wx L 24 := fun h W i hg hi => h W i ⟨hg.os, hg.tape, hg.output, hg.size, fun k hk => hg.block k hk (by simp)⟩ hi
  have LK := lookThen none b1 b2 _ _ _ _ eq eq (givesL ss) (givesL us) wx (World.block_lt_of_cell? _ _ c1) (World.block_lt_of_cell? _ _ c2) (by simp) (by simp) c1 c2
    (no (lookSubstC l1 S m c ss wx (World.block_lt_of_cell? _ _ k1) k1 (h.next hb) m24)) (no (lookSubstC l2 T q cq us wx (World.block_lt_of_cell? _ _ k2) k2 (h'.next hb) q24)) (fun i _ => gives_len hok i) (fun i hi y hy => (term_mem (x := y) (gives_ok hok hi) hy).1) (fun i => Nat.le_trans (gives_len hok2 i) (by omega))
  exact (plain 113 _ (enters_of Try.func113 (by kernel_rfl) rfl) (compL us ss) wx LK.looks (comp_pos us ss) (fun i => Nat.le_trans (comp_len hok hok2 i) (by omega))).mono fun _ _ ⟨O, on, oc, e1, e2, e3⟩ => ⟨O, on, oc, e1, e2, e3, hb⟩

/-- what lies behind the result's making: its variable -/
def Got (w : World) (F : List (List Int)) (p : Value) (wx : World) : Prop :=
  ∃ (b : Nat) (O : Option Addr) (on oc : Nat), p = .pointer (some ⟨b, 0, none⟩) ∧ Row wx b 31 #[.slice O on oc] ∧ Owns wx w.heap.size wx.heap.size O on oc F ∧ w.heap.size ≤ b ∧ Below w.heap.size w wx
theorem got_after {w w1 w2 : World} {F : List (List Int)} {O : Option Addr} {on oc : Nat} (b1 : Below w.heap.size w w1) (ho : Owns w2 w1.heap.size w2.heap.size O on oc F) (b2 : Below w1.heap.size w1 w2) : Got w F (.pointer (some ⟨w2.heap.size, 0, none⟩)) (w2.alloc (.cells #[.slice O on oc] 31)) :=
  have B : Below w2.heap.size w2 (w2.alloc (.cells #[.slice O on oc] 31)) := (Below.refl _ _).alloc (Nat.le_refl _) _
  ⟨_, O, on, oc, rfl, Row.new _ _ _, (ho.next B).wider b1.size (by simp), Nat.le_trans b1.size b2.size, next_trans b1 (next_trans b2 B)⟩
theorem got_ahead {w w1 w2 : World} {F : List (List Int)} {O : Option Addr} {on oc b : Nat} (b1 : Below w.heap.size w w1) (hb : w.heap.size ≤ b) (r2 : Row w2 b 31 #[.slice none 0 0]) (hlt : b < w1.heap.size) (ho : Owns w2 w1.heap.size w2.heap.size O on oc F) (b2 : Below w1.heap.size w1 w2) : Got w F (.pointer (some ⟨b, 0, none⟩)) (w2.setCell ⟨b, 0, none⟩ (.slice O on oc)) :=
  ⟨b, O, on, oc, rfl, by have := r2.put 0 (.slice O on oc); simpa using this, (owns_put ho r2 hlt 0 _).wider b1.size (by simp), hb, (next_trans b1 b2).setCell hb _⟩
theorem sz_alloc (w : World) (o : Obj) : (w.alloc o).heap.size = w.heap.size + 1 := by simp
theorem sz_drew (w : World) : w.drew.heap.size = w.heap.size := rfl
theorem row_top {w : World} {t : TypeId} {cs : Array Value} {n : Nat} (hn : n = w.heap.size) : Row (w.alloc (.cells cs t)) n t cs := by subst hn; exact Row.new _ _ _
theorem row_alloc {w : World} {o : Obj} {t : TypeId} {cs : Array Value} {n : Nat} (h : Row w n t cs) : Row (w.alloc o) n t cs := h.alloc o
theorem row_drew {w : World} {t : TypeId} {cs : Array Value} {n : Nat} (h : Row w n t cs) : Row w.drew n t cs := h.drew
theorem keep_alloc {w : World} {a : Addr} {v : Value} {o : Obj} (h : w.cell? a = some v) : (w.alloc o).cell? a = some v := (World.cell?_alloc_some w a o (by rw [h]; rfl)).trans h
theorem cell_top {w : World} {v : Value} {t : TypeId} {n : Nat} (hn : n = w.heap.size) : (w.alloc (.cells #[v] t)).cell? ⟨n, 0, none⟩ = some v := by subst hn; simp
theorem keep_set {w : World} {p a : Addr} {u v : Value} (hne : p.block ≠ a.block) (h : w.cell? a = some v) : (w.setCell p u).cell? a = some v := (World.cell?_setCell_far w p a u hne).trans h

set_option maxHeartbeats 8000000 in
theorem implComposed (A S T : Option Addr) (n c m c' q cq : Nat) (sg : List Int) (ss us : List (List Int)) (w : World) (h : Seg w w.heap.size A n sg) (h' : Segs w w.heap.size S m ss) (h2 : Segs w w.heap.size T q us) (hn : n ≤ 1048576) (ht : tot ss ≤ 1048576) (ht2 : tot us ≤ 1048576) :
    Calls Try.prog 22 #[.agg #[.slice A n c], .agg #[.slice S m c'], .agg #[.slice T q cq]] w (AnsSubB w (composedI sg ss us) (composedB sg ss us)) := by
  obtain ⟨W, hW, rA, r1, r2, r3, bel⟩ := boxes4 w A n c S m c' T q cq
  have HW := Lib.hid hW
  have HT2 := Lib.hid ht2
  have s := h.next bel
  have s1 := h'.next bel
  have s2 := h2.next bel
  have L := Lib.hid (implSubstOk A S n c m c' sg ss W s s1 hn ht)
  clear hW ht ht2 h h' h2
  cases hok : substOkB sg ss with
  | false =>
    have HS := Lib.hid hok
    clear hok s s1 s2
    go_enter Try.func22, Try.ntmps22
    go_wp2_with fail
    rw [← HW.out]
    refine L.out.mono ?_
    rintro e w1 ⟨he, bb⟩
    rw [HS.out] at he
    subst he
    replace r3 := r3.next bb
    replace bel := next_trans bel bb
    have cR : w1.cell? ⟨w.heap.size + 3, 0, none⟩ = some (.slice none 0 0) := r3.cell 0
    have fR : w1.frozen? ⟨w.heap.size + 3, 0, none⟩ = false := r3.free 0
    have F1 := Lib.hid (subB_no (sg := sg) (ss := ss) (us := us) (composed_s HS.out) bel)
    have F2 := Lib.hid (subB_no (sg := sg) (ss := ss) (us := us) (composed_s HS.out) ((bel).setCell (p := ⟨w.heap.size + 3, 0, none⟩) (by simp) (.slice none 0 0)))
    clear bb bel rA r1 r2 r3
    go_wp2
    first
      | exact bodyPost_ret (v := .tuple #[.agg #[.slice none 0 0], .bool false]) (by simp [results, Try.results22, go_sem, cR]) rfl F1.out
      | exact bodyPost_ret (v := .tuple #[.agg #[.slice none 0 0], .bool false]) (by simp [results, Try.results22, go_sem, cR]) rfl F2.out
  | true =>
    have HS := Lib.hid hok
    clear hok
    have hmf : ∀ (fn : Fn) (first cap : Array Value) (w : World), (Instr.makeFunc fn first cap).run Try.prog w = .ok (.func fn first cap) w := fun _ _ _ _ => rfl
    go_enter Try.func22, Try.ntmps22
    go_wp2_with fail
    rw [← HW.out]
    refine L.out.mono ?_
    rintro e w1 ⟨he, bb⟩
    rw [HS.out] at he
    subst he
    replace s := s.next bb
    replace s1 := s1.next bb
    replace s2 := s2.next bb
    replace rA := rA.next bb
    replace r1 := r1.next bb
    replace r2 := r2.next bb
    replace r3 := r3.next bb
    replace bel := next_trans bel bb
    have cA : w1.cell? ⟨w.heap.size, 0, none⟩ = some (.slice A n c) := rA.cell 0
    have cT : w1.cell? ⟨w.heap.size + 2, 0, none⟩ = some (.slice T q cq) := r2.cell 0
    have L2 := Lib.hid (implSubstOk A T n c q cq sg us w1 s s2 hn HT2.out)
    clear bb L rA
    cases hok2 : substOkB sg us with
    | false =>
      have HS2 := Lib.hid hok2
      clear hok2 s s1 s2
      go_wp2_with fail
      refine L2.out.mono ?_
      rintro e w2 ⟨he, bb⟩
      rw [HS2.out] at he
      subst he
      replace r3 := r3.next bb
      replace bel := next_trans bel bb
      have cR : w2.cell? ⟨w.heap.size + 3, 0, none⟩ = some (.slice none 0 0) := r3.cell 0
      have fR : w2.frozen? ⟨w.heap.size + 3, 0, none⟩ = false := r3.free 0
      have F1 := Lib.hid (subB_no (sg := sg) (ss := ss) (us := us) (composed_u HS2.out) bel)
      have F2 := Lib.hid (subB_no (sg := sg) (ss := ss) (us := us) (composed_u HS2.out) ((bel).setCell (p := ⟨w.heap.size + 3, 0, none⟩) (by simp) (.slice none 0 0)))
      clear bb bel r1 r2 r3 cA cT L2 hmf
      go_wp2
      first
        | exact bodyPost_ret (v := .tuple #[.agg #[.slice none 0 0], .bool false]) (by simp [results, Try.results22, go_sem, cR]) rfl F1.out
        | exact bodyPost_ret (v := .tuple #[.agg #[.slice none 0 0], .bool false]) (by simp [results, Try.results22, go_sem, cR]) rfl F2.out
    | true =>
      have HS2 := Lib.hid hok2
      clear hok2
      go_wp2_with fail
      refine L2.out.mono ?_
      rintro e w2 ⟨he, bb⟩
      rw [HS2.out] at he
      subst he
      replace s1 := s1.next bb
      replace s2 := s2.next bb
      replace r1 := r1.next bb
      replace r2 := r2.next bb
      replace r3 := r3.next bb
      replace bel := next_trans bel bb
      clear bb L2 cA cT s
      have cS : w2.cell? ⟨w.heap.size + 1, 0, none⟩ = some (.slice S m c') := r1.cell 0
      have cT : w2.cell? ⟨w.heap.size + 2, 0, none⟩ = some (.slice T q cq) := r2.cell 0
      have z1 := r1.lt
      have z2 := r2.lt
      clear r1 r2
      go_wp2_with fail
      have LKB := Lib.hid (fun (wx : World) (b1 b2 l1 l2 : Nat) (hb : Below w2.heap.size w2 wx) => lookBoth b1 b2 l1 l2 S m c' T q cq sg ss us w2 wx HS.out HS2.out hb s1 s2)
      go_cut [8] (fun p8 wx => Got w2 (plainL (compL us ss) 24) p8 wx)
      case first =>
        clear bel r3 s1 s2
        go_region_held3 (fun w' => w'.cell? ⟨w.heap.size + 1, 0, none⟩ = some (.slice S m c') ∧ w'.cell? ⟨w.heap.size + 2, 0, none⟩ = some (.slice T q cq))
          (((try simp only [World.cell?_drew]); (refine ⟨?_, ?_⟩ <;> (repeat (first | assumption | (with_reducible apply keep_alloc) | (refine keep_set (by first | (simp only [sz_alloc, sz_drew]; omega) | (simp; done) | (simp; omega)) ?_))))))
          (first
            | (go_at_call 72; refine (lookupIn _ _ _ _).mono ?_; rintro e w3 ⟨rfl, rfl⟩)
            | (go_at_call 75; refine (thenC _ _ _ _ _).mono ?_; rintro e w3 ⟨rfl, rfl⟩)
            | (go_at_call 61; refine (LKB.out _ _ _ ?_ ?_ ?_ ?_ ?_ ?_ ?_).mono ?_; rotate_left 3; (focus (simp only [World.cell?_drew]; (repeat (first | ((with_reducible refine cell_top ?_); (simp only [sz_alloc, sz_drew]; done)) | (with_reducible refine keep_alloc ?_))))); (focus (simp only [World.cell?_drew]; (repeat (first | ((with_reducible refine cell_top ?_); (simp only [sz_alloc, sz_drew]; done)) | (with_reducible refine keep_alloc ?_))))); (focus (simp only [World.cell?_drew]; (repeat (first | ((with_reducible refine cell_top ?_); (simp only [sz_alloc, sz_drew]; done)) | (with_reducible refine keep_alloc ?_))))); (focus (simp only [World.cell?_drew]; (repeat (first | ((with_reducible refine cell_top ?_); (simp only [sz_alloc, sz_drew]; done)) | (with_reducible refine keep_alloc ?_))))); rotate_right 1; (focus (repeat (first | (with_reducible exact Below.refl _ _) | (with_reducible refine Below.drew ?_) | (with_reducible refine Below.alloc ?_ (by first | omega | (simp only [sz_alloc, sz_drew]; omega)) _)))); rintro e w4 ⟨O, on, oc, rfl, ho, b4, hbx⟩; have y1 : w4.cell? ⟨w.heap.size + 1, 0, none⟩ = some (.slice S m c') := (b4.cell (p := ⟨w.heap.size + 1, 0, none⟩) (by first | omega | (simp only [sz_alloc, sz_drew]; omega))).trans (by simp only [World.cell?_drew]; repeat (first | exact cS | (with_reducible apply keep_alloc))); have y2 : w4.cell? ⟨w.heap.size + 2, 0, none⟩ = some (.slice T q cq) := (b4.cell (p := ⟨w.heap.size + 2, 0, none⟩) (by first | omega | (simp only [sz_alloc, sz_drew]; omega))).trans (by simp only [World.cell?_drew]; repeat (first | exact cT | (with_reducible apply keep_alloc))); (try (obtain ⟨q4, -⟩ : Row w4 (w2.heap.size) 31 #[.slice none 0 0] ∧ True; (focus ((refine ⟨Go.Proofs.Ytkmhnkljigncmaa.base.Row.next ?_ b4, trivial⟩); (repeat (first | ((with_reducible refine row_top ?_); (simp only [sz_alloc, sz_drew]; done)) | (with_reducible refine row_drew ?_) | (with_reducible refine row_alloc ?_))); done)); have y3 : w4.cell? ⟨w2.heap.size, 0, none⟩ = some (.slice none 0 0) := q4.cell 0; have y4 : w4.frozen? ⟨w2.heap.size, 0, none⟩ = false := q4.free 0)); (try (obtain ⟨q4, -⟩ : Row w4 (w2.heap.size + 1) 31 #[.slice none 0 0] ∧ True; (focus ((refine ⟨Go.Proofs.Ytkmhnkljigncmaa.base.Row.next ?_ b4, trivial⟩); (repeat (first | ((with_reducible refine row_top ?_); (simp only [sz_alloc, sz_drew]; done)) | (with_reducible refine row_drew ?_) | (with_reducible refine row_alloc ?_))); done)); have y3 : w4.cell? ⟨w2.heap.size + 1, 0, none⟩ = some (.slice none 0 0) := q4.cell 0; have y4 : w4.frozen? ⟨w2.heap.size + 1, 0, none⟩ = false := q4.free 0)); (try (obtain ⟨q4, -⟩ : Row w4 (w2.heap.size + 1 + 1) 31 #[.slice none 0 0] ∧ True; (focus ((refine ⟨Go.Proofs.Ytkmhnkljigncmaa.base.Row.next ?_ b4, trivial⟩); (repeat (first | ((with_reducible refine row_top ?_); (simp only [sz_alloc, sz_drew]; done)) | (with_reducible refine row_drew ?_) | (with_reducible refine row_alloc ?_))); done)); have y3 : w4.cell? ⟨w2.heap.size + 1 + 1, 0, none⟩ = some (.slice none 0 0) := q4.cell 0; have y4 : w4.frozen? ⟨w2.heap.size + 1 + 1, 0, none⟩ = false := q4.free 0)); (try (obtain ⟨q4, -⟩ : Row w4 (w2.heap.size + 1 + 1 + 1 + 1) 31 #[.slice none 0 0] ∧ True; (focus ((refine ⟨Go.Proofs.Ytkmhnkljigncmaa.base.Row.next ?_ b4, trivial⟩); (repeat (first | ((with_reducible refine row_top ?_); (simp only [sz_alloc, sz_drew]; done)) | (with_reducible refine row_drew ?_) | (with_reducible refine row_alloc ?_))); done)); have y3 : w4.cell? ⟨w2.heap.size + 1 + 1 + 1 + 1, 0, none⟩ = some (.slice none 0 0) := q4.cell 0; have y4 : w4.frozen? ⟨w2.heap.size + 1 + 1 + 1 + 1, 0, none⟩ = false := q4.free 0)); all_goals skip))
        all_goals
          go_wp2_with fail
          go_meet
          first
            | exact got_after hbx ho b4
            | exact got_ahead hbx (by omega) q4 (by simp only [sz_alloc, sz_drew]; omega) ho b4
      case rest =>
        rename World => wc
        obtain ⟨b, O, on, oc, rfl, rb, ho, hwb, b4⟩ := hcut
        have HE := Lib.hid (plain_each (L := compL us ss) (m := 24) (comp_len HS.out HS2.out))
        have HLN := Lib.hid (plain_len (compL us ss) 24)
        have AL := Lib.hid (anyLong_comp us ss)
        have CB := Lib.hid (composed_b HS.out HS2.out)
        have r4 := r3.next b4
        have hlt3 := r3.lt
        have bel5 := next_trans bel b4
        have hon : on ≤ 24 := by rw [← ho.len]; exact HLN.out
        have LC := Lib.hid (containsLong O on oc (plainL (compL us ss) 24) wc ho.segs (by omega) (fun j => Nat.le_trans (HE.out j) (by omega)))
        have cR : wc.cell? ⟨w.heap.size + 3, 0, none⟩ = some (.slice none 0 0) := r4.cell 0
        have fR : wc.frozen? ⟨w.heap.size + 3, 0, none⟩ = false := r4.free 0
        have cO : wc.cell? ⟨b, 0, none⟩ = some (.slice O on oc) := rb.cell 0
        have F1 := Lib.hid (fun hno : composedB sg ss us = false => subB_no hno bel5)
        have F2 := Lib.hid (fun hno : composedB sg ss us = false => subB_no hno (bel5.setCell (p := ⟨w.heap.size + 3, 0, none⟩) (by simp) (.slice none 0 0)))
        have F3 : Hid (composedB sg ss us = true → AnsSubB w (composedI sg ss us) (composedB sg ss us) (.returned (.tuple #[.agg #[.slice O on oc], .bool true])) (wc.setCell ⟨w.heap.size + 3, 0, none⟩ (.slice O on oc))) :=
          Lib.hid fun hyes => ⟨O, on, oc, by rw [hyes], by rw [composed_yes hyes]; have hwc := bel.size; exact (owns_put ho r4 hlt3 0 _).wider hwc (by simp), bel5.setCell (by simp) _⟩
        clear r3 r4 ho b4 bel bel5 rb LKB
        go_wp2_with fail
        refine LC.out.mono ?_
        rintro e w6 ⟨rfl, rfl⟩
        rw [AL.out]
        cases hc : compOk us ss with
        | false =>
          have hno : composedB sg ss us = false := CB.out.trans hc
          have G1 := Lib.hid (F1.out hno)
          have G2 := Lib.hid (F2.out hno)
          clear hc hno F1 F2 F3 LC
          go_wp2
          first
            | exact bodyPost_ret (v := .tuple #[.agg #[.slice none 0 0], .bool false]) (by simp [results, Try.results22, go_sem, cR]) rfl G1.out
            | exact bodyPost_ret (v := .tuple #[.agg #[.slice none 0 0], .bool false]) (by simp [results, Try.results22, go_sem, cR]) rfl G2.out
        | true =>
          have G3 := Lib.hid (F3.out (CB.out.trans hc))
          clear hc F1 F2 F3 LC
          go_wp2
          exact bodyPost_ret (v := .tuple #[.agg #[.slice O on oc], .bool true]) (by simp [results, Try.results22, go_sem, cR]) rfl G3.out
end Go.Proofs.Ytkmhnkljigncmaa.compImpl
end

section
/-
  CONTRACT: laws.big: more than 4096 bytes. Conditions: none. By an AI agent.
-/
namespace Go.Proofs.Ytkmhnkljigncmaa.bigs
open Go.RowKit Go.Proofs.Ytkmhnkljigncmaa.base Go.Proofs.Ytkmhnkljigncmaa.ints

theorem bigAns (A : Option Addr) (n c : Nat) (b : Bool) (w : World) (hb : decide (4096 < n) = b) (hn : n ≤ 9223372036854775807) : Calls Try.prog 12 #[.slice A n c] w fun e w' => w = w' ∧ e = .returned (.bool b) := by
  cases b with
  | true =>
    have h : (4096 : Int) < (n : Int) := by have := of_decide_eq_true hb; omega
    clear hb
    go_enter Try.func12, Try.ntmps12
    go_wp2
    go_ret
    exact ⟨rfl, rfl⟩
  | false =>
    have h : ¬ (4096 : Int) < (n : Int) := by have := of_decide_eq_false hb; omega
    have h2 : decide (4096 < n) = false := hb
    clear hb
    go_enter Try.func12, Try.ntmps12
    go_wp2
    go_ret
    exact ⟨rfl, rfl⟩
end Go.Proofs.Ytkmhnkljigncmaa.bigs
end

section
/-
  WORDS of the laws' walks: what stands behind a draw of a signature and two terms ('T1'), a variable that holds a substitution ('Sv'); laws.likeInts of two lists that read the same. Conditions: none; plain lemmas. By an AI agent.
-/
namespace Go.Proofs.Ytkmhnkljigncmaa.lawT
open Go.RowKit Go.Proofs.Ytkmhnkljigncmaa.base Go.Proofs.Ytkmhnkljigncmaa.ints Go.Proofs.Ytkmhnkljigncmaa.segs
set_option maxRecDepth 100000

/-- what stands after the first draw: the signature's variable at v3 -/
structure T1 (w : World) (v3 : Nat) (S : Option Addr) (sn sc : Nat) (sg : List Int) (O : Option Addr) (on : Nat) (p : List Int) (Q : Option Addr) (qn : Nat) (t : List Int) (wr : World) : Prop where
  s : Seg wr wr.heap.size S sn sg
  o : Seg wr wr.heap.size O on p
  q : Seg wr wr.heap.size Q qn t
  r3 : Row wr v3 26 #[.slice S sn sc]
  bel : Below w.heap.size w wr
section
variable {w : World} {v3 : Nat} {S : Option Addr} {sn sc : Nat} {sg : List Int} {O : Option Addr} {on : Nat} {p : List Int} {Q : Option Addr} {qn : Nat} {t : List Int} {wr w' : World}
theorem T1.next (f : T1 w v3 S sn sc sg O on p Q qn t wr) (hb : Below wr.heap.size wr w') : T1 w v3 S sn sc sg O on p Q qn t w' :=
  ⟨f.s.next hb, f.o.next hb, f.q.next hb, f.r3.next hb, next_trans f.bel hb⟩
theorem T1.drew (f : T1 w v3 S sn sc sg O on p Q qn t wr) : T1 w v3 S sn sc sg O on p Q qn t wr.drew := ⟨f.s, f.o, f.q, f.r3, f.bel.drew⟩
theorem T1.cell (f : T1 w v3 S sn sc sg O on p Q qn t wr) : wr.cell? ⟨v3, 0, none⟩ = some (.slice S sn sc) := f.r3.cell 0
end
/-- a variable that holds a substitution -/
structure Sv (wr : World) (v : Nat) (D : Option Addr) (dn dc : Nat) (xss : List (List Int)) : Prop where
  r : Row wr v 31 #[.slice D dn dc]
  s : Segs wr wr.heap.size D dn xss
section
variable {v : Nat} {D : Option Addr} {dn dc : Nat} {xss : List (List Int)} {wr w' : World}
theorem Sv.next (f : Sv wr v D dn dc xss) (hb : Below wr.heap.size wr w') : Sv w' v D dn dc xss := ⟨f.r.next hb, f.s.next hb⟩
theorem Sv.cell (f : Sv wr v D dn dc xss) : wr.cell? ⟨v, 0, none⟩ = some (.slice D dn dc) := f.r.cell 0
end
theorem below_alloc (w : World) (x : Obj) : Below w.heap.size w (w.alloc x) := (Below.refl _ _).alloc (Nat.le_refl _) _
theorem below_drewN (w : World) (d : Nat) : Below w.heap.size w (w.drewN d) := ⟨rfl, rfl, rfl, Nat.le_refl _, fun _ _ => rfl⟩

end Go.Proofs.Ytkmhnkljigncmaa.lawT
end

section
/-
  THE WALK of laws.FnUnified: it returns true, whatever the bytes, and writes nothing that was there. Conditions: the slice holds bytes. By an AI agent.
-/
namespace Go.Proofs.Ytkmhnkljigncmaa.wFnUnified
open Go.RowKit Go.Proofs.Ytkmhnkljigncmaa.base Go.Proofs.Ytkmhnkljigncmaa.ints Go.Proofs.Ytkmhnkljigncmaa.sig Go.Proofs.Ytkmhnkljigncmaa.same Go.Proofs.Ytkmhnkljigncmaa.term Go.Proofs.Ytkmhnkljigncmaa.cursor Go.Proofs.Ytkmhnkljigncmaa.termOk Go.Proofs.Ytkmhnkljigncmaa.marks Go.Proofs.Ytkmhnkljigncmaa.app Go.Proofs.Ytkmhnkljigncmaa.sym Go.Proofs.Ytkmhnkljigncmaa.segs Go.Proofs.Ytkmhnkljigncmaa.segsHelp Go.Proofs.Ytkmhnkljigncmaa.dice Go.Proofs.Ytkmhnkljigncmaa.inside Go.Proofs.Ytkmhnkljigncmaa.look Go.Proofs.Ytkmhnkljigncmaa.drawVar Go.Proofs.Ytkmhnkljigncmaa.drawMatched Go.Proofs.Ytkmhnkljigncmaa.drawUni Go.Proofs.Ytkmhnkljigncmaa.drawSS Go.Proofs.Ytkmhnkljigncmaa.varsOf Go.Proofs.Ytkmhnkljigncmaa.substOk Go.Proofs.Ytkmhnkljigncmaa.gives Go.Proofs.Ytkmhnkljigncmaa.filled Go.Proofs.Ytkmhnkljigncmaa.shifted Go.Proofs.Ytkmhnkljigncmaa.sameSubst Go.Proofs.Ytkmhnkljigncmaa.compMath Go.Proofs.Ytkmhnkljigncmaa.compSpec Go.Proofs.Ytkmhnkljigncmaa.compImpl Go.Proofs.Ytkmhnkljigncmaa.unifMath Go.Proofs.Ytkmhnkljigncmaa.unifLaw Go.Proofs.Ytkmhnkljigncmaa.unified Go.Proofs.Ytkmhnkljigncmaa.unifImpl Go.Proofs.Ytkmhnkljigncmaa.bigs Go.Proofs.Ytkmhnkljigncmaa.lawT

set_option maxRecDepth 100000 in
set_option maxHeartbeats 16000000 in
theorem law (A : Option Addr) (n c : Nat) (_ : List Int) (w : World) (h : SegB w w.heap.size A n) (hN : n ≤ 9223372036854775807) :
    Calls Try.prog 3 #[.slice A n c] w (Fine w) := by
  by_cases hbig : n ≤ 4096
  · have LB := Lib.hid (bigAns A n c false w (by simp; omega) hN)
    go_enter Try.func3, Try.ntmps3
    go_wp2_with fail
    refine LB.out.mono ?_
    rintro e w' ⟨rfl, rfl⟩
    clear LB
    go_wp2_with fail
    refine (drawUnified A n c w h hbig).mono ?_
    rintro e w2 ⟨S, sn, sc, sg, O, on, oc, a, Q, qn, qc, b, rfl, s1, s2, s3, hsn, ⟨hon, hoc⟩, ⟨hqn, hqc⟩, b2⟩
    obtain ⟨v3, h3⟩ : ∃ v, w2.heap.size = v := ⟨_, rfl⟩
    obtain ⟨W, hW⟩ : ∃ W, W = w2.alloc (.cells #[.slice S sn sc] 26) := ⟨_, rfl⟩
    have T : T1 w v3 S sn sc sg O on a Q qn b W := by
      have bb : Below w2.heap.size w2 W := by rw [hW]; exact below_alloc _ _
      exact ⟨s1.next bb, s2.next bb, s3.next bb, by rw [hW, ← h3]; exact Row.new _ _ _, next_trans b2 bb⟩
    have HW := Lib.hid hW
    have H3 := Lib.hid h3
    have c30 : (w2.alloc (.cells #[.slice S sn sc] 26)).cell? ⟨v3, 0, none⟩ = some (.slice S sn sc) := by rw [← hW]; exact T.cell
    obtain ⟨v, F, hU⟩ := isU_ex sg a b
    have HU := Lib.hid hU
    have HUB := Lib.hid (isU_symm hU)
    have HTF := Lib.hid (isU_each hU)
    have hBS := Lib.hid h
    clear h hW h3 b2 s1 s2 s3 hU
    have cT := T.cell
    go_wp2_with fail
    rw [← HW.out, H3.out]
    refine (implUnified S O Q sn sc on oc qn qc sg a b W v F HU.out T.s T.o T.q (by omega) (by omega) (by omega) hoc hqc).mono ?_
    rintro e w4 ⟨D, dn, dc, rfl, od, bb⟩
    clear c30
    replace T := T.next bb
    obtain ⟨v6, hv6⟩ : ∃ v, w4.heap.size = v := ⟨_, rfl⟩
    obtain ⟨W4, hW4⟩ : ∃ W, W = w4.alloc (.cells #[.slice D dn dc] 31) := ⟨_, rfl⟩
    have bx : Below w4.heap.size w4 W4 := by rw [hW4]; exact below_alloc _ _
    have U6 : Sv W4 v6 D dn dc F := ⟨by rw [hW4, ← hv6]; exact Row.new _ _ _, (od.segs).next bx⟩
    replace T := T.next bx
    have kT : (w4.alloc (.cells #[.slice D dn dc] 31)).cell? ⟨v3, 0, none⟩ = some (.slice S sn sc) := by rw [← hW4]; exact T.cell
    have kU6 : (w4.alloc (.cells #[.slice D dn dc] 31)).cell? ⟨v6, 0, none⟩ = some (.slice D dn dc) := by rw [← hW4]; exact U6.cell
    have HW4 := Lib.hid hW4
    have Hv6 := Lib.hid hv6
    clear bb bx od hW4 hv6
    replace cT := T.cell
    have cU6 := U6.cell
    go_wp2_with fail
    rw [← HW4.out, Hv6.out]
    refine (specUnified S O Q sn sc on oc qn qc sg a b W4 v F HU.out T.s T.o T.q (by omega) (by omega) (by omega)).mono ?_
    rintro e w6 ⟨E, en, ec, rfl, oe, bb⟩
    clear kT kU6
    replace T := T.next bb
    replace U6 := U6.next bb
    obtain ⟨v8, hv8⟩ : ∃ v, w6.heap.size = v := ⟨_, rfl⟩
    obtain ⟨W6, hW6⟩ : ∃ W, W = w6.alloc (.cells #[.slice E en ec] 31) := ⟨_, rfl⟩
    have bx : Below w6.heap.size w6 W6 := by rw [hW6]; exact below_alloc _ _
    have U8 : Sv W6 v8 E en ec F := ⟨by rw [hW6, ← hv8]; exact Row.new _ _ _, (oe.segs).next bx⟩
    replace T := T.next bx
    replace U6 := U6.next bx
    have kT : (w6.alloc (.cells #[.slice E en ec] 31)).cell? ⟨v3, 0, none⟩ = some (.slice S sn sc) := by rw [← hW6]; exact T.cell
    have kU6 : (w6.alloc (.cells #[.slice E en ec] 31)).cell? ⟨v6, 0, none⟩ = some (.slice D dn dc) := by rw [← hW6]; exact U6.cell
    have kU8 : (w6.alloc (.cells #[.slice E en ec] 31)).cell? ⟨v8, 0, none⟩ = some (.slice E en ec) := by rw [← hW6]; exact U8.cell
    have HW6 := Lib.hid hW6
    have Hv8 := Lib.hid hv8
    clear bb bx oe hW6 hv8
    replace cT := T.cell
    replace cU6 := U6.cell
    have cU8 := U8.cell
    cases v with
    | false =>
      clear U8 kU8 cU8 HUB
      go_wp2_with fail
      rw [← HW6.out, Hv8.out]
      refine (drawFilled A n c _ (segB_below hBS.out T.bel) hbig).mono ?_
      rintro e w8 ⟨S', sn', sc', sg', B, m, cB, us, V, vn, vc, vs, rfl, -, q2, q3, -, hut, hvn, bb⟩
      clear kT kU6
      obtain ⟨v10, h10⟩ : ∃ v, w8.heap.size = v := ⟨_, rfl⟩
      obtain ⟨W9, hW9⟩ : ∃ W, W = (w8.alloc (.cells #[.slice S' sn' sc'] 26)).alloc (.cells #[.slice B m cB] 31) := ⟨_, rfl⟩
      have bb9 : Below w8.heap.size w8 W9 := by rw [hW9]; exact (below_alloc _ _).trans ((below_alloc _ _).mono (by simp))
      have U11 : Sv W9 (v10 + 1) B m cB us := ⟨by rw [hW9, ← h10]; have := Row.new (w8.alloc (.cells #[.slice S' sn' sc'] 26)) 31 #[.slice B m cB]; simpa using this, q2.next bb9⟩
      replace T := T.next bb
      replace U6 := U6.next bb
      replace T := T.next bb9
      replace U6 := U6.next bb9
      have HW9 := Lib.hid hW9
      have H10 := Lib.hid h10
      have kT : ((w8.alloc (.cells #[.slice S' sn' sc'] 26)).alloc (.cells #[.slice B m cB] 31)).cell? ⟨v3, 0, none⟩ = some (.slice S sn sc) := by rw [← hW9]; exact T.cell
      have kU6 : ((w8.alloc (.cells #[.slice S' sn' sc'] 26)).alloc (.cells #[.slice B m cB] 31)).cell? ⟨v6, 0, none⟩ = some (.slice D dn dc) := by rw [← hW9]; exact U6.cell
      have kU11 : ((w8.alloc (.cells #[.slice S' sn' sc'] 26)).alloc (.cells #[.slice B m cB] 31)).cell? ⟨v10 + 1, 0, none⟩ = some (.slice B m cB) := by rw [← hW9]; exact U11.cell
      obtain ⟨b1, hb1⟩ : ∃ z, filledB sg us a = z := ⟨_, rfl⟩
      obtain ⟨xs, hxs⟩ : ∃ z, filledL sg us a = z := ⟨_, rfl⟩
      have HB1 := Lib.hid hb1
      have HXS := Lib.hid hxs
      have hxs60 : xs.length ≤ 65 := by rw [← hxs]; exact Nat.le_trans (filled_len _ _ _) (by omega)
      obtain ⟨b2, hb2⟩ : ∃ z, filledB sg us b = z := ⟨_, rfl⟩
      obtain ⟨ys, hys⟩ : ∃ z, filledL sg us b = z := ⟨_, rfl⟩
      have HB2 := Lib.hid hb2
      have HYS := Lib.hid hys
      have hys60 : ys.length ≤ 65 := by rw [← hys]; exact Nat.le_trans (filled_len _ _ _) (by omega)
      clear bb bb9 q2 q3 hW9 h10 hb1 hb2 hxs hys
      replace cT := T.cell
      replace cU6 := U6.cell
      have cU11 := U11.cell
      go_wp2_with fail
      rw [← HW9.out, H10.out]
      refine (specFilledO S B O sn sc m cB on oc sg us a W9 T.s U11.s T.o (by omega) hut (by omega)).mono ?_
      rintro e w10 ⟨X, xn, xc, he, ox, bb⟩
      rw [HB1.out] at he
      subst he
      rw [HXS.out] at ox
      have sX := Own.seg ox
      have hxn : xn ≤ 65 := by rw [Own.len ox]; exact hxs60
      replace T := T.next bb
      replace U6 := U6.next bb
      replace U11 := U11.next bb
      clear kT kU6 kU11
      clear bb ox
      replace cT := T.cell
      replace cU6 := U6.cell
      replace cU11 := U11.cell
      go_wp2_with fail
      refine (specFilledO S B Q sn sc m cB qn qc sg us b w10 T.s U11.s T.q (by omega) hut (by omega)).mono ?_
      rintro e w11 ⟨Y, yn, yc, he, ox, bb⟩
      rw [HB2.out] at he
      subst he
      rw [HYS.out] at ox
      have sY := Own.seg ox
      have hyn : yn ≤ 65 := by rw [Own.len ox]; exact hys60
      replace T := T.next bb
      replace U6 := U6.next bb
      replace U11 := U11.next bb
      replace sX := sX.next bb
      clear bb ox
      replace cT := T.cell
      replace cU6 := U6.cell
      replace cU11 := U11.cell
      cases b1 with
      | false =>
        clear U6 cU6
        clear U11 cU11
        clear sX
        clear sY
        go_wp2_with fail
        refine (implUnifiesIn S O Q sn sc on oc qn qc sg a b w11 false F HU.out T.s T.o T.q (by omega) (by omega) (by omega) hoc hqc).mono ?_
        rintro e w30 ⟨rfl, bb⟩
        replace T := T.next bb
        clear bb
        replace cT := T.cell
        have TB := Lib.hid T.bel
        clear T cT
        go_wp2
        go_ret
        exact ⟨rfl, TB.out⟩
      | true =>
        cases b2 with
        | false =>
          clear U6 cU6
          clear U11 cU11
          clear sX
          clear sY
          go_wp2_with fail
          refine (implUnifiesIn S O Q sn sc on oc qn qc sg a b w11 false F HU.out T.s T.o T.q (by omega) (by omega) (by omega) hoc hqc).mono ?_
          rintro e w30 ⟨rfl, bb⟩
          replace T := T.next bb
          clear bb
          replace cT := T.cell
          have TB := Lib.hid T.bel
          clear T cT
          go_wp2
          go_ret
          exact ⟨rfl, TB.out⟩
        | true =>
          go_wp2_with fail
          refine (specSame X Y xn yn xc yc xs ys w11 sX sY (by omega) (by omega)).mono ?_
          rintro e w12 ⟨he, d, hd⟩
          have bb : Below w11.heap.size w11 w12 := by rw [hd]; exact below_drewN w11 d
          clear hd
          replace T := T.next bb
          replace U6 := U6.next bb
          replace U11 := U11.next bb
          replace sX := sX.next bb
          replace sY := sY.next bb
          clear bb
          replace cT := T.cell
          replace cU6 := U6.cell
          replace cU11 := U11.cell
          by_cases hxy : xs = ys
          · rw [decide_eq_true hxy] at he
            subst he
            exact absurd (isU_true HU.out HB1.out HB2.out (by rw [HXS.out, HYS.out]; exact hxy)) (by simp)
          · rw [decide_eq_false hxy] at he
            subst he
            clear hxy
            clear U6 cU6
            clear U11 cU11
            clear sX
            clear sY
            go_wp2_with fail
            refine (implUnifiesIn S O Q sn sc on oc qn qc sg a b w12 false F HU.out T.s T.o T.q (by omega) (by omega) (by omega) hoc hqc).mono ?_
            rintro e w30 ⟨rfl, bb⟩
            replace T := T.next bb
            clear bb
            replace cT := T.cell
            have TB := Lib.hid T.bel
            clear T cT
            go_wp2
            go_ret
            exact ⟨rfl, TB.out⟩
    | true =>
      have HF := Lib.hid (isU_facts HU.out)
      have HSF := Lib.hid HF.out.2.1
      have HFA := Lib.hid HF.out.2.2.1
      have HFB := Lib.hid HF.out.2.2.2.1
      obtain ⟨fa, hfa⟩ : ∃ z, filledL sg F a = z := ⟨_, rfl⟩
      have HLA := Lib.hid hfa
      have HLB := Lib.hid (HF.out.2.2.2.2.1.symm.trans hfa)
      have HL60 := Lib.hid (show fa.length ≤ 65 by rw [← hfa]; exact Nat.le_trans (filled_len _ _ _) (by omega))
      clear hfa
      go_wp2_with fail
      rw [← HW6.out, Hv8.out]
      refine (specSameSubst S D E sn sc dn dc en ec sg F F W6 T.s U6.s U8.s (by omega) HTF.out HTF.out).mono ?_
      rintro e wq ⟨he, bb⟩
      rw [HSF.out] at he
      subst he
      replace T := T.next bb
      replace U6 := U6.next bb
      replace U8 := U8.next bb
      clear kT kU6 kU8
      clear bb
      replace cT := T.cell
      replace cU6 := U6.cell
      replace cU8 := U8.cell
      clear U8 cU8
      go_wp2_with fail
      refine (drawFilled A n c _ (segB_below hBS.out T.bel) hbig).mono ?_
      rintro e w8 ⟨S', sn', sc', sg', B, m, cB, us, V, vn, vc, vs, rfl, -, q2, q3, -, hut, hvn, bb⟩
      obtain ⟨v10, h10⟩ : ∃ v, w8.heap.size = v := ⟨_, rfl⟩
      obtain ⟨W9, hW9⟩ : ∃ W, W = (w8.alloc (.cells #[.slice S' sn' sc'] 26)).alloc (.cells #[.slice B m cB] 31) := ⟨_, rfl⟩
      have bb9 : Below w8.heap.size w8 W9 := by rw [hW9]; exact (below_alloc _ _).trans ((below_alloc _ _).mono (by simp))
      have U11 : Sv W9 (v10 + 1) B m cB us := ⟨by rw [hW9, ← h10]; have := Row.new (w8.alloc (.cells #[.slice S' sn' sc'] 26)) 31 #[.slice B m cB]; simpa using this, q2.next bb9⟩
      replace T := T.next bb
      replace U6 := U6.next bb
      replace T := T.next bb9
      replace U6 := U6.next bb9
      have HW9 := Lib.hid hW9
      have H10 := Lib.hid h10
      have kT : ((w8.alloc (.cells #[.slice S' sn' sc'] 26)).alloc (.cells #[.slice B m cB] 31)).cell? ⟨v3, 0, none⟩ = some (.slice S sn sc) := by rw [← hW9]; exact T.cell
      have kU6 : ((w8.alloc (.cells #[.slice S' sn' sc'] 26)).alloc (.cells #[.slice B m cB] 31)).cell? ⟨v6, 0, none⟩ = some (.slice D dn dc) := by rw [← hW9]; exact U6.cell
      have kU11 : ((w8.alloc (.cells #[.slice S' sn' sc'] 26)).alloc (.cells #[.slice B m cB] 31)).cell? ⟨v10 + 1, 0, none⟩ = some (.slice B m cB) := by rw [← hW9]; exact U11.cell
      obtain ⟨b1, hb1⟩ : ∃ z, filledB sg us a = z := ⟨_, rfl⟩
      obtain ⟨xs, hxs⟩ : ∃ z, filledL sg us a = z := ⟨_, rfl⟩
      have HB1 := Lib.hid hb1
      have HXS := Lib.hid hxs
      have hxs60 : xs.length ≤ 65 := by rw [← hxs]; exact Nat.le_trans (filled_len _ _ _) (by omega)
      obtain ⟨b2, hb2⟩ : ∃ z, filledB sg us b = z := ⟨_, rfl⟩
      obtain ⟨ys, hys⟩ : ∃ z, filledL sg us b = z := ⟨_, rfl⟩
      have HB2 := Lib.hid hb2
      have HYS := Lib.hid hys
      have hys60 : ys.length ≤ 65 := by rw [← hys]; exact Nat.le_trans (filled_len _ _ _) (by omega)
      clear bb bb9 q2 q3 hW9 h10 hb1 hb2 hxs hys
      replace cT := T.cell
      replace cU6 := U6.cell
      have cU11 := U11.cell
      go_wp2_with fail
      rw [← HW9.out, H10.out]
      refine (specFilledO S B O sn sc m cB on oc sg us a W9 T.s U11.s T.o (by omega) hut (by omega)).mono ?_
      rintro e w10 ⟨X, xn, xc, he, ox, bb⟩
      rw [HB1.out] at he
      subst he
      rw [HXS.out] at ox
      have sX := Own.seg ox
      have hxn : xn ≤ 65 := by rw [Own.len ox]; exact hxs60
      replace T := T.next bb
      replace U6 := U6.next bb
      replace U11 := U11.next bb
      clear kT kU6 kU11
      clear bb ox
      replace cT := T.cell
      replace cU6 := U6.cell
      replace cU11 := U11.cell
      go_wp2_with fail
      refine (specFilledO S B Q sn sc m cB qn qc sg us b w10 T.s U11.s T.q (by omega) hut (by omega)).mono ?_
      rintro e w11 ⟨Y, yn, yc, he, ox, bb⟩
      rw [HB2.out] at he
      subst he
      rw [HYS.out] at ox
      have sY := Own.seg ox
      have hyn : yn ≤ 65 := by rw [Own.len ox]; exact hys60
      replace T := T.next bb
      replace U6 := U6.next bb
      replace U11 := U11.next bb
      replace sX := sX.next bb
      clear bb ox
      replace cT := T.cell
      replace cU6 := U6.cell
      replace cU11 := U11.cell
      cases b1 with
      | false =>
        clear sX
        clear sY
        clear U11 cU11
        go_wp2_with fail
        refine (implFilled S D O sn sc dn dc on oc sg F a w11 T.s U6.s T.o (by omega) HTF.out (by omega)).mono ?_
        rintro e w20 ⟨P1, p1n, p1c, he, ox, bb⟩
        rw [HFA.out] at he
        subst he
        rw [HLA.out] at ox
        have sP1 := Own.seg ox
        have hp1n : p1n ≤ 65 := by rw [Own.len ox]; exact HL60.out
        replace T := T.next bb
        replace U6 := U6.next bb
        clear bb ox
        replace cT := T.cell
        replace cU6 := U6.cell
        go_wp2_with fail
        refine (implFilled S D Q sn sc dn dc qn qc sg F b w20 T.s U6.s T.q (by omega) HTF.out (by omega)).mono ?_
        rintro e w21 ⟨P2, p2n, p2c, he, ox, bb⟩
        rw [HFB.out] at he
        subst he
        rw [HLB.out] at ox
        have sP2 := Own.seg ox
        have hp2n : p2n ≤ 65 := by rw [Own.len ox]; exact HL60.out
        replace T := T.next bb
        replace U6 := U6.next bb
        replace sP1 := sP1.next bb
        clear bb ox
        replace cT := T.cell
        replace cU6 := U6.cell
        go_wp2_with fail
        refine (implComposed S D D sn sc dn dc dn dc sg F F w21 T.s U6.s U6.s (by omega) HTF.out HTF.out).mono ?_
        rintro e w22 ⟨G, gn, gc, he, og, bb⟩
        obtain ⟨z, hz⟩ : ∃ z, composedB sg F F = z := ⟨_, rfl⟩
        have HZ := Lib.hid hz
        rw [hz] at he
        subst he
        clear hz
        replace T := T.next bb
        replace U6 := U6.next bb
        replace sP1 := sP1.next bb
        replace sP2 := sP2.next bb
        obtain ⟨v21, hv21⟩ : ∃ v, w22.heap.size = v := ⟨_, rfl⟩
        obtain ⟨W22, hW22⟩ : ∃ W, W = w22.alloc (.cells #[.slice G gn gc] 31) := ⟨_, rfl⟩
        have bx : Below w22.heap.size w22 W22 := by rw [hW22]; exact below_alloc _ _
        have U21 : Sv W22 v21 G gn gc (composedI sg F F) := ⟨by rw [hW22, ← hv21]; exact Row.new _ _ _, (og.segs).next bx⟩
        replace T := T.next bx
        replace U6 := U6.next bx
        replace sP1 := sP1.next bx
        replace sP2 := sP2.next bx
        have kT : (w22.alloc (.cells #[.slice G gn gc] 31)).cell? ⟨v3, 0, none⟩ = some (.slice S sn sc) := by rw [← hW22]; exact T.cell
        have kU6 : (w22.alloc (.cells #[.slice G gn gc] 31)).cell? ⟨v6, 0, none⟩ = some (.slice D dn dc) := by rw [← hW22]; exact U6.cell
        have kU21 : (w22.alloc (.cells #[.slice G gn gc] 31)).cell? ⟨v21, 0, none⟩ = some (.slice G gn gc) := by rw [← hW22]; exact U21.cell
        have HW22 := Lib.hid hW22
        have Hv21 := Lib.hid hv21
        clear bb bx og hW22 hv21
        replace cT := T.cell
        replace cU6 := U6.cell
        have cU21 := U21.cell
        go_wp2_with fail
        rw [← HW22.out, Hv21.out]
        refine (implSame P1 P2 p1n p2n p1c p2c fa fa W22 sP1 sP2 (by omega) (by omega)).mono ?_
        rintro e w23 ⟨he, d, hd⟩
        have bb : Below W22.heap.size W22 w23 := by rw [hd]; exact below_drewN W22 d
        rw [decide_eq_true rfl] at he
        subst he
        clear hd
        replace T := T.next bb
        replace U6 := U6.next bb
        replace sP1 := sP1.next bb
        replace sP2 := sP2.next bb
        replace U21 := U21.next bb
        clear kT kU6 kU21
        clear bb
        replace cT := T.cell
        replace cU6 := U6.cell
        replace cU21 := U21.cell
        clear sP1
        clear sP2
        cases z with
        | false =>
          clear U21 cU21
          clear HZ
          go_wp2_with fail
          refine (implUnifiesIn S Q O sn sc qn qc on oc sg b a w23 true F HUB.out T.s T.q T.o (by omega) (by omega) (by omega) hqc hoc).mono ?_
          rintro e w30 ⟨rfl, bb⟩
          replace T := T.next bb
          replace U6 := U6.next bb
          clear bb
          replace cT := T.cell
          replace cU6 := U6.cell
          have TB := Lib.hid T.bel
          clear T cT
          clear U6 cU6
          go_wp2
          go_ret
          exact ⟨rfl, TB.out⟩
        | true =>
          have HSS := Lib.hid (HF.out.2.2.2.2.2.1 HZ.out)
          go_wp2_with fail
          refine (implSameSubst S G D sn sc gn gc dn dc sg (composedI sg F F) F w23 T.s U21.s U6.s (by omega) composed_tot HTF.out).mono ?_
          rintro e w24 ⟨he, bb⟩
          rw [HSS.out] at he
          subst he
          replace T := T.next bb
          replace U6 := U6.next bb
          replace U21 := U21.next bb
          clear bb HZ HSS
          replace cT := T.cell
          replace cU6 := U6.cell
          replace cU21 := U21.cell
          clear U21 cU21
          go_wp2_with fail
          refine (implUnifiesIn S Q O sn sc qn qc on oc sg b a w24 true F HUB.out T.s T.q T.o (by omega) (by omega) (by omega) hqc hoc).mono ?_
          rintro e w30 ⟨rfl, bb⟩
          replace T := T.next bb
          replace U6 := U6.next bb
          clear bb
          replace cT := T.cell
          replace cU6 := U6.cell
          have TB := Lib.hid T.bel
          clear T cT
          clear U6 cU6
          go_wp2
          go_ret
          exact ⟨rfl, TB.out⟩
      | true =>
        cases b2 with
        | false =>
          clear sX
          clear sY
          clear U11 cU11
          go_wp2_with fail
          refine (implFilled S D O sn sc dn dc on oc sg F a w11 T.s U6.s T.o (by omega) HTF.out (by omega)).mono ?_
          rintro e w20 ⟨P1, p1n, p1c, he, ox, bb⟩
          rw [HFA.out] at he
          subst he
          rw [HLA.out] at ox
          have sP1 := Own.seg ox
          have hp1n : p1n ≤ 65 := by rw [Own.len ox]; exact HL60.out
          replace T := T.next bb
          replace U6 := U6.next bb
          clear bb ox
          replace cT := T.cell
          replace cU6 := U6.cell
          go_wp2_with fail
          refine (implFilled S D Q sn sc dn dc qn qc sg F b w20 T.s U6.s T.q (by omega) HTF.out (by omega)).mono ?_
          rintro e w21 ⟨P2, p2n, p2c, he, ox, bb⟩
          rw [HFB.out] at he
          subst he
          rw [HLB.out] at ox
          have sP2 := Own.seg ox
          have hp2n : p2n ≤ 65 := by rw [Own.len ox]; exact HL60.out
          replace T := T.next bb
          replace U6 := U6.next bb
          replace sP1 := sP1.next bb
          clear bb ox
          replace cT := T.cell
          replace cU6 := U6.cell
          go_wp2_with fail
          refine (implComposed S D D sn sc dn dc dn dc sg F F w21 T.s U6.s U6.s (by omega) HTF.out HTF.out).mono ?_
          rintro e w22 ⟨G, gn, gc, he, og, bb⟩
          obtain ⟨z, hz⟩ : ∃ z, composedB sg F F = z := ⟨_, rfl⟩
          have HZ := Lib.hid hz
          rw [hz] at he
          subst he
          clear hz
          replace T := T.next bb
          replace U6 := U6.next bb
          replace sP1 := sP1.next bb
          replace sP2 := sP2.next bb
          obtain ⟨v21, hv21⟩ : ∃ v, w22.heap.size = v := ⟨_, rfl⟩
          obtain ⟨W22, hW22⟩ : ∃ W, W = w22.alloc (.cells #[.slice G gn gc] 31) := ⟨_, rfl⟩
          have bx : Below w22.heap.size w22 W22 := by rw [hW22]; exact below_alloc _ _
          have U21 : Sv W22 v21 G gn gc (composedI sg F F) := ⟨by rw [hW22, ← hv21]; exact Row.new _ _ _, (og.segs).next bx⟩
          replace T := T.next bx
          replace U6 := U6.next bx
          replace sP1 := sP1.next bx
          replace sP2 := sP2.next bx
          have kT : (w22.alloc (.cells #[.slice G gn gc] 31)).cell? ⟨v3, 0, none⟩ = some (.slice S sn sc) := by rw [← hW22]; exact T.cell
          have kU6 : (w22.alloc (.cells #[.slice G gn gc] 31)).cell? ⟨v6, 0, none⟩ = some (.slice D dn dc) := by rw [← hW22]; exact U6.cell
          have kU21 : (w22.alloc (.cells #[.slice G gn gc] 31)).cell? ⟨v21, 0, none⟩ = some (.slice G gn gc) := by rw [← hW22]; exact U21.cell
          have HW22 := Lib.hid hW22
          have Hv21 := Lib.hid hv21
          clear bb bx og hW22 hv21
          replace cT := T.cell
          replace cU6 := U6.cell
          have cU21 := U21.cell
          go_wp2_with fail
          rw [← HW22.out, Hv21.out]
          refine (implSame P1 P2 p1n p2n p1c p2c fa fa W22 sP1 sP2 (by omega) (by omega)).mono ?_
          rintro e w23 ⟨he, d, hd⟩
          have bb : Below W22.heap.size W22 w23 := by rw [hd]; exact below_drewN W22 d
          rw [decide_eq_true rfl] at he
          subst he
          clear hd
          replace T := T.next bb
          replace U6 := U6.next bb
          replace sP1 := sP1.next bb
          replace sP2 := sP2.next bb
          replace U21 := U21.next bb
          clear kT kU6 kU21
          clear bb
          replace cT := T.cell
          replace cU6 := U6.cell
          replace cU21 := U21.cell
          clear sP1
          clear sP2
          cases z with
          | false =>
            clear U21 cU21
            clear HZ
            go_wp2_with fail
            refine (implUnifiesIn S Q O sn sc qn qc on oc sg b a w23 true F HUB.out T.s T.q T.o (by omega) (by omega) (by omega) hqc hoc).mono ?_
            rintro e w30 ⟨rfl, bb⟩
            replace T := T.next bb
            replace U6 := U6.next bb
            clear bb
            replace cT := T.cell
            replace cU6 := U6.cell
            have TB := Lib.hid T.bel
            clear T cT
            clear U6 cU6
            go_wp2
            go_ret
            exact ⟨rfl, TB.out⟩
          | true =>
            have HSS := Lib.hid (HF.out.2.2.2.2.2.1 HZ.out)
            go_wp2_with fail
            refine (implSameSubst S G D sn sc gn gc dn dc sg (composedI sg F F) F w23 T.s U21.s U6.s (by omega) composed_tot HTF.out).mono ?_
            rintro e w24 ⟨he, bb⟩
            rw [HSS.out] at he
            subst he
            replace T := T.next bb
            replace U6 := U6.next bb
            replace U21 := U21.next bb
            clear bb HZ HSS
            replace cT := T.cell
            replace cU6 := U6.cell
            replace cU21 := U21.cell
            clear U21 cU21
            go_wp2_with fail
            refine (implUnifiesIn S Q O sn sc qn qc on oc sg b a w24 true F HUB.out T.s T.q T.o (by omega) (by omega) (by omega) hqc hoc).mono ?_
            rintro e w30 ⟨rfl, bb⟩
            replace T := T.next bb
            replace U6 := U6.next bb
            clear bb
            replace cT := T.cell
            replace cU6 := U6.cell
            have TB := Lib.hid T.bel
            clear T cT
            clear U6 cU6
            go_wp2
            go_ret
            exact ⟨rfl, TB.out⟩
        | true =>
          go_wp2_with fail
          refine (specSame X Y xn yn xc yc xs ys w11 sX sY (by omega) (by omega)).mono ?_
          rintro e w12 ⟨he, d, hd⟩
          have bb : Below w11.heap.size w11 w12 := by rw [hd]; exact below_drewN w11 d
          clear hd
          replace T := T.next bb
          replace U6 := U6.next bb
          replace U11 := U11.next bb
          replace sX := sX.next bb
          replace sY := sY.next bb
          clear bb
          replace cT := T.cell
          replace cU6 := U6.cell
          replace cU11 := U11.cell
          by_cases hxy : xs = ys
          · rw [decide_eq_true hxy] at he
            subst he
            have HXY := Lib.hid hxy
            clear hxy
            go_wp2_with fail
            refine (implFilled S D O sn sc dn dc on oc sg F a w12 T.s U6.s T.o (by omega) HTF.out (by omega)).mono ?_
            rintro e w20 ⟨P1, p1n, p1c, he, ox, bb⟩
            rw [HFA.out] at he
            subst he
            rw [HLA.out] at ox
            have sP1 := Own.seg ox
            have hp1n : p1n ≤ 65 := by rw [Own.len ox]; exact HL60.out
            replace T := T.next bb
            replace U6 := U6.next bb
            replace U11 := U11.next bb
            replace sX := sX.next bb
            replace sY := sY.next bb
            clear bb ox
            replace cT := T.cell
            replace cU6 := U6.cell
            replace cU11 := U11.cell
            go_wp2_with fail
            refine (implFilled S D Q sn sc dn dc qn qc sg F b w20 T.s U6.s T.q (by omega) HTF.out (by omega)).mono ?_
            rintro e w21 ⟨P2, p2n, p2c, he, ox, bb⟩
            rw [HFB.out] at he
            subst he
            rw [HLB.out] at ox
            have sP2 := Own.seg ox
            have hp2n : p2n ≤ 65 := by rw [Own.len ox]; exact HL60.out
            replace T := T.next bb
            replace U6 := U6.next bb
            replace U11 := U11.next bb
            replace sX := sX.next bb
            replace sY := sY.next bb
            replace sP1 := sP1.next bb
            clear bb ox
            replace cT := T.cell
            replace cU6 := U6.cell
            replace cU11 := U11.cell
            go_wp2_with fail
            refine (implComposed S D D sn sc dn dc dn dc sg F F w21 T.s U6.s U6.s (by omega) HTF.out HTF.out).mono ?_
            rintro e w22 ⟨G, gn, gc, he, og, bb⟩
            obtain ⟨z, hz⟩ : ∃ z, composedB sg F F = z := ⟨_, rfl⟩
            have HZ := Lib.hid hz
            rw [hz] at he
            subst he
            clear hz
            replace T := T.next bb
            replace U6 := U6.next bb
            replace U11 := U11.next bb
            replace sX := sX.next bb
            replace sY := sY.next bb
            replace sP1 := sP1.next bb
            replace sP2 := sP2.next bb
            obtain ⟨v21, hv21⟩ : ∃ v, w22.heap.size = v := ⟨_, rfl⟩
            obtain ⟨W22, hW22⟩ : ∃ W, W = w22.alloc (.cells #[.slice G gn gc] 31) := ⟨_, rfl⟩
            have bx : Below w22.heap.size w22 W22 := by rw [hW22]; exact below_alloc _ _
            have U21 : Sv W22 v21 G gn gc (composedI sg F F) := ⟨by rw [hW22, ← hv21]; exact Row.new _ _ _, (og.segs).next bx⟩
            replace T := T.next bx
            replace U6 := U6.next bx
            replace U11 := U11.next bx
            replace sX := sX.next bx
            replace sY := sY.next bx
            replace sP1 := sP1.next bx
            replace sP2 := sP2.next bx
            have kT : (w22.alloc (.cells #[.slice G gn gc] 31)).cell? ⟨v3, 0, none⟩ = some (.slice S sn sc) := by rw [← hW22]; exact T.cell
            have kU6 : (w22.alloc (.cells #[.slice G gn gc] 31)).cell? ⟨v6, 0, none⟩ = some (.slice D dn dc) := by rw [← hW22]; exact U6.cell
            have kU11 : (w22.alloc (.cells #[.slice G gn gc] 31)).cell? ⟨v10 + 1, 0, none⟩ = some (.slice B m cB) := by rw [← hW22]; exact U11.cell
            have kU21 : (w22.alloc (.cells #[.slice G gn gc] 31)).cell? ⟨v21, 0, none⟩ = some (.slice G gn gc) := by rw [← hW22]; exact U21.cell
            have HW22 := Lib.hid hW22
            have Hv21 := Lib.hid hv21
            clear bb bx og hW22 hv21
            replace cT := T.cell
            replace cU6 := U6.cell
            replace cU11 := U11.cell
            have cU21 := U21.cell
            go_wp2_with fail
            rw [← HW22.out, Hv21.out]
            refine (implSame P1 P2 p1n p2n p1c p2c fa fa W22 sP1 sP2 (by omega) (by omega)).mono ?_
            rintro e w23 ⟨he, d, hd⟩
            have bb : Below W22.heap.size W22 w23 := by rw [hd]; exact below_drewN W22 d
            rw [decide_eq_true rfl] at he
            subst he
            clear hd
            replace T := T.next bb
            replace U6 := U6.next bb
            replace U11 := U11.next bb
            replace sX := sX.next bb
            replace sY := sY.next bb
            replace sP1 := sP1.next bb
            replace sP2 := sP2.next bb
            replace U21 := U21.next bb
            clear kT kU6 kU11 kU21
            clear bb
            replace cT := T.cell
            replace cU6 := U6.cell
            replace cU11 := U11.cell
            replace cU21 := U21.cell
            clear sP1
            clear sP2
            cases z with
            | false =>
              clear U21 cU21
              clear HZ
              go_wp2_with fail
              refine (specSame X Y xn yn xc yc xs ys w23 sX sY (by omega) (by omega)).mono ?_
              rintro e w31 ⟨he, d, hd⟩
              have bb : Below w23.heap.size w23 w31 := by rw [hd]; exact below_drewN w23 d
              rw [decide_eq_true HXY.out] at he
              subst he
              clear hd
              replace T := T.next bb
              replace U6 := U6.next bb
              replace U11 := U11.next bb
              replace sX := sX.next bb
              replace sY := sY.next bb
              clear bb
              replace cT := T.cell
              replace cU6 := U6.cell
              replace cU11 := U11.cell
              clear sY
              go_wp2_with fail
              refine (implComposed S D B sn sc dn dc m cB sg F us w31 T.s U6.s U11.s (by omega) HTF.out hut).mono ?_
              rintro e w32 ⟨J, jn, jc, he, oj, bb⟩
              obtain ⟨z2, hz⟩ : ∃ z, composedB sg F us = z := ⟨_, rfl⟩
              have HZ2 := Lib.hid hz
              rw [hz] at he
              subst he
              clear hz
              replace T := T.next bb
              replace U6 := U6.next bb
              replace U11 := U11.next bb
              replace sX := sX.next bb
              obtain ⟨v23, hv23⟩ : ∃ v, w32.heap.size = v := ⟨_, rfl⟩
              obtain ⟨W32, hW32⟩ : ∃ W, W = w32.alloc (.cells #[.slice J jn jc] 31) := ⟨_, rfl⟩
              have bx : Below w32.heap.size w32 W32 := by rw [hW32]; exact below_alloc _ _
              have U23 : Sv W32 v23 J jn jc (composedI sg F us) := ⟨by rw [hW32, ← hv23]; exact Row.new _ _ _, (oj.segs).next bx⟩
              replace T := T.next bx
              replace U6 := U6.next bx
              replace U11 := U11.next bx
              replace sX := sX.next bx
              have kT : (w32.alloc (.cells #[.slice J jn jc] 31)).cell? ⟨v3, 0, none⟩ = some (.slice S sn sc) := by rw [← hW32]; exact T.cell
              have kU6 : (w32.alloc (.cells #[.slice J jn jc] 31)).cell? ⟨v6, 0, none⟩ = some (.slice D dn dc) := by rw [← hW32]; exact U6.cell
              have kU11 : (w32.alloc (.cells #[.slice J jn jc] 31)).cell? ⟨v10 + 1, 0, none⟩ = some (.slice B m cB) := by rw [← hW32]; exact U11.cell
              have kU23 : (w32.alloc (.cells #[.slice J jn jc] 31)).cell? ⟨v23, 0, none⟩ = some (.slice J jn jc) := by rw [← hW32]; exact U23.cell
              have HW32 := Lib.hid hW32
              have Hv23 := Lib.hid hv23
              clear bb bx oj hW32 hv23
              replace cT := T.cell
              replace cU6 := U6.cell
              replace cU11 := U11.cell
              have cU23 := U23.cell
              obtain ⟨b5, hb5⟩ : ∃ z, filledB sg (composedI sg F us) a = z := ⟨_, rfl⟩
              obtain ⟨zs, hzs⟩ : ∃ z, filledL sg (composedI sg F us) a = z := ⟨_, rfl⟩
              have HB5 := Lib.hid hb5
              have HZS := Lib.hid hzs
              have hz60 : zs.length ≤ 65 := by rw [← hzs]; exact Nat.le_trans (filled_len _ _ _) (by omega)
              clear hb5 hzs
              clear U6 cU6
              clear U11 cU11
              go_wp2_with fail
              rw [← HW32.out, Hv23.out]
              refine (implFilled S J O sn sc jn jc on oc sg (composedI sg F us) a W32 T.s U23.s T.o (by omega) composed_tot (by omega)).mono ?_
              rintro e w33 ⟨Z, zn, zc, he, ox, bb⟩
              rw [HB5.out] at he
              subst he
              rw [HZS.out] at ox
              have sZ := Own.seg ox
              have hzn : zn ≤ 65 := by rw [Own.len ox]; exact hz60
              replace T := T.next bb
              replace sX := sX.next bb
              replace U23 := U23.next bb
              clear bb ox
              replace cT := T.cell
              replace cU23 := U23.cell
              cases z2 with
              | false =>
                have TB := Lib.hid T.bel
                clear T cT
                clear sX
                clear U23 cU23
                clear sZ
                go_wp2
                go_ret
                exact ⟨rfl, TB.out⟩
              | true =>
                obtain ⟨q1, q2⟩ := HF.out.2.2.2.2.2.2 us HB1.out HB2.out (by rw [HXS.out, HYS.out]; exact HXY.out) HZ2.out
                obtain rfl : b5 = true := HB5.out.symm.trans q1
                have HZX := Lib.hid (show zs = xs by rw [← HZS.out, q2, HXS.out])
                clear q1 q2
                go_wp2_with fail
                refine (specSame Z X zn xn zc xc zs xs w33 sZ sX (by omega) (by omega)).mono ?_
                rintro e w34 ⟨he, d, hd⟩
                have bb : Below w33.heap.size w33 w34 := by rw [hd]; exact below_drewN w33 d
                rw [decide_eq_true HZX.out] at he
                subst he
                clear hd
                replace T := T.next bb
                replace sX := sX.next bb
                replace U23 := U23.next bb
                replace sZ := sZ.next bb
                clear bb
                replace cT := T.cell
                replace cU23 := U23.cell
                have TB := Lib.hid T.bel
                clear T cT
                clear sX
                clear U23 cU23
                clear sZ
                go_wp2
                go_ret
                exact ⟨rfl, TB.out⟩
            | true =>
              have HSS := Lib.hid (HF.out.2.2.2.2.2.1 HZ.out)
              go_wp2_with fail
              refine (implSameSubst S G D sn sc gn gc dn dc sg (composedI sg F F) F w23 T.s U21.s U6.s (by omega) composed_tot HTF.out).mono ?_
              rintro e w24 ⟨he, bb⟩
              rw [HSS.out] at he
              subst he
              replace T := T.next bb
              replace U6 := U6.next bb
              replace U11 := U11.next bb
              replace sX := sX.next bb
              replace sY := sY.next bb
              replace U21 := U21.next bb
              clear bb HZ HSS
              replace cT := T.cell
              replace cU6 := U6.cell
              replace cU11 := U11.cell
              replace cU21 := U21.cell
              clear U21 cU21
              go_wp2_with fail
              refine (specSame X Y xn yn xc yc xs ys w24 sX sY (by omega) (by omega)).mono ?_
              rintro e w31 ⟨he, d, hd⟩
              have bb : Below w24.heap.size w24 w31 := by rw [hd]; exact below_drewN w24 d
              rw [decide_eq_true HXY.out] at he
              subst he
              clear hd
              replace T := T.next bb
              replace U6 := U6.next bb
              replace U11 := U11.next bb
              replace sX := sX.next bb
              replace sY := sY.next bb
              clear bb
              replace cT := T.cell
              replace cU6 := U6.cell
              replace cU11 := U11.cell
              clear sY
              go_wp2_with fail
              refine (implComposed S D B sn sc dn dc m cB sg F us w31 T.s U6.s U11.s (by omega) HTF.out hut).mono ?_
              rintro e w32 ⟨J, jn, jc, he, oj, bb⟩
              obtain ⟨z2, hz⟩ : ∃ z, composedB sg F us = z := ⟨_, rfl⟩
              have HZ2 := Lib.hid hz
              rw [hz] at he
              subst he
              clear hz
              replace T := T.next bb
              replace U6 := U6.next bb
              replace U11 := U11.next bb
              replace sX := sX.next bb
              obtain ⟨v23, hv23⟩ : ∃ v, w32.heap.size = v := ⟨_, rfl⟩
              obtain ⟨W32, hW32⟩ : ∃ W, W = w32.alloc (.cells #[.slice J jn jc] 31) := ⟨_, rfl⟩
              have bx : Below w32.heap.size w32 W32 := by rw [hW32]; exact below_alloc _ _
              have U23 : Sv W32 v23 J jn jc (composedI sg F us) := ⟨by rw [hW32, ← hv23]; exact Row.new _ _ _, (oj.segs).next bx⟩
              replace T := T.next bx
              replace U6 := U6.next bx
              replace U11 := U11.next bx
              replace sX := sX.next bx
              have kT : (w32.alloc (.cells #[.slice J jn jc] 31)).cell? ⟨v3, 0, none⟩ = some (.slice S sn sc) := by rw [← hW32]; exact T.cell
              have kU6 : (w32.alloc (.cells #[.slice J jn jc] 31)).cell? ⟨v6, 0, none⟩ = some (.slice D dn dc) := by rw [← hW32]; exact U6.cell
              have kU11 : (w32.alloc (.cells #[.slice J jn jc] 31)).cell? ⟨v10 + 1, 0, none⟩ = some (.slice B m cB) := by rw [← hW32]; exact U11.cell
              have kU23 : (w32.alloc (.cells #[.slice J jn jc] 31)).cell? ⟨v23, 0, none⟩ = some (.slice J jn jc) := by rw [← hW32]; exact U23.cell
              have HW32 := Lib.hid hW32
              have Hv23 := Lib.hid hv23
              clear bb bx oj hW32 hv23
              replace cT := T.cell
              replace cU6 := U6.cell
              replace cU11 := U11.cell
              have cU23 := U23.cell
              obtain ⟨b5, hb5⟩ : ∃ z, filledB sg (composedI sg F us) a = z := ⟨_, rfl⟩
              obtain ⟨zs, hzs⟩ : ∃ z, filledL sg (composedI sg F us) a = z := ⟨_, rfl⟩
              have HB5 := Lib.hid hb5
              have HZS := Lib.hid hzs
              have hz60 : zs.length ≤ 65 := by rw [← hzs]; exact Nat.le_trans (filled_len _ _ _) (by omega)
              clear hb5 hzs
              clear U6 cU6
              clear U11 cU11
              go_wp2_with fail
              rw [← HW32.out, Hv23.out]
              refine (implFilled S J O sn sc jn jc on oc sg (composedI sg F us) a W32 T.s U23.s T.o (by omega) composed_tot (by omega)).mono ?_
              rintro e w33 ⟨Z, zn, zc, he, ox, bb⟩
              rw [HB5.out] at he
              subst he
              rw [HZS.out] at ox
              have sZ := Own.seg ox
              have hzn : zn ≤ 65 := by rw [Own.len ox]; exact hz60
              replace T := T.next bb
              replace sX := sX.next bb
              replace U23 := U23.next bb
              clear bb ox
              replace cT := T.cell
              replace cU23 := U23.cell
              cases z2 with
              | false =>
                have TB := Lib.hid T.bel
                clear T cT
                clear sX
                clear U23 cU23
                clear sZ
                go_wp2
                go_ret
                exact ⟨rfl, TB.out⟩
              | true =>
                obtain ⟨q1, q2⟩ := HF.out.2.2.2.2.2.2 us HB1.out HB2.out (by rw [HXS.out, HYS.out]; exact HXY.out) HZ2.out
                obtain rfl : b5 = true := HB5.out.symm.trans q1
                have HZX := Lib.hid (show zs = xs by rw [← HZS.out, q2, HXS.out])
                clear q1 q2
                go_wp2_with fail
                refine (specSame Z X zn xn zc xc zs xs w33 sZ sX (by omega) (by omega)).mono ?_
                rintro e w34 ⟨he, d, hd⟩
                have bb : Below w33.heap.size w33 w34 := by rw [hd]; exact below_drewN w33 d
                rw [decide_eq_true HZX.out] at he
                subst he
                clear hd
                replace T := T.next bb
                replace sX := sX.next bb
                replace U23 := U23.next bb
                replace sZ := sZ.next bb
                clear bb
                replace cT := T.cell
                replace cU23 := U23.cell
                have TB := Lib.hid T.bel
                clear T cT
                clear sX
                clear U23 cU23
                clear sZ
                go_wp2
                go_ret
                exact ⟨rfl, TB.out⟩
          · rw [decide_eq_false hxy] at he
            subst he
            have HXY := Lib.hid hxy
            clear hxy
            go_wp2_with fail
            refine (implFilled S D O sn sc dn dc on oc sg F a w12 T.s U6.s T.o (by omega) HTF.out (by omega)).mono ?_
            rintro e w20 ⟨P1, p1n, p1c, he, ox, bb⟩
            rw [HFA.out] at he
            subst he
            rw [HLA.out] at ox
            have sP1 := Own.seg ox
            have hp1n : p1n ≤ 65 := by rw [Own.len ox]; exact HL60.out
            replace T := T.next bb
            replace U6 := U6.next bb
            replace U11 := U11.next bb
            replace sX := sX.next bb
            replace sY := sY.next bb
            clear bb ox
            replace cT := T.cell
            replace cU6 := U6.cell
            replace cU11 := U11.cell
            go_wp2_with fail
            refine (implFilled S D Q sn sc dn dc qn qc sg F b w20 T.s U6.s T.q (by omega) HTF.out (by omega)).mono ?_
            rintro e w21 ⟨P2, p2n, p2c, he, ox, bb⟩
            rw [HFB.out] at he
            subst he
            rw [HLB.out] at ox
            have sP2 := Own.seg ox
            have hp2n : p2n ≤ 65 := by rw [Own.len ox]; exact HL60.out
            replace T := T.next bb
            replace U6 := U6.next bb
            replace U11 := U11.next bb
            replace sX := sX.next bb
            replace sY := sY.next bb
            replace sP1 := sP1.next bb
            clear bb ox
            replace cT := T.cell
            replace cU6 := U6.cell
            replace cU11 := U11.cell
            go_wp2_with fail
            refine (implComposed S D D sn sc dn dc dn dc sg F F w21 T.s U6.s U6.s (by omega) HTF.out HTF.out).mono ?_
            rintro e w22 ⟨G, gn, gc, he, og, bb⟩
            obtain ⟨z, hz⟩ : ∃ z, composedB sg F F = z := ⟨_, rfl⟩
            have HZ := Lib.hid hz
            rw [hz] at he
            subst he
            clear hz
            replace T := T.next bb
            replace U6 := U6.next bb
            replace U11 := U11.next bb
            replace sX := sX.next bb
            replace sY := sY.next bb
            replace sP1 := sP1.next bb
            replace sP2 := sP2.next bb
            obtain ⟨v21, hv21⟩ : ∃ v, w22.heap.size = v := ⟨_, rfl⟩
            obtain ⟨W22, hW22⟩ : ∃ W, W = w22.alloc (.cells #[.slice G gn gc] 31) := ⟨_, rfl⟩
            have bx : Below w22.heap.size w22 W22 := by rw [hW22]; exact below_alloc _ _
            have U21 : Sv W22 v21 G gn gc (composedI sg F F) := ⟨by rw [hW22, ← hv21]; exact Row.new _ _ _, (og.segs).next bx⟩
            replace T := T.next bx
            replace U6 := U6.next bx
            replace U11 := U11.next bx
            replace sX := sX.next bx
            replace sY := sY.next bx
            replace sP1 := sP1.next bx
            replace sP2 := sP2.next bx
            have kT : (w22.alloc (.cells #[.slice G gn gc] 31)).cell? ⟨v3, 0, none⟩ = some (.slice S sn sc) := by rw [← hW22]; exact T.cell
            have kU6 : (w22.alloc (.cells #[.slice G gn gc] 31)).cell? ⟨v6, 0, none⟩ = some (.slice D dn dc) := by rw [← hW22]; exact U6.cell
            have kU11 : (w22.alloc (.cells #[.slice G gn gc] 31)).cell? ⟨v10 + 1, 0, none⟩ = some (.slice B m cB) := by rw [← hW22]; exact U11.cell
            have kU21 : (w22.alloc (.cells #[.slice G gn gc] 31)).cell? ⟨v21, 0, none⟩ = some (.slice G gn gc) := by rw [← hW22]; exact U21.cell
            have HW22 := Lib.hid hW22
            have Hv21 := Lib.hid hv21
            clear bb bx og hW22 hv21
            replace cT := T.cell
            replace cU6 := U6.cell
            replace cU11 := U11.cell
            have cU21 := U21.cell
            go_wp2_with fail
            rw [← HW22.out, Hv21.out]
            refine (implSame P1 P2 p1n p2n p1c p2c fa fa W22 sP1 sP2 (by omega) (by omega)).mono ?_
            rintro e w23 ⟨he, d, hd⟩
            have bb : Below W22.heap.size W22 w23 := by rw [hd]; exact below_drewN W22 d
            rw [decide_eq_true rfl] at he
            subst he
            clear hd
            replace T := T.next bb
            replace U6 := U6.next bb
            replace U11 := U11.next bb
            replace sX := sX.next bb
            replace sY := sY.next bb
            replace sP1 := sP1.next bb
            replace sP2 := sP2.next bb
            replace U21 := U21.next bb
            clear kT kU6 kU11 kU21
            clear bb
            replace cT := T.cell
            replace cU6 := U6.cell
            replace cU11 := U11.cell
            replace cU21 := U21.cell
            clear sP1
            clear sP2
            cases z with
            | false =>
              clear U21 cU21
              clear HZ
              go_wp2_with fail
              refine (specSame X Y xn yn xc yc xs ys w23 sX sY (by omega) (by omega)).mono ?_
              rintro e w31 ⟨he, d, hd⟩
              have bb : Below w23.heap.size w23 w31 := by rw [hd]; exact below_drewN w23 d
              rw [decide_eq_false HXY.out] at he
              subst he
              clear hd
              replace T := T.next bb
              replace U6 := U6.next bb
              replace U11 := U11.next bb
              replace sX := sX.next bb
              replace sY := sY.next bb
              clear bb
              replace cT := T.cell
              replace cU6 := U6.cell
              replace cU11 := U11.cell
              clear sX
              clear sY
              go_wp2_with fail
              refine (implUnifiesIn S Q O sn sc qn qc on oc sg b a w31 true F HUB.out T.s T.q T.o (by omega) (by omega) (by omega) hqc hoc).mono ?_
              rintro e w30 ⟨rfl, bb⟩
              replace T := T.next bb
              replace U6 := U6.next bb
              replace U11 := U11.next bb
              clear bb
              replace cT := T.cell
              replace cU6 := U6.cell
              replace cU11 := U11.cell
              have TB := Lib.hid T.bel
              clear T cT
              clear U6 cU6
              clear U11 cU11
              go_wp2
              go_ret
              exact ⟨rfl, TB.out⟩
            | true =>
              have HSS := Lib.hid (HF.out.2.2.2.2.2.1 HZ.out)
              go_wp2_with fail
              refine (implSameSubst S G D sn sc gn gc dn dc sg (composedI sg F F) F w23 T.s U21.s U6.s (by omega) composed_tot HTF.out).mono ?_
              rintro e w24 ⟨he, bb⟩
              rw [HSS.out] at he
              subst he
              replace T := T.next bb
              replace U6 := U6.next bb
              replace U11 := U11.next bb
              replace sX := sX.next bb
              replace sY := sY.next bb
              replace U21 := U21.next bb
              clear bb HZ HSS
              replace cT := T.cell
              replace cU6 := U6.cell
              replace cU11 := U11.cell
              replace cU21 := U21.cell
              clear U21 cU21
              go_wp2_with fail
              refine (specSame X Y xn yn xc yc xs ys w24 sX sY (by omega) (by omega)).mono ?_
              rintro e w31 ⟨he, d, hd⟩
              have bb : Below w24.heap.size w24 w31 := by rw [hd]; exact below_drewN w24 d
              rw [decide_eq_false HXY.out] at he
              subst he
              clear hd
              replace T := T.next bb
              replace U6 := U6.next bb
              replace U11 := U11.next bb
              replace sX := sX.next bb
              replace sY := sY.next bb
              clear bb
              replace cT := T.cell
              replace cU6 := U6.cell
              replace cU11 := U11.cell
              clear sX
              clear sY
              go_wp2_with fail
              refine (implUnifiesIn S Q O sn sc qn qc on oc sg b a w31 true F HUB.out T.s T.q T.o (by omega) (by omega) (by omega) hqc hoc).mono ?_
              rintro e w30 ⟨rfl, bb⟩
              replace T := T.next bb
              replace U6 := U6.next bb
              replace U11 := U11.next bb
              clear bb
              replace cT := T.cell
              replace cU6 := U6.cell
              replace cU11 := U11.cell
              have TB := Lib.hid T.bel
              clear T cT
              clear U6 cU6
              clear U11 cU11
              go_wp2
              go_ret
              exact ⟨rfl, TB.out⟩
  · have LB := Lib.hid (bigAns A n c true w (by simp; omega) hN)
    clear h
    go_enter Try.func3, Try.ntmps3
    go_wp2_with fail
    refine LB.out.mono ?_
    rintro e w' ⟨rfl, rfl⟩
    clear LB
    go_wp2
    go_ret
    exact ⟨rfl, Below.refl _ _⟩
end Go.Proofs.Ytkmhnkljigncmaa.wFnUnified
end
