/-
  MERGED: my texts CompImpl, AppStep, GenNext, GenMain, SameSubst, PlainFacts, RenPure, UnifLaw, one behind the other, as they are. By an AI agent.
-/
import Derived.Test.YtkmhnkljigncmaaMFnGeneralised6
import Derived.Deep.DeepCutAuto
import Derived.Laws.NewBlocks
import Derived.Laws.EntriesVeiled
import Derived.Deep.AppendLies
import Derived.Deep.RegionHeld3
import Derived.Deep.QuietTactic
import Derived.BigQuiet
section
/-
  CONTRACTS: slices.IndexFunc, slices.ContainsFunc over impl.tooLong, the closure of impl.Composed, impl.Composed. Conditions: the slices read as lists ('Seg', 'Segs'), at most 1048576 values. (The closure's region by wip/tools/reg.py.) By an AI agent.
-/
namespace Go.Proofs.Ytkmhnkljigncmaa.compImpl
open Go.RowKit Go.Proofs.Ytkmhnkljigncmaa.base Go.Proofs.Ytkmhnkljigncmaa.ints Go.Proofs.Ytkmhnkljigncmaa.sig Go.Proofs.Ytkmhnkljigncmaa.cursor Go.Proofs.Ytkmhnkljigncmaa.marks Go.Proofs.Ytkmhnkljigncmaa.app Go.Proofs.Ytkmhnkljigncmaa.appAt Go.Proofs.Ytkmhnkljigncmaa.sym Go.Proofs.Ytkmhnkljigncmaa.segs Go.Proofs.Ytkmhnkljigncmaa.segsHelp Go.Proofs.Ytkmhnkljigncmaa.kinds Go.Proofs.Ytkmhnkljigncmaa.termFacts Go.Proofs.Ytkmhnkljigncmaa.fillMath Go.Proofs.Ytkmhnkljigncmaa.look Go.Proofs.Ytkmhnkljigncmaa.substOk Go.Proofs.Ytkmhnkljigncmaa.gives Go.Proofs.Ytkmhnkljigncmaa.shifted Go.Proofs.Ytkmhnkljigncmaa.filled Go.Proofs.Ytkmhnkljigncmaa.plainMath Go.Proofs.Ytkmhnkljigncmaa.plain Go.Proofs.Ytkmhnkljigncmaa.plainOf Go.Proofs.Ytkmhnkljigncmaa.compMath Go.Proofs.Ytkmhnkljigncmaa.compSpec Go.Proofs.Ytkmhnkljigncmaa.thn
set_option maxRecDepth 100000

def AnsIdx (w : World) (xss : List (List Int)) (e : Ending) (w' : World) : Prop := w = w' ∧ ∃ z : Int, e = .returned (.int .i64 z) ∧ -1 ≤ z ∧ z ≤ 1048576 ∧ decide (0 ≤ z) = anyLong xss
def HeadIdx (w : World) (n : Nat) (xss : List (List Int)) (i : Value) (wr : World) : Prop := ∃ k : Nat, k ≤ n ∧ i = .int .i64 k ∧ (∀ j, j < k → ¬ 60 < (xss.getD j []).length) ∧ w = wr

set_option maxHeartbeats 2000000 in
theorem indexLong (A : Option Addr) (n c : Nat) (xss : List (List Int)) (w : World) (h : Segs w w.heap.size A n xss) (hn : n ≤ 1048576) (hE : ∀ j, (xss.getD j []).length ≤ 1048576) :
    Calls Try.prog 114 #[.slice A n c, .func (.func 74) #[] #[]] w (AnsIdx w xss) := by
  have HE := Lib.hid hE
  have HL := Lib.hid h.1
  have HH : Hid (HeadIdx w n xss (.int .i64 0) w) := Lib.hid ⟨0, Nat.zero_le _, rfl, fun j hj => absurd hj (Nat.not_lt_zero _), rfl⟩
  clear hE
  go_enter Try.func114, Try.ntmps114
  go_wp2_with fail
  go_loopw [8] (fun i wr => HeadIdx w n xss i wr) (fun i _ => n - (intOf i).toNat)
  case atStart => exact HH.out
  case round =>
    obtain ⟨k, hk, rfl, hlow, rfl⟩ := hrel
    have HLOW := Lib.hid hlow
    clear hlow HH
    by_cases hlt : k < n
    · obtain ⟨b, off, A', n', cc, rfl, hbB, hx, hseg, hcap⟩ := h.spot hlt
      have hn' : n' ≤ 1048576 := by rw [← hseg.1]; exact HE.out k
      have HG := Lib.hid hseg.1
      have i0 : (0 : Int) ≤ (k : Int) := by omega
      have i1 : (k : Int) < (n : Int) := by omega
      clear hseg hcap h
      go_wp2_with fail
      refine (tooLong A' n' cc w (by omega)).mono ?_
      rintro e w' ⟨rfl, rfl⟩
      by_cases h60 : 60 < n'
      · rw [decide_eq_true h60]
        have F : AnsIdx w xss (.returned (.int .i64 (k : Int))) w := ⟨rfl, k, rfl, by omega, by omega, by rw [decide_eq_true (by omega)]; exact (anyLong_iff.2 ⟨k, by rw [HG.out]; exact h60⟩).symm⟩
        have HF := Lib.hid F
        clear F hx
        go_wp2
        go_ret
        exact HF.out
      · rw [decide_eq_false h60]
        have S1 : HeadIdx w n xss (.int .i64 ((k : Int) + 1)) w := ⟨k + 1, hlt, by simp, fun j hj => by
          by_cases e : j = k
          · rw [e, HG.out]; exact h60
          · exact HLOW.out j (by omega), rfl⟩
        have HS1 := Lib.hid S1
        clear S1 hx
        go_wp2
        go_roundw
        case rel => exact HS1.out
        case measure => simp [intOf]; omega
    · have F : AnsIdx w xss (.returned (.int .i64 (-1))) w := ⟨rfl, -1, rfl, by omega, by omega, by
        cases e : anyLong xss with
        | false => rfl
        | true =>
          obtain ⟨i, hi⟩ := anyLong_iff.1 e
          by_cases hin : i < n
          · exact absurd hi (HLOW.out i (by omega))
          · rw [show xss.getD i [] = [] by simp [List.getD, HL.out, hin]] at hi
            simp at hi⟩
      have HF := Lib.hid F
      clear F h
      go_wp2
      go_ret
      exact HF.out
theorem containsLong (A : Option Addr) (n c : Nat) (xss : List (List Int)) (w : World) (h : Segs w w.heap.size A n xss) (hn : n ≤ 1048576) (hE : ∀ j, (xss.getD j []).length ≤ 1048576) :
    Calls Try.prog 76 #[.slice A n c, .func (.func 74) #[] #[]] w fun e w' => w = w' ∧ e = .returned (.bool (anyLong xss)) := by
  have L := Lib.hid (indexLong A n c xss w h hn hE)
  clear h hE
  go_enter Try.func76, Try.ntmps76
  go_wp2_with fail
  refine L.out.mono ?_
  rintro e w' ⟨rfl, z, rfl, h1, h2, hz⟩
  have HZ := Lib.hid hz
  clear hz L
  go_wp2
  go_ret
  exact ⟨rfl, by rw [← HZ.out]; rfl⟩

/-- the composition of two look-ups -/
theorem lookBoth (b1 b2 l1 l2 : Nat) (S : Option Addr) (m c : Nat) (T : Option Addr) (q cq : Nat) (sg : List Int) (ss us : List (List Int)) (w wx : World) (hok : substOkB sg ss = true) (hok2 : substOkB sg us = true) (hb : Below w.heap.size w wx) (h : Segs w w.heap.size S m ss) (h' : Segs w w.heap.size T q us)
    (c1 : wx.cell? ⟨b1, 0, none⟩ = some (.func (.func 112) #[] #[.pointer (some ⟨l1, 0, none⟩)])) (c2 : wx.cell? ⟨b2, 0, none⟩ = some (.func (.func 112) #[] #[.pointer (some ⟨l2, 0, none⟩)]))
    (k1 : wx.cell? ⟨l1, 0, none⟩ = some (.slice S m c)) (k2 : wx.cell? ⟨l2, 0, none⟩ = some (.slice T q cq)) :
    Calls Try.prog 61 #[.func (.func 113) #[] #[.pointer (some ⟨b2, 0, none⟩), .pointer (some ⟨b1, 0, none⟩)]] wx (fun e w' => ∃ O on oc, e = .returned (.agg #[.slice O on oc]) ∧ Owns w' wx.heap.size w'.heap.size O on oc (plainL (compL us ss) 24) ∧ Below wx.heap.size wx w' ∧ Below w.heap.size w wx) := by
  have m24 : m ≤ 1048576 := by have := (substOk_parts hok).2.1; rw [h.1] at this; omega
  have q24 : q ≤ 1048576 := by have := (substOk_parts hok2).2.1; rw [h'.1] at this; omega
  have eq := enters_of Try.func112 (by kernel_rfl) rfl
  have no : ∀ {g : Nat} {lb : Array Value} {L : Nat → List Int}, Looks g lb wx L 24 → LooksE none g lb wx L 24 := fun h W i hg hi => h W i ⟨hg.os, hg.tape, hg.output, hg.size, fun k hk => hg.block k hk (by simp)⟩ hi
  have LK := lookThen none b1 b2 _ _ _ _ eq eq (givesL ss) (givesL us) wx (World.block_lt_of_cell? _ _ c1) (World.block_lt_of_cell? _ _ c2) (by simp) (by simp) c1 c2
    (no (lookSubstC l1 S m c ss wx (World.block_lt_of_cell? _ _ k1) k1 (h.next hb) m24)) (no (lookSubstC l2 T q cq us wx (World.block_lt_of_cell? _ _ k2) k2 (h'.next hb) q24)) (fun i _ => gives_len hok i) (fun i hi y hy => (term_mem (x := y) (gives_ok hok hi) hy).1) (fun i => Nat.le_trans (gives_len hok2 i) (by omega))
  exact (plain 113 _ (enters_of Try.func113 (by kernel_rfl) rfl) (compL us ss) wx LK.looks (comp_pos us ss) (fun i => Nat.le_trans (comp_len hok hok2 i) (by omega))).mono fun _ _ ⟨O, on, oc, e1, e2, e3⟩ => ⟨O, on, oc, e1, e2, e3, hb⟩

/-- what lies behind the result's making: its variable -/
def Got (w : World) (F : List (List Int)) (p : Value) (wx : World) : Prop :=
  ∃ (b : Nat) (O : Option Addr) (on oc : Nat), p = .pointer (some ⟨b, 0, none⟩) ∧ Row wx b 31 #[.slice O on oc] ∧ Owns wx w.heap.size wx.heap.size O on oc F ∧ w.heap.size ≤ b ∧ Below w.heap.size w wx
theorem got_after {w w1 w2 : World} {F : List (List Int)} {O : Option Addr} {on oc : Nat} (b1 : Below w.heap.size w w1) (ho : Owns w2 w1.heap.size w2.heap.size O on oc F) (b2 : Below w1.heap.size w1 w2) : Got w F (.pointer (some ⟨w2.heap.size, 0, none⟩)) (w2.alloc (.cells #[.slice O on oc] 31)) :=
  have B : Below w2.heap.size w2 (w2.alloc (.cells #[.slice O on oc] 31)) := (Below.refl _ _).alloc (Nat.le_refl _) _
  ⟨_, O, on, oc, rfl, Row.new _ _ _, (ho.next B).wider b1.size (by simp), Nat.le_trans b1.size b2.size, next_trans b1 (next_trans b2 B)⟩
theorem got_ahead {w w1 w2 : World} {F : List (List Int)} {O : Option Addr} {on oc b : Nat} (b1 : Below w.heap.size w w1) (hb : w.heap.size ≤ b) (r2 : Row w2 b 31 #[.slice none 0 0]) (hlt : b < w1.heap.size) (ho : Owns w2 w1.heap.size w2.heap.size O on oc F) (b2 : Below w1.heap.size w1 w2) : Got w F (.pointer (some ⟨b, 0, none⟩)) (w2.setCell ⟨b, 0, none⟩ (.slice O on oc)) :=
  ⟨b, O, on, oc, rfl, by have := r2.put 0 (.slice O on oc); simpa using this, (owns_put ho r2 hlt 0 _).wider b1.size (by simp), hb, (next_trans b1 b2).setCell hb _⟩
theorem sz_alloc (w : World) (o : Obj) : (w.alloc o).heap.size = w.heap.size + 1 := by simp
theorem sz_drew (w : World) : w.drew.heap.size = w.heap.size := rfl
theorem row_top {w : World} {t : TypeId} {cs : Array Value} {n : Nat} (hn : n = w.heap.size) : Row (w.alloc (.cells cs t)) n t cs := by subst hn; exact Row.new _ _ _
theorem row_alloc {w : World} {o : Obj} {t : TypeId} {cs : Array Value} {n : Nat} (h : Row w n t cs) : Row (w.alloc o) n t cs := h.alloc o
theorem row_drew {w : World} {t : TypeId} {cs : Array Value} {n : Nat} (h : Row w n t cs) : Row w.drew n t cs := h.drew
theorem keep_alloc {w : World} {a : Addr} {v : Value} {o : Obj} (h : w.cell? a = some v) : (w.alloc o).cell? a = some v := (World.cell?_alloc_some w a o (by rw [h]; rfl)).trans h
theorem cell_top {w : World} {v : Value} {t : TypeId} {n : Nat} (hn : n = w.heap.size) : (w.alloc (.cells #[v] t)).cell? ⟨n, 0, none⟩ = some v := by subst hn; simp
theorem keep_set {w : World} {p a : Addr} {u v : Value} (hne : p.block ≠ a.block) (h : w.cell? a = some v) : (w.setCell p u).cell? a = some v := (World.cell?_setCell_far w p a u hne).trans h

set_option maxHeartbeats 8000000 in
theorem implComposed (A S T : Option Addr) (n c m c' q cq : Nat) (sg : List Int) (ss us : List (List Int)) (w : World) (h : Seg w w.heap.size A n sg) (h' : Segs w w.heap.size S m ss) (h2 : Segs w w.heap.size T q us) (hn : n ≤ 1048576) (ht : tot ss ≤ 1048576) (ht2 : tot us ≤ 1048576) :
    Calls Try.prog 22 #[.agg #[.slice A n c], .agg #[.slice S m c'], .agg #[.slice T q cq]] w (AnsSubB w (composedI sg ss us) (composedB sg ss us)) := by
  obtain ⟨W, hW, rA, r1, r2, r3, bel⟩ := boxes4 w A n c S m c' T q cq
  have HW := Lib.hid hW
  have HT2 := Lib.hid ht2
  have s := h.next bel
  have s1 := h'.next bel
  have s2 := h2.next bel
  have L := Lib.hid (implSubstOk A S n c m c' sg ss W s s1 hn ht)
  clear hW ht ht2 h h' h2
  cases hok : substOkB sg ss with
  | false =>
    have HS := Lib.hid hok
    clear hok s s1 s2
    go_enter Try.func22, Try.ntmps22
    go_wp2_with fail
    rw [← HW.out]
    refine L.out.mono ?_
    rintro e w1 ⟨he, bb⟩
    rw [HS.out] at he
    subst he
    replace r3 := r3.next bb
    replace bel := next_trans bel bb
    have cR : w1.cell? ⟨w.heap.size + 3, 0, none⟩ = some (.slice none 0 0) := r3.cell 0
    have fR : w1.frozen? ⟨w.heap.size + 3, 0, none⟩ = false := r3.free 0
    have F1 := Lib.hid (subB_no (sg := sg) (ss := ss) (us := us) (composed_s HS.out) bel)
    have F2 := Lib.hid (subB_no (sg := sg) (ss := ss) (us := us) (composed_s HS.out) ((bel).setCell (p := ⟨w.heap.size + 3, 0, none⟩) (by simp) (.slice none 0 0)))
    clear bb bel rA r1 r2 r3
    go_wp2
    first
      | exact bodyPost_ret (v := .tuple #[.agg #[.slice none 0 0], .bool false]) (by simp [results, Try.results22, go_sem, cR]) rfl F1.out
      | exact bodyPost_ret (v := .tuple #[.agg #[.slice none 0 0], .bool false]) (by simp [results, Try.results22, go_sem, cR]) rfl F2.out
  | true =>
    have HS := Lib.hid hok
    clear hok
    have hmf : ∀ (fn : Fn) (first cap : Array Value) (w : World), (Instr.makeFunc fn first cap).run Try.prog w = .ok (.func fn first cap) w := fun _ _ _ _ => rfl
    go_enter Try.func22, Try.ntmps22
    go_wp2_with fail
    rw [← HW.out]
    refine L.out.mono ?_
    rintro e w1 ⟨he, bb⟩
    rw [HS.out] at he
    subst he
    replace s := s.next bb
    replace s1 := s1.next bb
    replace s2 := s2.next bb
    replace rA := rA.next bb
    replace r1 := r1.next bb
    replace r2 := r2.next bb
    replace r3 := r3.next bb
    replace bel := next_trans bel bb
    have cA : w1.cell? ⟨w.heap.size, 0, none⟩ = some (.slice A n c) := rA.cell 0
    have cT : w1.cell? ⟨w.heap.size + 2, 0, none⟩ = some (.slice T q cq) := r2.cell 0
    have L2 := Lib.hid (implSubstOk A T n c q cq sg us w1 s s2 hn HT2.out)
    clear bb L rA
    cases hok2 : substOkB sg us with
    | false =>
      have HS2 := Lib.hid hok2
      clear hok2 s s1 s2
      go_wp2_with fail
      refine L2.out.mono ?_
      rintro e w2 ⟨he, bb⟩
      rw [HS2.out] at he
      subst he
      replace r3 := r3.next bb
      replace bel := next_trans bel bb
      have cR : w2.cell? ⟨w.heap.size + 3, 0, none⟩ = some (.slice none 0 0) := r3.cell 0
      have fR : w2.frozen? ⟨w.heap.size + 3, 0, none⟩ = false := r3.free 0
      have F1 := Lib.hid (subB_no (sg := sg) (ss := ss) (us := us) (composed_u HS2.out) bel)
      have F2 := Lib.hid (subB_no (sg := sg) (ss := ss) (us := us) (composed_u HS2.out) ((bel).setCell (p := ⟨w.heap.size + 3, 0, none⟩) (by simp) (.slice none 0 0)))
      clear bb bel r1 r2 r3 cA cT L2 hmf
      go_wp2
      first
        | exact bodyPost_ret (v := .tuple #[.agg #[.slice none 0 0], .bool false]) (by simp [results, Try.results22, go_sem, cR]) rfl F1.out
        | exact bodyPost_ret (v := .tuple #[.agg #[.slice none 0 0], .bool false]) (by simp [results, Try.results22, go_sem, cR]) rfl F2.out
    | true =>
      have HS2 := Lib.hid hok2
      clear hok2
      go_wp2_with fail
      refine L2.out.mono ?_
      rintro e w2 ⟨he, bb⟩
      rw [HS2.out] at he
      subst he
      replace s1 := s1.next bb
      replace s2 := s2.next bb
      replace r1 := r1.next bb
      replace r2 := r2.next bb
      replace r3 := r3.next bb
      replace bel := next_trans bel bb
      clear bb L2 cA cT s
      have cS : w2.cell? ⟨w.heap.size + 1, 0, none⟩ = some (.slice S m c') := r1.cell 0
      have cT : w2.cell? ⟨w.heap.size + 2, 0, none⟩ = some (.slice T q cq) := r2.cell 0
      have z1 := r1.lt
      have z2 := r2.lt
      clear r1 r2
      go_wp2_with fail
      have LKB := Lib.hid (fun (wx : World) (b1 b2 l1 l2 : Nat) (hb : Below w2.heap.size w2 wx) => lookBoth b1 b2 l1 l2 S m c' T q cq sg ss us w2 wx HS.out HS2.out hb s1 s2)
      go_cut [8] (fun p8 wx => Got w2 (plainL (compL us ss) 24) p8 wx)
      case first =>
        clear bel r3 s1 s2
        go_region_held3 (fun w' => w'.cell? ⟨w.heap.size + 1, 0, none⟩ = some (.slice S m c') ∧ w'.cell? ⟨w.heap.size + 2, 0, none⟩ = some (.slice T q cq))
          (((try simp only [World.cell?_drew]); (refine ⟨?_, ?_⟩ <;> (repeat (first | assumption | (with_reducible apply keep_alloc) | (refine keep_set (by first | (simp only [sz_alloc, sz_drew]; omega) | (simp; done) | (simp; omega)) ?_))))))
          (first
            | (go_at_call 72; refine (lookupIn _ _ _ _).mono ?_; rintro e w3 ⟨rfl, rfl⟩)
            | (go_at_call 75; refine (thenC _ _ _ _ _).mono ?_; rintro e w3 ⟨rfl, rfl⟩)
            | (go_at_call 61; refine (LKB.out _ _ _ ?_ ?_ ?_ ?_ ?_ ?_ ?_).mono ?_; rotate_left 3; (focus (simp only [World.cell?_drew]; (repeat (first | ((with_reducible refine cell_top ?_); (simp only [sz_alloc, sz_drew]; done)) | (with_reducible refine keep_alloc ?_))))); (focus (simp only [World.cell?_drew]; (repeat (first | ((with_reducible refine cell_top ?_); (simp only [sz_alloc, sz_drew]; done)) | (with_reducible refine keep_alloc ?_))))); (focus (simp only [World.cell?_drew]; (repeat (first | ((with_reducible refine cell_top ?_); (simp only [sz_alloc, sz_drew]; done)) | (with_reducible refine keep_alloc ?_))))); (focus (simp only [World.cell?_drew]; (repeat (first | ((with_reducible refine cell_top ?_); (simp only [sz_alloc, sz_drew]; done)) | (with_reducible refine keep_alloc ?_))))); rotate_right 1; (focus (repeat (first | (with_reducible exact Below.refl _ _) | (with_reducible refine Below.drew ?_) | (with_reducible refine Below.alloc ?_ (by first | omega | (simp only [sz_alloc, sz_drew]; omega)) _)))); rintro e w4 ⟨O, on, oc, rfl, ho, b4, hbx⟩; have y1 : w4.cell? ⟨w.heap.size + 1, 0, none⟩ = some (.slice S m c') := (b4.cell (p := ⟨w.heap.size + 1, 0, none⟩) (by first | omega | (simp only [sz_alloc, sz_drew]; omega))).trans (by simp only [World.cell?_drew]; repeat (first | exact cS | (with_reducible apply keep_alloc))); have y2 : w4.cell? ⟨w.heap.size + 2, 0, none⟩ = some (.slice T q cq) := (b4.cell (p := ⟨w.heap.size + 2, 0, none⟩) (by first | omega | (simp only [sz_alloc, sz_drew]; omega))).trans (by simp only [World.cell?_drew]; repeat (first | exact cT | (with_reducible apply keep_alloc))); (try (obtain ⟨q4, -⟩ : Row w4 (w2.heap.size) 31 #[.slice none 0 0] ∧ True; (focus ((refine ⟨Go.Proofs.Ytkmhnkljigncmaa.base.Row.next ?_ b4, trivial⟩); (repeat (first | ((with_reducible refine row_top ?_); (simp only [sz_alloc, sz_drew]; done)) | (with_reducible refine row_drew ?_) | (with_reducible refine row_alloc ?_))); done)); have y3 : w4.cell? ⟨w2.heap.size, 0, none⟩ = some (.slice none 0 0) := q4.cell 0; have y4 : w4.frozen? ⟨w2.heap.size, 0, none⟩ = false := q4.free 0)); (try (obtain ⟨q4, -⟩ : Row w4 (w2.heap.size + 1) 31 #[.slice none 0 0] ∧ True; (focus ((refine ⟨Go.Proofs.Ytkmhnkljigncmaa.base.Row.next ?_ b4, trivial⟩); (repeat (first | ((with_reducible refine row_top ?_); (simp only [sz_alloc, sz_drew]; done)) | (with_reducible refine row_drew ?_) | (with_reducible refine row_alloc ?_))); done)); have y3 : w4.cell? ⟨w2.heap.size + 1, 0, none⟩ = some (.slice none 0 0) := q4.cell 0; have y4 : w4.frozen? ⟨w2.heap.size + 1, 0, none⟩ = false := q4.free 0)); (try (obtain ⟨q4, -⟩ : Row w4 (w2.heap.size + 1 + 1) 31 #[.slice none 0 0] ∧ True; (focus ((refine ⟨Go.Proofs.Ytkmhnkljigncmaa.base.Row.next ?_ b4, trivial⟩); (repeat (first | ((with_reducible refine row_top ?_); (simp only [sz_alloc, sz_drew]; done)) | (with_reducible refine row_drew ?_) | (with_reducible refine row_alloc ?_))); done)); have y3 : w4.cell? ⟨w2.heap.size + 1 + 1, 0, none⟩ = some (.slice none 0 0) := q4.cell 0; have y4 : w4.frozen? ⟨w2.heap.size + 1 + 1, 0, none⟩ = false := q4.free 0)); (try (obtain ⟨q4, -⟩ : Row w4 (w2.heap.size + 1 + 1 + 1 + 1) 31 #[.slice none 0 0] ∧ True; (focus ((refine ⟨Go.Proofs.Ytkmhnkljigncmaa.base.Row.next ?_ b4, trivial⟩); (repeat (first | ((with_reducible refine row_top ?_); (simp only [sz_alloc, sz_drew]; done)) | (with_reducible refine row_drew ?_) | (with_reducible refine row_alloc ?_))); done)); have y3 : w4.cell? ⟨w2.heap.size + 1 + 1 + 1 + 1, 0, none⟩ = some (.slice none 0 0) := q4.cell 0; have y4 : w4.frozen? ⟨w2.heap.size + 1 + 1 + 1 + 1, 0, none⟩ = false := q4.free 0)); all_goals skip))
        all_goals
          go_wp2_with fail
          go_meet
          first
            | exact got_after hbx ho b4
            | exact got_ahead hbx (by omega) q4 (by simp only [sz_alloc, sz_drew]; omega) ho b4
      case rest =>
        rename World => wc
        obtain ⟨b, O, on, oc, rfl, rb, ho, hwb, b4⟩ := hcut
        have HE := Lib.hid (plain_each (L := compL us ss) (m := 24) (comp_len HS.out HS2.out))
        have HLN := Lib.hid (plain_len (compL us ss) 24)
        have AL := Lib.hid (anyLong_comp us ss)
        have CB := Lib.hid (composed_b HS.out HS2.out)
        have r4 := r3.next b4
        have hlt3 := r3.lt
        have bel5 := next_trans bel b4
        have hon : on ≤ 24 := by rw [← ho.len]; exact HLN.out
        have LC := Lib.hid (containsLong O on oc (plainL (compL us ss) 24) wc ho.segs (by omega) (fun j => Nat.le_trans (HE.out j) (by omega)))
        have cR : wc.cell? ⟨w.heap.size + 3, 0, none⟩ = some (.slice none 0 0) := r4.cell 0
        have fR : wc.frozen? ⟨w.heap.size + 3, 0, none⟩ = false := r4.free 0
        have cO : wc.cell? ⟨b, 0, none⟩ = some (.slice O on oc) := rb.cell 0
        have F1 := Lib.hid (fun hno : composedB sg ss us = false => subB_no hno bel5)
        have F2 := Lib.hid (fun hno : composedB sg ss us = false => subB_no hno (bel5.setCell (p := ⟨w.heap.size + 3, 0, none⟩) (by simp) (.slice none 0 0)))
        have F3 : Hid (composedB sg ss us = true → AnsSubB w (composedI sg ss us) (composedB sg ss us) (.returned (.tuple #[.agg #[.slice O on oc], .bool true])) (wc.setCell ⟨w.heap.size + 3, 0, none⟩ (.slice O on oc))) :=
          Lib.hid fun hyes => ⟨O, on, oc, by rw [hyes], by rw [composed_yes hyes]; have hwc := bel.size; exact (owns_put ho r4 hlt3 0 _).wider hwc (by simp), bel5.setCell (by simp) _⟩
        clear r3 r4 ho b4 bel bel5 rb LKB
        go_wp2_with fail
        refine LC.out.mono ?_
        rintro e w6 ⟨rfl, rfl⟩
        rw [AL.out]
        cases hc : compOk us ss with
        | false =>
          have hno : composedB sg ss us = false := CB.out.trans hc
          have G1 := Lib.hid (F1.out hno)
          have G2 := Lib.hid (F2.out hno)
          clear hc hno F1 F2 F3 LC
          go_wp2
          first
            | exact bodyPost_ret (v := .tuple #[.agg #[.slice none 0 0], .bool false]) (by simp [results, Try.results22, go_sem, cR]) rfl G1.out
            | exact bodyPost_ret (v := .tuple #[.agg #[.slice none 0 0], .bool false]) (by simp [results, Try.results22, go_sem, cR]) rfl G2.out
        | true =>
          have G3 := Lib.hid (F3.out (CB.out.trans hc))
          clear hc F1 F2 F3 LC
          go_wp2
          exact bodyPost_ret (v := .tuple #[.agg #[.slice O on oc], .bool true]) (by simp [results, Try.results22, go_sem, cR]) rfl G3.out
end Go.Proofs.Ytkmhnkljigncmaa.compImpl
end

section
/-
  CONTRACT: append of one list to a slice of slices of the call's own, as one operation of a region that draws, with what the cells hold afterwards. By an AI agent.
-/
namespace Go.Proofs.Ytkmhnkljigncmaa.appStep
open Go.RowKit Go.Proofs.Ytkmhnkljigncmaa.base Go.Proofs.Ytkmhnkljigncmaa.ints Go.Proofs.Ytkmhnkljigncmaa.cursor Go.Proofs.Ytkmhnkljigncmaa.same Go.Proofs.Ytkmhnkljigncmaa.marks Go.Proofs.Ytkmhnkljigncmaa.app Go.Proofs.Ytkmhnkljigncmaa.appAt Go.Proofs.Ytkmhnkljigncmaa.sym Go.Proofs.Ytkmhnkljigncmaa.sub Go.Proofs.Ytkmhnkljigncmaa.segs Go.Proofs.Ytkmhnkljigncmaa.segsHelp Go.Proofs.Ytkmhnkljigncmaa.kinds Go.Proofs.Ytkmhnkljigncmaa.look Go.Proofs.Ytkmhnkljigncmaa.plain Go.Proofs.Ytkmhnkljigncmaa.appZ
set_option maxRecDepth 100000

set_option maxHeartbeats 1000000 in
theorem stepS1Z {w : World} {ops : Array Oper} {o : Oper} {a : Act} {K : Act → World → Prop} {Q : Exit → Act → World → Prop} {E : Prop} (hgd : o.guard = none) (s x : Operand)
    (ho : o.op = .call { callee := .builtin .append, args := #[s, x], argTypes := #[29, 29] })
    (lo mid : Nat) (A : Option Addr) (n c : Nat) (xss : List (List Int)) (hs : a.eval s = .slice A n c) (hown : Owns w lo mid A n c xss)
    (g c2 : Nat) (v : Value) (ys : List Int) (hx : a.eval x = .slice (some ⟨g, 0, none⟩) 1 c2) (hy : w.cell? ⟨g, 0, none⟩ = some v) (hv : Inn w mid w.heap.size v ys) (hn : n ≤ 1048576) (hlo : lo ≤ mid) (hmid : mid ≤ w.heap.size) (H : Nat) (hH : w.heap.size = H)
    (h : ∀ g' c' w', Owns w' lo w'.heap.size (some ⟨g', 0, none⟩) (n + 1) c' (xss ++ [ys]) → w.grownBy w' (blk A) → (blk A = some g' ∨ g' = H) → Below lo w w' → (∀ j u, j < n + 1 → w'.cell? ⟨g', j, none⟩ = some u → (∃ b, j < n ∧ A = some ⟨b, 0, none⟩ ∧ w.cell? ⟨b, j, none⟩ = some u) ∨ (j = n ∧ u = v)) → K (a.put o.dst (.slice (some ⟨g', 0, none⟩) (n + 1) c')) w') :
    if Region.wanted o (yielded ops a.tmps) = true then Oper.wp Try.prog o a w K Q else E := by
  obtain ⟨i0, hi, hz0, hz1, hz2⟩ := info_parts info_list
  obtain ⟨hlen, ⟨vs, hr, hin, hap⟩, htop⟩ := hown
  have hvl : vs.length = n := by have := hr.1; omega
  have hvc : v.oneCell' = true := by obtain ⟨A1, c1, rfl, _⟩ := hv; rfl
  refine step_append_lies w hgd s x 29 ho lo 24 i0 (.slice none 0 0) 1 24 Try.underlying29 hi hz0 hz1 hz2 rfl (by decide) (.slice A n c) n vs hs hr
    ⟨g, 0, none⟩ 1 c2 [v] hx rfl (fun j u hj => ?_) (fun u hu => ?_) (by omega) (by unfold maxLen; omega) (by omega) (by omega) H hH ?_
  · match j, hj with
    | 0, hj => simp at hj; subst hj; simpa [Addr.add] using hy
  · simp at hu; subst hu; exact hvc
  · intro g' c' w' hown' hg hat hlt
    rw [blk_own] at hg hat
    have hsz := hg.size
    have hne : ∀ {u : Value} {zs : List Int} {l2 h2 : Nat}, Inn w l2 h2 u zs → u.ownBlock = none ∨ u.ownBlock ≠ blk A := fun {u zs l2 h2} hu => by
      rcases own_form hr with ⟨rfl, _⟩ | ⟨g', cur, rfl, _, hrow, _⟩
      · cases e : u.ownBlock with
        | none => exact .inl rfl
        | some z => exact .inr (fun e2 => by cases e2)
      · exact .inr (hu.ne hrow)
    have hget : ∀ j, j < n → (vs ++ [v]).getD j undef = vs.getD j undef := fun j hj => by simp [List.getD, List.getElem?_append_left (show j < vs.length by omega)]
    have hget2 : ∀ j, j < n → (xss ++ [ys]).getD j [] = xss.getD j [] := fun j hj => by simp [List.getD, List.getElem?_append_left (show j < xss.length by omega)]
    have hnew : (vs ++ [v]).getD n undef = v := by simp [List.getD, ← hvl]
    have hnew2 : (xss ++ [ys]).getD n [] = ys := by simp [List.getD, ← hlen]
    refine h g' c' w' ⟨by simp [hlen], ⟨vs ++ [v], hown', fun j hj => ?_, fun i j k hij hj e1 e2 => ?_⟩, fun k hk => (World.ownsRow.lt hown' k (by rw [blk_own]; exact hk)).2⟩ hg hat ?_ ?_
    · by_cases e : j = n
      · subst e
        rw [hnew, hnew2]
        exact (hv.kept hg (hne hv)).wider (by omega) (by omega)
      · rw [hget j (by omega), hget2 j (by omega)]
        exact ((hin j (by omega)).kept hg (hne (hin j (by omega)))).wider (Nat.le_refl _) (by omega)
    · by_cases e : j = n
      · subst e
        rw [hget i hij] at e1
        rw [hnew] at e2
        have h1 := ((hin i hij).blk k e1).2.1
        have h2 := (hv.blk k e2).1
        omega
      · rw [hget i (by omega)] at e1
        rw [hget j (by omega)] at e2
        exact hap i j k hij (by omega) e1 e2
    · refine (Below.refl lo w).grown hg (by omega) (fun k hk => ?_)
      exact (World.ownsRow.lt hr k (by rw [blk_own]; exact hk)).1
    · intro j u hj hc
      rcases own_form (n := n + 1) hown' with ⟨e, _⟩ | ⟨g2, cur, e, _, hrow, _, _, _, _, hcell⟩
      · cases e
      · injection e with e
        injection e with e1
        subst e1
        rw [hrow.cell j, hcell j hj] at hc
        injection hc with hc
        by_cases e : j = n
        · subst e
          rw [hnew] at hc
          exact .inr ⟨rfl, hc.symm⟩
        · refine .inl ?_
          rw [hget j (by omega)] at hc
          rcases own_form (n := n) hr with ⟨_, hz, _⟩ | ⟨g3, cur3, e3, _, hrow3, _, _, _, _, hcell3⟩
          · omega
          · exact ⟨g3, by omega, e3, by rw [hrow3.cell j, hcell3 j (by omega), hc]⟩
end Go.Proofs.Ytkmhnkljigncmaa.appStep
end

section
/-
  CONTRACT: impl.generalisation.next: a symbol of both terms, or the variable of the pair of subterms. Conditions: both cursors stand where terms begin. (By wip/tools/mknext.py.) By an AI agent.
-/
namespace Go.Proofs.Ytkmhnkljigncmaa.genNext
open Go.RowKit Go.Proofs.Ytkmhnkljigncmaa.base Go.Proofs.Ytkmhnkljigncmaa.ints Go.Proofs.Ytkmhnkljigncmaa.same Go.Proofs.Ytkmhnkljigncmaa.sig Go.Proofs.Ytkmhnkljigncmaa.cursor Go.Proofs.Ytkmhnkljigncmaa.marks Go.Proofs.Ytkmhnkljigncmaa.app Go.Proofs.Ytkmhnkljigncmaa.appAt Go.Proofs.Ytkmhnkljigncmaa.sym Go.Proofs.Ytkmhnkljigncmaa.segs Go.Proofs.Ytkmhnkljigncmaa.segsHelp Go.Proofs.Ytkmhnkljigncmaa.kinds Go.Proofs.Ytkmhnkljigncmaa.term Go.Proofs.Ytkmhnkljigncmaa.sub Go.Proofs.Ytkmhnkljigncmaa.look Go.Proofs.Ytkmhnkljigncmaa.plain Go.Proofs.Ytkmhnkljigncmaa.curO Go.Proofs.Ytkmhnkljigncmaa.anyOf Go.Proofs.Ytkmhnkljigncmaa.inside Go.Proofs.Ytkmhnkljigncmaa.unifMath Go.Proofs.Ytkmhnkljigncmaa.genMath Go.Proofs.Ytkmhnkljigncmaa.genPos Go.Proofs.Ytkmhnkljigncmaa.genTab Go.Proofs.Ytkmhnkljigncmaa.genRec Go.Proofs.Ytkmhnkljigncmaa.appZ Go.Proofs.Ytkmhnkljigncmaa.thn Go.Proofs.Ytkmhnkljigncmaa.unifRep Go.Proofs.Ytkmhnkljigncmaa.heldT Go.Proofs.Ytkmhnkljigncmaa.genSt Go.Proofs.Ytkmhnkljigncmaa.appStep
set_option maxRecDepth 100000

theorem drew_below (w : World) (d : Nat) : Below w.heap.size w (w.drewN d) := ⟨rfl, rfl, rfl, Nat.le_refl _, fun _ _ => rfl⟩
/-- the test: the same numbers as the pair -/
theorem testPair (bp : Nat) (O : Option Addr) (on oc : Nat) (pr : List Int) (w : World) (hr : Row w bp 24 #[.slice O on oc]) (hs : Seg w w.heap.size O on pr) (hn : on ≤ 1048576) :
    Tests 117 #[.pointer (some ⟨bp, 0, none⟩)] w (fun ys => decide (ys = pr)) := by
  intro W D dn dc ys hb hy hdn _
  have cp : W.cell? ⟨bp, 0, none⟩ = some (.slice O on oc) := (hr.next hb).cell 0
  have LS := Lib.hid (implSame D O dn on dc oc ys pr W hy (hs.next hb) hdn hn)
  show Calls Try.prog 117 #[.slice D dn dc, .pointer (some ⟨bp, 0, none⟩)] W _
  clear hs hr hb hy
  go_enter Try.func117, Try.ntmps117
  go_wp2_with fail
  refine LS.out.mono ?_
  rintro e w' ⟨rfl, d, rfl⟩
  go_wp2
  go_ret
  exact ⟨rfl, genNext.drew_below W d⟩

/-- behind the pair's making -/
def PB (w : World) (g hi : Nat) (A : Option Addr) (n c : Nat) (sg : List Int) (P : Option Addr) (m mc : Nat) (a : List Int) (i : Nat) (Q : Option Addr) (k kc : Nat) (b : List Int) (j : Nat) (D : Option Addr) (dn dc : Nat) (xss : List (List Int)) (pr : List Int) (p4 : Value) (wx : World) : Prop :=
  ∃ (bp : Nat) (O : Option Addr) (on oc : Nat), p4 = .pointer (some ⟨bp, 0, none⟩) ∧ Row wx bp 24 #[.slice O on oc] ∧ Own wx w.heap.size (.slice O on oc) pr ∧ Gn wx g hi A n c sg P m mc a i Q k kc b j D dn dc xss ∧ w.heap.size ≤ bp ∧ w.grownBy wx (some g)
section
variable {w w4 w5 : World} {g hi : Nat} {A : Option Addr} {n c : Nat} {sg : List Int} {P : Option Addr} {m mc : Nat} {a : List Int} {i : Nat} {Q : Option Addr} {k kc : Nat} {b : List Int} {j : Nat} {D : Option Addr} {dn dc : Nat} {xss : List (List Int)} {pr : List Int} {O : Option Addr} {on oc : Nat}
theorem pb_after (ho : Own w5 w4.heap.size (.slice O on oc) pr) (hs : w.heap.size ≤ w4.heap.size) (hG : Gn w5 g hi A n c sg P m mc a i Q k kc b j D dn dc xss) (hg : w.grownBy w5 (some g)) :
    PB w g hi A n c sg P m mc a i Q k kc b j D dn dc xss pr (.pointer (some ⟨w5.heap.size, 0, none⟩)) (w5.alloc (.cells #[.slice O on oc] 24)) :=
  have B : Below w5.heap.size w5 (w5.alloc (.cells #[.slice O on oc] 24)) := (Below.refl _ _).alloc (Nat.le_refl _) _
  ⟨_, O, on, oc, rfl, Row.new _ _ _, Own.lower (Own.next ho B) hs, hG.next B, hg.size, grown_trans hg (grown_below B _)⟩
theorem own_put {w : World} {base bp : Nat} {O : Option Addr} {on oc : Nat} {pr : List Int} (ho : Own w base (.slice O on oc) pr) {cs : Array Value} (hr : Row w bp 24 cs) (u : Value) : Own (w.setCell ⟨bp, 0, none⟩ u) base (.slice O on oc) pr :=
  own_away (r0 := 0) ho (r := some bp) (grown_put (World.grownBy.refl _ _) _ _) (fun z hz e => by
    injection hz with hz
    subst hz
    obtain ⟨⟨cs2, h2⟩, _⟩ := ownRow ho _ e
    exact Row.ne_ h2 hr (by decide) rfl) rfl
theorem pb_ahead {bp : Nat} (q : Row w5 bp 24 #[.slice none 0 0]) (hb : w.heap.size ≤ bp) (hlt : bp < w4.heap.size) (hgb : g < bp) (hhi : hi ≤ bp) (ho : Own w5 w4.heap.size (.slice O on oc) pr) (hs : w.heap.size ≤ w4.heap.size) (hG : Gn w5 g hi A n c sg P m mc a i Q k kc b j D dn dc xss) (hg : w.grownBy w5 (some g)) :
    PB w g hi A n c sg P m mc a i Q k kc b j D dn dc xss pr (.pointer (some ⟨bp, 0, none⟩)) (w5.setCell ⟨bp, 0, none⟩ (.slice O on oc)) := by
  have g1 : w5.grownBy (w5.setCell ⟨bp, 0, none⟩ (.slice O on oc)) (some bp) := grown_put (World.grownBy.refl _ _) _ _
  have B : Below bp w5 (w5.setCell ⟨bp, 0, none⟩ (.slice O on oc)) := (Below.refl bp w5).setCell (p := ⟨bp, 0, none⟩) (Nat.le_refl _) _
  refine ⟨bp, O, on, oc, rfl, by have := q.put 0 (.slice O on oc); simpa using this, Own.lower (own_put ho q _) hs, ?_, hb, ?_⟩
  · have hp := hG.row
    exact ⟨Row.away hp g1 (fun e => by injection e; omega), hG.s.below (B.mono (by omega)), hG.pa.below (B.mono (by omega)), hG.qb.below (B.mono (by omega)), hG.o.btw (Btw.of_grown (lo := bp) (hi := bp + 1) g1 (fun z e => by injection e; omega)) (by left; exact hhi), by have := hG.le; have := g1.size; omega, hG.li, hG.lj, hG.hn, hG.hm, hG.hk, hG.ars⟩
  · exact ⟨g1.os.trans hg.os, g1.tape.trans hg.tape, g1.output.trans hg.output, Nat.le_trans hg.size g1.size, fun z hz hn => (g1.block z (Nat.lt_of_lt_of_le hz hg.size) (fun e => by injection e; omega)).trans (hg.block z hz hn)⟩
end

/-- the pair is the one at its index -/
theorem nx_old {sg u v : List Int} {T : Tb} {z : Nat} (hz : z < T.length) (hf : Fine2 sg T) (hu : Trm sg u) (e : (T.map cat).getD z [] = u ++ v) : T[z]? = some (u, v) := by
  obtain ⟨x, h1, h2⟩ := cat_get hz
  have hx : x ∈ T := List.mem_of_getElem? h1
  obtain ⟨e1, e2⟩ := cat_inj (hf x hx).1 hu (h2.symm.trans e)
  rw [h1]
  congr 1
  exact Prod.ext e1 e2
theorem nx_new {u v : List Int} {T : Tb} (h : ∀ j, j < T.length → decide ((T.map cat).getD j [] = u ++ v) = false) : (u, v) ∉ T := fun hm => by
  obtain ⟨j, hj, e⟩ := List.getElem_of_mem hm
  have := of_decide_eq_false (h j hj)
  exact this (by simp [List.getD, hj, e, cat])
theorem grown_two {w w' : World} {g : Nat} {D : Option Addr} (h : w.grownBy w' (some g)) : Two w w' (some ⟨g, 0, none⟩) D := Two.left h
theorem avoid_grown {w w' : World} {g hi : Nat} {D : Option Addr} {dn dc : Nat} {xss : List (List Int)} {Z : Nat → Prop} (ho : Owns w (g + 1) hi D dn dc xss) (hg : w.grownBy w' (some g)) (h : Avoid Z w D dn) : Avoid Z w' D dn :=
  h.keep fun b j e => by
    obtain ⟨⟨cs, hr⟩, h2, h3⟩ := topRow ho b (by rw [e]; rfl)
    exact World.cell?_of_block (hg.block b h3 (fun e => by injection e; omega))
/-- a new pair behind the others -/
theorem nx_push {w wa w8 : World} {g : Nat} {A : Option Addr} {n c : Nat} {sg : List Int} {P : Option Addr} {m mc : Nat} {a : List Int} {i : Nat} {Q : Option Addr} {k kc : Nat} {b : List Int} {j : Nat} {D : Option Addr} {dn dc : Nat} {T : Tb} {p q : Nat} {u v : List Int} {O : Option Addr} {on oc : Nat} {c' g' : Nat}
    (how : Owns w (g + 1) w.heap.size D dn dc (T.map cat)) (GA : Gn wa g w.heap.size A n c sg P m mc a (i + p) Q k kc b (j + q) D dn dc (T.map cat)) (hgA : w.grownBy wa (some g)) (hsa : w.heap.size ≤ wa.heap.size) (hf : Fine2 sg T) (hp : scan sg 1 (a.drop i) = some p) (hq : scan sg 1 (b.drop j) = some q) (hns : ¬ (0 ≤ a.getD i 0 ∧ a.getD i 0 = b.getD j 0)) (hnew : (subL sg a i, subL sg b j) ∉ T)
    (hu1 : subL sg a i = u) (hv1 : subL sg b j = v) (hu2 : (subL sg a i).length = p) (hv2 : (subL sg b j).length = q) (hdl : dn = T.length) (hip : i + p ≤ m) (hjq : j + q ≤ k) (hm : m ≤ 60) (hk : k ≤ 60) (hO : ∀ y, blk O = some y → w.heap.size ≤ y) (hDg : ∀ y, blk D = some y → g + 1 ≤ y ∧ y < w.heap.size)
    (ho8 : Owns w8 (g + 1) w8.heap.size (some ⟨g', 0, none⟩) (dn + 1) c' (T.map cat ++ [u ++ v])) (hg8 : wa.grownBy w8 (blk D)) (hat8 : blk D = some g' ∨ g' = wa.heap.size) (_ : Below (g + 1) wa w8)
    (hc8 : ∀ y z, y < dn + 1 → w8.cell? ⟨g', y, none⟩ = some z → (∃ b, y < dn ∧ D = some ⟨b, 0, none⟩ ∧ wa.cell? ⟨b, y, none⟩ = some z) ∨ (y = dn ∧ z = .slice O on oc)) :
    AnsNx w g A n c sg P m mc a i Q k kc b j D dn T (.returned (.int .i64 (-1 - (dn : Int)))) (w8.setCell ⟨g, 6, none⟩ (.slice (some ⟨g', 0, none⟩) (dn + 1) c')) := by
  have hgl := GA.lt
  have r8 : Row w8 g 85 (gcs A n c P m mc (i + p) Q k kc (j + q) D dn dc) := Row.away GA.row hg8 (fun e => by have := (hDg g e).1; omega)
  have g9 : w8.grownBy (w8.setCell ⟨g, 6, none⟩ (.slice (some ⟨g', 0, none⟩) (dn + 1) c')) (some g) := grown_put (World.grownBy.refl _ _) _ _
  have Bg : Below g wa w8 := (Below.refl g wa).grown hg8 (by omega) (fun y hy => by have := (hDg y hy).1; omega)
  have B9 : Below g w8 (w8.setCell ⟨g, 6, none⟩ (.slice (some ⟨g', 0, none⟩) (dn + 1) c')) := (Below.refl g w8).setCell (p := ⟨g, 6, none⟩) (Nat.le_refl _) _
  have hmap : T.map cat ++ [u ++ v] = (T ++ [(subL sg a i, subL sg b j)]).map cat := by simp [cat, hu1, hv1]
  have row9 : Row (w8.setCell ⟨g, 6, none⟩ (.slice (some ⟨g', 0, none⟩) (dn + 1) c')) g 85 (gcs A n c P m mc (i + p) Q k kc (j + q) (some ⟨g', 0, none⟩) (dn + 1) c') := by
    have r := r8.put 6 (.slice (some ⟨g', 0, none⟩) (dn + 1) c')
    simpa [gcs] using r
  have o9 := owns_put ho8 r8 (show g < g + 1 by omega) 6 (.slice (some ⟨g', 0, none⟩) (dn + 1) c')
  rw [hmap] at o9
  have tw : Two w (w8.setCell ⟨g, 6, none⟩ (.slice (some ⟨g', 0, none⟩) (dn + 1) c')) (some ⟨g, 0, none⟩) D :=
    Two.trans (Two.trans (L := some ⟨g, 0, none⟩) (R := D) (Two.left hgA) (Two.right hg8) (fun _ h _ => h) (fun _ h _ => h)) (Two.left (L := some ⟨g, 0, none⟩) (R := D) g9) (fun _ h _ => h) (fun _ h _ => h)
  refine ⟨_, i + p, j + q, some ⟨g', 0, none⟩, dn + 1, c', T ++ [(subL sg a i, subL sg b j)], rfl, ⟨row9, (GA.s.below Bg).below B9, (GA.pa.below Bg).below B9, (GA.qb.below Bg).below B9, o9.wider (Nat.le_refl _) (by simp), Nat.le_refl _, GA.li, GA.lj, GA.hn, GA.hm, GA.hk, GA.ars⟩,
    hf.snoc (genPos.sub_trm hp) (genPos.sub_trm hq) (by omega) (by omega), tw, fun z hz hlt => ?_, fun Z hZ hA => ?_, .inr ⟨by rw [hu2], by rw [hv2], by rw [hdl]; exact gp_new hp hq hns hnew⟩⟩
  · injection hz with hz
    subst hz
    rcases hat8 with h | h
    · exact h
    · have hlt2 : g' < w.heap.size := hlt
      omega
  · have hA2 := avoid_grown how hgA hA
    intro y b' z hy e hc x hx e2
    injection e with e
    injection e with e
    subst e
    have hne : g ≠ g' := fun e => by
      have := (topRow ho8 g' rfl).2.1
      omega
    have hcw : w8.cell? ⟨g', y, none⟩ = some z := by rw [← World.cell?_setCell_far w8 ⟨g, 6, none⟩ ⟨g', y, none⟩ _ hne]; exact hc
    rcases hc8 y z hy hcw with ⟨b3, h1, h2, h3⟩ | ⟨_, rfl⟩
    · exact hA2 y b3 z h1 h2 h3 x hx e2
    · have h1 := hO x (by rw [← blk_own O on oc]; exact e2)
      have h2 := hZ x hx
      omega
/-- a step over a symbol of both -/
theorem nx_sym {w : World} {g : Nat} {A : Option Addr} {n c : Nat} {sg : List Int} {P : Option Addr} {m mc : Nat} {a : List Int} {i : Nat} {Q : Option Addr} {k kc : Nat} {b : List Int} {j : Nat} {D : Option Addr} {dn dc : Nat} {T : Tb} {x : Int} (h : Gn w g w.heap.size A n c sg P m mc a i Q k kc b j D dn dc (T.map cat)) (hf : Fine2 sg T) (hi : i < m) (hj : j < k) (hx0 : 0 ≤ x) (ex : a.getD i 0 = x) (ey : b.getD j 0 = x) (d : Nat) :
    AnsNx w g A n c sg P m mc a i Q k kc b j D dn T (.returned (.int .i64 x)) (((w.drewN d).setCell ⟨g, 2, none⟩ (.int .i64 ((i : Int) + 1))).setCell ⟨g, 5, none⟩ (.int .i64 ((j : Int) + 1))) := by
  have g0 : w.grownBy (((w.drewN d).setCell ⟨g, 2, none⟩ (.int .i64 ((i : Int) + 1))).setCell ⟨g, 5, none⟩ (.int .i64 ((j : Int) + 1))) (some g) := grown_put (grown_put (grown_drewN (World.grownBy.refl w (some g)) d) 2 _) 5 _
  have r := (((h.drewN d).row.put 2 (.int .i64 ((i : Int) + 1))).put 5 (.int .i64 ((j : Int) + 1)))
  have e1 : ((i + 1 : Nat) : Int) = (i : Int) + 1 := by simp
  have e2 : ((j + 1 : Nat) : Int) = (j : Int) + 1 := by simp
  have G := h.move (i' := i + 1) (j' := j + 1) g0 (by unfold gcs; rw [e1, e2]; simpa [gcs] using r) hi hj
  exact ⟨x, i + 1, j + 1, D, dn, dc, T, rfl, ⟨G.row, G.s, G.pa, G.qb, G.o.wider (Nat.le_refl _) g0.size, Nat.le_refl _, G.li, G.lj, G.hn, G.hm, G.hk, G.ars⟩, hf, Two.left g0, fun z hz _ => hz, fun Z _ hA => avoid_grown h.o g0 hA, .inl ⟨hx0, ex, ey, rfl, rfl, rfl⟩⟩

set_option maxHeartbeats 4000000 in
theorem next (g : Nat) (A : Option Addr) (n c : Nat) (sg : List Int) (P : Option Addr) (m mc : Nat) (a : List Int) (i : Nat) (Q : Option Addr) (k kc : Nat) (b : List Int) (j : Nat) (D : Option Addr) (dn dc : Nat) (T : Tb) (w : World) (h : Gn w g w.heap.size A n c sg P m mc a i Q k kc b j D dn dc (T.map cat)) (hf : Fine2 sg T) (hi : i < m) (hj : j < k) (p q : Nat) (hp : scan sg 1 (a.drop i) = some p) (hq : scan sg 1 (b.drop j) = some q) (hip : i + p ≤ m) (hjq : j + q ≤ k) (hp1 : 1 ≤ p) (hq1 : 1 ≤ q) (hm60 : m ≤ 60) (hk60 : k ≤ 60) (hmc : m ≤ mc) (hmc2 : mc ≤ 9223372036854775807) (hkc : k ≤ kc) (hkc2 : kc ≤ 9223372036854775807) (hdn : T.length ≤ 60) :
    Calls Try.prog 78 #[.pointer (some ⟨g, 0, none⟩)] w (AnsNx w g A n c sg P m mc a i Q k kc b j D dn T) := by
  obtain ⟨b1, o1, x, rfl, hb1, hx, ex⟩ := h.pa.spot hi
  obtain ⟨b2, o2, y, rfl, hb2, hy, ey⟩ := h.qb.spot hj
  have hgl := h.lt
  have c1 : w.cell? ⟨g, 1, none⟩ = some (.slice (some ⟨b1, o1, none⟩) m mc) := h.cell 1
  have c2 : w.cell? ⟨g, 2, none⟩ = some (.int .i64 (i : Int)) := h.cell 2
  have c4 : w.cell? ⟨g, 4, none⟩ = some (.slice (some ⟨b2, o2, none⟩) k kc) := h.cell 4
  have c5 : w.cell? ⟨g, 5, none⟩ = some (.int .i64 (j : Int)) := h.cell 5
  have f2 : w.frozen? ⟨g, 2, none⟩ = false := h.row.free 2
  have f5 : w.frozen? ⟨g, 5, none⟩ = false := h.row.free 5
  have i0 : (0 : Int) ≤ (i : Int) := by omega
  have i1 : (i : Int) < (m : Int) := by omega
  have j0 : (0 : Int) ≤ (j : Int) := by omega
  have j1 : (j : Int) < (k : Int) := by omega
  have EX := Lib.hid ex.out
  have EY := Lib.hid ey.out
  have HF := Lib.hid hf
  have HP := Lib.hid hp
  have HQ := Lib.hid hq
  have hmf : ∀ (fn : Fn) (first cap : Array Value) (w : World), (Instr.makeFunc fn first cap).run Try.prog w = .ok (.func fn first cap) w := fun _ _ _ _ => rfl
  clear ex ey hf hp hq
  by_cases hsym : 0 ≤ x ∧ x = y
  · obtain ⟨hx0, rfl⟩ := hsym
    have d0 : decide (0 ≤ x) = true := decide_eq_true hx0
    have HS := Lib.hid (fun d => nx_sym h HF.out hi hj hx0 EX.out EY.out d)
    clear h HF
    go_enter Try.func78, Try.ntmps78
    go_wp2
    go_quiet (fail)
    go_wp2_with fail
    go_quiet (fail)
    rw [World.drewN_drewN]
    have HS1 := HS.out
    clear HS
    go_wp2
    go_ret
    exact HS1 _
  · have HNS := Lib.hid (show ¬ (0 ≤ a.getD i 0 ∧ a.getD i 0 = b.getD j 0) by rw [EX.out, EY.out]; exact hsym)
    clear f2 f5
    by_cases hx0 : 0 ≤ x
    · have d0 : decide (0 ≤ x) = true := decide_eq_true hx0
      have d1 : (x == y) = false := by simp; exact fun e => hsym ⟨hx0, e⟩
      clear hsym
      go_enter Try.func78, Try.ntmps78
      go_wp2
      go_quiet (fail)
      go_wp2_with fail
      go_quiet (fail)
      rw [World.drewN_drewN]
      go_wp2_with fail
      have G1 := Lib.hid (fun d => h.drewN d)
      have BW := Lib.hid (fun d => genNext.drew_below w d)
      have HOW := Lib.hid h.o
      obtain ⟨w1, hw1, GW, BW1, hs1⟩ : ∃ w1, w1 = w.drewN (_) ∧ Gn w1 g w.heap.size A n c sg (some ⟨b1, o1, none⟩) m mc a i (some ⟨b2, o2, none⟩) k kc b j D dn dc (T.map cat) ∧ Below w.heap.size w w1 ∧ w1.heap.size = w.heap.size := ⟨_, rfl, G1.out _, BW.out _, rfl⟩
      rw [← hw1]
      clear hw1 G1 BW c1 c2 c4 c5 hx hy d0 h
      have hgl1 : g < w1.heap.size := by omega
      have hsz : w.heap.size ≤ w1.heap.size := by omega
      clear hs1
      have hu1 : subL sg a i = (a.drop i).take p := by unfold subL; rw [len1_eq HP.out]
      have hu2 : (subL sg a i).length = p := by rw [hu1, List.length_take, List.length_drop, GW.pa.1]; omega
      have hv1 : subL sg b j = (b.drop j).take q := by unfold subL; rw [len1_eq HQ.out]
      have hv2 : (subL sg b j).length = q := by rw [hv1, List.length_take, List.length_drop, GW.qb.1]; omega
      have cutA := Lib.hid (fun (w2 : World) (i2 : Nat) (G : Gn w2 g w.heap.size A n c sg (some ⟨b1, o1, none⟩) m mc a i2 (some ⟨b2, o2, none⟩) k kc b (j + q) D dn dc (T.map cat)) => (Seg.cut (a := i) (j := p) G.pa hip).more (Nat.le_of_lt G.lt))
      have cutB := Lib.hid (fun (w2 : World) (i2 : Nat) (G : Gn w2 g w.heap.size A n c sg (some ⟨b1, o1, none⟩) m mc a i2 (some ⟨b2, o2, none⟩) k kc b (j + q) D dn dc (T.map cat)) => (Seg.cut (a := j) (j := q) G.qb hjq).more (Nat.le_of_lt G.lt))
      obtain ⟨u, hu⟩ : ∃ u, (a.drop i).take p = u := ⟨_, rfl⟩
      obtain ⟨v, hv⟩ : ∃ v, (b.drop j).take q = v := ⟨_, rfl⟩
      rw [hu] at cutA hu1
      rw [hv] at cutB hv1
      have HU1 := Lib.hid hu1
      have HU2 := Lib.hid hu2
      have HV1 := Lib.hid hv1
      have HV2 := Lib.hid hv2
      have luv : (u ++ v).length = p + q := by rw [List.length_append, ← hu1, ← hv1, hu2, hv2]
      have LPA := Lib.hid (fun (w2 : World) (B : Below w1.heap.size w1 w2) => (partA (GW.next B) HP.out hip hp1 hmc hmc2).mono fun e w' (r : _ ∧ _ ∧ _) => (⟨r.1, r.2.1, r.2.2, grown_trans (grown_below B _) r.2.2⟩ : e = .returned (.slice (some ⟨b1, o1 + i, none⟩) p (mc - i)) ∧ Gn w' g w.heap.size A n c sg (some ⟨b1, o1, none⟩) m mc a (i + p) (some ⟨b2, o2, none⟩) k kc b j D dn dc (T.map cat) ∧ w2.grownBy w' (some g) ∧ w1.grownBy w' (some g)))
      have LPB := Lib.hid (fun (w2 : World) (G : Gn w2 g w.heap.size A n c sg (some ⟨b1, o1, none⟩) m mc a (i + p) (some ⟨b2, o2, none⟩) k kc b j D dn dc (T.map cat)) (B : w1.grownBy w2 (some g)) => (partB G HQ.out hjq hq1 hkc hkc2).mono fun e w' (r : _ ∧ _ ∧ _) => (⟨r.1, r.2.1, r.2.2, grown_trans B r.2.2⟩ : e = .returned (.slice (some ⟨b2, o2 + j, none⟩) q (kc - j)) ∧ Gn w' g w.heap.size A n c sg (some ⟨b1, o1, none⟩) m mc a (i + p) (some ⟨b2, o2, none⟩) k kc b (j + q) D dn dc (T.map cat) ∧ w2.grownBy w' (some g) ∧ w1.grownBy w' (some g)))
      have kA : Cap (some ⟨b1, o1 + i, none⟩) p (mc - i) := ⟨by omega, by omega, fun e => by cases e⟩
      have kB : Cap (some ⟨b2, o2 + j, none⟩) q (kc - j) := ⟨by omega, by omega, fun e => by cases e⟩
      have LC := Lib.hid (fun (wx : World) (gb : Nat) (R : Row wx gb 24 #[.slice (some ⟨b1, o1 + i, none⟩) p (mc - i), .slice (some ⟨b2, o2 + j, none⟩) q (kc - j)]) (G : Gn wx g w.heap.size A n c sg (some ⟨b1, o1, none⟩) m mc a (i + p) (some ⟨b2, o2, none⟩) k kc b (j + q) D dn dc (T.map cat)) (B : w1.grownBy wx (some g)) =>
        (catTwo R (cutA.out wx _ G) (cutB.out wx _ G) kA kB (by omega) (by omega)).mono fun e w' (r : AnsList wx (u ++ v) e w') => (let ⟨O, on, oc, e1, e2, e3⟩ := r; ⟨O, on, oc, e1, e2, e3, G.next e3, grown_trans B (grown_below e3 _), B.size⟩ : ∃ O on oc, e = .returned (.slice O on oc) ∧ Own w' wx.heap.size (.slice O on oc) (u ++ v) ∧ Below wx.heap.size wx w' ∧ Gn w' g w.heap.size A n c sg (some ⟨b1, o1, none⟩) m mc a (i + p) (some ⟨b2, o2, none⟩) k kc b (j + q) D dn dc (T.map cat) ∧ w1.grownBy w' (some g) ∧ w1.heap.size ≤ wx.heap.size))
      clear kA kB cutA cutB hu1 hu2 hv1 hv2 hu hv
      go_cut [4] (fun p4 wx => PB w1 g w.heap.size A n c sg (some ⟨b1, o1, none⟩) m mc a (i + p) (some ⟨b2, o2, none⟩) k kc b (j + q) D dn dc (T.map cat) (u ++ v) p4 wx)
      case first =>
        clear GW BW1
        go_region_held3 (fun _ => True) (trivial)
          (first
            | (go_at_call 116; (with_reducible refine (LPA.out _ ?_).mono ?_); (focus (repeat (first | (with_reducible exact Below.refl _ _) | (with_reducible refine Below.drew ?_) | (with_reducible refine Below.alloc ?_ (by first | omega | (simp only [compImpl.sz_alloc, compImpl.sz_drew]; omega)) _)))); rintro e w3 ⟨rfl, hG3, g3, t3⟩; have s31 := g3.size; (try simp only [compImpl.sz_alloc, compImpl.sz_drew] at s31); (try (obtain ⟨q4, -⟩ : Row w3 w1.heap.size 24 #[.slice none 0 0] ∧ True; (focus ((refine ⟨Row.away ?_ g3 (fun e => by injection e; omega), trivial⟩); (repeat (first | ((with_reducible refine compImpl.row_top ?_); (simp only [compImpl.sz_alloc, compImpl.sz_drew]; done)) | (with_reducible refine compImpl.row_drew ?_) | (with_reducible refine compImpl.row_alloc ?_))); done)))))
            | (go_at_call 116; (with_reducible refine (LPB.out _ ?_ ?_).mono ?_); (focus (first | exact hG3 | exact hG3.alloc _)); (focus (first | exact t3 | exact grown_trans t3 (World.grownBy_alloc _ _ _))); rintro e w4 ⟨rfl, hG4, g4, t4⟩; have s3 := t3.size; have s41 := g4.size; (try simp only [compImpl.sz_alloc, compImpl.sz_drew] at s41); (try (have q4 := Row.away q4 g4 (fun e => by injection e; omega))); (try (obtain ⟨q4, -⟩ : Row w4 w3.heap.size 24 #[.slice none 0 0] ∧ True; (focus ((refine ⟨Row.away ?_ g4 (fun e => by injection e; omega), trivial⟩); (repeat (first | ((with_reducible refine compImpl.row_top ?_); (simp only [compImpl.sz_alloc, compImpl.sz_drew]; done)) | (with_reducible refine compImpl.row_drew ?_) | (with_reducible refine compImpl.row_alloc ?_))); done)))))
            | (go_at_call 115; (with_reducible refine (LC.out _ _ ?_ ?_ ?_).mono ?_); (focus ((repeat (first | ((with_reducible refine compImpl.row_top ?_); (simp only [compImpl.sz_alloc, compImpl.sz_drew]; done)) | (with_reducible refine compImpl.row_drew ?_) | (with_reducible refine compImpl.row_alloc ?_))); done)); (focus (first | exact hG4.alloc _ | exact (hG4.alloc _).alloc _)); (focus (first | exact grown_trans t4 (World.grownBy_alloc _ _ _) | exact grown_trans t4 (grown_trans (World.grownBy_alloc _ _ _) (World.grownBy_alloc _ _ _)))); rintro e w5 ⟨O, on, oc, rfl, ho, b5, hG5, t5, s5⟩; have s4 := t4.size; (try (have q4 := Go.Proofs.Ytkmhnkljigncmaa.base.Row.next (compImpl.row_alloc q4) b5)); (try (obtain ⟨q4, -⟩ : Row w5 w4.heap.size 24 #[.slice none 0 0] ∧ True; (focus ((refine ⟨Go.Proofs.Ytkmhnkljigncmaa.base.Row.next ?_ b5, trivial⟩); (repeat (first | ((with_reducible refine compImpl.row_top ?_); (simp only [compImpl.sz_alloc, compImpl.sz_drew]; done)) | (with_reducible refine compImpl.row_drew ?_) | (with_reducible refine compImpl.row_alloc ?_))); done)))); (try (obtain ⟨q4, -⟩ : Row w5 (w4.heap.size + 1) 24 #[.slice none 0 0] ∧ True; (focus ((refine ⟨Go.Proofs.Ytkmhnkljigncmaa.base.Row.next ?_ b5, trivial⟩); (repeat (first | ((with_reducible refine compImpl.row_top ?_); (simp only [compImpl.sz_alloc, compImpl.sz_drew]; done)) | (with_reducible refine compImpl.row_drew ?_) | (with_reducible refine compImpl.row_alloc ?_))); done)))); (try (have y3 : w5.cell? ⟨_, 0, none⟩ = some (.slice none 0 0) := q4.cell 0; have y4 : w5.frozen? ⟨_, 0, none⟩ = false := q4.free 0))))
        all_goals
          go_wp2_with fail
          go_meet
          first
            | exact pb_after ho s5 hG5 t5
            | exact pb_ahead q4 (by omega) (by simp only [compImpl.sz_alloc, compImpl.sz_drew]; omega) (by omega) (by omega) ho s5 hG5 t5
      case rest =>
        rename World => wc
        obtain ⟨bp, O, on, oc, rfl, rb, ho, hG, hwb, hg⟩ := hcut
        have hdl : dn = T.length := by have := hG.o.len; simpa using this.symm
        have hon : on ≤ 1048576 := by rw [Own.len ho, luv]; omega
        have hgw : w.grownBy wc (some g) := grown_trans (grown_below BW1 _) hg
        have LI := Lib.hid (indexAt 117 #[.pointer (some ⟨bp, 0, none⟩)] (enters_of Try.func117 (by kernel_rfl) rfl) (fun ys => decide (ys = u ++ v)) D dn dc (T.map cat) wc (testPair bp O on oc (u ++ v) wc rb (Own.seg ho) hon) hG.o.segs (by omega) (fun z => Nat.le_trans (HF.out.each z) (by omega)))
        have c6 : wc.cell? ⟨g, 6, none⟩ = some (.slice D dn dc) := hG.cell 6
        have HDL := Lib.hid hdl
        have hdn60 : dn ≤ 60 := by omega
        clear LPA LPB LC luv hdl
        go_wp2_with fail
        refine LI.out.mono ?_
        rintro e w2 ⟨bI, ⟨z, hz, rfl, hzz⟩ | ⟨rfl, hno⟩⟩
        · have hgw2 := grown_trans hgw (grown_below bI (some g))
          have G2 := hG.next bI
          have hT := nx_old (u := subL sg a i) (v := subL sg b j) (HDL.out ▸ hz) HF.out (genPos.sub_trm HP.out) ((of_decide_eq_true hzz).trans (by rw [HU1.out, HV1.out]))
          have F := Lib.hid (show AnsNx w g A n c sg (some ⟨b1, o1, none⟩) m mc a i (some ⟨b2, o2, none⟩) k kc b j D dn T (.returned (.int .i64 (-1 - (z : Int)))) w2 from
            ⟨_, i + p, j + q, D, dn, dc, T, rfl, ⟨G2.row, G2.s, G2.pa, G2.qb, G2.o.wider (Nat.le_refl _) G2.le, Nat.le_refl _, G2.li, G2.lj, G2.hn, G2.hm, G2.hk, G2.ars⟩, HF.out, Two.left hgw2, fun y hy _ => hy, fun Z _ hA => avoid_grown HOW.out hgw2 hA, .inr ⟨by rw [HU2.out], by rw [HV2.out], gp_old HP.out HQ.out HNS.out hT⟩⟩)
          have hz0 : (0 : Int) ≤ (z : Int) := by omega
          clear hG rb ho hg hgw hgw2 G2 hT bI LI c6 hzz HOW
          go_wp2
          go_ret
          exact F.out
        · have hnew := nx_new (u := subL sg a i) (v := subL sg b j) (T := T) (fun z hz => by have := hno z (by have := HDL.out; omega); rw [HU1.out, HV1.out]; exact this)
          have G2 := hG.next bI
          have r2 := rb.next bI
          have o2' := Own.next ho bI
          have hgw2 := grown_trans hgw (grown_below bI (some g))
          have c6 : w2.cell? ⟨g, 6, none⟩ = some (.slice D dn dc) := G2.cell 6
          have cp : w2.cell? ⟨bp, 0, none⟩ = some (.slice O on oc) := r2.cell 0
          obtain ⟨wa, hwa⟩ : ∃ wa, wa = (w2.alloc (.cells #[.slice O on oc] 24)).drew := ⟨_, rfl⟩
          have bA : Below w2.heap.size w2 wa := by rw [hwa]; exact ((Below.refl _ _).alloc (Nat.le_refl _) _).drew
          have GA := G2.next bA
          have oA := Own.next o2' bA
          have hgA := grown_trans hgw2 (grown_below bA (some g))
          have HOA := Lib.hid (show Owns (w2.alloc (.cells #[.slice O on oc] 24)).drew (g + 1) w.heap.size D dn dc (T.map cat) by rw [← hwa]; exact GA.o)
          have HIN := Lib.hid (show Inn (w2.alloc (.cells #[.slice O on oc] 24)).drew w.heap.size (w2.alloc (.cells #[.slice O on oc] 24)).drew.heap.size (.slice O on oc) (u ++ v) by rw [← hwa]; exact inn_own (Own.lower oA hsz))
          have hDg : ∀ y, blk D = some y → g + 1 ≤ y ∧ y < w.heap.size := fun y hy => by
            obtain ⟨_, h2, _⟩ := topRow HOW.out y hy
            exact ⟨h2, (topRow HOW.out y hy).2.2⟩
          have HRA := Lib.hid (fun (w8 : World) (hg8 : (w2.alloc (.cells #[.slice O on oc] 24)).drew.grownBy w8 (blk D)) => (show Row w8 g 85 (gcs A n c (some ⟨b1, o1, none⟩) m mc (i + p) (some ⟨b2, o2, none⟩) k kc (j + q) D dn dc) from Row.away (by rw [← hwa]; exact GA.row) hg8 (fun e => by have := (hDg g e).1; omega)))
          have HRP := Lib.hid (show Row (w2.alloc (.cells #[.slice O on oc] 24)).drew bp 24 #[.slice O on oc] by rw [← hwa]; exact r2.next bA)
          have HNP : Hid (blk D ≠ some bp) := Lib.hid (fun e => by have := (hDg bp e).2; omega)
          have HPU := Lib.hid (show AnsNx w g A n c sg (some ⟨b1, o1, none⟩) m mc a i (some ⟨b2, o2, none⟩) k kc b j D dn T = AnsNx w g A n c sg (some ⟨b1, o1, none⟩) m mc a i (some ⟨b2, o2, none⟩) k kc b j D dn T from rfl)
          have FIN := Lib.hid (fun (g' c' : Nat) (w8 : World) ho8 hg8 hat8 hb8 hc8 => nx_push (O := O) (on := on) (oc := oc) (c' := c') (w8 := w8) HOW.out GA hgA (hwa ▸ hgA.size) HF.out HP.out HQ.out HNS.out hnew (HU1.out) (HV1.out) HU2.out HV2.out HDL.out hip hjq hm60 hk60 (fun y hy => Nat.le_trans hsz (by have := (ownRow o2' y hy).2.1; omega)) hDg (g' := g') ho8 hg8 hat8 hb8 hc8)
          rw [hwa] at FIN
          have hs2 : w.heap.size ≤ w2.heap.size := hgw2.size
          clear hG rb ho hg hgw hgw2 G2 r2 o2' bI LI hno hnew bA GA oA hgA hwa HPU wa
          go_wp2_with fail
          refine AnyT.start (S := (fun w' => w'.cell? ⟨g, 6, none⟩ = some (.slice D dn dc) ∧ w'.cell? ⟨bp, 0, none⟩ = some (.slice O on oc))) (fun i => decide (8 ≤ i)) (by kernel_rfl) ⟨c6, cp⟩ (fun hHeld => ?_)
          refine AnyT.takeA (i := 0) (v := ?_) rfl (by kernel_rfl) (by kernel_rfl) (by kernel_rfl) (fun _ _ _ h => h) (Or.inl ⟨by rfl, ?_⟩) ?_
          rotate_left 1
          · (intro w0 _; go_simp; try with_reducible rfl)
          try simp only [Act.put, List.setIfInBounds_toArray, List.set_cons_zero, List.set_cons_succ, List.getElem_toArray, List.getElem_cons_zero, List.getElem_cons_succ]
          refine AnyT.takeA (i := 1) (v := ?_) rfl (by kernel_rfl) (by kernel_rfl) (by kernel_rfl) (fun _ _ _ h => h) (Or.inl ⟨by rfl, ?_⟩) ?_
          rotate_left 1
          · (intro w0 _; go_simp; try with_reducible rfl)
          try simp only [Act.put, List.setIfInBounds_toArray, List.set_cons_zero, List.set_cons_succ, List.getElem_toArray, List.getElem_cons_zero, List.getElem_cons_succ]
          refine AnyT.takeA (i := 2) (v := ?_) rfl (by kernel_rfl) (by kernel_rfl) (by kernel_rfl) (fun _ _ _ h => h) (Or.inl ⟨by rfl, ?_⟩) ?_
          rotate_left 1
          · (intro w0 _; go_simp; try with_reducible rfl)
          try simp only [Act.put, List.setIfInBounds_toArray, List.set_cons_zero, List.set_cons_succ, List.getElem_toArray, List.getElem_cons_zero, List.getElem_cons_succ]
          refine AnyT.takeA (i := 3) (v := ?_) rfl (by kernel_rfl) (by kernel_rfl) (by kernel_rfl) (fun _ _ _ h => h) (Or.inl ⟨by rfl, ?_⟩) ?_
          rotate_left 1
          · (intro w0 _; go_simp; try with_reducible rfl)
          try simp only [Act.put, List.setIfInBounds_toArray, List.set_cons_zero, List.set_cons_succ, List.getElem_toArray, List.getElem_cons_zero, List.getElem_cons_succ]
          refine AnyT.take (i := 4) (v := ?_) rfl (by kernel_rfl) (by kernel_rfl) (by kernel_rfl) (by kernel_rfl) (fun _ _ _ h => h) (Or.inl ⟨by rfl, ?_⟩) (by assumption) ?_
          rotate_left 1
          · (intro w0 hSw; (try dsimp only at hSw); go_simp; try with_reducible rfl)
          try simp only [Act.put, List.setIfInBounds_toArray, List.set_cons_zero, List.set_cons_succ, List.getElem_toArray, List.getElem_cons_zero, List.getElem_cons_succ]
          refine AnyT.take (i := 5) (v := ?_) rfl (by kernel_rfl) (by kernel_rfl) (by kernel_rfl) (by kernel_rfl) (fun _ _ _ h => h) (Or.inl ⟨by rfl, ?_⟩) (by assumption) ?_
          rotate_left 1
          · (intro w0 hSw; (try dsimp only at hSw); go_simp; try with_reducible rfl)
          try simp only [Act.put, List.setIfInBounds_toArray, List.set_cons_zero, List.set_cons_succ, List.getElem_toArray, List.getElem_cons_zero, List.getElem_cons_succ]
          refine AnyT.call (i := 6) (by kernel_rfl) rfl (fun K hK => ?_)
          try simp only [Act.put, List.setIfInBounds_toArray, List.set_cons_zero, List.set_cons_succ, List.getElem_toArray, List.getElem_cons_zero, List.getElem_cons_succ]
          rw [if_pos (by rfl)]
          go_simp
          refine hK.out _ _ (fun _ _ => ?_) (fun hKeep => ?_)
          · exact ⟨compImpl.keep_alloc hHeld.1, compImpl.keep_alloc hHeld.2⟩
          replace hHeld := hKeep (by rfl) hHeld
          clear hK K hKeep
          try simp only [Act.put, List.setIfInBounds_toArray, List.set_cons_zero, List.set_cons_succ, List.getElem_toArray, List.getElem_cons_zero, List.getElem_cons_succ]
          refine AnyT.call (i := 7) (by kernel_rfl) rfl (fun K hK => ?_)
          refine stepS1Z rfl _ _ rfl (g + 1) w.heap.size D dn dc (T.map cat) (by simp [Act.eval]) HOA.out w2.heap.size 1 (.slice O on oc) (u ++ v) (by simp [Act.eval]) (show (w2.alloc (.cells #[.slice O on oc] 24)).drew.cell? ⟨w2.heap.size, 0, none⟩ = _ from compImpl.cell_top rfl) HIN.out (by omega) (by omega) (by simp; omega) _ rfl ?_
          intro g' c' w8 ho8 hg8 hat8 hb8 hc8
          have r8 := HRA.out w8 hg8
          have e6 : w8.cell? ⟨g, 6, none⟩ = some (.slice D dn dc) := r8.cell 6
          have fr6 : w8.frozen? ⟨g, 6, none⟩ = false := r8.free 6
          refine hK.out _ _ (fun _ _ => ?_) (fun hKeep => ?_)
          · exact ⟨e6, Row.cell (Row.away HRP.out hg8 HNP.out) 0⟩
          clear hK K hKeep hHeld
          try simp only [Act.put, List.setIfInBounds_toArray, List.set_cons_zero, List.set_cons_succ, List.getElem_toArray, List.getElem_cons_zero, List.getElem_cons_succ]
          refine AnyT.call (i := 8) (by kernel_rfl) rfl (fun K hK => ?_)
          try simp only [Act.put, List.setIfInBounds_toArray, List.set_cons_zero, List.set_cons_succ, List.getElem_toArray, List.getElem_cons_zero, List.getElem_cons_succ]
          rw [if_pos (by rfl)]
          go_simp
          refine hK.out _ _ (fun h => by cases h) (fun _ => ?_)
          clear hK K
          try simp only [Act.put, List.setIfInBounds_toArray, List.set_cons_zero, List.set_cons_succ, List.getElem_toArray, List.getElem_cons_zero, List.getElem_cons_succ]
          refine AnyT.call (i := 9) (by kernel_rfl) rfl (fun K hK => ?_)
          try simp only [Act.put, List.setIfInBounds_toArray, List.set_cons_zero, List.set_cons_succ, List.getElem_toArray, List.getElem_cons_zero, List.getElem_cons_succ]
          rw [if_pos (by rfl)]
          go_simp
          refine hK.out _ _ (fun h => by cases h) (fun _ => ?_)
          clear hK K
          try simp only [Act.put, List.setIfInBounds_toArray, List.set_cons_zero, List.set_cons_succ, List.getElem_toArray, List.getElem_cons_zero, List.getElem_cons_succ]
          refine AnyT.call (i := 10) (by kernel_rfl) rfl (fun K hK => ?_)
          try simp only [Act.put, List.setIfInBounds_toArray, List.set_cons_zero, List.set_cons_succ, List.getElem_toArray, List.getElem_cons_zero, List.getElem_cons_succ]
          rw [if_pos (by rfl)]
          go_simp
          refine hK.out _ _ (fun h => by cases h) (fun _ => ?_)
          clear hK K
          try simp only [Act.put, List.setIfInBounds_toArray, List.set_cons_zero, List.set_cons_succ, List.getElem_toArray, List.getElem_cons_zero, List.getElem_cons_succ]
          refine AnyT.done (by kernel_rfl) ?_ _
          go_wp2
          go_ret
          exact FIN.out _ _ _ ho8 hg8 hat8 hb8 hc8
    · have d0 : decide (0 ≤ x) = false := decide_eq_false hx0
      clear hsym
      go_enter Try.func78, Try.ntmps78
      go_wp2
      go_quiet (fail)
      go_wp2_with fail
      go_quiet (fail)
      rw [World.drewN_drewN]
      go_wp2_with fail
      have G1 := Lib.hid (fun d => h.drewN d)
      have BW := Lib.hid (fun d => genNext.drew_below w d)
      have HOW := Lib.hid h.o
      obtain ⟨w1, hw1, GW, BW1, hs1⟩ : ∃ w1, w1 = w.drewN (_) ∧ Gn w1 g w.heap.size A n c sg (some ⟨b1, o1, none⟩) m mc a i (some ⟨b2, o2, none⟩) k kc b j D dn dc (T.map cat) ∧ Below w.heap.size w w1 ∧ w1.heap.size = w.heap.size := ⟨_, rfl, G1.out _, BW.out _, rfl⟩
      rw [← hw1]
      clear hw1 G1 BW c1 c2 c4 c5 hx hy d0 h
      have hgl1 : g < w1.heap.size := by omega
      have hsz : w.heap.size ≤ w1.heap.size := by omega
      clear hs1
      have hu1 : subL sg a i = (a.drop i).take p := by unfold subL; rw [len1_eq HP.out]
      have hu2 : (subL sg a i).length = p := by rw [hu1, List.length_take, List.length_drop, GW.pa.1]; omega
      have hv1 : subL sg b j = (b.drop j).take q := by unfold subL; rw [len1_eq HQ.out]
      have hv2 : (subL sg b j).length = q := by rw [hv1, List.length_take, List.length_drop, GW.qb.1]; omega
      have cutA := Lib.hid (fun (w2 : World) (i2 : Nat) (G : Gn w2 g w.heap.size A n c sg (some ⟨b1, o1, none⟩) m mc a i2 (some ⟨b2, o2, none⟩) k kc b (j + q) D dn dc (T.map cat)) => (Seg.cut (a := i) (j := p) G.pa hip).more (Nat.le_of_lt G.lt))
      have cutB := Lib.hid (fun (w2 : World) (i2 : Nat) (G : Gn w2 g w.heap.size A n c sg (some ⟨b1, o1, none⟩) m mc a i2 (some ⟨b2, o2, none⟩) k kc b (j + q) D dn dc (T.map cat)) => (Seg.cut (a := j) (j := q) G.qb hjq).more (Nat.le_of_lt G.lt))
      obtain ⟨u, hu⟩ : ∃ u, (a.drop i).take p = u := ⟨_, rfl⟩
      obtain ⟨v, hv⟩ : ∃ v, (b.drop j).take q = v := ⟨_, rfl⟩
      rw [hu] at cutA hu1
      rw [hv] at cutB hv1
      have HU1 := Lib.hid hu1
      have HU2 := Lib.hid hu2
      have HV1 := Lib.hid hv1
      have HV2 := Lib.hid hv2
      have luv : (u ++ v).length = p + q := by rw [List.length_append, ← hu1, ← hv1, hu2, hv2]
      have LPA := Lib.hid (fun (w2 : World) (B : Below w1.heap.size w1 w2) => (partA (GW.next B) HP.out hip hp1 hmc hmc2).mono fun e w' (r : _ ∧ _ ∧ _) => (⟨r.1, r.2.1, r.2.2, grown_trans (grown_below B _) r.2.2⟩ : e = .returned (.slice (some ⟨b1, o1 + i, none⟩) p (mc - i)) ∧ Gn w' g w.heap.size A n c sg (some ⟨b1, o1, none⟩) m mc a (i + p) (some ⟨b2, o2, none⟩) k kc b j D dn dc (T.map cat) ∧ w2.grownBy w' (some g) ∧ w1.grownBy w' (some g)))
      have LPB := Lib.hid (fun (w2 : World) (G : Gn w2 g w.heap.size A n c sg (some ⟨b1, o1, none⟩) m mc a (i + p) (some ⟨b2, o2, none⟩) k kc b j D dn dc (T.map cat)) (B : w1.grownBy w2 (some g)) => (partB G HQ.out hjq hq1 hkc hkc2).mono fun e w' (r : _ ∧ _ ∧ _) => (⟨r.1, r.2.1, r.2.2, grown_trans B r.2.2⟩ : e = .returned (.slice (some ⟨b2, o2 + j, none⟩) q (kc - j)) ∧ Gn w' g w.heap.size A n c sg (some ⟨b1, o1, none⟩) m mc a (i + p) (some ⟨b2, o2, none⟩) k kc b (j + q) D dn dc (T.map cat) ∧ w2.grownBy w' (some g) ∧ w1.grownBy w' (some g)))
      have kA : Cap (some ⟨b1, o1 + i, none⟩) p (mc - i) := ⟨by omega, by omega, fun e => by cases e⟩
      have kB : Cap (some ⟨b2, o2 + j, none⟩) q (kc - j) := ⟨by omega, by omega, fun e => by cases e⟩
      have LC := Lib.hid (fun (wx : World) (gb : Nat) (R : Row wx gb 24 #[.slice (some ⟨b1, o1 + i, none⟩) p (mc - i), .slice (some ⟨b2, o2 + j, none⟩) q (kc - j)]) (G : Gn wx g w.heap.size A n c sg (some ⟨b1, o1, none⟩) m mc a (i + p) (some ⟨b2, o2, none⟩) k kc b (j + q) D dn dc (T.map cat)) (B : w1.grownBy wx (some g)) =>
        (catTwo R (cutA.out wx _ G) (cutB.out wx _ G) kA kB (by omega) (by omega)).mono fun e w' (r : AnsList wx (u ++ v) e w') => (let ⟨O, on, oc, e1, e2, e3⟩ := r; ⟨O, on, oc, e1, e2, e3, G.next e3, grown_trans B (grown_below e3 _), B.size⟩ : ∃ O on oc, e = .returned (.slice O on oc) ∧ Own w' wx.heap.size (.slice O on oc) (u ++ v) ∧ Below wx.heap.size wx w' ∧ Gn w' g w.heap.size A n c sg (some ⟨b1, o1, none⟩) m mc a (i + p) (some ⟨b2, o2, none⟩) k kc b (j + q) D dn dc (T.map cat) ∧ w1.grownBy w' (some g) ∧ w1.heap.size ≤ wx.heap.size))
      clear kA kB cutA cutB hu1 hu2 hv1 hv2 hu hv
      go_cut [4] (fun p4 wx => PB w1 g w.heap.size A n c sg (some ⟨b1, o1, none⟩) m mc a (i + p) (some ⟨b2, o2, none⟩) k kc b (j + q) D dn dc (T.map cat) (u ++ v) p4 wx)
      case first =>
        clear GW BW1
        go_region_held3 (fun _ => True) (trivial)
          (first
            | (go_at_call 116; (with_reducible refine (LPA.out _ ?_).mono ?_); (focus (repeat (first | (with_reducible exact Below.refl _ _) | (with_reducible refine Below.drew ?_) | (with_reducible refine Below.alloc ?_ (by first | omega | (simp only [compImpl.sz_alloc, compImpl.sz_drew]; omega)) _)))); rintro e w3 ⟨rfl, hG3, g3, t3⟩; have s31 := g3.size; (try simp only [compImpl.sz_alloc, compImpl.sz_drew] at s31); (try (obtain ⟨q4, -⟩ : Row w3 w1.heap.size 24 #[.slice none 0 0] ∧ True; (focus ((refine ⟨Row.away ?_ g3 (fun e => by injection e; omega), trivial⟩); (repeat (first | ((with_reducible refine compImpl.row_top ?_); (simp only [compImpl.sz_alloc, compImpl.sz_drew]; done)) | (with_reducible refine compImpl.row_drew ?_) | (with_reducible refine compImpl.row_alloc ?_))); done)))))
            | (go_at_call 116; (with_reducible refine (LPB.out _ ?_ ?_).mono ?_); (focus (first | exact hG3 | exact hG3.alloc _)); (focus (first | exact t3 | exact grown_trans t3 (World.grownBy_alloc _ _ _))); rintro e w4 ⟨rfl, hG4, g4, t4⟩; have s3 := t3.size; have s41 := g4.size; (try simp only [compImpl.sz_alloc, compImpl.sz_drew] at s41); (try (have q4 := Row.away q4 g4 (fun e => by injection e; omega))); (try (obtain ⟨q4, -⟩ : Row w4 w3.heap.size 24 #[.slice none 0 0] ∧ True; (focus ((refine ⟨Row.away ?_ g4 (fun e => by injection e; omega), trivial⟩); (repeat (first | ((with_reducible refine compImpl.row_top ?_); (simp only [compImpl.sz_alloc, compImpl.sz_drew]; done)) | (with_reducible refine compImpl.row_drew ?_) | (with_reducible refine compImpl.row_alloc ?_))); done)))))
            | (go_at_call 115; (with_reducible refine (LC.out _ _ ?_ ?_ ?_).mono ?_); (focus ((repeat (first | ((with_reducible refine compImpl.row_top ?_); (simp only [compImpl.sz_alloc, compImpl.sz_drew]; done)) | (with_reducible refine compImpl.row_drew ?_) | (with_reducible refine compImpl.row_alloc ?_))); done)); (focus (first | exact hG4.alloc _ | exact (hG4.alloc _).alloc _)); (focus (first | exact grown_trans t4 (World.grownBy_alloc _ _ _) | exact grown_trans t4 (grown_trans (World.grownBy_alloc _ _ _) (World.grownBy_alloc _ _ _)))); rintro e w5 ⟨O, on, oc, rfl, ho, b5, hG5, t5, s5⟩; have s4 := t4.size; (try (have q4 := Go.Proofs.Ytkmhnkljigncmaa.base.Row.next (compImpl.row_alloc q4) b5)); (try (obtain ⟨q4, -⟩ : Row w5 w4.heap.size 24 #[.slice none 0 0] ∧ True; (focus ((refine ⟨Go.Proofs.Ytkmhnkljigncmaa.base.Row.next ?_ b5, trivial⟩); (repeat (first | ((with_reducible refine compImpl.row_top ?_); (simp only [compImpl.sz_alloc, compImpl.sz_drew]; done)) | (with_reducible refine compImpl.row_drew ?_) | (with_reducible refine compImpl.row_alloc ?_))); done)))); (try (obtain ⟨q4, -⟩ : Row w5 (w4.heap.size + 1) 24 #[.slice none 0 0] ∧ True; (focus ((refine ⟨Go.Proofs.Ytkmhnkljigncmaa.base.Row.next ?_ b5, trivial⟩); (repeat (first | ((with_reducible refine compImpl.row_top ?_); (simp only [compImpl.sz_alloc, compImpl.sz_drew]; done)) | (with_reducible refine compImpl.row_drew ?_) | (with_reducible refine compImpl.row_alloc ?_))); done)))); (try (have y3 : w5.cell? ⟨_, 0, none⟩ = some (.slice none 0 0) := q4.cell 0; have y4 : w5.frozen? ⟨_, 0, none⟩ = false := q4.free 0))))
        all_goals
          go_wp2_with fail
          go_meet
          first
            | exact pb_after ho s5 hG5 t5
            | exact pb_ahead q4 (by omega) (by simp only [compImpl.sz_alloc, compImpl.sz_drew]; omega) (by omega) (by omega) ho s5 hG5 t5
      case rest =>
        rename World => wc
        obtain ⟨bp, O, on, oc, rfl, rb, ho, hG, hwb, hg⟩ := hcut
        have hdl : dn = T.length := by have := hG.o.len; simpa using this.symm
        have hon : on ≤ 1048576 := by rw [Own.len ho, luv]; omega
        have hgw : w.grownBy wc (some g) := grown_trans (grown_below BW1 _) hg
        have LI := Lib.hid (indexAt 117 #[.pointer (some ⟨bp, 0, none⟩)] (enters_of Try.func117 (by kernel_rfl) rfl) (fun ys => decide (ys = u ++ v)) D dn dc (T.map cat) wc (testPair bp O on oc (u ++ v) wc rb (Own.seg ho) hon) hG.o.segs (by omega) (fun z => Nat.le_trans (HF.out.each z) (by omega)))
        have c6 : wc.cell? ⟨g, 6, none⟩ = some (.slice D dn dc) := hG.cell 6
        have HDL := Lib.hid hdl
        have hdn60 : dn ≤ 60 := by omega
        clear LPA LPB LC luv hdl
        go_wp2_with fail
        refine LI.out.mono ?_
        rintro e w2 ⟨bI, ⟨z, hz, rfl, hzz⟩ | ⟨rfl, hno⟩⟩
        · have hgw2 := grown_trans hgw (grown_below bI (some g))
          have G2 := hG.next bI
          have hT := nx_old (u := subL sg a i) (v := subL sg b j) (HDL.out ▸ hz) HF.out (genPos.sub_trm HP.out) ((of_decide_eq_true hzz).trans (by rw [HU1.out, HV1.out]))
          have F := Lib.hid (show AnsNx w g A n c sg (some ⟨b1, o1, none⟩) m mc a i (some ⟨b2, o2, none⟩) k kc b j D dn T (.returned (.int .i64 (-1 - (z : Int)))) w2 from
            ⟨_, i + p, j + q, D, dn, dc, T, rfl, ⟨G2.row, G2.s, G2.pa, G2.qb, G2.o.wider (Nat.le_refl _) G2.le, Nat.le_refl _, G2.li, G2.lj, G2.hn, G2.hm, G2.hk, G2.ars⟩, HF.out, Two.left hgw2, fun y hy _ => hy, fun Z _ hA => avoid_grown HOW.out hgw2 hA, .inr ⟨by rw [HU2.out], by rw [HV2.out], gp_old HP.out HQ.out HNS.out hT⟩⟩)
          have hz0 : (0 : Int) ≤ (z : Int) := by omega
          clear hG rb ho hg hgw hgw2 G2 hT bI LI c6 hzz HOW
          go_wp2
          go_ret
          exact F.out
        · have hnew := nx_new (u := subL sg a i) (v := subL sg b j) (T := T) (fun z hz => by have := hno z (by have := HDL.out; omega); rw [HU1.out, HV1.out]; exact this)
          have G2 := hG.next bI
          have r2 := rb.next bI
          have o2' := Own.next ho bI
          have hgw2 := grown_trans hgw (grown_below bI (some g))
          have c6 : w2.cell? ⟨g, 6, none⟩ = some (.slice D dn dc) := G2.cell 6
          have cp : w2.cell? ⟨bp, 0, none⟩ = some (.slice O on oc) := r2.cell 0
          obtain ⟨wa, hwa⟩ : ∃ wa, wa = (w2.alloc (.cells #[.slice O on oc] 24)).drew := ⟨_, rfl⟩
          have bA : Below w2.heap.size w2 wa := by rw [hwa]; exact ((Below.refl _ _).alloc (Nat.le_refl _) _).drew
          have GA := G2.next bA
          have oA := Own.next o2' bA
          have hgA := grown_trans hgw2 (grown_below bA (some g))
          have HOA := Lib.hid (show Owns (w2.alloc (.cells #[.slice O on oc] 24)).drew (g + 1) w.heap.size D dn dc (T.map cat) by rw [← hwa]; exact GA.o)
          have HIN := Lib.hid (show Inn (w2.alloc (.cells #[.slice O on oc] 24)).drew w.heap.size (w2.alloc (.cells #[.slice O on oc] 24)).drew.heap.size (.slice O on oc) (u ++ v) by rw [← hwa]; exact inn_own (Own.lower oA hsz))
          have hDg : ∀ y, blk D = some y → g + 1 ≤ y ∧ y < w.heap.size := fun y hy => by
            obtain ⟨_, h2, _⟩ := topRow HOW.out y hy
            exact ⟨h2, (topRow HOW.out y hy).2.2⟩
          have HRA := Lib.hid (fun (w8 : World) (hg8 : (w2.alloc (.cells #[.slice O on oc] 24)).drew.grownBy w8 (blk D)) => (show Row w8 g 85 (gcs A n c (some ⟨b1, o1, none⟩) m mc (i + p) (some ⟨b2, o2, none⟩) k kc (j + q) D dn dc) from Row.away (by rw [← hwa]; exact GA.row) hg8 (fun e => by have := (hDg g e).1; omega)))
          have HRP := Lib.hid (show Row (w2.alloc (.cells #[.slice O on oc] 24)).drew bp 24 #[.slice O on oc] by rw [← hwa]; exact r2.next bA)
          have HNP : Hid (blk D ≠ some bp) := Lib.hid (fun e => by have := (hDg bp e).2; omega)
          have HPU := Lib.hid (show AnsNx w g A n c sg (some ⟨b1, o1, none⟩) m mc a i (some ⟨b2, o2, none⟩) k kc b j D dn T = AnsNx w g A n c sg (some ⟨b1, o1, none⟩) m mc a i (some ⟨b2, o2, none⟩) k kc b j D dn T from rfl)
          have FIN := Lib.hid (fun (g' c' : Nat) (w8 : World) ho8 hg8 hat8 hb8 hc8 => nx_push (O := O) (on := on) (oc := oc) (c' := c') (w8 := w8) HOW.out GA hgA (hwa ▸ hgA.size) HF.out HP.out HQ.out HNS.out hnew (HU1.out) (HV1.out) HU2.out HV2.out HDL.out hip hjq hm60 hk60 (fun y hy => Nat.le_trans hsz (by have := (ownRow o2' y hy).2.1; omega)) hDg (g' := g') ho8 hg8 hat8 hb8 hc8)
          rw [hwa] at FIN
          have hs2 : w.heap.size ≤ w2.heap.size := hgw2.size
          clear hG rb ho hg hgw hgw2 G2 r2 o2' bI LI hno hnew bA GA oA hgA hwa HPU wa
          go_wp2_with fail
          refine AnyT.start (S := (fun w' => w'.cell? ⟨g, 6, none⟩ = some (.slice D dn dc) ∧ w'.cell? ⟨bp, 0, none⟩ = some (.slice O on oc))) (fun i => decide (8 ≤ i)) (by kernel_rfl) ⟨c6, cp⟩ (fun hHeld => ?_)
          refine AnyT.takeA (i := 0) (v := ?_) rfl (by kernel_rfl) (by kernel_rfl) (by kernel_rfl) (fun _ _ _ h => h) (Or.inl ⟨by rfl, ?_⟩) ?_
          rotate_left 1
          · (intro w0 _; go_simp; try with_reducible rfl)
          try simp only [Act.put, List.setIfInBounds_toArray, List.set_cons_zero, List.set_cons_succ, List.getElem_toArray, List.getElem_cons_zero, List.getElem_cons_succ]
          refine AnyT.takeA (i := 1) (v := ?_) rfl (by kernel_rfl) (by kernel_rfl) (by kernel_rfl) (fun _ _ _ h => h) (Or.inl ⟨by rfl, ?_⟩) ?_
          rotate_left 1
          · (intro w0 _; go_simp; try with_reducible rfl)
          try simp only [Act.put, List.setIfInBounds_toArray, List.set_cons_zero, List.set_cons_succ, List.getElem_toArray, List.getElem_cons_zero, List.getElem_cons_succ]
          refine AnyT.takeA (i := 2) (v := ?_) rfl (by kernel_rfl) (by kernel_rfl) (by kernel_rfl) (fun _ _ _ h => h) (Or.inl ⟨by rfl, ?_⟩) ?_
          rotate_left 1
          · (intro w0 _; go_simp; try with_reducible rfl)
          try simp only [Act.put, List.setIfInBounds_toArray, List.set_cons_zero, List.set_cons_succ, List.getElem_toArray, List.getElem_cons_zero, List.getElem_cons_succ]
          refine AnyT.takeA (i := 3) (v := ?_) rfl (by kernel_rfl) (by kernel_rfl) (by kernel_rfl) (fun _ _ _ h => h) (Or.inl ⟨by rfl, ?_⟩) ?_
          rotate_left 1
          · (intro w0 _; go_simp; try with_reducible rfl)
          try simp only [Act.put, List.setIfInBounds_toArray, List.set_cons_zero, List.set_cons_succ, List.getElem_toArray, List.getElem_cons_zero, List.getElem_cons_succ]
          refine AnyT.take (i := 4) (v := ?_) rfl (by kernel_rfl) (by kernel_rfl) (by kernel_rfl) (by kernel_rfl) (fun _ _ _ h => h) (Or.inl ⟨by rfl, ?_⟩) (by assumption) ?_
          rotate_left 1
          · (intro w0 hSw; (try dsimp only at hSw); go_simp; try with_reducible rfl)
          try simp only [Act.put, List.setIfInBounds_toArray, List.set_cons_zero, List.set_cons_succ, List.getElem_toArray, List.getElem_cons_zero, List.getElem_cons_succ]
          refine AnyT.take (i := 5) (v := ?_) rfl (by kernel_rfl) (by kernel_rfl) (by kernel_rfl) (by kernel_rfl) (fun _ _ _ h => h) (Or.inl ⟨by rfl, ?_⟩) (by assumption) ?_
          rotate_left 1
          · (intro w0 hSw; (try dsimp only at hSw); go_simp; try with_reducible rfl)
          try simp only [Act.put, List.setIfInBounds_toArray, List.set_cons_zero, List.set_cons_succ, List.getElem_toArray, List.getElem_cons_zero, List.getElem_cons_succ]
          refine AnyT.call (i := 6) (by kernel_rfl) rfl (fun K hK => ?_)
          try simp only [Act.put, List.setIfInBounds_toArray, List.set_cons_zero, List.set_cons_succ, List.getElem_toArray, List.getElem_cons_zero, List.getElem_cons_succ]
          rw [if_pos (by rfl)]
          go_simp
          refine hK.out _ _ (fun _ _ => ?_) (fun hKeep => ?_)
          · exact ⟨compImpl.keep_alloc hHeld.1, compImpl.keep_alloc hHeld.2⟩
          replace hHeld := hKeep (by rfl) hHeld
          clear hK K hKeep
          try simp only [Act.put, List.setIfInBounds_toArray, List.set_cons_zero, List.set_cons_succ, List.getElem_toArray, List.getElem_cons_zero, List.getElem_cons_succ]
          refine AnyT.call (i := 7) (by kernel_rfl) rfl (fun K hK => ?_)
          refine stepS1Z rfl _ _ rfl (g + 1) w.heap.size D dn dc (T.map cat) (by simp [Act.eval]) HOA.out w2.heap.size 1 (.slice O on oc) (u ++ v) (by simp [Act.eval]) (show (w2.alloc (.cells #[.slice O on oc] 24)).drew.cell? ⟨w2.heap.size, 0, none⟩ = _ from compImpl.cell_top rfl) HIN.out (by omega) (by omega) (by simp; omega) _ rfl ?_
          intro g' c' w8 ho8 hg8 hat8 hb8 hc8
          have r8 := HRA.out w8 hg8
          have e6 : w8.cell? ⟨g, 6, none⟩ = some (.slice D dn dc) := r8.cell 6
          have fr6 : w8.frozen? ⟨g, 6, none⟩ = false := r8.free 6
          refine hK.out _ _ (fun _ _ => ?_) (fun hKeep => ?_)
          · exact ⟨e6, Row.cell (Row.away HRP.out hg8 HNP.out) 0⟩
          clear hK K hKeep hHeld
          try simp only [Act.put, List.setIfInBounds_toArray, List.set_cons_zero, List.set_cons_succ, List.getElem_toArray, List.getElem_cons_zero, List.getElem_cons_succ]
          refine AnyT.call (i := 8) (by kernel_rfl) rfl (fun K hK => ?_)
          try simp only [Act.put, List.setIfInBounds_toArray, List.set_cons_zero, List.set_cons_succ, List.getElem_toArray, List.getElem_cons_zero, List.getElem_cons_succ]
          rw [if_pos (by rfl)]
          go_simp
          refine hK.out _ _ (fun h => by cases h) (fun _ => ?_)
          clear hK K
          try simp only [Act.put, List.setIfInBounds_toArray, List.set_cons_zero, List.set_cons_succ, List.getElem_toArray, List.getElem_cons_zero, List.getElem_cons_succ]
          refine AnyT.call (i := 9) (by kernel_rfl) rfl (fun K hK => ?_)
          try simp only [Act.put, List.setIfInBounds_toArray, List.set_cons_zero, List.set_cons_succ, List.getElem_toArray, List.getElem_cons_zero, List.getElem_cons_succ]
          rw [if_pos (by rfl)]
          go_simp
          refine hK.out _ _ (fun h => by cases h) (fun _ => ?_)
          clear hK K
          try simp only [Act.put, List.setIfInBounds_toArray, List.set_cons_zero, List.set_cons_succ, List.getElem_toArray, List.getElem_cons_zero, List.getElem_cons_succ]
          refine AnyT.call (i := 10) (by kernel_rfl) rfl (fun K hK => ?_)
          try simp only [Act.put, List.setIfInBounds_toArray, List.set_cons_zero, List.set_cons_succ, List.getElem_toArray, List.getElem_cons_zero, List.getElem_cons_succ]
          rw [if_pos (by rfl)]
          go_simp
          refine hK.out _ _ (fun h => by cases h) (fun _ => ?_)
          clear hK K
          try simp only [Act.put, List.setIfInBounds_toArray, List.set_cons_zero, List.set_cons_succ, List.getElem_toArray, List.getElem_cons_zero, List.getElem_cons_succ]
          refine AnyT.done (by kernel_rfl) ?_ _
          go_wp2
          go_ret
          exact FIN.out _ _ _ ho8 hg8 hat8 hb8 hc8
end Go.Proofs.Ytkmhnkljigncmaa.genNext
end

section
/-
  CONTRACT: spec.l5General, whole, by induction on the length of what is read. Conditions: the slices read as lists, the places begin subterms, the lists of the tables are at most 1048576 numbers long. By an AI agent.
-/
namespace Go.Proofs.Ytkmhnkljigncmaa.genMain
open Go.RowKit Go.Proofs.Ytkmhnkljigncmaa.base Go.Proofs.Ytkmhnkljigncmaa.ints Go.Proofs.Ytkmhnkljigncmaa.sig Go.Proofs.Ytkmhnkljigncmaa.cursor Go.Proofs.Ytkmhnkljigncmaa.marks Go.Proofs.Ytkmhnkljigncmaa.app Go.Proofs.Ytkmhnkljigncmaa.appAt Go.Proofs.Ytkmhnkljigncmaa.sym Go.Proofs.Ytkmhnkljigncmaa.segs Go.Proofs.Ytkmhnkljigncmaa.segsHelp Go.Proofs.Ytkmhnkljigncmaa.term Go.Proofs.Ytkmhnkljigncmaa.args Go.Proofs.Ytkmhnkljigncmaa.sub Go.Proofs.Ytkmhnkljigncmaa.look Go.Proofs.Ytkmhnkljigncmaa.plain Go.Proofs.Ytkmhnkljigncmaa.same Go.Proofs.Ytkmhnkljigncmaa.posMath Go.Proofs.Ytkmhnkljigncmaa.unifMath Go.Proofs.Ytkmhnkljigncmaa.genMath Go.Proofs.Ytkmhnkljigncmaa.genPos Go.Proofs.Ytkmhnkljigncmaa.genTab Go.Proofs.Ytkmhnkljigncmaa.appZ Go.Proofs.Ytkmhnkljigncmaa.genSpec Go.Proofs.Ytkmhnkljigncmaa.genRec
set_option maxRecDepth 100000

section
variable {w wr w5 : World} {lo : Nat} {A : Option Addr} {n c : Nat} {sg : List Int} {P : Option Addr} {m : Nat} {a : List Int} {Q : Option Addr} {k : Nat} {b : List Int} {L R : Option Addr} {ln p q : Nat} {T : Tb} {x : Int} {X : Option Addr} {xn xc : Nat} {Y : Option Addr} {yn yc i : Nat} {L' R' : Option Addr} {ln' lc' rc' : Nat} {O : Option Addr} {on oc : Nat} {g : List Int} {T' : Tb}
theorem two_drew (h : Two wr.drew w5 L' R') : Two wr w5 L' R' := ⟨h.os, h.tape, h.output, h.size, h.block⟩
theorem cells (h : Hr w wr lo A n c sg P m a Q k b L R ln p q T x X xn xc Y yn yc i L' R' ln' lc' rc' O on oc g T') (htwo : Two wr w5 L' R') : w5.cell? ⟨w.heap.size, 0, none⟩ = some (.slice A n c) ∧ (∀ b o j, X = some ⟨b, o, none⟩ → w5.cell? ⟨b, j, none⟩ = wr.cell? ⟨b, j, none⟩) ∧ (∀ b o j, Y = some ⟨b, o, none⟩ → w5.cell? ⟨b, j, none⟩ = wr.cell? ⟨b, j, none⟩) := by
  have key : ∀ z t cs, Row wr z t cs → t ≠ 24 → Row w5 z t cs := fun z t cs hr ht => htwo.row hr (fun e => by obtain ⟨cs2, h1⟩ := h.t.rowL _ e; exact Row.ne_ hr h1 ht rfl) (fun e => by obtain ⟨cs2, h1⟩ := h.t.rowR _ e; exact Row.ne_ hr h1 ht rfl)
  refine ⟨(key _ _ _ h.r0 (by decide)).cell 0, fun b o j e => ?_, fun b o j e => ?_⟩
  · obtain ⟨⟨cs, h1⟩, _⟩ := ownRow h.ox b (by rw [e]; rfl)
    rw [(key _ _ _ h1 (by decide)).cell j, h1.cell j]
  · obtain ⟨⟨cs, h1⟩, _⟩ := ownRow h.oy b (by rw [e]; rfl)
    rw [(key _ _ _ h1 (by decide)).cell j, h1.cell j]
theorem upto_len {sg t : List Int} {p k : Nat} : (upto sg t p k).length ≤ argP sg t k (p + 1) - (p + 1) ∧ (upto sg t p k).length ≤ t.length := by
  unfold upto
  rw [List.length_take, List.length_drop]
  omega
end
/-- what the loop's head says -/
def HeadR (w : World) (lo : Nat) (A : Option Addr) (n c : Nat) (sg : List Int) (P : Option Addr) (m : Nat) (a : List Int) (Q : Option Addr) (k : Nat) (b : List Int) (L R : Option Addr) (ln p q : Nat) (T : Tb) (x : Int) (X : Option Addr) (xn xc : Nat) (Y : Option Addr) (yn yc : Nat) (l r o iv : Value) (wr : World) : Prop :=
  ∃ (i : Nat) (L' R' : Option Addr) (ln' lc' rc' : Nat) (O : Option Addr) (on oc : Nat) (g : List Int) (T' : Tb), i ≤ xn ∧ l = .slice L' ln' lc' ∧ r = .slice R' ln' rc' ∧ o = .slice O on oc ∧ iv = .int .i64 i ∧ Hr w wr lo A n c sg P m a Q k b L R ln p q T x X xn xc Y yn yc i L' R' ln' lc' rc' O on oc g T'

set_option maxHeartbeats 4000000 in
theorem l5General (A P Q : Option Addr) (n c m mc k kc lo : Nat) (sg a b : List Int) (hn : n ≤ 1048576) (hm : m ≤ 1048576) (hk : k ≤ 1048576) (hcm : m ≤ mc ∧ mc ≤ 9223372036854775807) (hck : k ≤ kc ∧ kc ≤ 9223372036854775807) (hs : Arities sg) :
    ∀ (N : Nat) (L R : Option Addr) (ln lc rc p q j j' : Nat) (T : Tb) (w : World), Seg w lo A n sg → Seg w lo P m a → Seg w lo Q k b → Tabs w lo L ln lc R rc T → lo ≤ w.heap.size → (∀ x ∈ T, x.1.length ≤ 1048576 ∧ x.2.length ≤ 1048576) → T.length + j ≤ 1048576 → scan sg 1 (a.drop p) = some j → scan sg 1 (b.drop q) = some j' → j ≤ N →
    Calls Try.prog 118 #[.agg #[.slice A n c], .slice P m mc, .int .i64 (p : Int), .slice Q k kc, .int .i64 (q : Int), .slice L ln lc, .slice R ln rc] w (AnsGen sg w lo L R ln T (subL sg a p) (subL sg b q)) := by
  intro N
  induction N with
  | zero =>
    intro L R ln lc rc p q j j' T w h hp hq ht hlo hT hTj hj hj' hN
    obtain ⟨_, e, _⟩ := scan_args hj
    omega
  | succ N IH =>
  intro L R ln lc rc p q j j' T w h hp hq ht hlo hT hTj hj hj' hN
  by_cases hsame : 0 ≤ a.getD p 0 ∧ a.getD p 0 = b.getD q 0
  case neg =>
    have hl := ht.len
    exact apart A P Q L R n c m mc k kc ln lc rc lo p q j j' sg a b T w h hp hq ht hlo hn hm hk hcm hck (by omega) hs hj hj' hT hsame
  obtain ⟨h0, hxy⟩ := hsame
  have la := hp.1
  have lb := hq.1
  obtain ⟨ja, ea, hpm, _, _⟩ := scan_args hj
  obtain ⟨jb, eb, hqk, _, _⟩ := scan_args hj'
  have s2 := scan_le hj
  have s3 := scan_le hj'
  rw [List.length_drop] at s2 s3
  rw [la] at hpm s2
  rw [lb] at hqk s3
  have eN : arN sg b q = arN sg a p := by unfold arN; rw [hxy]
  have GD := Lib.hid (fun g T' (e : Ga sg a b p q T (arN sg a p) g T') => ga_done hj hj' h0 hxy e)
  obtain ⟨W, hW⟩ : ∃ W, W = w.alloc (.cells #[.slice A n c] 26) := ⟨_, rfl⟩
  have G0 : Gw w W lo A n c sg P m a Q k b L ln lc R rc T := by rw [hW]; exact Gw.start h hp hq ht hlo
  have T0 := Lib.hid ht
  have LP := Lib.hid (fun w' (G : Gw w w' lo A n c sg P m a Q k b L ln lc R rc T) => l1Args A P n c m mc sg a p _ w' (G.s.more G.low) (G.pa.more G.low) hn hm hs hpm hj (by omega))
  have LQ := Lib.hid (fun w' (G : Gw w w' lo A n c sg P m a Q k b L ln lc R rc T) => l1Args A Q n c k kc sg b q _ w' (G.s.more G.low) (G.qb.more G.low) hn hk hs hqk hj' (by omega))
  obtain ⟨b1, o1, x, hPe, hb1, hx, ex⟩ := G0.pa.spot hpm
  obtain ⟨b2, o2, y, hQe, hb2, hy, ey⟩ := G0.qb.spot hqk
  have hxy2 : x = y := by rw [← ex.out, ← ey.out]; exact hxy
  rw [ex.out] at h0
  have EX := Lib.hid ex.out
  subst hxy2
  have hlx : (argsL sg a p).length = arN sg a p := by unfold argsL arN; rw [places_len]
  have hly : (argsL sg b q).length = arN sg a p := by rw [← eN]; unfold argsL arN; rw [places_len]
  have h3 := argsL_len (t := a) hs p
  have HC := Lib.hid (fun (X Y : Option Addr) (xn xc yn yc i : Nat) (L' R' : Option Addr) (ln' lc' rc' : Nat) (O : Option Addr) (on oc : Nat) (g : List Int) (T' : Tb) wr (H : Hr w wr lo A n c sg P m a Q k b L R ln p q T x X xn xc Y yn yc i L' R' ln' lc' rc' O on oc g T') (hi : i < arN sg a p) => by
    obtain ⟨j1, q1, q2, q3⟩ := arg_sub hj hi
    obtain ⟨j2, q4, q5, q6⟩ := arg_sub hj' (by rw [eN]; exact hi)
    have u1 := upto_len (sg := sg) (t := a) (p := p) (k := i)
    have u2 := upto_len (sg := sg) (t := b) (p := q) (k := i)
    have u3 := gs_len H.ga
    have u4 := argP_ge (sg := sg) (t := a) i (p + 1)
    exact IH L' R' ln' lc' rc' (argP sg a i (p + 1)) (argP sg b i (q + 1)) j1 j2 T' wr.drew H.s.drew H.pa.drew H.qb.drew (H.t.next (drewN_below wr 1)) (Nat.le_trans H.le H.two.size) (gs_bnd H.ga hT (by omega) (by omega)) (by omega) q1 q4 (by omega))
  have HPX := Lib.hid (fun i (hi : i < arN sg a p) => (show (argsL sg a p).getD i 0 = (argP sg a i (p + 1) : Int) from places_get hi))
  have HPY := Lib.hid (fun i (hi : i < arN sg a p) => (show (argsL sg b q).getD i 0 = (argP sg b i (q + 1) : Int) from places_get (by rw [← eN] at hi; exact hi)))
  have HPB := Lib.hid (fun i (hi : i < arN sg a p) => (show argP sg a i (p + 1) ≤ 1048576 ∧ argP sg b i (q + 1) ≤ 1048576 from by
    obtain ⟨j1, q1, q2, q3⟩ := arg_sub hj hi
    obtain ⟨j2, q4, q5, q6⟩ := arg_sub hj' (by rw [eN]; exact hi)
    exact ⟨by omega, by omega⟩))
  subst hPe hQe
  have i0 : (0 : Int) ≤ (p : Int) := by omega
  have i1 : (p : Int) < (m : Int) := by omega
  have j0 : (0 : Int) ≤ (q : Int) := by omega
  have j1 : (q : Int) < (k : Int) := by omega
  have HW := Lib.hid hW
  have HTM := Lib.hid (show T.length ≤ 1048576 by omega)
  have har : arN sg a p ≤ 3 := by omega
  generalize hu : subL sg a p = u at *
  generalize hv : subL sg b q = v at *
  have HLA := Lib.hid la
  have HLU : Hid (∀ i, (subL sg a i).length ≤ a.length) := Lib.hid (fun i => by unfold subL; rw [List.length_take, List.length_drop]; omega)
  clear hW h hp hq ht ex ey hT hj hj' s2 s3 hu hv la lb hs IH hxy ea eb hTj hN h3
  have HLX := Lib.hid hlx
  have HLY := Lib.hid hly
  clear hlx hly eN
  generalize arN sg a p = aN at *
  go_enter Try.func118, Try.ntmps118
  go_wp2_with fail
  rw [← HW.out]
  go_quiet (fail)
  have bd := drewN_below W nq
  have G1 := G0.next bd
  have hx1 : (W.drewN nq).cell? ⟨b1, o1 + p, none⟩ = some (.int .i64 x) := hx
  clear G0 hx hy HW bd
  generalize W.drewN nq = w1 at *
  have G1z := Lib.hid G1.bel.size
  have B2 : Below w1.heap.size w1 (w1.alloc (.cells #[.int .i64 x] 2)) := (Below.refl _ _).alloc (Nat.le_refl _) _
  have G2 := G1.next B2
  have O2 := one_own w1 w.heap.size x G1.bel.size
  have c2 : (w1.alloc (.cells #[.int .i64 x] 2)).cell? ⟨w.heap.size, 0, none⟩ = some (.slice A n c) := G2.c0
  have z2 : (w1.alloc (.cells #[.int .i64 x] 2)).heap.size = w1.heap.size + 1 := by simp
  have L2 := Lib.hid (LP.out _ G2)
  clear LP
  go_wp2_with fail
  refine L2.out.mono ?_
  rintro e w3 ⟨X, xn, xc, rfl, ox, bb⟩
  have G3 := G2.next bb
  have O3 := Own.next O2 bb
  have z3 := bb.size
  clear G1 G2 O2 c2 bb L2 hx1 B2
  have c3 := G3.c0
  go_wp2_with fail
  refine (LQ.out w3 G3).mono ?_
  rintro e w4 ⟨Y, yn, yc, rfl, oy, bb⟩
  have G4 := G3.next bb
  have O4 := Own.next O3 bb
  have ox4 := Own.next ox bb
  have hxn : xn = aN := by rw [Own.len ox, HLX.out]
  have hyn : yn = aN := by rw [Own.len oy, HLY.out]
  have gx := (ownRow ox)
  have gy := (ownRow oy)
  have zw := G1z.out
  have z4 := bb.size
  have H0 : Hr w w4 lo A n c sg (some ⟨b1, o1, none⟩) m a (some ⟨b2, o2, none⟩) k b L R ln p q T x X xn xc Y yn yc 0 L R ln lc rc (some ⟨w1.heap.size, 0, none⟩) 1 1 [] T := by
    refine ⟨G4.r0, G4.s, G4.pa, G4.qb, G4.t, G4.le, Two.of_below G4.bel, fun k h _ => h, fun k h _ => h, Own.lower ox4 (by omega), Own.lower oy (by omega), O4, fun z hz e => ?_, fun z hz e => ?_, ga_zero, fun Z hZ a1 a2 => ⟨avSame G4.bel T0.out.l.top a1, avSame G4.bel T0.out.r.top a2⟩, Avoid.fresh (T0.out.l.next G4.bel) (fun z hz => ?_), Avoid.fresh (T0.out.r.next G4.bel) (fun z hz => ?_)⟩
    · have hz : w1.heap.size = z := Option.some.inj hz
      have := (gx z e).2.1
      omega
    · have hz : w1.heap.size = z := Option.some.inj hz
      have := (gy z e).2.1
      omega
    · have hz : w1.heap.size = z := Option.some.inj hz
      omega
    · have hz : w1.heap.size = z := Option.some.inj hz
      omega
  have HS := Lib.hid (show HeadR w lo A n c sg (some ⟨b1, o1, none⟩) m a (some ⟨b2, o2, none⟩) k b L R ln p q T x X xn xc Y yn yc (.slice L ln lc) (.slice R ln rc) (.slice (some ⟨w1.heap.size, 0, none⟩) 1 1) (.int .i64 0) w4 from ⟨0, L, R, ln, lc, rc, _, 1, 1, [], T, Nat.zero_le _, rfl, rfl, rfl, rfl, H0⟩)
  clear H0 G3 G4 O3 O4 ox ox4 oy gx gy bb c3 z2 z3 z4 zw LQ T0 G1z
  go_wp2_with fail
  go_loopw [5, 6, 17, 20] (fun l r o i wr => HeadR w lo A n c sg (some ⟨b1, o1, none⟩) m a (some ⟨b2, o2, none⟩) k b L R ln p q T x X xn xc Y yn yc l r o i wr) (fun _ _ _ i _ => xn - (intOf i).toNat)
  case atStart => exact HS.out
  case round =>
    obtain ⟨i, L', R', ln', lc', rc', O, on, oc, g, T', hi, rfl, rfl, rfl, rfl, H⟩ := hrel
    clear HS
    by_cases hlt : i < xn
    · have i3 : (0 : Int) ≤ (i : Int) := by omega
      have i4 : (i : Int) < (xn : Int) := by omega
      have i5 : (i : Int) < (yn : Int) := by omega
      obtain ⟨bX, oX, vX, hXe, hbX, cX, eX⟩ := (Own.seg H.ox).spot hlt
      obtain ⟨bY, oY, vY, hYe, hbY, cY, eY⟩ := (Own.seg H.oy).spot (k := i) (by omega)
      rw [show vX = (argP sg a i (p + 1) : Int) by rw [← eX.out]; exact HPX.out i (by omega)] at cX
      rw [show vY = (argP sg b i (q + 1) : Int) by rw [← eY.out]; exact HPY.out i (by omega)] at cY
      have CL := Lib.hid (HC.out X Y xn xc yn yc i L' R' ln' lc' rc' O on oc g T' wr H (by omega))
      have c0 : wr.cell? ⟨w.heap.size, 0, none⟩ = some (.slice A n c) := H.r0.cell 0
      have hon : on ≤ 1048577 := by
        have e1 := Own.len H.oo
        have e2 := gs_glen H.ga
        have e3 := (upto_len (sg := sg) (t := a) (p := p) (k := i)).2
        have e4 := HLA.out
        simp only [List.length_cons] at e1
        omega
      have KC := Lib.hid (fun w5 (h : Two wr.drew w5 L' R') => cells H (two_drew h))
      have KO := Lib.hid (fun w5 (h : Two wr.drew w5 L' R') => (two_drew h).own H.oo H.t.rowL H.t.rowR)
      have hzz := H.two.size
      have HH := Lib.hid H
      have hb := HPB.out i (by omega)
      subst hXe hYe
      clear H eX eY
      generalize hpx : argP sg a i (p + 1) = px at *
      generalize hpy : argP sg b i (q + 1) = py at *
      have HPX' := Lib.hid hpx
      have HPY' := Lib.hid hpy
      clear hpx hpy
      go_wp2_with fail
      go_region_held3 (fun w' => w'.cell? ⟨w.heap.size, 0, none⟩ = some (.slice A n c) ∧ w'.cell? ⟨bX, oX + i, none⟩ = some (.int .i64 (px : Int)) ∧ w'.cell? ⟨bY, oY + i, none⟩ = some (.int .i64 (py : Int)))
        (go_keep)
        (first
          | (go_at_call 118; refine CL.out.mono ?_; rintro e w5 ⟨g', T2, O2, L2, R2, on2, oc2, n2, lc2, rc2, rfl, ho2, hgs2, ht2, htwo, hl2, hr2, hav2⟩; have c0' : w5.cell? ⟨w.heap.size, 0, none⟩ = some (.slice A n c) := (KC.out _ htwo).1; have cX' : w5.cell? ⟨bX, oX + i, none⟩ = some (.int .i64 (px : Int)) := ((KC.out _ htwo).2.1 _ _ _ rfl).trans cX; have cY' : w5.cell? ⟨bY, oY + i, none⟩ = some (.int .i64 (py : Int)) := ((KC.out _ htwo).2.2 _ _ _ rfl).trans cY))
      have hgp := gs_pos hgs2
      have hgl := gs_glen hgs2
      have hul := HLU.out px
      have hla := HLA.out
      have e2 := Own.len ho2
      have oo5 := KO.out _ htwo
      have z5 := htwo.size
      have hbase : w.heap.size ≤ w5.heap.size := by
        have e5 : wr.heap.size ≤ w5.heap.size := z5
        omega
      have STEP := Lib.hid (fun (O' : Option Addr) (on' oc' : Nat) w6 (ho6 : Own w6 w.heap.size (.slice O' on' oc') ((x :: g) ++ g')) (hg6 : w5.grownBy w6 (blk O)) (hat6 : blk O' = blk O ∨ blk O' = some w5.heap.size) => HH.out.step (by rw [HPX'.out, HPY'.out]; exact hgs2) ht2 (two_drew htwo) hl2 hr2 hav2 ho6 hg6 hat6)
      clear hgs2 hl2 hr2 hav2 ht2 htwo KC KO HH CL HC c0 c0' cX cX' cY cY'
      go_wp2_with (at_builtin; go_must (refine appAllAt rfl _ _ rfl w.heap.size O on oc (x :: g) rfl oo5 O2 on2 oc2 w5.heap.size g' rfl (Own.seg ho2) (by omega) (by omega) (by omega) hbase ?_; intro O' oc' w6 ho6 hg6 hat6))
      have S := Lib.hid (show HeadR w lo A n c sg (some ⟨b1, o1, none⟩) m a (some ⟨b2, o2, none⟩) k b L R ln p q T x (some ⟨bX, oX, none⟩) xn xc (some ⟨bY, oY, none⟩) yn yc (.slice L2 n2 lc2) (.slice R2 n2 rc2) (.slice O' (on + on2) oc') (.int .i64 ((i : Int) + 1)) w6 from ⟨i + 1, L2, R2, n2, lc2, rc2, O', on + on2, oc', g ++ g', T2, hlt, rfl, rfl, rfl, by simp, STEP.out _ _ _ _ ho6 hg6 hat6⟩)
      clear STEP ho6 hg6 hat6 oo5 ho2
      go_wp2
      go_roundw
      case rel => rw [← e2]; exact S.out
      case measure => simp [intOf]; omega
    · obtain rfl : i = xn := by omega
      have hga := H.ga
      rw [hxn] at hga
      have hgs := GD.out g T' hga
      rw [EX.out] at hgs
      have F := Lib.hid (show AnsGen sg w lo L R ln T u v (.returned (.tuple #[.slice O on oc, .slice L' ln' lc', .slice R' ln' rc'])) wr from ⟨x :: g, T', O, L', R', on, oc, ln', lc', rc', rfl, H.oo, hgs, H.t, H.two, H.hl, H.hr, H.av⟩)
      clear hga hgs H GD HC
      go_wp2
      go_ret3
      exact F.out
end Go.Proofs.Ytkmhnkljigncmaa.genMain
end

section
/-
  CONTRACTS: spec.SameSubst, impl.SameSubst. Conditions: the slices read as lists ('Seg', 'Segs'), at most 1048576 values. (The regions' walks by wip/tools/reg.py.) By an AI agent.
-/
namespace Go.Proofs.Ytkmhnkljigncmaa.sameSubst
open Go.RowKit Go.Proofs.Ytkmhnkljigncmaa.base Go.Proofs.Ytkmhnkljigncmaa.ints Go.Proofs.Ytkmhnkljigncmaa.sig Go.Proofs.Ytkmhnkljigncmaa.same Go.Proofs.Ytkmhnkljigncmaa.marks Go.Proofs.Ytkmhnkljigncmaa.sym Go.Proofs.Ytkmhnkljigncmaa.segs Go.Proofs.Ytkmhnkljigncmaa.segsHelp Go.Proofs.Ytkmhnkljigncmaa.kinds Go.Proofs.Ytkmhnkljigncmaa.varsOf Go.Proofs.Ytkmhnkljigncmaa.fillMath Go.Proofs.Ytkmhnkljigncmaa.look Go.Proofs.Ytkmhnkljigncmaa.substOk Go.Proofs.Ytkmhnkljigncmaa.gives
set_option maxRecDepth 100000

/-- what SameSubst answers -/
def sameG (a b : List (List Int)) : Bool := (List.range 24).all fun i => decide (givesL a i = givesL b i)
def sameB (sg : List Int) (a b : List (List Int)) : Bool := substOkB sg a && (substOkB sg b && sameG a b)
theorem sameG_yes {a b : List (List Int)} (h : ∀ i, i < 24 → givesL a i = givesL b i) : sameG a b = true := by
  unfold sameG
  rw [List.all_eq_true]
  intro i hi
  exact decide_eq_true (h i (List.mem_range.1 hi))
theorem sameG_no {a b : List (List Int)} {i : Nat} (hi : i < 24) (h : givesL a i ≠ givesL b i) : sameG a b = false := by
  cases e : sameG a b with
  | false => rfl
  | true =>
    unfold sameG at e
    rw [List.all_eq_true] at e
    exact absurd (of_decide_eq_true (e i (List.mem_range.2 hi))) h
theorem sameG_iff {a b : List (List Int)} : sameG a b = true ↔ ∀ i, i < 24 → givesL a i = givesL b i := by
  refine ⟨fun e i hi => ?_, sameG_yes⟩
  unfold sameG at e
  rw [List.all_eq_true] at e
  exact of_decide_eq_true (e i (List.mem_range.2 hi))
theorem same_a {sg : List Int} {a b : List (List Int)} (h : substOkB sg a = false) : sameB sg a b = false := by unfold sameB; rw [h, Bool.false_and]
theorem same_b {sg : List Int} {a b : List (List Int)} (h : substOkB sg b = false) : sameB sg a b = false := by unfold sameB; rw [h, Bool.false_and, Bool.and_false]
theorem same_ab {sg : List Int} {a b : List (List Int)} (h : substOkB sg a = true) (h' : substOkB sg b = true) : sameB sg a b = sameG a b := by unfold sameB; rw [h, h', Bool.true_and, Bool.true_and]
/-- three boxes -/
theorem boxesSS (w : World) (A : Option Addr) (n c : Nat) (S : Option Addr) (m c' : Nat) (T : Option Addr) (q cq : Nat) : ∃ W, W = ((w.alloc (.cells #[.slice A n c] 26)).alloc (.cells #[.slice S m c'] 31)).alloc (.cells #[.slice T q cq] 31) ∧
    Row W w.heap.size 26 #[.slice A n c] ∧ Row W (w.heap.size + 1) 31 #[.slice S m c'] ∧ Row W (w.heap.size + 2) 31 #[.slice T q cq] ∧ Below w.heap.size w W := by
  obtain ⟨W, hW, r1, r2, b⟩ := boxes2 w A n c S m c'
  have hz : W.heap.size = w.heap.size + 2 := by rw [hW]; simp
  refine ⟨_, rfl, ?_, ?_, ?_, ?_⟩
  · rw [← hW]; exact r1.alloc _
  · rw [← hW]; exact r2.alloc _
  · rw [← hW, ← hz]; exact Row.new _ _ _
  · rw [← hW]; exact b.alloc b.size _

theorem gives_each {ss : List (List Int)} (h : ∀ j, (ss.getD j []).length ≤ 1048576) (i : Nat) : (givesL ss i).length ≤ 1048576 := by
  unfold givesL
  split
  · simp [vt]
  · exact h i
theorem lookupB (S : Option Addr) (m c : Nat) (w : World) :
    Calls Try.prog 72 #[.agg #[.slice S m c]] w fun e w' => e = .returned (.func (.func 112) #[] #[.pointer (some ⟨w.heap.size, 0, none⟩)]) ∧ Row w' w.heap.size 31 #[.slice S m c] ∧ Below w.heap.size w w' :=
  (lookupIn S m c w).mono fun _ _ ⟨he, hw⟩ => ⟨he, by rw [hw]; exact Row.new _ _ _, by rw [hw]; exact (Below.refl _ _).alloc (Nat.le_refl _) _⟩

/-- the head of both loops: the boxes of the two substitutions lie at b1 and b2 -/
def HeadSS (w : World) (b1 b2 : Nat) (S : Option Addr) (m c : Nat) (T : Option Addr) (q cq : Nat) (xa xb : List (List Int)) (i : Value) (wr : World) : Prop :=
  ∃ k : Nat, k ≤ 24 ∧ i = .int .i64 k ∧ (∀ j, j < k → givesL xa j = givesL xb j) ∧ Row wr b1 31 #[.slice S m c] ∧ Row wr b2 31 #[.slice T q cq] ∧ Below w.heap.size w wr
theorem headSS_step {w wr w2 : World} {b1 b2 m c q cq k : Nat} {S T : Option Addr} {xa xb : List (List Int)} (hk : k < 24) (h : ∀ j, j < k → givesL xa j = givesL xb j) (he : givesL xa k = givesL xb k)
    (r1 : Row wr b1 31 #[.slice S m c]) (r2 : Row wr b2 31 #[.slice T q cq]) (hb : Below w.heap.size w wr) (bb : Below wr.heap.size wr w2) : HeadSS w b1 b2 S m c T q cq xa xb (.int .i64 ((k : Int) + 1)) w2 :=
  ⟨k + 1, hk, by simp, fun j hj => by
    by_cases e : j = k
    · rw [e]; exact he
    · exact h j (by omega), r1.next bb, r2.next bb, next_trans hb bb⟩

set_option maxHeartbeats 8000000 in
theorem specSameSubst (A S T : Option Addr) (n c m c' q cq : Nat) (sg : List Int) (xa xb : List (List Int)) (w : World) (h : Seg w w.heap.size A n sg) (h' : Segs w w.heap.size S m xa) (h2 : Segs w w.heap.size T q xb) (hn : n ≤ 1048576) (ht : tot xa ≤ 1048576) (ht2 : tot xb ≤ 1048576) :
    Calls Try.prog 16 #[.agg #[.slice A n c], .agg #[.slice S m c'], .agg #[.slice T q cq]] w (AnsB w (sameB sg xa xb)) := by
  obtain ⟨W, hW, rA, rS, rT, bel⟩ := boxesSS w A n c S m c' T q cq
  have HW := Lib.hid hW
  have hm : m ≤ 1048576 := tot_len h'.1 ht
  have hq : q ≤ 1048576 := tot_len h2.1 ht2
  have HE1 := Lib.hid (tot_each ht)
  have HE2 := Lib.hid (tot_each ht2)
  have HT1 := Lib.hid ht
  have HT2 := Lib.hid ht2
  have s := h.next bel
  have s1 := h'.next bel
  have s2 := h2.next bel
  have L := Lib.hid (specSubstOk A S n c m c' sg xa W s s1 hn ht)
  clear hW ht ht2
  cases hok : substOkB sg xa with
  | false =>
    have HS := Lib.hid hok
    clear hok s s1 s2 h h' h2
    go_enter Try.func16, Try.ntmps16
    go_wp2_with fail
    rw [← HW.out]
    refine L.out.mono ?_
    rintro e w1 ⟨he, bb⟩
    rw [HS.out] at he
    subst he
    have F := Lib.hid (ansB (b := sameB sg xa xb) (a := false) (by rw [same_a HS.out]) (next_trans bel bb))
    clear bb bel rA rS rT
    go_wp2
    go_ret
    exact F.out
  | true =>
    have HS := Lib.hid hok
    clear hok
    go_enter Try.func16, Try.ntmps16
    go_wp2_with fail
    rw [← HW.out]
    refine L.out.mono ?_
    rintro e w1 ⟨he, bb⟩
    rw [HS.out] at he
    subst he
    replace s := s.next bb
    replace s1 := s1.next bb
    replace s2 := s2.next bb
    replace rA := rA.next bb
    replace rS := rS.next bb
    replace rT := rT.next bb
    replace bel := next_trans bel bb
    have cA : w1.cell? ⟨w.heap.size, 0, none⟩ = some (.slice A n c) := rA.cell 0
    have cT : w1.cell? ⟨w.heap.size + 2, 0, none⟩ = some (.slice T q cq) := rT.cell 0
    have L2 := Lib.hid (specSubstOk A T n c q cq sg xb w1 s s2 hn HT2.out)
    clear bb L
    cases hok2 : substOkB sg xb with
    | false =>
      have HS2 := Lib.hid hok2
      clear hok2 s s1 s2 h h' h2
      go_wp2_with fail
      refine L2.out.mono ?_
      rintro e w2 ⟨he, bb⟩
      rw [HS2.out] at he
      subst he
      have F := Lib.hid (ansB (b := sameB sg xa xb) (a := false) (by rw [same_b HS2.out]) (next_trans bel bb))
      clear bb bel rA rS rT cA cT L2
      go_wp2
      go_ret
      exact F.out
    | true =>
      have HS2 := Lib.hid hok2
      clear hok2
      go_wp2_with fail
      refine L2.out.mono ?_
      rintro e w2 ⟨he, bb⟩
      rw [HS2.out] at he
      subst he
      replace s1 := s1.next bb
      replace s2 := s2.next bb
      replace rS := rS.next bb
      replace rT := rT.next bb
      replace bel := next_trans bel bb
      clear bb L2 cA cT rA s
      have H0 : HeadSS w (w.heap.size + 1) (w.heap.size + 2) S m c' T q cq xa xb (.int .i64 0) w2 := ⟨0, Nat.zero_le _, rfl, fun j hj => absurd hj (Nat.not_lt_zero _), rS, rT, bel⟩
      have HH := Lib.hid H0
      clear H0 s1 s2 rS rT bel
      go_wp2_with fail
      go_loopw [7] (fun i wr => HeadSS w (w.heap.size + 1) (w.heap.size + 2) S m c' T q cq xa xb i wr) (fun i _ => 24 - (intOf i).toNat)
      case atStart => exact HH.out
      case round =>
        obtain ⟨k, hk, rfl, hlow, r1, r2, hb⟩ := hrel
        clear HH
        have HLOW := Lib.hid hlow
        clear hlow
        by_cases hlt : k < 24
        · have i0 : (0 : Int) ≤ (k : Int) := by omega
          have cS : wr.cell? ⟨w.heap.size + 1, 0, none⟩ = some (.slice S m c') := r1.cell 0
          have cT : wr.cell? ⟨w.heap.size + 2, 0, none⟩ = some (.slice T q cq) := r2.cell 0
          have LG := Lib.hid (l2Gives S m c' xa k wr.drew (((h'.below hb).more hb.size).drew) HT1.out (by omega))
          have t2 := (((h2.below hb).more hb.size).drew)
          have rd1 := r1.drew
          have rd2 := r2.drew
          have hya : (givesL xa k).length ≤ 1048576 := gives_each HE1.out k
          have hyb : (givesL xb k).length ≤ 1048576 := gives_each HE2.out k
          obtain ⟨ya, hya2⟩ : ∃ ya, givesL xa k = ya := ⟨_, rfl⟩
          rw [hya2] at LG hya
          have HYA := Lib.hid hya2
          clear hya2 h h' h2
          obtain ⟨z, hz⟩ : ∃ z, decide (ya = givesL xb k) = z := ⟨_, rfl⟩
          have HZ := Lib.hid hz
          clear hz
          go_wp2_with fail
          refine wp_region_held_drew (S := (fun w' => w'.cell? ⟨w.heap.size + 1, 0, none⟩ = some (.slice S m c') ∧ w'.cell? ⟨w.heap.size + 2, 0, none⟩ = some (.slice T q cq))) (by kernel_rfl) ⟨cS, cT⟩ (fun hHeld => ?_)
          refine wpAnyH_take (i := 0) (v := ?_) rfl (by kernel_rfl) (by kernel_rfl) (by kernel_rfl) (fun _ _ _ h => h) (Or.inl ⟨by rfl, ?_⟩) (by assumption) ?_
          rotate_left 1
          · (intro w0 hSw; (try dsimp only at hSw); go_simp; try with_reducible rfl)
          try simp only [Act.put, List.setIfInBounds_toArray, List.set_cons_zero, List.set_cons_succ, List.getElem_toArray, List.getElem_cons_zero, List.getElem_cons_succ]
          refine wpAnyH_take (i := 1) (v := ?_) rfl (by kernel_rfl) (by kernel_rfl) (by kernel_rfl) (fun _ _ _ h => h) (Or.inl ⟨by rfl, ?_⟩) (by assumption) ?_
          rotate_left 1
          · (intro w0 hSw; (try dsimp only at hSw); go_simp; try with_reducible rfl)
          try simp only [Act.put, List.setIfInBounds_toArray, List.set_cons_zero, List.set_cons_succ, List.getElem_toArray, List.getElem_cons_zero, List.getElem_cons_succ]
          refine wpAnyH_take (i := 3) (v := ?_) rfl (by kernel_rfl) (by kernel_rfl) (by kernel_rfl) (fun _ _ _ h => h) (Or.inl ⟨by rfl, ?_⟩) (by assumption) ?_
          rotate_left 1
          · (intro w0 hSw; (try dsimp only at hSw); go_simp; try with_reducible rfl)
          try simp only [Act.put, List.setIfInBounds_toArray, List.set_cons_zero, List.set_cons_succ, List.getElem_toArray, List.getElem_cons_zero, List.getElem_cons_succ]
          refine wpAnyH_take (i := 4) (v := ?_) rfl (by kernel_rfl) (by kernel_rfl) (by kernel_rfl) (fun _ _ _ h => h) (Or.inl ⟨by rfl, ?_⟩) (by assumption) ?_
          rotate_left 1
          · (intro w0 hSw; (try dsimp only at hSw); go_simp; try with_reducible rfl)
          try simp only [Act.put, List.setIfInBounds_toArray, List.set_cons_zero, List.set_cons_succ, List.getElem_toArray, List.getElem_cons_zero, List.getElem_cons_succ]
          refine wpAnyH_ready (rs := [2]) (by kernel_rfl) (by simp) (AllReadyH.cons rfl (fun K hK => ?_) AllReadyH.nil)
          go_simp
          refine LG.out.mono ?_; rintro e w3 ⟨X, xn, xc, rfl, oa, b1⟩; have u1 := rd1.next b1; have u2 := rd2.next b1; have x1 : w3.cell? ⟨w.heap.size + 1, 0, none⟩ = some (.slice S m c') := u1.cell 0; have x2 : w3.cell? ⟨w.heap.size + 2, 0, none⟩ = some (.slice T q cq) := u2.cell 0; go_wp2_with fail
          refine hK.out _ _ ?_ (fun hHeld => ?_)
          · first | assumption | (dsimp only; assumption) | exact ⟨by assumption, by assumption⟩
          clear hK K
          try simp only [Act.put, List.setIfInBounds_toArray, List.set_cons_zero, List.set_cons_succ, List.getElem_toArray, List.getElem_cons_zero, List.getElem_cons_succ]
          refine wpAnyH_ready (rs := [5]) (by kernel_rfl) (by simp) (AllReadyH.cons rfl (fun K hK => ?_) AllReadyH.nil)
          go_simp
          refine (l2Gives T q cq xb k w3 (t2.next b1) HT2.out (by omega)).mono ?_; rintro e w4 ⟨Y, yn, yc, rfl, ob, b2⟩; have oa2 := oa.next b2; have v1 := u1.next b2; have v2 := u2.next b2; have x1 : w4.cell? ⟨w.heap.size + 1, 0, none⟩ = some (.slice S m c') := v1.cell 0; have x2 : w4.cell? ⟨w.heap.size + 2, 0, none⟩ = some (.slice T q cq) := v2.cell 0; go_wp2_with fail
          refine hK.out _ _ ?_ (fun hHeld => ?_)
          · first | assumption | (dsimp only; assumption) | exact ⟨by assumption, by assumption⟩
          clear hK K
          try simp only [Act.put, List.setIfInBounds_toArray, List.set_cons_zero, List.set_cons_succ, List.getElem_toArray, List.getElem_cons_zero, List.getElem_cons_succ]
          refine wpAnyH_ready (rs := [6]) (by kernel_rfl) (by simp) (AllReadyH.cons rfl (fun K hK => ?_) AllReadyH.nil)
          go_simp
          refine (specSame X Y xn yn xc yc ya (givesL xb k) w4 (Own.seg oa2) (Own.seg ob) (by rw [Own.len oa]; exact hya) (by rw [Own.len ob]; exact hyb)).mono ?_; rintro e w5 ⟨he, d, rfl⟩; rw [HZ.out] at he; subst he; have x1 : (w4.drewN d).cell? ⟨w.heap.size + 1, 0, none⟩ = some (.slice S m c') := (v1.drewN d).cell 0; have x2 : (w4.drewN d).cell? ⟨w.heap.size + 2, 0, none⟩ = some (.slice T q cq) := (v2.drewN d).cell 0; go_wp2_with fail
          refine hK.out _ _ ?_ (fun hHeld => ?_)
          · first | assumption | (dsimp only; assumption) | exact ⟨by assumption, by assumption⟩
          clear hK K
          try simp only [Act.put, List.setIfInBounds_toArray, List.set_cons_zero, List.set_cons_succ, List.getElem_toArray, List.getElem_cons_zero, List.getElem_cons_succ]
          refine wpAnyH_take (i := 7) (v := ?_) rfl (by kernel_rfl) (by kernel_rfl) (by kernel_rfl) (fun _ _ _ h => h) (Or.inl ⟨by rfl, ?_⟩) (by assumption) ?_
          rotate_left 1
          · (intro w0 hSw; (try dsimp only at hSw); go_simp; try with_reducible rfl)
          try simp only [Act.put, List.setIfInBounds_toArray, List.set_cons_zero, List.set_cons_succ, List.getElem_toArray, List.getElem_cons_zero, List.getElem_cons_succ]
          refine wpAnyH_done (by kernel_rfl) ?_ _
          have HB : Hid (Below wr.heap.size wr (w4.drewN d)) := Lib.hid (next_trans (drew_below wr) (next_trans b1 (next_trans b2 (drewN_below _ d))))
          clear b1 b2 oa oa2 ob u1 u2 v1 v2 x1 x2 cS cT rd1 rd2 t2 LG
          cases z with
          | true =>
            have S1 := Lib.hid (headSS_step (xa := xa) (xb := xb) hlt HLOW.out (HYA.out.trans (of_decide_eq_true HZ.out)) r1 r2 hb HB.out)
            clear r1 r2 hb
            go_wp2
            go_roundw
            case rel => exact S1.out
            case measure => simp [intOf]; omega
          | false =>
            have F := Lib.hid (ansB (b := sameB sg xa xb) (a := false) (by rw [same_ab HS.out HS2.out, sameG_no hlt (by rw [HYA.out]; exact of_decide_eq_false HZ.out)]) (next_trans hb HB.out))
            clear r1 r2 hb
            go_wp2
            go_ret
            exact F.out
        · have F := Lib.hid (ansB (b := sameB sg xa xb) (a := true) (by rw [same_ab HS.out HS2.out, sameG_yes (fun i hi => HLOW.out i (by omega))]) hb)
          clear r1 r2 hb h h' h2
          go_wp2
          go_ret
          exact F.out

set_option maxHeartbeats 8000000 in
theorem implSameSubst (A S T : Option Addr) (n c m c' q cq : Nat) (sg : List Int) (xa xb : List (List Int)) (w : World) (h : Seg w w.heap.size A n sg) (h' : Segs w w.heap.size S m xa) (h2 : Segs w w.heap.size T q xb) (hn : n ≤ 1048576) (ht : tot xa ≤ 1048576) (ht2 : tot xb ≤ 1048576) :
    Calls Try.prog 24 #[.agg #[.slice A n c], .agg #[.slice S m c'], .agg #[.slice T q cq]] w (AnsB w (sameB sg xa xb)) := by
  obtain ⟨W, hW, rA, rS, rT, bel⟩ := boxesSS w A n c S m c' T q cq
  have HW := Lib.hid hW
  have hm : m ≤ 1048576 := tot_len h'.1 ht
  have hq : q ≤ 1048576 := tot_len h2.1 ht2
  have HE1 := Lib.hid (tot_each ht)
  have HE2 := Lib.hid (tot_each ht2)
  have HT1 := Lib.hid ht
  have HT2 := Lib.hid ht2
  have s := h.next bel
  have s1 := h'.next bel
  have s2 := h2.next bel
  have L := Lib.hid (implSubstOk A S n c m c' sg xa W s s1 hn ht)
  clear hW ht ht2
  cases hok : substOkB sg xa with
  | false =>
    have HS := Lib.hid hok
    clear hok s s1 s2 h h' h2
    go_enter Try.func24, Try.ntmps24
    go_wp2_with fail
    rw [← HW.out]
    refine L.out.mono ?_
    rintro e w1 ⟨he, bb⟩
    rw [HS.out] at he
    subst he
    have F := Lib.hid (ansB (b := sameB sg xa xb) (a := false) (by rw [same_a HS.out]) (next_trans bel bb))
    clear bb bel rA rS rT
    go_wp2
    go_ret
    exact F.out
  | true =>
    have HS := Lib.hid hok
    clear hok
    go_enter Try.func24, Try.ntmps24
    go_wp2_with fail
    rw [← HW.out]
    refine L.out.mono ?_
    rintro e w1 ⟨he, bb⟩
    rw [HS.out] at he
    subst he
    replace s := s.next bb
    replace s1 := s1.next bb
    replace s2 := s2.next bb
    replace rA := rA.next bb
    replace rS := rS.next bb
    replace rT := rT.next bb
    replace bel := next_trans bel bb
    have cA : w1.cell? ⟨w.heap.size, 0, none⟩ = some (.slice A n c) := rA.cell 0
    have cT : w1.cell? ⟨w.heap.size + 2, 0, none⟩ = some (.slice T q cq) := rT.cell 0
    have L2 := Lib.hid (implSubstOk A T n c q cq sg xb w1 s s2 hn HT2.out)
    clear bb L
    cases hok2 : substOkB sg xb with
    | false =>
      have HS2 := Lib.hid hok2
      clear hok2 s s1 s2 h h' h2
      go_wp2_with fail
      refine L2.out.mono ?_
      rintro e w2 ⟨he, bb⟩
      rw [HS2.out] at he
      subst he
      have F := Lib.hid (ansB (b := sameB sg xa xb) (a := false) (by rw [same_b HS2.out]) (next_trans bel bb))
      clear bb bel rA rS rT cA cT L2
      go_wp2
      go_ret
      exact F.out
    | true =>
      have HS2 := Lib.hid hok2
      clear hok2
      go_wp2_with fail
      refine L2.out.mono ?_
      rintro e w2 ⟨he, bb⟩
      rw [HS2.out] at he
      subst he
      replace s1 := s1.next bb
      replace s2 := s2.next bb
      replace rS := rS.next bb
      replace rT := rT.next bb
      replace bel := next_trans bel bb
      clear bb L2 cA cT rA s
      have cS : w2.cell? ⟨w.heap.size + 1, 0, none⟩ = some (.slice S m c') := rS.cell 0
      have cT : w2.cell? ⟨w.heap.size + 2, 0, none⟩ = some (.slice T q cq) := rT.cell 0
      have d1 := rS.drew
      have d2 := rT.drew
      have sd1 := s1.drew
      have sd2 := s2.drew
      have bd := bel.drew
      clear rS rT s1 s2 bel
      go_wp2_with fail
      refine wp_region_held_drew (S := (fun w' => w'.cell? ⟨w.heap.size + 1, 0, none⟩ = some (.slice S m c') ∧ w'.cell? ⟨w.heap.size + 2, 0, none⟩ = some (.slice T q cq))) (by kernel_rfl) ⟨cS, cT⟩ (fun hHeld => ?_)
      refine wpAnyH_take (i := 0) (v := ?_) rfl (by kernel_rfl) (by kernel_rfl) (by kernel_rfl) (fun _ _ _ h => h) (Or.inl ⟨by rfl, ?_⟩) (by assumption) ?_
      rotate_left 1
      · (intro w0 hSw; (try dsimp only at hSw); go_simp; try with_reducible rfl)
      try simp only [Act.put, List.setIfInBounds_toArray, List.set_cons_zero, List.set_cons_succ, List.getElem_toArray, List.getElem_cons_zero, List.getElem_cons_succ]
      refine wpAnyH_take (i := 2) (v := ?_) rfl (by kernel_rfl) (by kernel_rfl) (by kernel_rfl) (fun _ _ _ h => h) (Or.inl ⟨by rfl, ?_⟩) (by assumption) ?_
      rotate_left 1
      · (intro w0 hSw; (try dsimp only at hSw); go_simp; try with_reducible rfl)
      try simp only [Act.put, List.setIfInBounds_toArray, List.set_cons_zero, List.set_cons_succ, List.getElem_toArray, List.getElem_cons_zero, List.getElem_cons_succ]
      refine wpAnyH_ready (rs := [1]) (by kernel_rfl) (by simp) (AllReadyH.cons rfl (fun K hK => ?_) AllReadyH.nil)
      go_simp
      refine (lookupB S m c' w2.drew).mono ?_; rintro e w3 ⟨rfl, ra, b3⟩; have u1 := d1.next b3; have u2 := d2.next b3; have x1 : w3.cell? ⟨w.heap.size + 1, 0, none⟩ = some (.slice S m c') := u1.cell 0; have x2 : w3.cell? ⟨w.heap.size + 2, 0, none⟩ = some (.slice T q cq) := u2.cell 0; go_wp2_with fail
      refine hK.out _ _ ?_ (fun hHeld => ?_)
      · first | assumption | (dsimp only; assumption) | exact ⟨by assumption, by assumption⟩
      clear hK K
      try simp only [Act.put, List.setIfInBounds_toArray, List.set_cons_zero, List.set_cons_succ, List.getElem_toArray, List.getElem_cons_zero, List.getElem_cons_succ]
      refine wpAnyH_ready (rs := [3]) (by kernel_rfl) (by simp) (AllReadyH.cons rfl (fun K hK => ?_) AllReadyH.nil)
      go_simp
      refine (lookupB T q cq w3).mono ?_; rintro e w4 ⟨rfl, rb, b4⟩; have x1 : w4.cell? ⟨w.heap.size + 1, 0, none⟩ = some (.slice S m c') := (u1.next b4).cell 0; have x2 : w4.cell? ⟨w.heap.size + 2, 0, none⟩ = some (.slice T q cq) := (u2.next b4).cell 0; clear u1 u2; go_wp2_with fail
      refine hK.out _ _ ?_ (fun hHeld => ?_)
      · first | assumption | (dsimp only; assumption) | exact ⟨by assumption, by assumption⟩
      clear hK K
      try simp only [Act.put, List.setIfInBounds_toArray, List.set_cons_zero, List.set_cons_succ, List.getElem_toArray, List.getElem_cons_zero, List.getElem_cons_succ]
      refine wpAnyH_take (i := 4) (v := ?_) rfl (by kernel_rfl) (by kernel_rfl) (by kernel_rfl) (fun _ _ _ h => h) (Or.inl ⟨by rfl, ?_⟩) (by assumption) ?_
      rotate_left 1
      · (intro w0 hSw; (try dsimp only at hSw); go_simp; try with_reducible rfl)
      try simp only [Act.put, List.setIfInBounds_toArray, List.set_cons_zero, List.set_cons_succ, List.getElem_toArray, List.getElem_cons_zero, List.getElem_cons_succ]
      refine wpAnyH_take (i := 5) (v := ?_) rfl (by kernel_rfl) (by kernel_rfl) (by kernel_rfl) (fun _ _ _ h => h) (Or.inl ⟨by rfl, ?_⟩) (by assumption) ?_
      rotate_left 1
      · (intro w0 hSw; (try dsimp only at hSw); go_simp; try with_reducible rfl)
      try simp only [Act.put, List.setIfInBounds_toArray, List.set_cons_zero, List.set_cons_succ, List.getElem_toArray, List.getElem_cons_zero, List.getElem_cons_succ]
      refine wpAnyH_done (by kernel_rfl) ?_ _
      have H0 : HeadSS w w2.heap.size w3.heap.size S m c' T q cq xa xb (.int .i64 0) w4 := ⟨0, Nat.zero_le _, rfl, fun j hj => absurd hj (Nat.not_lt_zero _), ra.next b4, rb, next_trans (next_trans bd b3) b4⟩
      have HH := Lib.hid H0
      have G1 := Lib.hid ((sd1.next b3).next b4)
      have G2 := Lib.hid ((sd2.next b3).next b4)
      clear H0 sd1 sd2 d1 d2 bd b3 b4 ra rb cS cT x1 x2
      go_wp2_with fail
      go_loopw [24] (fun i wr => HeadSS w w2.heap.size w3.heap.size S m c' T q cq xa xb i wr) (fun i _ => 24 - (intOf i).toNat)
      case atStart => exact HH.out
      case round =>
        obtain ⟨k, hk, rfl, hlow, r1, r2, hb⟩ := hrel
        clear HH
        have HLOW := Lib.hid hlow
        clear hlow
        by_cases hlt : k < 24
        · have i0 : (0 : Int) ≤ (k : Int) := by omega
          have LA : Calls Try.prog 112 #[.int .i64 (k : Int), .pointer (some ⟨w2.heap.size, 0, none⟩)] wr (AnsLook wr.heap.size wr (givesL xa k)) := lookSubst w2.heap.size S m c' xa wr r1 ((h'.below hb).more hb.size) hm wr k (Below.refl _ _) hlt
          have t2 := (h2.below hb).more hb.size
          have hya : (givesL xa k).length ≤ 1048576 := gives_each HE1.out k
          have hyb : (givesL xb k).length ≤ 1048576 := gives_each HE2.out k
          obtain ⟨ya, hya2⟩ : ∃ ya, givesL xa k = ya := ⟨_, rfl⟩
          rw [hya2] at LA hya
          have HYA := Lib.hid hya2
          clear hya2 h h' h2
          obtain ⟨z, hz⟩ : ∃ z, decide (ya = givesL xb k) = z := ⟨_, rfl⟩
          have HZ := Lib.hid hz
          clear hz
          replace LA := Lib.hid LA
          go_wp2_with fail
          refine LA.out.mono ?_
          rintro e w5 ⟨X, xn, xc, rfl, oa, -, -, b1⟩
          have LB : Calls Try.prog 112 #[.int .i64 (k : Int), .pointer (some ⟨w3.heap.size, 0, none⟩)] w5 (AnsLook w5.heap.size w5 (givesL xb k)) := lookSubst w3.heap.size T q cq xb w5 (r2.next b1) (t2.next b1) hq w5 k (Below.refl _ _) hlt
          replace LB := Lib.hid LB
          clear t2
          go_wp2_with fail
          refine LB.out.mono ?_
          rintro e w6 ⟨Y, yn, yc, rfl, ob, -, -, b2⟩
          have oa2 := oa.next b2
          go_wp2_with fail
          refine (implSame X Y xn yn xc yc ya (givesL xb k) w6 oa2 ob (by rw [← oa.1]; exact hya) (by rw [← ob.1]; exact hyb)).mono ?_
          rintro e w7 ⟨he, d, rfl⟩
          rw [HZ.out] at he
          subst he
          have HB := Lib.hid (next_trans b1 (next_trans b2 (drewN_below _ d)))
          clear b1 b2 oa oa2 ob LA LB
          cases z with
          | true =>
            have S1 := Lib.hid (headSS_step (xa := xa) (xb := xb) hlt HLOW.out (HYA.out.trans (of_decide_eq_true HZ.out)) r1 r2 hb HB.out)
            clear r1 r2 hb
            go_wp2
            go_roundw
            case rel => exact S1.out
            case measure => simp [intOf]; omega
          | false =>
            have F := Lib.hid (ansB (b := sameB sg xa xb) (a := false) (by rw [same_ab HS.out HS2.out, sameG_no hlt (by rw [HYA.out]; exact of_decide_eq_false HZ.out)]) (next_trans hb HB.out))
            clear r1 r2 hb
            go_wp2
            go_ret
            exact F.out
        · have F := Lib.hid (ansB (b := sameB sg xa xb) (a := true) (by rw [same_ab HS.out HS2.out, sameG_yes (fun i hi => HLOW.out i (by omega))]) hb)
          clear r1 r2 hb h h' h2
          go_wp2
          go_ret
          exact F.out
end Go.Proofs.Ytkmhnkljigncmaa.sameSubst
end

section
/-
  PLAIN MATHEMATICS of plain substitutions: the plain form is valid, replaces in the same way, and is unique; of compositions: they are valid and fill as one after the other. Conditions: those named. By an AI agent.
-/
namespace Go.Proofs.Ytkmhnkljigncmaa.plainFacts
open Go.RowKit Go.Proofs.Ytkmhnkljigncmaa.base Go.Proofs.Ytkmhnkljigncmaa.ints Go.Proofs.Ytkmhnkljigncmaa.sig Go.Proofs.Ytkmhnkljigncmaa.term Go.Proofs.Ytkmhnkljigncmaa.termOk Go.Proofs.Ytkmhnkljigncmaa.termFacts Go.Proofs.Ytkmhnkljigncmaa.fillMath Go.Proofs.Ytkmhnkljigncmaa.plainMath Go.Proofs.Ytkmhnkljigncmaa.plainOf Go.Proofs.Ytkmhnkljigncmaa.substOk Go.Proofs.Ytkmhnkljigncmaa.gives Go.Proofs.Ytkmhnkljigncmaa.sameSubst Go.Proofs.Ytkmhnkljigncmaa.compMath Go.Proofs.Ytkmhnkljigncmaa.filled

/-- a plain form gives what its look-up gives -/
theorem gives_plain {L : Nat → List Int} {m i : Nat} (hpos : ∀ i, 1 ≤ (L i).length) (hout : ∀ i, m ≤ i → L i = vt i) : givesL (plainL L m) i = L i := by
  have e := plain_get L m i
  by_cases h : i < m
  · rw [rows_get h] at e
    unfold bare at e
    by_cases h2 : L i = vt i
    · rw [if_pos h2] at e
      rw [gives_var (by rw [e]; rfl), h2]
    · rw [if_neg h2] at e
      rw [gives_term (by rw [e]; have := hpos i; omega), e]
  · have e0 : (rowsL L m).getD i [] = [] := by simp [List.getD, rows_len, h]
    rw [e0] at e
    rw [gives_var (by rw [e]; rfl), hout i (by omega)]
theorem plain_gives {ss : List (List Int)} (i : Nat) : givesL (plainL (givesL ss) ss.length) i = givesL ss i :=
  gives_plain (fun j => gives_pos ss j) (fun j hj => gives_out (by omega))
/-- a plain form is valid, if its look-up gives terms -/
theorem plain_valid {sg : List Int} {L : Nat → List Int} {m : Nat} (hs : sigOkB sg = true) (hm : m ≤ 24) (hok : ∀ i, i < m → termOkB sg (L i) = true) : substOkB sg (plainL L m) = true := by
  have hl := plain_len L m
  refine subst_good hs (by omega) (fun j hj => ?_)
  rw [plain_get, rows_get (by omega)]
  unfold bare goodB
  split
  · simp
  · rw [hok j (by omega)]
    simp
theorem plain_ok {sg : List Int} {ss : List (List Int)} (h : substOkB sg ss = true) : substOkB sg (plainL (givesL ss) ss.length) = true :=
  plain_valid (substOk_parts h).1 (substOk_parts h).2.1 (fun i hi => gives_ok h (by have := (substOk_parts h).2.1; omega))
theorem plain_eq_24 {ss : List (List Int)} (h : ss.length ≤ 24) : plainL (givesL ss) ss.length = plainL (givesL ss) 24 := (plain_24 h (fun i hi => gives_out (by omega))).symm
/-- two valid substitutions replace in the same way if and only if their plain forms are equal -/
theorem plain_iff {sg : List Int} {a b : List (List Int)} (ha : substOkB sg a = true) (hb : substOkB sg b = true) : sameB sg a b = decide (plainL (givesL a) a.length = plainL (givesL b) b.length) := by
  rw [same_ab ha hb]
  by_cases h : sameG a b = true
  · rw [h]
    symm
    rw [decide_eq_true_eq, plain_eq_24 (substOk_parts ha).2.1, plain_eq_24 (substOk_parts hb).2.1]
    exact plain_ext (fun i hi => sameG_iff.1 h i hi)
  · have h0 : sameG a b = false := by simpa using h
    rw [h0]
    symm
    rw [decide_eq_false_iff_not]
    intro e
    refine h (sameG_iff.2 (fun i _ => ?_))
    rw [← plain_gives (ss := a) i, ← plain_gives (ss := b) i, e]
theorem plain_self {sg : List Int} {a : List (List Int)} (ha : substOkB sg a = true) : sameB sg (plainL (givesL a) a.length) a = true := by
  rw [same_ab (plain_ok ha) ha]
  exact sameG_iff.2 (fun i _ => plain_gives i)
/-- nothing, or its last term is there -/
theorem plain_last (L : Nat → List Int) (m : Nat) : (plainL L m).length = 0 ∨ 0 < ((plainL L m).getD ((plainL L m).length - 1) []).length := by
  unfold plainL
  rcases strip_end (rowsL L m) with h | ⟨q, h1, h2⟩
  · exact .inl (by rw [h]; rfl)
  · refine .inr ?_
    rw [h1, Nat.add_sub_cancel]
    exact List.length_pos_iff.2 h2
/-- the composition, as a substitution -/
theorem comp_gives {sg : List Int} {ss us : List (List Int)} (h : composedB sg ss us = true) (i : Nat) : givesL (composedI sg ss us) i = if i < 24 then compL us ss i else vt i := by
  rw [composed_yes h]
  have hs : substOkB sg ss = true := by unfold composedB at h; simp at h; exact h.1
  have hu : substOkB sg us = true := by unfold composedB at h; simp at h; exact h.2.1
  have e : compL us ss = fun i => compL us ss i := rfl
  have h1 := gives_plain (L := compL us ss) (m := 24) (i := i) (fun j => comp_pos us ss j) (fun j hj => comp_out (by have := (substOk_parts hs).2.1; omega) (by have := (substOk_parts hu).2.1; omega))
  rw [h1]
  split
  · rfl
  · rename_i h2
    exact comp_out (by have := (substOk_parts hs).2.1; omega) (by have := (substOk_parts hu).2.1; omega)
theorem comp_ok {sg : List Int} {ss us : List (List Int)} (h : composedB sg ss us = true) : substOkB sg (composedI sg ss us) = true := by
  have hs : substOkB sg ss = true := by unfold composedB at h; simp at h; exact h.1
  have hu : substOkB sg us = true := by unfold composedB at h; simp at h; exact h.2.1
  have hc : compOk us ss = true := by unfold composedB at h; simp at h; exact h.2.2
  rw [composed_yes h]
  refine plain_valid (substOk_parts hs).1 (Nat.le_refl _) (fun i hi => ?_)
  unfold compL
  refine fill_term (gives_ok hs hi) (fun x hx h0 => gives_ok hu ?_) (compOk_iff.1 hc i hi)
  have := term_mem (gives_ok hs hi) hx
  omega
/-- filling by the composition is filling twice -/
theorem comp_fill {sg : List Int} {ss us : List (List Int)} {t : List Int} (h : composedB sg ss us = true) (ht : termOkB sg t = true) : fillL (givesL (composedI sg ss us)) t = fillL (givesL us) (fillL (givesL ss) t) := by
  rw [fill_fill]
  refine fill_ext (fun x hx h0 => ?_)
  rw [comp_gives h]
  have := term_mem ht hx
  rw [if_pos (by omega)]
  rfl
/-- both ways give the same -/
theorem comp_facts {sg : List Int} {ss us : List (List Int)} {t : List Int} (h : composedB sg ss us = true) (h1 : filledB sg ss t = true) (h2 : filledB sg us (filledL sg ss t) = true) :
    substOkB sg (composedI sg ss us) = true ∧ filledB sg (composedI sg ss us) t = true ∧ filledL sg (composedI sg ss us) t = filledL sg us (filledL sg ss t) := by
  have a1 : termOkB sg t = true := by unfold filledB at h1; simp at h1; exact h1.2.1
  have e1 : filledL sg ss t = fillL (givesL ss) t := by unfold filledL; rw [if_pos h1]
  have e2 : filledL sg us (filledL sg ss t) = fillL (givesL us) (fillL (givesL ss) t) := by unfold filledL; rw [if_pos (by have := h2; unfold filledL at this; exact this), if_pos h1]
  have a2 : fitsB us (filledL sg ss t) = true := by unfold filledB at h2; simp at h2; exact h2.2.2
  have hb : filledB sg (composedI sg ss us) t = true := by
    rw [filled_b (comp_ok h) a1]
    unfold fitsB at a2 ⊢
    rw [comp_fill h a1, ← e1]
    exact a2
  refine ⟨comp_ok h, hb, ?_⟩
  rw [e2]
  unfold filledL
  rw [if_pos hb]
  exact comp_fill h a1
end Go.Proofs.Ytkmhnkljigncmaa.plainFacts
end

section
/-
  PLAIN MATHEMATICS of renamed terms: a renamed term is a term, its variables are 0, 1, .., renamed again it stays. Conditions: none but those named. By an AI agent.
-/
namespace Go.Proofs.Ytkmhnkljigncmaa.renPure
open Go.Proofs.Ytkmhnkljigncmaa.sig Go.Proofs.Ytkmhnkljigncmaa.term Go.Proofs.Ytkmhnkljigncmaa.termOk Go.Proofs.Ytkmhnkljigncmaa.termFacts Go.Proofs.Ytkmhnkljigncmaa.varsMath Go.Proofs.Ytkmhnkljigncmaa.fillMath Go.Proofs.Ytkmhnkljigncmaa.renMath

theorem pigeon : ∀ (n : Nat) (l : List Nat), l.Nodup → (∀ x ∈ l, x < n) → l.length ≤ n
  | 0, l, _, h => by
    cases l with
    | nil => simp
    | cons a r => exact absurd (h a (List.mem_cons_self ..)) (Nat.not_lt_zero _)
  | n + 1, l, hd, h => by
    have h1 := pigeon n (l.erase n) (hd.erase n) (fun x hx => by
      have h2 := (hd.mem_erase_iff).1 hx
      have := h x h2.2
      omega)
    have h3 : l.length ≤ (l.erase n).length + 1 := by
      rw [List.length_erase]
      split <;> omega
    omega

theorem map_nodup {α β : Type} {f : α → β} : ∀ {l : List α}, l.Nodup → (∀ a ∈ l, ∀ b ∈ l, f a = f b → a = b) → (l.map f).Nodup
  | [], _, _ => List.nodup_nil
  | a :: r, h, hf => by
    have h1 := List.nodup_cons.1 h
    rw [List.map_cons, List.nodup_cons]
    refine ⟨fun hm => ?_, map_nodup h1.2 (fun x hx y hy => hf x (List.mem_cons_of_mem _ hx) y (List.mem_cons_of_mem _ hy))⟩
    obtain ⟨b, hb, e⟩ := List.mem_map.1 hm
    have := hf b (List.mem_cons_of_mem _ hb) a (List.mem_cons_self ..) e
    subst this
    exact h1.1 hb

/-- no more than 24 variables stand in a term -/
theorem order_24 {sg t : List Int} (h : termOkB sg t = true) : (orderL t).length ≤ 24 := by
  have h1 := pigeon 24 ((orderL t).map fun x => (-1 - x).toNat) (map_nodup (order_nodup t) (fun a ha b hb e => by
    have := (order_mem.1 ha).2
    have := (order_mem.1 hb).2
    omega)) (fun x hx => by
      obtain ⟨y, hy, rfl⟩ := List.mem_map.1 hx
      have h2 := order_mem.1 hy
      have h3 := term_mem h h2.1
      omega)
  simpa using h1

theorem ren_fill (t : List Int) (o : List Int) : fillL (fun i => vt (idx o (-1 - (i : Int)))) t = t.map (ren o) := by
  induction t with
  | nil => rfl
  | cons x r ih =>
    rw [fill_cons, ih, List.map_cons]
    unfold rep ren
    by_cases h : 0 ≤ x
    · rw [if_pos h, if_neg (by omega)]; rfl
    · rw [if_neg h, if_pos (by omega)]
      show vt (idx o (-1 - (((-1 - x).toNat : Nat) : Int))) ++ _ = _
      rw [show (-1 - (((-1 - x).toNat : Nat) : Int) : Int) = x by omega]
      rfl

theorem ren_ok {sg t : List Int} (h : termOkB sg t = true) : termOkB sg (renL t) = true := by
  have e : renL t = fillL (fun i => vt (idx (orderL t) (-1 - (i : Int)))) t := (ren_fill t (orderL t)).symm
  rw [e]
  refine fill_term h (fun x hx h0 => ?_) (by rw [← e, ren_len]; exact (term_len h).2)
  show termOkB sg (vt (idx (orderL t) (-1 - (((-1 - x).toNat : Nat) : Int)))) = true
  rw [show (-1 - (((-1 - x).toNat : Nat) : Int) : Int) = x by omega]
  refine var_term (term_parts h).1 ?_
  have h1 := idx_lt (order_mem.2 ⟨hx, h0⟩)
  have h2 := order_24 h
  omega

theorem ren_yes {o : List Int} {x : Int} (h : x < 0) : ren o x = -1 - (idx o x : Int) := by unfold ren; rw [if_pos h]
theorem ren_no {o : List Int} {x : Int} (h : ¬ x < 0) : ren o x = x := by unfold ren; rw [if_neg h]
theorem ren_neg {o : List Int} {x : Int} : ren o x < 0 ↔ x < 0 := by
  unfold ren
  split
  · omega
  · omega

theorem ren_inj {t : List Int} {a b : Int} (ha : a ∈ t) (hb : b ∈ t) (h : ren (orderL t) a = ren (orderL t) b) : a = b := by
  have n1 := @ren_neg (orderL t) a
  have n2 := @ren_neg (orderL t) b
  by_cases h0 : a < 0
  · have h1 : b < 0 := n2.1 (h ▸ n1.2 h0)
    unfold ren at h
    rw [if_pos h0, if_pos h1] at h
    have e : idx (orderL t) a = idx (orderL t) b := by omega
    have e1 := idx_get (order_mem.2 ⟨ha, h0⟩)
    have e2 := idx_get (order_mem.2 ⟨hb, h1⟩)
    rw [← e1, ← e2, e]
  · have h1 : ¬ b < 0 := fun hb0 => h0 (n1.1 (h ▸ n2.2 hb0))
    unfold ren at h
    rwa [if_neg h0, if_neg h1] at h

/-- the variables of a renamed term -/
theorem idx_map_on {f : Int → Int} {o : List Int} {x : Int} (hx : x ∈ o) (hf : ∀ a ∈ o, f a = f x → a = x) : idx (o.map f) (f x) = idx o x := by
  induction o with
  | nil => cases hx
  | cons y r ih =>
    rw [List.map_cons, idx, idx]
    by_cases h : y = x
    · rw [if_pos (by rw [h]), if_pos h]
    · rw [if_neg (fun e => h (hf y (List.mem_cons_self ..) e)), if_neg h]
      rcases List.mem_cons.1 hx with e | e
      · exact absurd e.symm h
      · rw [ih e (fun a ha => hf a (List.mem_cons_of_mem _ ha))]

theorem fold_map {f : Int → Int} {t : List Int} (hf : ∀ a ∈ t, ∀ b ∈ t, f a = f b → a = b) (hn : ∀ x, f x < 0 ↔ x < 0) : ∀ (l o : List Int), (∀ x ∈ l, x ∈ t) → (∀ x ∈ o, x ∈ t) → (l.map f).foldl extV (o.map f) = (l.foldl extV o).map f
  | [], _, _, _ => rfl
  | x :: l, o, hl, ho => by
    have hx := hl x (List.mem_cons_self ..)
    rw [List.map_cons, List.foldl_cons, List.foldl_cons]
    have e : extV (o.map f) (f x) = (extV o x).map f := by
      unfold extV
      by_cases h : x < 0
      · rw [if_pos ((hn x).2 h), if_pos h]
        unfold ext
        by_cases hm : x ∈ o
        · rw [if_pos hm, if_pos (List.mem_map.2 ⟨x, hm, rfl⟩)]
        · rw [if_neg hm, if_neg, List.map_append]
          · rfl
          · intro h2
            obtain ⟨y, hy, e⟩ := List.mem_map.1 h2
            exact hm (hf y (ho y hy) x hx e ▸ hy)
      · rw [if_neg (fun h2 => h ((hn x).1 h2)), if_neg h]
    rw [e]
    refine fold_map hf hn l (extV o x) (fun y hy => hl y (List.mem_cons_of_mem _ hy)) (fun y hy => ?_)
    rcases extV_mem.1 hy with ⟨rfl, _⟩ | h
    · exact hx
    · exact ho y h

theorem order_ren (t : List Int) : orderL (renL t) = (orderL t).map (ren (orderL t)) :=
  fold_map (t := t) (f := ren (orderL t)) (fun a ha b hb h => ren_inj ha hb h) (fun x => ren_neg) t [] (fun _ h => h) (fun x h => by cases h)

/-- renamed twice is renamed -/
theorem ren_ren (t : List Int) : renL (renL t) = renL t := by
  show (renL t).map (ren (orderL (renL t))) = renL t
  rw [order_ren]
  show (t.map (ren (orderL t))).map _ = t.map (ren (orderL t))
  rw [List.map_map]
  refine List.map_congr_left (fun x hx => ?_)
  show ren ((orderL t).map (ren (orderL t))) (ren (orderL t) x) = ren (orderL t) x
  by_cases h : x < 0
  · have h1 := (@ren_neg (orderL t) x).2 h
    have hm := order_mem.2 ⟨hx, h⟩
    have e := idx_map_on (f := ren (orderL t)) hm (fun a ha e => ren_inj (order_mem.1 ha).1 hx e)
    rw [ren_yes h1, e, ren_yes h]
  · have h1 : ¬ ren (orderL t) x < 0 := fun e => h (ren_neg.1 e)
    rw [ren_no h1]
end Go.Proofs.Ytkmhnkljigncmaa.renPure
end

section
/-
  PLAIN MATHEMATICS for the laws of chapter 5: what follows from what unification tells ('IsU'), from what generalisation tells ('IsG'), from what terms that are met tell ('met_facts'). Conditions: none. By an AI agent.
-/
namespace Go.Proofs.Ytkmhnkljigncmaa.unifLaw
open Go.Proofs.Ytkmhnkljigncmaa.sig Go.Proofs.Ytkmhnkljigncmaa.term Go.Proofs.Ytkmhnkljigncmaa.termOk Go.Proofs.Ytkmhnkljigncmaa.termFacts Go.Proofs.Ytkmhnkljigncmaa.endAt Go.Proofs.Ytkmhnkljigncmaa.sub Go.Proofs.Ytkmhnkljigncmaa.termMath Go.Proofs.Ytkmhnkljigncmaa.fillMath Go.Proofs.Ytkmhnkljigncmaa.posMath Go.Proofs.Ytkmhnkljigncmaa.renMath Go.Proofs.Ytkmhnkljigncmaa.renPure Go.Proofs.Ytkmhnkljigncmaa.segsHelp Go.Proofs.Ytkmhnkljigncmaa.substOk Go.Proofs.Ytkmhnkljigncmaa.gives Go.Proofs.Ytkmhnkljigncmaa.plainMath Go.Proofs.Ytkmhnkljigncmaa.plainOf Go.Proofs.Ytkmhnkljigncmaa.plainFacts Go.Proofs.Ytkmhnkljigncmaa.filled Go.Proofs.Ytkmhnkljigncmaa.sameSubst Go.Proofs.Ytkmhnkljigncmaa.compMath Go.Proofs.Ytkmhnkljigncmaa.matchMath Go.Proofs.Ytkmhnkljigncmaa.unifMath Go.Proofs.Ytkmhnkljigncmaa.genMath

/-! ### unification -/
theorem sub_gives {sg : List Int} {L : Nat → List Int} (h : Sub sg L) (i : Nat) : givesL (plainL L 24) i = L i := gives_plain h.pos h.out
theorem sub_valid {sg : List Int} {L : Nat → List Int} (hs : sigOkB sg = true) (h : Sub sg L) (he : ∀ i, (L i).length ≤ 60) : substOkB sg (plainL L 24) = true :=
  plain_valid hs (Nat.le_refl _) (fun i hi => term_mk hs (he i) (h.trm i hi))
theorem gives_sub {sg : List Int} {us : List (List Int)} (h : substOkB sg us = true) : Sub sg (givesL us) :=
  ⟨fun _ hi => (term_parts (gives_ok h hi)).2.2, fun i hi => gives_out (by have := (substOk_parts h).2.1; omega)⟩
theorem fill_plain {sg : List Int} {L : Nat → List Int} (h : Sub sg L) (t : List Int) : fillL (givesL (plainL L 24)) t = fillL L t := fill_ext (fun _ _ _ => sub_gives h _)
theorem filled_plain {sg : List Int} {L : Nat → List Int} {t : List Int} (h : Sub sg L) (hv : substOkB sg (plainL L 24) = true) (ht : termOkB sg t = true) (hl : (fillL L t).length ≤ 60) : filledB sg (plainL L 24) t = true ∧ filledL sg (plainL L 24) t = fillL L t := by
  have hb : filledB sg (plainL L 24) t = true := by
    rw [filled_b hv ht]
    unfold fitsB
    rw [fill_plain h]
    exact decide_eq_true hl
  exact ⟨hb, by unfold filledL; rw [if_pos hb]; exact fill_plain h t⟩
theorem filled_parts {sg : List Int} {us : List (List Int)} {t : List Int} (h : filledB sg us t = true) : substOkB sg us = true ∧ termOkB sg t = true ∧ filledL sg us t = fillL (givesL us) t ∧ (fillL (givesL us) t).length ≤ 60 := by
  have e : filledL sg us t = fillL (givesL us) t := by unfold filledL; rw [if_pos h]
  have hl := filled_len sg us t
  rw [e] at hl
  unfold filledB at h
  rw [Bool.and_eq_true, Bool.and_eq_true] at h
  exact ⟨h.1, h.2.1, e, hl⟩
theorem isU_each {sg a b : List Int} {v : Bool} {F : List (List Int)} (h : IsU sg a b v F) : tot F ≤ 1048576 := by
  rcases h with ⟨_, _, _, L, m, s, rfl⟩ | ⟨_, rfl, _⟩
  · have h3 := tot_le (plain_each (L := L) (m := 24) s.each)
    have h4 := plain_len L 24
    have h5 : (plainL L 24).length * 60 ≤ 24 * 60 := Nat.mul_le_mul_right _ h4
    omega
  · simp [tot, sumL]
/-- a substitution that makes both equal is there: so true is told -/
theorem isU_true {sg a b : List Int} {v : Bool} {F us : List (List Int)} (h : IsU sg a b v F) (h1 : filledB sg us a = true) (h2 : filledB sg us b = true) (he : filledL sg us a = filledL sg us b) : v = true := by
  obtain ⟨a1, a2, a3, a4⟩ := filled_parts h1
  obtain ⟨_, b2, b3, _⟩ := filled_parts h2
  rcases h with ⟨e, _⟩ | ⟨_, _, h⟩
  · exact e
  · rcases h with h | h | h
    · rw [a2] at h; cases h
    · rw [b2] at h; cases h
    · exact absurd ⟨⟨gives_sub a1, by rw [← a3, ← b3, he]⟩, gives_len a1, a4⟩ (h (givesL us))
/-- what true tells -/
theorem isU_facts {sg a b : List Int} {F : List (List Int)} (h : IsU sg a b true F) : substOkB sg F = true ∧ sameB sg F F = true ∧ filledB sg F a = true ∧ filledB sg F b = true ∧ filledL sg F a = filledL sg F b ∧ (composedB sg F F = true → sameB sg (composedI sg F F) F = true) ∧
    ∀ us, filledB sg us a = true → filledB sg us b = true → filledL sg us a = filledL sg us b → composedB sg F us = true → filledB sg (composedI sg F us) a = true ∧ filledL sg (composedI sg F us) a = filledL sg us a := by
  rcases h with ⟨_, h1, h2, L, m, s, rfl⟩ | ⟨e, _⟩
  · have hs := (term_parts h1).1
    have hv := sub_valid hs m.sub s.each
    obtain ⟨fa, la⟩ := filled_plain m.sub hv h1 s.all
    obtain ⟨fb, lb⟩ := filled_plain m.sub hv h2 (by rw [← m.eq]; exact s.all)
    refine ⟨hv, by unfold sameB; rw [hv, sameG_yes (fun _ _ => rfl)]; rfl, fa, fb, by rw [la, lb, m.eq], fun hc => ?_, fun us u1 u2 u3 hc => ?_⟩
    · rw [same_ab (comp_ok hc) hv]
      refine sameG_yes (fun i hi => ?_)
      rw [comp_gives hc, if_pos hi]
      unfold compL
      rw [fill_plain m.sub, sub_gives m.sub]
      exact fill_same (fun x hx h0 => m.ide i x hx h0)
    · obtain ⟨a1, _, a3, a4⟩ := filled_parts u1
      obtain ⟨_, _, b3, _⟩ := filled_parts u2
      have hU : Uni sg a b (givesL us) := ⟨gives_sub a1, by rw [← a3, ← b3, u3]⟩
      have e : fillL (givesL (composedI sg (plainL L 24) us)) a = fillL (givesL us) a := by
        rw [comp_fill hc h1, fill_plain m.sub]
        exact part_uni m.toPart hU a
      have hb : filledB sg (composedI sg (plainL L 24) us) a = true := by
        rw [filled_b (comp_ok hc) h1]
        unfold fitsB
        rw [e]
        exact decide_eq_true a4
      exact ⟨hb, by rw [a3]; unfold filledL; rw [if_pos hb]; exact e⟩
  · cases e
theorem isU_symm {sg a b : List Int} {v : Bool} {F : List (List Int)} (h : IsU sg a b v F) : IsU sg b a v F := by
  rcases h with ⟨e, h1, h2, L, m, s, hF⟩ | ⟨e, hF, h⟩
  · exact .inl ⟨e, h2, h1, L, m.symm, s.symm, hF⟩
  · exact .inr ⟨e, hF, by
      rcases h with h | h | h
      · exact .inr (.inl h)
      · exact .inl h
      · exact .inr (.inr (fun M hM => h M hM.symm))⟩

/-! ### generalisation -/
/-- what is told of two lists -/
def IsG (sg a b g : List Int) : Prop :=
  (termOkB sg a = true ∧ termOkB sg b = true ∧ ∃ G T', Gs sg [] 1 a b G T' ∧ g = if T'.length ≤ 24 then G else []) ∨ ((termOkB sg a = false ∨ termOkB sg b = false) ∧ g = [])
theorem isG_ex (sg a b : List Int) : ∃ g, IsG sg a b g := by
  cases h1 : termOkB sg a with
  | false => exact ⟨[], .inr ⟨.inl h1, rfl⟩⟩
  | true =>
    cases h2 : termOkB sg b with
    | false => exact ⟨[], .inr ⟨.inr h2, rfl⟩⟩
    | true =>
      obtain ⟨G, T', h⟩ := gs_ex (sg := sg) a.length (T := []) (Nat.le_refl _) (term_parts h1).2.2 (term_parts h2).2.2
      exact ⟨_, .inl ⟨h1, h2, G, T', h, rfl⟩⟩
theorem isG_one {sg a b g g' : List Int} (h : IsG sg a b g) (h' : IsG sg a b g') : g = g' := by
  rcases h with ⟨h1, h2, G, T', h, rfl⟩ | ⟨h, rfl⟩
  · rcases h' with ⟨_, _, G2, T2, h', rfl⟩ | ⟨h', _⟩
    · obtain ⟨rfl, rfl⟩ := gs_one h List.nodup_nil h'
      rfl
    · rcases h' with h' | h'
      · rw [h1] at h'; cases h'
      · rw [h2] at h'; cases h'
  · rcases h' with ⟨h1, h2, _⟩ | ⟨_, rfl⟩
    · rcases h with h | h
      · rw [h1] at h; cases h
      · rw [h2] at h; cases h
    · rfl
theorem isG_symm {sg a b g : List Int} (h : IsG sg a b g) : IsG sg b a g := by
  rcases h with ⟨h1, h2, G, T', h, e⟩ | ⟨h, e⟩
  · exact .inl ⟨h2, h1, G, _, gs_swap h, by rw [List.length_map]; exact e⟩
  · exact .inr ⟨h.symm, e⟩
theorem isG_len {sg a b g : List Int} (h : IsG sg a b g) : g.length ≤ 60 := by
  rcases h with ⟨h1, h2, G, T', h, rfl⟩ | ⟨_, rfl⟩
  · split
    · have ht := gs_gt h []
      rw [List.append_nil] at ht
      obtain ⟨f, _, hv⟩ := gt_fill ht
      have h3 : ∀ {l : List Int}, (∀ x ∈ l, x < 0 → 1 ≤ (f1 T' (vr x)).length) → l.length ≤ (fillL (f1 T') l).length := by
        intro l
        induction l with
        | nil => intro _; simp
        | cons x r ih =>
          intro hx
          have := ih (fun y hy => hx y (List.mem_cons_of_mem _ hy))
          rw [fill_cons, List.length_append, List.length_cons]
          by_cases h0 : 0 ≤ x
          · rw [rep_sym h0, List.length_singleton]; omega
          · rw [rep_vr (by omega)]
            have := hx x (List.mem_cons_self ..) (by omega)
            omega
      have h4 := h3 (fun x hx h0 => (hv x hx h0).2.1.pos)
      rw [f] at h4
      exact Nat.le_trans h4 (term_len h1).2
    · simp
  · simp
/-- what there is: both are instances, and of each common pattern it is one -/
theorem isG_facts {sg a b g : List Int} (h : IsG sg a b g) (hg : g ≠ []) : termOkB sg g = true ∧ instB sg g a = true ∧ instB sg g b = true ∧ ∀ p, instB sg p a = true → instB sg p b = true → instB sg p g = true := by
  have hl := isG_len h
  rcases h with ⟨h1, h2, G, T', h, e⟩ | ⟨_, e⟩
  · by_cases h24 : T'.length ≤ 24
    · rw [if_pos h24] at e
      subst e
      have ht := gs_gt h []
      rw [List.append_nil] at ht
      have tg : termOkB sg g = true := term_mk (term_parts h1).1 hl (gt_scan h24 ht)
      obtain ⟨fa, fb, hv⟩ := gt_fill ht
      refine ⟨tg, (inst_iff tg h1).2 ⟨f1 T', fa, fun x hx h0 => (hv x hx h0).2.1⟩, (inst_iff tg h2).2 ⟨f2 T', fb, fun x hx h0 => (hv x hx h0).2.2⟩, fun p p1 p2 => ?_⟩
      obtain ⟨hp, _⟩ := inst_ok p1
      obtain ⟨A, eA, hA⟩ := (inst_iff hp h1).1 p1
      obtain ⟨B, eB, hB⟩ := (inst_iff hp h2).1 p2
      -- look-ups that are terms everywhere
      have mk : ∀ C : Nat → List Int, (∀ x ∈ p, x < 0 → scan sg 1 (C (vr x)) = some (C (vr x)).length) → ∃ D, Sub sg D ∧ fillL D p = fillL C p := by
        intro C hC
        have hch : ∀ i, ∃ d, (i < 24 → Trm sg d) ∧ (24 ≤ i → d = vt i) ∧ (Trm sg (C i) → i < 24 → d = C i) := fun i => by
          by_cases hi : i < 24
          · by_cases ht : Trm sg (C i)
            · exact ⟨C i, fun _ => ht, fun h => absurd hi (by omega), fun _ _ => rfl⟩
            · exact ⟨vt i, fun _ => Trm.vt hi, fun _ => rfl, fun h _ => absurd h ht⟩
          · exact ⟨vt i, fun h => absurd h hi, fun _ => rfl, fun _ h => absurd h hi⟩
        refine ⟨fun i => (hch i).choose, ⟨fun i hi => (hch i).choose_spec.1 hi, fun i hi => (hch i).choose_spec.2.1 hi⟩, ?_⟩
        refine fill_ext (fun x hx h0 => ?_)
        have := term_mem hp hx
        exact (hch (vr x)).choose_spec.2.2 (hC x hx h0) (by unfold vr; omega)
      obtain ⟨A', sA, qA⟩ := mk A hA
      obtain ⟨B', sB, qB⟩ := mk B hB
      obtain ⟨M, hM⟩ := gt_least (gs_nodup h List.nodup_nil) sA sB
      obtain ⟨m1, m2⟩ := hM (p := p) (n := 1) (g := g) (term_parts hp).2.2 (by rw [qA, qB, eA, eB]; exact ht)
      exact (inst_iff hp tg).2 ⟨M, m1, fun x hx h0 => gt_scan h24 (m2 x hx h0)⟩
    · rw [if_neg h24] at e
      exact absurd e hg
  · exact absurd e hg

/-! ### terms that are met -/
/-- b is shifted by k; the filled term, renamed, is an instance of both -/
theorem met_facts {sg a b x : List Int} {k : Nat} {L : Nat → List Int} (hx : x = shiftL (k : Int) b) (ha : termOkB sg a = true) (hb : termOkB sg b = true) (hxo : termOkB sg x = true) (m : Mg sg a x L) (s : Short sg a x L) :
    instB sg a (renL (fillL L a)) = true ∧ instB sg b (renL (fillL L a)) = true ∧ renL (renL (fillL L a)) = renL (fillL L a) ∧ termOkB sg (renL (fillL L a)) = true := by
  have ht : termOkB sg (fillL L a) = true := term_mk (term_parts ha).1 s.all (m.sub.fill (term_parts ha).2.2)
  have hr := ren_ok ht
  have hv := inst_variant ht hr (ren_ren _).symm
  have i1 : instB sg a (fillL L a) = true := (inst_iff ha ht).2 ⟨L, rfl, fun y hy h0 => m.sub.trm _ (by have := term_mem ha hy; unfold vr; omega)⟩
  have i2 : instB sg b (fillL L a) = true := by
    have e : fillL L a = fillL (fun i => fillL L (vt (i + k))) b := by rw [← fill_fill, shift_fill, ← hx]; exact m.eq
    refine (inst_iff hb ht).2 ⟨_, e.symm, fun y hy h0 => ?_⟩
    show scan sg 1 (fillL L (vt (vr y + k))) = some (fillL L (vt (vr y + k))).length
    rw [fill_vti]
    have hy2 : sh (k : Int) y ∈ x := by rw [hx]; exact List.mem_map_of_mem hy
    have := term_mem hxo hy2
    exact m.sub.trm _ (by unfold sh at this; rw [if_pos h0] at this; unfold vr; omega)
  exact ⟨inst_trans i1 hv, inst_trans i2 hv, ren_ren _, hr⟩
end Go.Proofs.Ytkmhnkljigncmaa.unifLaw
end
