/-
  MERGED: my texts CompImpl, one behind the other, as they are. By an AI agent.
-/
import Derived.Test.YtghgnondlgdjdaaMFnExactComposed2
import Derived.Deep.DeepCutAuto
import Derived.Laws.NewBlocks
import Derived.Laws.EntriesVeiled
namespace Go.Proofs.Ytghgnondlgdjdaa
section
open Go.Lib (hid)
namespace compImpl
open Go.RowKit base ints sig cursor marks app appAt sym segs segsHelp kinds termFacts fillMath Go.Proofs.Ytghgnondlgdjdaa.look substOk gives shifted filled plainMath plain plainOf compMath compSpec thn
set_option maxRecDepth 100000
def AnsIdx (w : World) (xss : List (List Int)) (e : Ending) (w' : World) : Prop := w = w' ∧ ∃ z : Int, e = .returned (.int .i64 z) ∧ -1 ≤ z ∧ z ≤ 1048576 ∧ decide (0 ≤ z) = anyLong xss
def HeadIdx (w : World) (n : Nat) (xss : List (List Int)) (i : Value) (wr : World) : Prop := ∃ k : Nat, k ≤ n ∧ i = .int .i64 k ∧ (∀ j, j < k → ¬ 60 < (xss.getD j []).length) ∧ w = wr
set_option maxHeartbeats 2000000 in
theorem indexLong (A : Option Addr) (n c : Nat) (xss : List (List Int)) (w : World) (h : Segs w w.heap.size A n xss) (hn : n ≤ 1048576) (hE : ∀ j, (xss.getD j []).length ≤ 1048576) :
  Calls Try.prog 84 #[.slice A n c, .func (.func 61) #[] #[]] w (AnsIdx w xss) := by
 have HE := hid hE
 have HL := hid h.1
 have HH : Hid (HeadIdx w n xss (.int .i64 0) w) := hid ⟨0, Nat.zero_le _, rfl, fun j hj => absurd hj (Nat.not_lt_zero _), rfl⟩
 clear hE
 go_enter Try.func84, Try.ntmps84
 go_wp2_with fail
 go_loopw [8] (fun i wr => HeadIdx w n xss i wr) (fun i _ => n - (intOf i).toNat)
 case atStart => exact HH.out
 case round =>
  obtain ⟨k, hk, rfl, hlow, rfl⟩ := hrel
  have HLOW := hid hlow
  clear hlow HH
  by_cases hlt : k < n
  ·obtain ⟨b, off, A', n', cc, rfl, hbB, hx, hseg, hcap⟩ := h.spot hlt
   have hn' : n' ≤ 1048576 := by rw [← hseg.1]; exact HE.out k
   have HG := hid hseg.1
   have i0 : (0 : Int) ≤ (k : Int) := by omega
   have i1 : (k : Int) < (n : Int) := by omega
   clear hseg hcap h
   go_wp2_with fail
   refine (tooLong A' n' cc w (by omega)).mono ?_
   rintro e w' ⟨rfl, rfl⟩
   by_cases h60 : 60 < n'
   ·rw [decide_eq_true h60]
    have F : AnsIdx w xss (.returned (.int .i64 (k : Int))) w := ⟨rfl, k, rfl, by omega, by omega, by rw [decide_eq_true (by omega)]; exact (anyLong_iff.2 ⟨k, by rw [HG.out]; exact h60⟩).symm⟩
    have HF := hid F
    clear F hx
    go_wp2
    go_ret
    exact HF.out
   ·rw [decide_eq_false h60]
    have S1 : HeadIdx w n xss (.int .i64 ((k : Int) + 1)) w := ⟨k + 1, hlt, by simp, fun j hj => by
     by_cases e : j = k
     ·rw [e, HG.out]; exact h60
     ·exact HLOW.out j (by omega), rfl⟩
    have HS1 := hid S1
    clear S1 hx
    go_wp2
    go_roundw
    case rel => exact HS1.out
    case measure => simp [intOf]; omega
  ·have F : AnsIdx w xss (.returned (.int .i64 (-1))) w := ⟨rfl, -1, rfl, by omega, by omega, by
    cases e : anyLong xss with
    | false => rfl
    | true =>
     obtain ⟨i, hi⟩ := anyLong_iff.1 e
     by_cases hin : i < n
     ·exact absurd hi (HLOW.out i (by omega))
     ·rw [show xss.getD i [] = [] by simp [List.getD, HL.out, hin]] at hi
      simp at hi⟩
   have HF := hid F
   clear F h
   go_wp2
   go_ret
   exact HF.out
theorem containsLong (A : Option Addr) (n c : Nat) (xss : List (List Int)) (w : World) (h : Segs w w.heap.size A n xss) (hn : n ≤ 1048576) (hE : ∀ j, (xss.getD j []).length ≤ 1048576) :
  Calls Try.prog 60 #[.slice A n c, .func (.func 61) #[] #[]] w fun e w' => w = w' ∧ e = .returned (.bool (anyLong xss)) := by
 have L := hid (indexLong A n c xss w h hn hE)
 clear h hE
 go_enter Try.func60, Try.ntmps60
 go_wp2_with fail
 refine L.out.mono ?_
 rintro e w' ⟨rfl, z, rfl, h1, h2, hz⟩
 have HZ := hid hz
 clear hz L
 go_wp2
 go_ret
 exact ⟨rfl, by rw [← HZ.out]; rfl⟩
theorem lookBoth (b1 b2 l1 l2 : Nat) (S : Option Addr) (m c : Nat) (T : Option Addr) (q cq : Nat) (sg : List Int) (ss us : List (List Int)) (w wx : World) (hok : substOkB sg ss = true) (hok2 : substOkB sg us = true) (hb : Below w.heap.size w wx) (h : Segs w w.heap.size S m ss) (h' : Segs w w.heap.size T q us)
  (c1 : wx.cell? ⟨b1, 0, none⟩ = some (.func (.func 79) #[] #[.pointer (some ⟨l1, 0, none⟩)])) (c2 : wx.cell? ⟨b2, 0, none⟩ = some (.func (.func 79) #[] #[.pointer (some ⟨l2, 0, none⟩)]))
  (k1 : wx.cell? ⟨l1, 0, none⟩ = some (.slice S m c)) (k2 : wx.cell? ⟨l2, 0, none⟩ = some (.slice T q cq)) :
  Calls Try.prog 54 #[.func (.func 83) #[] #[.pointer (some ⟨b2, 0, none⟩), .pointer (some ⟨b1, 0, none⟩)]] wx (fun e w' => ∃ O on oc, e = .returned (.agg #[.slice O on oc]) ∧ Owns w' wx.heap.size w'.heap.size O on oc (plainL (compL us ss) 24) ∧ Below wx.heap.size wx w' ∧ Below w.heap.size w wx) := by
 have m24 : m ≤ 1048576 := by have := (substOk_parts hok).2.1; rw [h.1] at this; omega
 have q24 : q ≤ 1048576 := by have := (substOk_parts hok2).2.1; rw [h'.1] at this; omega
 have eq := enters_of Try.func79 (by kernel_rfl) rfl
 have no : ∀ {g : Nat} {lb : Array Value} {L : Nat → List Int}, Looks g lb wx L 24 → LooksE none g lb wx L 24 := fun h W i hg hi => h W i ⟨hg.os, hg.tape, hg.output, hg.size, fun k hk => hg.block k hk (by simp)⟩ hi
 have LK := lookThen none b1 b2 _ _ _ _ eq eq (givesL ss) (givesL us) wx (World.block_lt_of_cell? _ _ c1) (World.block_lt_of_cell? _ _ c2) (by simp) (by simp) c1 c2
  (no (lookSubstC l1 S m c ss wx (World.block_lt_of_cell? _ _ k1) k1 (h.next hb) m24)) (no (lookSubstC l2 T q cq us wx (World.block_lt_of_cell? _ _ k2) k2 (h'.next hb) q24)) (fun i _ => gives_len hok i) (fun i hi y hy => (term_mem (x := y) (gives_ok hok hi) hy).1) (fun i => Nat.le_trans (gives_len hok2 i) (by omega))
 exact (plain 83 _ (enters_of Try.func83 (by kernel_rfl) rfl) (compL us ss) wx LK.looks (comp_pos us ss) (fun i => Nat.le_trans (comp_len hok hok2 i) (by omega))).mono fun _ _ ⟨O, on, oc, e1, e2, e3⟩ => ⟨O, on, oc, e1, e2, e3, hb⟩
def Got (w : World) (F : List (List Int)) (p : Value) (wx : World) : Prop :=
 ∃ (b : Nat) (O : Option Addr) (on oc : Nat), p = .pointer (some ⟨b, 0, none⟩) ∧ Row wx b 30 #[.slice O on oc] ∧ Owns wx w.heap.size wx.heap.size O on oc F ∧ w.heap.size ≤ b ∧ Below w.heap.size w wx
theorem got_after {w w1 w2 : World} {F : List (List Int)} {O : Option Addr} {on oc : Nat} (b1 : Below w.heap.size w w1) (ho : Owns w2 w1.heap.size w2.heap.size O on oc F) (b2 : Below w1.heap.size w1 w2) : Got w F (.pointer (some ⟨w2.heap.size, 0, none⟩)) (w2.alloc (.cells #[.slice O on oc] 30)) :=
 have B : Below w2.heap.size w2 (w2.alloc (.cells #[.slice O on oc] 30)) := (Below.refl _ _).alloc (Nat.le_refl _) _
 ⟨_, O, on, oc, rfl, Row.new _ _ _, (ho.next B).wider b1.size (by simp), Nat.le_trans b1.size b2.size, next_trans b1 (next_trans b2 B)⟩
theorem got_ahead {w w1 w2 : World} {F : List (List Int)} {O : Option Addr} {on oc b : Nat} (b1 : Below w.heap.size w w1) (hb : w.heap.size ≤ b) (r2 : Row w2 b 30 #[.slice none 0 0]) (hlt : b < w1.heap.size) (ho : Owns w2 w1.heap.size w2.heap.size O on oc F) (b2 : Below w1.heap.size w1 w2) : Got w F (.pointer (some ⟨b, 0, none⟩)) (w2.setCell ⟨b, 0, none⟩ (.slice O on oc)) :=
 ⟨b, O, on, oc, rfl, by have := r2.put 0 (.slice O on oc); simpa using this, (owns_put ho r2 hlt 0 _).wider b1.size (by simp), hb, (next_trans b1 b2).setCell hb _⟩
theorem sz_alloc (w : World) (o : Obj) : (w.alloc o).heap.size = w.heap.size + 1 := by simp
theorem sz_drew (w : World) : w.drew.heap.size = w.heap.size := rfl
theorem row_top {w : World} {t : TypeId} {cs : Array Value} {n : Nat} (hn : n = w.heap.size) : Row (w.alloc (.cells cs t)) n t cs := by subst hn; exact Row.new _ _ _
theorem row_alloc {w : World} {o : Obj} {t : TypeId} {cs : Array Value} {n : Nat} (h : Row w n t cs) : Row (w.alloc o) n t cs := h.alloc o
theorem row_drew {w : World} {t : TypeId} {cs : Array Value} {n : Nat} (h : Row w n t cs) : Row w.drew n t cs := h.drew
theorem keep_alloc {w : World} {a : Addr} {v : Value} {o : Obj} (h : w.cell? a = some v) : (w.alloc o).cell? a = some v := (World.cell?_alloc_some w a o (by rw [h]; rfl)).trans h
theorem cell_top {w : World} {v : Value} {t : TypeId} {n : Nat} (hn : n = w.heap.size) : (w.alloc (.cells #[v] t)).cell? ⟨n, 0, none⟩ = some v := by subst hn; simp
theorem keep_set {w : World} {p a : Addr} {u v : Value} (hne : p.block ≠ a.block) (h : w.cell? a = some v) : (w.setCell p u).cell? a = some v := (World.cell?_setCell_far w p a u hne).trans h
set_option maxHeartbeats 8000000 in
theorem implComposed (A S T : Option Addr) (n c m c' q cq : Nat) (sg : List Int) (ss us : List (List Int)) (w : World) (h : Seg w w.heap.size A n sg) (h' : Segs w w.heap.size S m ss) (h2 : Segs w w.heap.size T q us) (hn : n ≤ 1048576) (ht : tot ss ≤ 1048576) (ht2 : tot us ≤ 1048576) :
  Calls Try.prog 23 #[.agg #[.slice A n c], .agg #[.slice S m c'], .agg #[.slice T q cq]] w (AnsSubB w (composedI sg ss us) (composedB sg ss us)) := by
 obtain ⟨W, hW, rA, r1, r2, r3, bel⟩ := boxes4 w A n c S m c' T q cq
 have HW := hid hW
 have HT2 := hid ht2
 have s := h.next bel
 have s1 := h'.next bel
 have s2 := h2.next bel
 have L := hid (implSubstOk A S n c m c' sg ss W s s1 hn ht)
 clear hW ht ht2 h h' h2
 cases hok : substOkB sg ss with
 | false =>
  have HS := hid hok
  clear hok s s1 s2
  go_enter Try.func23, Try.ntmps23
  go_wp2_with fail
  rw [← HW.out]
  refine L.out.mono ?_
  rintro e w1 ⟨he, bb⟩
  rw [HS.out] at he
  subst he
  replace r3 := r3.next bb
  replace bel := next_trans bel bb
  have cR : w1.cell? ⟨w.heap.size + 3, 0, none⟩ = some (.slice none 0 0) := r3.cell 0
  have fR : w1.frozen? ⟨w.heap.size + 3, 0, none⟩ = false := r3.free 0
  have F1 := hid (subB_no (sg := sg) (ss := ss) (us := us) (composed_s HS.out) bel)
  have F2 := hid (subB_no (sg := sg) (ss := ss) (us := us) (composed_s HS.out) ((bel).setCell (p := ⟨w.heap.size + 3, 0, none⟩) (by simp) (.slice none 0 0)))
  clear bb bel rA r1 r2 r3
  go_wp2
  first
   | exact bodyPost_ret (v := .tuple #[.agg #[.slice none 0 0], .bool false]) (by simp [results, Try.results23, go_sem, cR]) rfl F1.out
   | exact bodyPost_ret (v := .tuple #[.agg #[.slice none 0 0], .bool false]) (by simp [results, Try.results23, go_sem, cR]) rfl F2.out
 | true =>
  have HS := hid hok
  clear hok
  have hmf : ∀ (fn : Fn) (first cap : Array Value) (w : World), (Instr.makeFunc fn first cap).run Try.prog w = .ok (.func fn first cap) w := fun _ _ _ _ => rfl
  go_enter Try.func23, Try.ntmps23
  go_wp2_with fail
  rw [← HW.out]
  refine L.out.mono ?_
  rintro e w1 ⟨he, bb⟩
  rw [HS.out] at he
  subst he
  replace s := s.next bb
  replace s1 := s1.next bb
  replace s2 := s2.next bb
  replace rA := rA.next bb
  replace r1 := r1.next bb
  replace r2 := r2.next bb
  replace r3 := r3.next bb
  replace bel := next_trans bel bb
  have cA : w1.cell? ⟨w.heap.size, 0, none⟩ = some (.slice A n c) := rA.cell 0
  have cT : w1.cell? ⟨w.heap.size + 2, 0, none⟩ = some (.slice T q cq) := r2.cell 0
  have L2 := hid (implSubstOk A T n c q cq sg us w1 s s2 hn HT2.out)
  clear bb L rA
  cases hok2 : substOkB sg us with
  | false =>
   have HS2 := hid hok2
   clear hok2 s s1 s2
   go_wp2_with fail
   refine L2.out.mono ?_
   rintro e w2 ⟨he, bb⟩
   rw [HS2.out] at he
   subst he
   replace r3 := r3.next bb
   replace bel := next_trans bel bb
   have cR : w2.cell? ⟨w.heap.size + 3, 0, none⟩ = some (.slice none 0 0) := r3.cell 0
   have fR : w2.frozen? ⟨w.heap.size + 3, 0, none⟩ = false := r3.free 0
   have F1 := hid (subB_no (sg := sg) (ss := ss) (us := us) (composed_u HS2.out) bel)
   have F2 := hid (subB_no (sg := sg) (ss := ss) (us := us) (composed_u HS2.out) ((bel).setCell (p := ⟨w.heap.size + 3, 0, none⟩) (by simp) (.slice none 0 0)))
   clear bb bel r1 r2 r3 cA cT L2 hmf
   go_wp2
   first
    | exact bodyPost_ret (v := .tuple #[.agg #[.slice none 0 0], .bool false]) (by simp [results, Try.results23, go_sem, cR]) rfl F1.out
    | exact bodyPost_ret (v := .tuple #[.agg #[.slice none 0 0], .bool false]) (by simp [results, Try.results23, go_sem, cR]) rfl F2.out
  | true =>
   have HS2 := hid hok2
   clear hok2
   go_wp2_with fail
   refine L2.out.mono ?_
   rintro e w2 ⟨he, bb⟩
   rw [HS2.out] at he
   subst he
   replace s1 := s1.next bb
   replace s2 := s2.next bb
   replace r1 := r1.next bb
   replace r2 := r2.next bb
   replace r3 := r3.next bb
   replace bel := next_trans bel bb
   clear bb L2 cA cT s
   have cS : w2.cell? ⟨w.heap.size + 1, 0, none⟩ = some (.slice S m c') := r1.cell 0
   have cT : w2.cell? ⟨w.heap.size + 2, 0, none⟩ = some (.slice T q cq) := r2.cell 0
   have z1 := r1.lt
   have z2 := r2.lt
   clear r1 r2
   go_wp2_with fail
   have LKB := hid (fun (wx : World) (b1 b2 l1 l2 : Nat) (hb : Below w2.heap.size w2 wx) => lookBoth b1 b2 l1 l2 S m c' T q cq sg ss us w2 wx HS.out HS2.out hb s1 s2)
   go_cut [8] (fun p8 wx => Got w2 (plainL (compL us ss) 24) p8 wx)
   case first =>
    clear bel r3 s1 s2
    go_region_held3 (fun w' => w'.cell? ⟨w.heap.size + 1, 0, none⟩ = some (.slice S m c') ∧ w'.cell? ⟨w.heap.size + 2, 0, none⟩ = some (.slice T q cq))
     (((try simp only [World.cell?_drew]); (refine ⟨?_, ?_⟩ <;> (repeat (first | assumption | (with_reducible apply keep_alloc) | (refine keep_set (by first | (simp only [sz_alloc, sz_drew]; omega) | (simp; done) | (simp; omega)) ?_))))))
     (first
      | (go_at_call 53; refine (lookupIn _ _ _ _).mono ?_; rintro e w3 ⟨rfl, rfl⟩)
      | (go_at_call 59; refine (thenC _ _ _ _ _).mono ?_; rintro e w3 ⟨rfl, rfl⟩)
      | (go_at_call 54; refine (LKB.out _ _ _ ?_ ?_ ?_ ?_ ?_ ?_ ?_).mono ?_; rotate_left 3; (focus (simp only [World.cell?_drew]; (repeat (first | ((with_reducible refine cell_top ?_); (simp only [sz_alloc, sz_drew]; done)) | (with_reducible refine keep_alloc ?_))))); (focus (simp only [World.cell?_drew]; (repeat (first | ((with_reducible refine cell_top ?_); (simp only [sz_alloc, sz_drew]; done)) | (with_reducible refine keep_alloc ?_))))); (focus (simp only [World.cell?_drew]; (repeat (first | ((with_reducible refine cell_top ?_); (simp only [sz_alloc, sz_drew]; done)) | (with_reducible refine keep_alloc ?_))))); (focus (simp only [World.cell?_drew]; (repeat (first | ((with_reducible refine cell_top ?_); (simp only [sz_alloc, sz_drew]; done)) | (with_reducible refine keep_alloc ?_))))); rotate_right 1; (focus (repeat (first | (with_reducible exact Below.refl _ _) | (with_reducible refine Below.drew ?_) | (with_reducible refine Below.alloc ?_ (by first | omega | (simp only [sz_alloc, sz_drew]; omega)) _)))); rintro e w4 ⟨O, on, oc, rfl, ho, b4, hbx⟩; have y1 : w4.cell? ⟨w.heap.size + 1, 0, none⟩ = some (.slice S m c') := (b4.cell (p := ⟨w.heap.size + 1, 0, none⟩) (by first | omega | (simp only [sz_alloc, sz_drew]; omega))).trans (by simp only [World.cell?_drew]; repeat (first | exact cS | (with_reducible apply keep_alloc))); have y2 : w4.cell? ⟨w.heap.size + 2, 0, none⟩ = some (.slice T q cq) := (b4.cell (p := ⟨w.heap.size + 2, 0, none⟩) (by first | omega | (simp only [sz_alloc, sz_drew]; omega))).trans (by simp only [World.cell?_drew]; repeat (first | exact cT | (with_reducible apply keep_alloc))); (try (obtain ⟨q4, -⟩ : Row w4 (w2.heap.size) 30 #[.slice none 0 0] ∧ True; (focus ((refine ⟨Go.Proofs.Ytghgnondlgdjdaa.base.Row.next ?_ b4, trivial⟩); (repeat (first | ((with_reducible refine row_top ?_); (simp only [sz_alloc, sz_drew]; done)) | (with_reducible refine row_drew ?_) | (with_reducible refine row_alloc ?_))); done)); have y3 : w4.cell? ⟨w2.heap.size, 0, none⟩ = some (.slice none 0 0) := q4.cell 0; have y4 : w4.frozen? ⟨w2.heap.size, 0, none⟩ = false := q4.free 0)); (try (obtain ⟨q4, -⟩ : Row w4 (w2.heap.size + 1) 30 #[.slice none 0 0] ∧ True; (focus ((refine ⟨Go.Proofs.Ytghgnondlgdjdaa.base.Row.next ?_ b4, trivial⟩); (repeat (first | ((with_reducible refine row_top ?_); (simp only [sz_alloc, sz_drew]; done)) | (with_reducible refine row_drew ?_) | (with_reducible refine row_alloc ?_))); done)); have y3 : w4.cell? ⟨w2.heap.size + 1, 0, none⟩ = some (.slice none 0 0) := q4.cell 0; have y4 : w4.frozen? ⟨w2.heap.size + 1, 0, none⟩ = false := q4.free 0)); (try (obtain ⟨q4, -⟩ : Row w4 (w2.heap.size + 1 + 1) 30 #[.slice none 0 0] ∧ True; (focus ((refine ⟨Go.Proofs.Ytghgnondlgdjdaa.base.Row.next ?_ b4, trivial⟩); (repeat (first | ((with_reducible refine row_top ?_); (simp only [sz_alloc, sz_drew]; done)) | (with_reducible refine row_drew ?_) | (with_reducible refine row_alloc ?_))); done)); have y3 : w4.cell? ⟨w2.heap.size + 1 + 1, 0, none⟩ = some (.slice none 0 0) := q4.cell 0; have y4 : w4.frozen? ⟨w2.heap.size + 1 + 1, 0, none⟩ = false := q4.free 0)); (try (obtain ⟨q4, -⟩ : Row w4 (w2.heap.size + 1 + 1 + 1 + 1) 30 #[.slice none 0 0] ∧ True; (focus ((refine ⟨Go.Proofs.Ytghgnondlgdjdaa.base.Row.next ?_ b4, trivial⟩); (repeat (first | ((with_reducible refine row_top ?_); (simp only [sz_alloc, sz_drew]; done)) | (with_reducible refine row_drew ?_) | (with_reducible refine row_alloc ?_))); done)); have y3 : w4.cell? ⟨w2.heap.size + 1 + 1 + 1 + 1, 0, none⟩ = some (.slice none 0 0) := q4.cell 0; have y4 : w4.frozen? ⟨w2.heap.size + 1 + 1 + 1 + 1, 0, none⟩ = false := q4.free 0)); all_goals skip))
    all_goals
     go_wp2_with fail
     go_meet
     first
      | exact got_after hbx ho b4
      | exact got_ahead hbx (by omega) q4 (by simp only [sz_alloc, sz_drew]; omega) ho b4
   case rest =>
    rename World => wc
    obtain ⟨b, O, on, oc, rfl, rb, ho, hwb, b4⟩ := hcut
    have HE := hid (plain_each (L := compL us ss) (m := 24) (comp_len HS.out HS2.out))
    have HLN := hid (plain_len (compL us ss) 24)
    have AL := hid (anyLong_comp us ss)
    have CB := hid (composed_b HS.out HS2.out)
    have r4 := r3.next b4
    have hlt3 := r3.lt
    have bel5 := next_trans bel b4
    have hon : on ≤ 24 := by rw [← ho.len]; exact HLN.out
    have LC := hid (containsLong O on oc (plainL (compL us ss) 24) wc ho.segs (by omega) (fun j => Nat.le_trans (HE.out j) (by omega)))
    have cR : wc.cell? ⟨w.heap.size + 3, 0, none⟩ = some (.slice none 0 0) := r4.cell 0
    have fR : wc.frozen? ⟨w.heap.size + 3, 0, none⟩ = false := r4.free 0
    have cO : wc.cell? ⟨b, 0, none⟩ = some (.slice O on oc) := rb.cell 0
    have F1 := hid (fun hno : composedB sg ss us = false => subB_no hno bel5)
    have F2 := hid (fun hno : composedB sg ss us = false => subB_no hno (bel5.setCell (p := ⟨w.heap.size + 3, 0, none⟩) (by simp) (.slice none 0 0)))
    have F3 : Hid (composedB sg ss us = true → AnsSubB w (composedI sg ss us) (composedB sg ss us) (.returned (.tuple #[.agg #[.slice O on oc], .bool true])) (wc.setCell ⟨w.heap.size + 3, 0, none⟩ (.slice O on oc))) :=
     hid fun hyes => ⟨O, on, oc, by rw [hyes], by rw [composed_yes hyes]; have hwc := bel.size; exact (owns_put ho r4 hlt3 0 _).wider hwc (by simp), bel5.setCell (by simp) _⟩
    clear r3 r4 ho b4 bel bel5 rb LKB
    go_wp2_with fail
    refine LC.out.mono ?_
    rintro e w6 ⟨rfl, rfl⟩
    rw [AL.out]
    cases hc : compOk us ss with
    | false =>
     have hno : composedB sg ss us = false := CB.out.trans hc
     have G1 := hid (F1.out hno)
     have G2 := hid (F2.out hno)
     clear hc hno F1 F2 F3 LC
     go_wp2
     first
      | exact bodyPost_ret (v := .tuple #[.agg #[.slice none 0 0], .bool false]) (by simp [results, Try.results23, go_sem, cR]) rfl G1.out
      | exact bodyPost_ret (v := .tuple #[.agg #[.slice none 0 0], .bool false]) (by simp [results, Try.results23, go_sem, cR]) rfl G2.out
    | true =>
     have G3 := hid (F3.out (CB.out.trans hc))
     clear hc F1 F2 F3 LC
     go_wp2
     exact bodyPost_ret (v := .tuple #[.agg #[.slice O on oc], .bool true]) (by simp [results, Try.results23, go_sem, cR]) rfl G3.out
end compImpl
end
end Go.Proofs.Ytghgnondlgdjdaa
