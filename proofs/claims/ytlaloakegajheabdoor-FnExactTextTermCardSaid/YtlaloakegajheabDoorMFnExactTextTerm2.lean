/-
  MERGED: my texts KindsR, SigText, SplitMath, SplitSpec, ShelfY, MarkRune, MarkRuneB, Term2, EndOf, Sym, Args, Depth, TermFacts, TermText, WordMath, FieldsMath, IsMark, ShelfZ, NumSpec, TermTextB, one behind the other, as they are. By an AI agent.
-/
import Derived.Test.YtlaloakegajheabDoorMFnExactTextTerm1
import Derived.Deep.RegionHeld3
import Derived.Shelf.Small.Strs
import Derived.Shelf.Small.Utf8
import Derived.Shelf.Strings.Runes
import Derived.Test.YtlaloakegajheabDoorProg
import Derived.Laws.Runes
import Derived.Scope
import Derived.BigQuiet
import Derived.Laws.RangeAny
import Derived.Laws.RangeString
import Derived.Lib.FieldsP
import Derived.Shelf.Strings.FieldsFuncGrows
namespace Go.Proofs.YtlaloakegajheabDoor
section
open Go.Lib (hid)
namespace kindsR
open Go.RowKit base ints sig cursor marks app sym appAt segs segsHelp segsMark kinds shape
set_option maxRecDepth 100000
abbrev sSig : Sh := sI
theorem cells_Sig {w : World} {B : Nat} {es : List Value} {d : Dat sSig} (h : Rd w B sSig es d) : ∃ (v0 : Value), es = [v0] := by
 obtain ⟨A0, n0, c0, z0, -⟩ := h
 exact ⟨.slice A0 n0 c0, by rw [z0] <;> rfl⟩
set_option maxHeartbeats 2000000 in
theorem szK_Sig (v0 : Value) (d : Dat sSig) (left : Int) (w : World) (h : Rd w w.heap.size sSig [v0] d) (h0 : 0 ≤ left) (h1 : left ≤ 1048576) :
  Calls Tryd.prog 8 #[.agg #[v0], .int .i64 left] w (AnsSzK w left (sz sSig d)) := by
 have g0 := h
 obtain ⟨t0, ht0⟩ : ∃ t, sz sI d = t := ⟨_, rfl⟩
 have HE : Hid (sz sSig d = t0) := hid (by rw [← ht0]; try rfl)
 have HT0 := hid ht0
 have G0 := hid g0
 obtain ⟨W, hW⟩ : ∃ W, W = w.alloc (.cells #[v0] 24) := ⟨_, rfl⟩
 have r : Row W w.heap.size 24 #[v0] := by rw [hW]; exact Row.new _ _ _
 have bel : Below w.heap.size w W := by rw [hW]; exact (Below.refl _ _).alloc (Nat.le_refl _) _
 have HW := hid hW
 clear hW h g0 ht0
 go_enter Tryd.func8, Tryd.ntmps8
 go_wp2_with fail
 rw [← HW.out]
 refine (szK_ints _ _ left W (G0.out.next bel) h0 h1).mono ?_
 rintro e w1 ⟨he, bb⟩
 rw [HT0.out] at he
 replace r := r.next bb
 replace bel := next_trans bel bb
 clear bb
 by_cases q0 : left - (t0 : Int) < 0
 ·rw [if_pos q0] at he
  subst he
  have F : AnsSzK w left (sz sSig d) (.returned (.int .i64 (-1))) w1 := ⟨by rw [HE.out, if_pos (by omega)], bel⟩
  have HF := hid F
  clear F bel r
  go_wp2
  go_ret
  exact HF.out
 rw [if_neg q0] at he
 obtain ⟨l0, hl0⟩ : ∃ l, left - (t0 : Int) = l := ⟨_, rfl⟩
 rw [hl0] at he
 have a0 : 0 ≤ l0 := by omega
 have b0 : l0 ≤ 1048576 := by omega
 have HL0 := hid hl0
 clear hl0 q0
 subst he
 have F : AnsSzK w left (sz sSig d) (.returned (.int .i64 l0)) w1 := ⟨by have := HL0.out; rw [HE.out, if_neg (by omega)]; exact congrArg (fun z => Ending.returned (.int .i64 z)) (by omega), bel⟩
 have HF := hid F
 clear F bel r
 go_wp2
 go_ret
 exact HF.out
def CopySig (w : World) (d : Dat sSig) (e : Ending) (w' : World) : Prop := ∃ A0 n0 c0, e = .returned (.agg #[.slice A0 n0 c0]) ∧ Owned w' w.heap.size w'.heap.size sSig [.slice A0 n0 c0] d ∧ Below w.heap.size w w'
set_option maxHeartbeats 2000000 in
theorem toK_Sig (v0 : Value) (d : Dat sSig) (w : World) (h : Rd w w.heap.size sSig [v0] d) (hz : sz sSig d ≤ 1048576) :
  Calls Tryd.prog 10 #[.agg #[v0]] w (CopySig w d) := by
 have g0 := h
 have cp0 := CpS.zero w 24 28 #[v0] #[.slice none 0 0]
 obtain ⟨W, hW⟩ : ∃ W, W = ((w.alloc (.cells #[v0] 24)).alloc (.cells #[.slice none 0 0] 28)).alloc (.cells #[.slice none 0 0] 28) := ⟨_, rfl⟩
 rw [← hW] at cp0
 have HW := hid hW
 have G0 := hid g0
 have Z0 : Hid (sz sI d ≤ 1048576) := hid (hz)
 clear hW hz h g0
 go_enter Tryd.func10, Tryd.ntmps10
 go_wp2_with fail
 rw [← HW.out]
 refine (toK_ints _ _ _ ((G0.out.below cp0.bel).more cp0.bel.size) Z0.out).mono ?_
 rintro e w1 ⟨x0A0, x0n0, x0c0, rfl, o0, bb⟩
 have zb0 := bb.size
 have zc0 := cp0.size
 replace cp0 := cp0.next bb
 clear bb
 have f0_0 : w1.frozen? ⟨w.heap.size + 1 + 1, 0, none⟩ = false := cp0.cur.free 0
 have k0_0 : w1.cell? ⟨w.heap.size + 1 + 1, 0, none⟩ = some (.slice none 0 0) := cp0.cur.cell 0
 obtain ⟨w2, hw0⟩ : ∃ x, x = (w1.setCell ⟨w.heap.size + 1 + 1, 0, none⟩ (.slice x0A0 x0n0 x0c0)) := ⟨_, rfl⟩
 replace o0 := o0.put (g := w.heap.size + 1 + 1) (i := 0) (u := .slice x0A0 x0n0 x0c0) (by omega)
 rw [← hw0] at o0
 replace cp0 : CpS w 24 28 #[v0] #[.slice none 0 0] #[.slice x0A0 x0n0 x0c0] w2 := by rw [hw0]; exact (CpS.put cp0 0 (.slice x0A0 x0n0 x0c0))
 have zw0 : w2.heap.size = w1.heap.size := by rw [hw0]; simp
 have HW0 := hid hw0
 clear hw0
 have y0 : w2.cell? ⟨w.heap.size + 1 + 1, 0, none⟩ = some (.slice x0A0 x0n0 x0c0) := cp0.cur.cell 0
 rw [HW0.out] at y0
 have s0 : (w2).cell? ⟨w.heap.size + 1, 0, none⟩ = some (.slice none 0 0) := cp0.res.cell 0
 rw [HW0.out] at s0
 have r0 : (w2).frozen? ⟨w.heap.size + 1, 0, none⟩ = false := cp0.res.free 0
 rw [HW0.out] at r0
 have oo : Owned w2 (w.heap.size + 1 + 1 + 1) w2.heap.size sSig [.slice x0A0 x0n0 x0c0] d := o0.wider (by omega) (by omega)
 have F : CopySig w d (.returned (.agg #[.slice x0A0 x0n0 x0c0])) (w2.setCell ⟨w.heap.size + 1, 0, none⟩ (.slice x0A0 x0n0 x0c0)) := ⟨x0A0, x0n0, x0c0, rfl, Owned.wider ((oo.put (g := w.heap.size + 1) (i := 0) (u := .slice x0A0 x0n0 x0c0) (by omega))) (by omega) (by simp), ((CpS.fin cp0 0 (.slice x0A0 x0n0 x0c0))).bel⟩
 have u0 : ((w2.setCell ⟨w.heap.size + 1, 0, none⟩ (.slice x0A0 x0n0 x0c0))).cell? ⟨w.heap.size + 1, 0, none⟩ = some (.slice x0A0 x0n0 x0c0) := (CpS.fin cp0 0 (.slice x0A0 x0n0 x0c0)).res.cell 0
 rw [HW0.out] at u0
 rw [HW0.out] at F
 have HF := hid F
 clear F oo cp0 o0
 go_wp2
 exact bodyPost_ret (v := .agg #[.slice x0A0 x0n0 x0c0]) (by simp [results, Tryd.results10, go_sem, u0]) rfl HF.out
set_option maxHeartbeats 2000000 in
theorem eqK_Sig (v0 u0 : Value) (d : Dat sSig) (w : World) (h : Rd w w.heap.size sSig [v0] d) (h' : Rd w w.heap.size sSig [u0] d) (hz : sz sSig d ≤ 1048576) :
  Calls Tryd.prog 13 #[.agg #[v0], .agg #[u0]] w (Yes w) := by
 have g0 := h
 have g0' := h'
 obtain ⟨W, hW⟩ : ∃ W, W = (w.alloc (.cells #[v0] 28)).alloc (.cells #[u0] 28) := ⟨_, rfl⟩
 have ra : Row W w.heap.size 28 #[v0] := by rw [hW]; exact (Row.new w 28 #[v0]).alloc _
 have rb : Row W (w.heap.size + 1) 28 #[u0] := by rw [hW]; have := Row.new (w.alloc (.cells #[v0] 28)) 28 #[u0]; simpa using this
 have bel : Below w.heap.size w W := by rw [hW]; exact ((Below.refl _ _).alloc (Nat.le_refl _) _).alloc (by simp) _
 have HW := hid hW
 have G0 := hid g0
 have G0' := hid g0'
 have Z0 : Hid (sz sI d ≤ 1048576) := hid (hz)
 clear hW hz h h' g0 g0'
 go_enter Tryd.func13, Tryd.ntmps13
 go_wp2_with fail
 rw [← HW.out]
 refine (eqK_ints _ _ _ W (G0.out.next bel) (G0'.out.next bel) Z0.out).mono ?_
 rintro e w1 ⟨rfl, bb⟩
 replace ra := ra.next bb
 replace rb := rb.next bb
 replace bel := next_trans bel bb
 clear bb
 have F : Yes w (.returned (.bool true)) w1 := ⟨rfl, bel⟩
 have HF := hid F
 clear F ra rb bel
 go_wp2
 go_ret
 exact HF.out
set_option maxHeartbeats 2000000 in
theorem markK_Sig (v0 : Value) (d : Dat sSig) (k : Int) (F : List Nat) (w : World) (h : Ow w sSig [v0] d F) (hF : F.Nodup) (hz : sz sSig d ≤ 1048576) (hk0 : 0 ≤ k) (hk : k + (cntv sSig d : Int) ≤ 1099511627776) :
  Calls Tryd.prog 14 #[.agg #[v0], .int .i64 k] w (AnsMarkF w sSig [v0] d k F) := by
 have hlt := h.lt
 have o0 := h
 obtain ⟨z0, hz0⟩ : ∃ z, cntv sI d = z := ⟨_, rfl⟩
 have hc : (cntv sSig d : Int) = (z0 : Int) := by rw [← hz0]; try rfl
 have Z0 : Hid (sz sI d ≤ 1048576) := hid (hz)
 have HZ0 := hid hz0
 have HC := hid hc
 rw [hc] at hk
 obtain ⟨W, hW⟩ : ∃ W, W = w.alloc (.cells #[v0] 28) := ⟨_, rfl⟩
 have r : Row W w.heap.size 28 #[v0] := by rw [hW]; exact Row.new _ _ _
 have bel : Below w.heap.size w W := by rw [hW]; exact (Below.refl _ _).alloc (Nat.le_refl _) _
 replace o0 := o0.next bel
 have nb0 : w.heap.size ∉ F := fun hb => by have := hlt _ hb; omega
 have sub0 : ∀ x ∈ F, x ∈ F := fun x hb => hb
 have on : Only F w W := Only.of_below bel
 have HW := hid hW
 have HEF : Hid (F = F) := hid (by rfl)
 clear hW h hz hc bel hlt hz0 
 go_enter Tryd.func14, Tryd.ntmps14
 go_wp2_with fail
 rw [← HW.out]
 refine (markK_ints _ _ k F _ o0 Z0.out (by omega) (by omega)).mono ?_
 rintro e w1 ⟨he, o0, on0⟩
 rw [HZ0.out] at he
 replace r := Row.only r on0 nb0
 replace on := on.trans (on0.wider sub0)
 clear on0
 obtain ⟨k0, hk0⟩ : ∃ l, k + (z0 : Int) = l := ⟨_, rfl⟩
 rw [hk0] at he
 have l0 : 0 ≤ k0 := by omega
 have u0 : k0  ≤ 1099511627776 := by omega
 subst he
 have HK0 := hid hk0
 clear hk0
 have F1 : AnsMarkF w sSig [v0] d k F (.returned (.int .i64 k0)) w1 := by
  refine ⟨congrArg (fun z => Ending.returned (.int .i64 z)) ?_, ?_, on⟩
  ·rw [HC.out]; have := HK0.out; omega
  ·skip
   exact o0
 have HF := hid F1
 clear F1 on r o0
 go_wp2
 go_ret
 exact HF.out
end kindsR
end
section
namespace sigText
open Go.RowKit base ints sig term termOk marks app kinds shape kindsR text textL
set_option maxRecDepth 100000
end sigText
end
section
namespace splitMath
open sig term termOk text textL sigText
theorem join_two (x y : List UInt8) (r : List (List UInt8)) (c : UInt8) : Lib.join (x :: y :: r) [c] = x ++ c :: Lib.join (y :: r) [c] := by
 rw [Lib.join_cons, Lib.join_cons]
 unfold Lib.joinTail
 simp
def stS (c : UInt8) (l : List UInt8) : Nat → List (List UInt8) × Nat
 | 0 => ([], 0)
 | i + 1 => if l.getD i 0 = c then ((stS c l i).1 ++ [(l.drop (stS c l i).2).take (i - (stS c l i).2)], i + 1) else stS c l i
def splitS (c : UInt8) (l : List UInt8) : List (List UInt8) := (stS c l l.length).1 ++ [(l.drop (stS c l l.length).2).take (l.length - (stS c l l.length).2)]
def dgt (c : UInt8) : Bool := decide (48 ≤ c.toNat ∧ c.toNat ≤ 57)
def rdOk (w : List UInt8) : Bool := decide (1 ≤ w.length ∧ w.length ≤ 9 ∧ ¬ (w.getD 0 0 = 48 ∧ 1 < w.length)) && w.all dgt
def rdF (w : List UInt8) (n : Nat) : Nat := w.foldl (fun n c => n * 10 + (c.toNat - 48)) n
def rdV (w : List UInt8) : Nat := rdF w 0
theorem ch_toNat {d : Nat} (h : d < 10) : (ch d).toNat = 48 + d := by unfold ch; simp; omega
theorem rd_ch {d : Nat} (h : d < 10) : rdOk [ch d] = true ∧ rdV [ch d] = d := by
 have e := ch_toNat h
 refine ⟨?_, by simp [rdV, rdF, e]⟩
 unfold rdOk
 simp [dgt, e]
 omega
end splitMath
end
section
open Go.Lib (hid)
namespace splitSpec
open Go.RowKit base ints marks app text textL splitMath
set_option maxRecDepth 100000
theorem stS_len (c : UInt8) (l : List UInt8) : ∀ i, (stS c l i).1.length ≤ i
 | 0 => Nat.le_refl _
 | i + 1 => by
  have h := stS_len c l i
  show (if _ then _ else _ : List (List UInt8) × Nat).1.length ≤ _
  split
  ·simp; omega
  ·omega
theorem stS_le (c : UInt8) (l : List UInt8) : ∀ i, (stS c l i).2 ≤ i
 | 0 => Nat.le_refl _
 | i + 1 => by
  have h := stS_le c l i
  show (if _ then _ else _ : List (List UInt8) × Nat).2 ≤ _
  split
  ·exact Nat.le_refl _
  ·omega
def spW (c : UInt8) (l : List UInt8) (k : Nat) : List (List UInt8) := if k ≤ l.length then (stS c l k).1 else splitS c l
def spF (c : UInt8) (l : List UInt8) (k : Nat) : Nat := if k ≤ l.length then (stS c l k).2 else l.length + 1
theorem sp_le {c : UInt8} {l : List UInt8} {k : Nat} (h : k ≤ l.length) : spF c l k ≤ k := by
 unfold spF
 rw [if_pos h]
 exact stS_le c l k
theorem sp_len (c : UInt8) (l : List UInt8) (k : Nat) : (spW c l k).length ≤ l.length + 1 := by
 unfold spW
 split
 ·have := stS_len c l k; omega
 ·have := stS_len c l l.length
  unfold splitS
  simp
  omega
theorem sp_end {c : UInt8} {l : List UInt8} {k : Nat} (h : k = l.length) : spW c l (k + 1) = spW c l k ++ [(l.drop (spF c l k)).take (k - spF c l k)] ∧ spF c l (k + 1) = k + 1 := by
 subst h
 unfold spW spF splitS
 have h1 : ¬ l.length + 1 ≤ l.length := by omega
 have h2 : l.length ≤ l.length := Nat.le_refl _
 refine ⟨?_, ?_⟩ <;> simp only [if_neg h1, if_pos h2]
theorem sp_hit {c : UInt8} {l : List UInt8} {k : Nat} (h : k < l.length) (e : l.getD k 0 = c) : spW c l (k + 1) = spW c l k ++ [(l.drop (spF c l k)).take (k - spF c l k)] ∧ spF c l (k + 1) = k + 1 := by
 unfold spW spF
 rw [if_pos (by omega), if_pos (by omega), if_pos (by omega), if_pos (by omega)]
 have := show stS c l (k + 1) = if l.getD k 0 = c then _ else _ from rfl
 rw [this, if_pos e]
 exact ⟨rfl, rfl⟩
theorem sp_miss {c : UInt8} {l : List UInt8} {k : Nat} (h : k < l.length) (e : ¬ l.getD k 0 = c) : spW c l (k + 1) = spW c l k ∧ spF c l (k + 1) = spF c l k := by
 unfold spW spF
 rw [if_pos (by omega), if_pos (by omega), if_pos (by omega), if_pos (by omega)]
 have := show stS c l (k + 1) = if l.getD k 0 = c then _ else _ from rfl
 rw [this, if_neg e]
 exact ⟨rfl, rfl⟩
theorem at_bs {l : List UInt8} {k : Nat} (h : k < l.length) (w : World) : (Instr.index 9 (.string (bs l)) (.int .i64 (k : Int))).run Tryd.prog w = .ok (.int .u8 ((l.getD k 0).toNat : Int)) w := by
 rw [run_index_string (P := Tryd.prog) w 9 (bs l) .i64 (k : Int) Tryd.underlying9, dif_pos ⟨by omega, by rw [bs_size]; omega⟩]
 congr 3
 show ((l.toArray)[k]'(by simpa using h)).toNat = _
 simp [List.getD, h]
theorem cut_bs {l : List UInt8} {a b : Nat} (h1 : a ≤ b) (h2 : b ≤ l.length) (w : World) : (Instr.slice 9 (.string (bs l)) (some (.int .i64 (a : Int))) (some (.int .i64 (b : Int))) none).run Tryd.prog w = .ok (.string (bs ((l.drop a).take (b - a)))) w := by
 rw [run_slice_string (P := Tryd.prog) w 9 (bs l) .i64 .i64 a b Tryd.underlying9 (by omega) (by omega) (by rw [bs_size]; omega)]
 congr 2
 exact ByteArray.extract_mk l a b
def HeadSp (w : World) (c : UInt8) (l : List UInt8) (N : Nat) (out fr i : Value) (wr : World) : Prop :=
 ∃ (k f m : Nat) (O : Option Addr) (oc : Nat), k ≤ N + 1 ∧ spF c l k = f ∧ (spW c l k).length = m ∧ i = .int .i64 k ∧ fr = .int .i64 (f : Int) ∧ out = .slice O m oc ∧ OwnS wr w.heap.size (.slice O m oc) (spW c l k) ∧ Below w.heap.size w wr
def AnsSs (w : World) (ws : List (List UInt8)) (e : Ending) (w' : World) : Prop := ∃ O oc, e = .returned (.slice O ws.length oc) ∧ OwnS w' w.heap.size (.slice O ws.length oc) ws ∧ Below w.heap.size w w'
set_option maxHeartbeats 2000000 in
theorem l1Split (c : UInt8) (l : List UInt8) (w : World) (hn : l.length ≤ 1048576) :
  Calls Tryd.prog 50 #[.string (bs l), .int .u8 (c.toNat : Int)] w (AnsSs w (splitS c l)) := by
 obtain ⟨T, hT⟩ : ∃ T, bs l = T := ⟨_, rfl⟩
 rw [hT]
 obtain ⟨N, hN⟩ : ∃ N, l.length = N := ⟨_, rfl⟩
 have hlen : ∀ v : World, (Builtin.len_ #[9] 3 #[.string T]).run Tryd.prog v = .ok (.int .i64 (N : Int)) v := by
  intro v
  rw [run_len_string (P := Tryd.prog) v 9 3 T Tryd.underlying9, ← hT, bs_size, hN]
  rfl
 have HI := hid (fun (k : Nat) (h : k < l.length) => by rw [← hT]; exact at_bs h : ∀ k, k < l.length → ∀ v, (Instr.index 9 (.string T) (.int .i64 (k : Int))).run Tryd.prog v = .ok (.int .u8 ((l.getD k 0).toNat : Int)) v)
 have HC := hid (fun (a b : Nat) (h1 : a ≤ b) (h2 : b ≤ l.length) => by rw [← hT]; exact cut_bs h1 h2 : ∀ a b, a ≤ b → b ≤ l.length → ∀ v, (Instr.slice 9 (.string T) (some (.int .i64 (a : Int))) (some (.int .i64 (b : Int))) none).run Tryd.prog v = .ok (.string (bs ((l.drop a).take (b - a)))) v)
 have HN := hid hN
 obtain ⟨C, hC⟩ : ∃ C, c.toNat = C := ⟨_, rfl⟩
 rw [hC]
 have HCC := hid hC
 have HB := hid hn
 clear hT hN hC hn
 have S0 := hid (show HeadSp w c l N (.slice (some ⟨w.heap.size, 0, none⟩) 0 0) (.int .i64 0) (.int .i64 0) (w.alloc (.cells #[] 9)) from ⟨0, 0, 0, _, 0, Nat.zero_le _, by simp [spF, stS], by simp [spW, stS], rfl, rfl, rfl, by
  rw [show spW c l 0 = [] by simp [spW, stS]]
  exact ownS_empty w w.heap.size (Nat.le_refl _), (Below.refl _ _).alloc (Nat.le_refl _) _⟩)
 go_enter Tryd.func50, Tryd.ntmps50
 go_wp2_with fail
 go_loopw [5, 6, 7] (fun out fr i wr => HeadSp w c l N out fr i wr) (fun _ _ i _ => N + 1 - (intOf i).toNat)
 case atStart => exact S0.out
 case round =>
  clear S0
  obtain ⟨k, f, m, O, oc, hk, hf, hm, rfl, rfl, rfl, ho, hb⟩ := hrel
  have hz := hb.size
  have hNb : N ≤ 1048576 := by rw [← HN.out]; exact HB.out
  have hmN : m ≤ 1048577 := by
   have h1 := sp_len c l k
   have h2 := HB.out
   rw [hm] at h1
   omega
  by_cases hle : k ≤ N
  ·have i1 : (k : Int) ≤ (N : Int) := by omega
   have i0 : (0 : Int) ≤ (k : Int) := by omega
   have hfk : f ≤ k := by rw [← hf]; exact sp_le (by rw [HN.out]; exact hle)
   have hcut := HC.out f k hfk (by rw [HN.out]; exact hle)
   obtain ⟨y, hy⟩ : ∃ y, (l.drop f).take (k - f) = y := ⟨_, rfl⟩
   rw [hy] at hcut
   by_cases heq : k = N
   ·obtain ⟨e1, e2⟩ := sp_end (c := c) (l := l) (k := k) (by rw [HN.out]; exact heq)
    rw [hf, hy] at e1
    have E1 := hid e1
    have E2 := hid e2
    have HM := hid hm
    clear e1 e2 hf hm hy hfk hle
    subst heq
    go_wp2_with (at_builtin; refine app1S rfl _ _ rfl w.heap.size O m oc _ rfl (ho.next ((Below.refl _ _).alloc (Nat.le_refl _) _)) wr.heap.size 1 y rfl ((Row.new _ _ _).cell 0) (by omega) (by simp; omega) ?_; intro O' oc' w2 ho2 b2)
    have S := hid (show HeadSp w c l k (.slice O' (m + 1) oc') (.int .i64 ((k : Int) + 1)) (.int .i64 ((k : Int) + 1)) w2 from ⟨k + 1, k + 1, m + 1, O', oc', Nat.le_refl _, E2.out, by rw [E1.out, List.length_append, HM.out]; rfl, by simp, by simp, rfl, by rw [E1.out]; exact ho2, (hb.alloc hb.size _).trans b2⟩)
    clear ho hb ho2 b2
    go_wp2
    go_roundw
    case rel => exact S.out
    case measure => simp [intOf]
   ·have hlt : k < l.length := by rw [HN.out]; omega
    have hidx := HI.out k hlt
    have hne : ¬ (k : Int) = (N : Int) := by omega
    by_cases hc : l.getD k 0 = c
    ·obtain ⟨e1, e2⟩ := sp_hit hlt hc
     rw [hf, hy] at e1
     rw [hc, HCC.out] at hidx
     have E1 := hid e1
     have E2 := hid e2
     have HM := hid hm
     clear e1 e2 hf hm hy hfk hc heq
     go_wp2_with (at_builtin; refine app1S rfl _ _ rfl w.heap.size O m oc _ rfl (ho.next ((Below.refl _ _).alloc (Nat.le_refl _) _)) wr.heap.size 1 y rfl ((Row.new _ _ _).cell 0) (by omega) (by simp; omega) ?_; intro O' oc' w2 ho2 b2)
     have S := hid (show HeadSp w c l N (.slice O' (m + 1) oc') (.int .i64 ((k : Int) + 1)) (.int .i64 ((k : Int) + 1)) w2 from ⟨k + 1, k + 1, m + 1, O', oc', by omega, E2.out, by rw [E1.out, List.length_append, HM.out]; rfl, by simp, by simp, rfl, by rw [E1.out]; exact ho2, (hb.alloc hb.size _).trans b2⟩)
     clear ho hb ho2 b2
     go_wp2
     go_roundw
     case rel => exact S.out
     case measure => simp [intOf]; omega
    ·obtain ⟨e1, e2⟩ := sp_miss hlt hc
     obtain ⟨X, hX⟩ : ∃ X, (l.getD k 0).toNat = X := ⟨_, rfl⟩
     rw [hX] at hidx
     have hxc : ((X : Int) == (C : Int)) = false := beq_eq_false_iff_ne.2 (fun e => hc (UInt8.toNat_inj.1 (by rw [hX, HCC.out]; omega)))
     have hne2 : ((k : Int) == (N : Int)) = false := beq_eq_false_iff_ne.2 hne
     have S := hid (show HeadSp w c l N (.slice O m oc) (.int .i64 (f : Int)) (.int .i64 ((k : Int) + 1)) wr from ⟨k + 1, f, m, O, oc, by omega, by rw [e2]; exact hf, by rw [e1]; exact hm, by simp, rfl, rfl, by rw [e1]; exact ho, hb⟩)
     clear e1 e2 hf hm hy hfk hc heq hX ho hb
     go_wp2
     go_roundw
     case rel => exact S.out
     case measure => simp [intOf]; omega
  ·have hkn : k = N + 1 := by omega
   have i1 : ¬ (k : Int) ≤ (N : Int) := by omega
   have e : spW c l k = splitS c l := by unfold spW; rw [if_neg (by rw [HN.out]; omega)]
   rw [e] at ho hm
   subst hm
   have F := hid (show AnsSs w (splitS c l) (.returned (.slice O (splitS c l).length oc)) wr from ⟨O, oc, rfl, ho, hb⟩)
   clear ho hb e hf hkn
   go_wp2
   go_ret
   exact F.out
theorem rdF_lt : ∀ (w : List UInt8) (n : Nat), w.all dgt = true → rdF w n < (n + 1) * 10 ^ w.length
 | [], n, _ => by simp [rdF]
 | c :: w, n, h => by
  rw [List.all_cons, Bool.and_eq_true] at h
  have hc : 48 ≤ c.toNat ∧ c.toNat ≤ 57 := of_decide_eq_true h.1
  have h1 := rdF_lt w (n * 10 + (c.toNat - 48)) h.2
  refine Nat.lt_of_lt_of_le (show rdF (c :: w) n < _ from h1) ?_
  rw [List.length_cons, Nat.pow_succ, Nat.mul_comm (10 ^ w.length) 10, ← Nat.mul_assoc]
  exact Nat.mul_le_mul_right _ (by omega)
theorem rdF_snoc (w : List UInt8) (c : UInt8) (n : Nat) : rdF (w ++ [c]) n = rdF w n * 10 + (c.toNat - 48) := by simp [rdF]
theorem take_d {l : List UInt8} {k : Nat} (h : k < l.length) : l.take (k + 1) = l.take k ++ [l.getD k 0] := by
 rw [List.take_succ_eq_append_getElem h]
 simp [List.getD, h]
def rdI (l : List UInt8) : Int := if rdOk l = true then (rdV l : Int) else 0
def HeadRd (w : World) (l : List UInt8) (n i : Value) (wr : World) : Prop :=
 ∃ k v : Nat, k ≤ l.length ∧ (l.take k).all dgt = true ∧ rdV (l.take k) = v ∧ i = .int .i64 k ∧ n = .int .i64 v ∧ wr = w
set_option maxHeartbeats 2000000 in
theorem l1Read (l : List UInt8) (w : World) :
  Calls Tryd.prog 51 #[.string (bs l)] w fun e w' => e = .returned (.tuple #[.int .i64 (rdI l), .bool (rdOk l)]) ∧ w' = w := by
 obtain ⟨T, hT⟩ : ∃ T, bs l = T := ⟨_, rfl⟩
 rw [hT]
 obtain ⟨N, hN⟩ : ∃ N, l.length = N := ⟨_, rfl⟩
 have hlen : ∀ v : World, (Builtin.len_ #[9] 3 #[.string T]).run Tryd.prog v = .ok (.int .i64 (N : Int)) v := by
  intro v
  rw [run_len_string (P := Tryd.prog) v 9 3 T Tryd.underlying9, ← hT, bs_size, hN]
  rfl
 have HI := hid (fun (k : Nat) (h : k < l.length) => by rw [← hT]; exact at_bs h : ∀ k, k < l.length → ∀ v, (Instr.index 9 (.string T) (.int .i64 (k : Int))).run Tryd.prog v = .ok (.int .u8 ((l.getD k 0).toNat : Int)) v)
 have HN := hid hN
 clear hT
 have hno : ∀ {b : Bool}, rdOk l = b → b = false → rdI l = 0 ∧ rdOk l = false := fun h hb => ⟨by unfold rdI; rw [h, hb]; simp, by rw [h, hb]⟩
 by_cases hL : 1 ≤ N ∧ N ≤ 9
 ·have h0 : ∀ v, (Instr.index 9 (.string T) (.int .i64 0)).run Tryd.prog v = .ok (.int .u8 ((l.getD 0 0).toNat : Int)) v := HI.out 0 (by omega)
  have a1 : ¬ (N : Int) < 1 := by omega
  have a2 : ¬ (9 : Int) < (N : Int) := by omega
  obtain ⟨X, hX⟩ : ∃ X, (l.getD 0 0).toNat = X := ⟨_, rfl⟩
  rw [hX] at h0
  by_cases hz : X = 48 ∧ 1 < N
  ·have a3 : (1 : Int) < (N : Int) := by omega
   have hx48 : (X : Int) = 48 := by omega
   have R := hid (hno (b := false) (by
    unfold rdOk
    rw [hN, decide_eq_false (by
     rintro ⟨-, -, h⟩
     exact h ⟨UInt8.toNat_inj.1 (by rw [hX, hz.1]; rfl), hz.2⟩)]
    rfl) rfl)
   rw [hx48] at h0
   clear hN hX hz hL hno hx48
   go_enter Tryd.func51, Tryd.ntmps51
   go_wp2_with fail
   go_ret2
   rw [R.out.1, R.out.2]
   exact ⟨rfl, rfl⟩
  ·have R := hid (show rdOk l = l.all dgt by
    unfold rdOk
    rw [hN, decide_eq_true (by
     refine ⟨hL.1, hL.2, fun h => hz ⟨by rw [← hX, h.1]; rfl, h.2⟩⟩)]
    rfl)
   have S0 := hid (show HeadRd w l (.int .i64 0) (.int .i64 0) w from ⟨0, 0, Nat.zero_le _, by simp, rfl, rfl, rfl, rfl⟩)
   clear hno
   have h48 : (X : Int) = 48 ∧ ¬ (1 : Int) < (N : Int) ∨ ¬ (X : Int) = 48 := by omega
   have HH := hid hX
   have HLL := hid hL
   clear hX hz hN hL
   rcases h48 with ⟨b1, b2⟩ | b1
   all_goals
    try rw [b1] at h0
    go_enter Tryd.func51, Tryd.ntmps51
    go_wp2_with fail
    go_loopw [4, 5] (fun n i wr => HeadRd w l n i wr) (fun _ i _ => N - (intOf i).toNat)
    case atStart => exact S0.out
    case round =>
     clear S0 b1 h0
     obtain ⟨k, v, hk, hall, hv, rfl, rfl, rfl⟩ := hrel
     rw [HN.out] at hk
     have hvb : v < 1000000000 := by
      have h1 := rdF_lt (l.take k) 0 hall
      have h2 : (10 : Nat) ^ (l.take k).length ≤ 10 ^ 9 := Nat.pow_le_pow_right (by omega) (by rw [List.length_take, HN.out]; have := HLL.out; omega)
      have h3 : rdV (l.take k) = rdF (l.take k) 0 := rfl
      omega
     by_cases hlt : k < N
     ·have i1 : (k : Int) < (N : Int) := by omega
      have i0 : (0 : Int) ≤ (k : Int) := by omega
      have hkl : k < l.length := by rw [HN.out]; exact hlt
      have hidx := HI.out k hkl
      have etk := take_d hkl
      obtain ⟨c, hc⟩ : ∃ c, l.getD k 0 = c := ⟨_, rfl⟩
      rw [hc] at hidx etk
      by_cases hd : 48 ≤ c.toNat ∧ c.toNat ≤ 57
      ·obtain ⟨d, hd9⟩ : ∃ d, c.toNat = 48 + d := ⟨c.toNat - 48, by omega⟩
       rw [hd9] at hidx
       have d9 : d ≤ 9 := by omega
       have e1 : ((48 + d : Nat) : Int) = 48 + (d : Int) := by omega
       rw [e1] at hidx
       have S := hid (show HeadRd wr l (.int .i64 ((v : Int) * 10 + (48 + (d : Int) - 48))) (.int .i64 ((k : Int) + 1)) wr from ⟨k + 1, v * 10 + d, by omega, by
        rw [etk, List.all_append, hall, Bool.true_and, List.all_cons, List.all_nil, Bool.and_true]
        exact decide_eq_true hd, by
        have : rdV (l.take k ++ [c]) = rdV (l.take k) * 10 + (c.toNat - 48) := rdF_snoc _ _ _
        rw [etk, this, hv, hd9]
        omega, by simp, by congr 1; omega, rfl⟩)
       clear hd hd9 etk hc hkl hall hv hk e1
       go_wp2
       go_roundw
       case rel => exact S.out
       case measure => simp [intOf]; omega
      ·have hw : rdOk l = false := by
        rw [R.out, List.all_eq_false]
        exact ⟨c, by rw [← hc]; simp [List.getD, hkl], by simp [dgt]; omega⟩
       have RV := hid (show rdI l = 0 by unfold rdI; rw [hw]; simp)
       have RO := hid hw
       obtain ⟨D, hD⟩ : ∃ D, c.toNat = D := ⟨_, rfl⟩
       rw [hD] at hidx hd
       have hdd : (D : Int) < 48 ∨ (¬ (D : Int) < 48 ∧ (57 : Int) < (D : Int)) := by omega
       clear hw hD hc etk hkl hall hv hk hd
       rcases hdd with q | ⟨q, q2⟩
       ·go_wp2
        go_ret2
        rw [RV.out, RO.out]
        exact ⟨rfl, rfl⟩
       ·go_wp2
        go_ret2
        rw [RV.out, RO.out]
        exact ⟨rfl, rfl⟩
     ·have i1 : ¬ (k : Int) < (N : Int) := by omega
      have et : l.take k = l := List.take_of_length_le (by rw [HN.out]; omega)
      rw [et] at hall hv
      have hw : rdOk l = true := by rw [R.out]; exact hall
      have RV := hid (show rdI l = (v : Int) by unfold rdI; rw [hw, hv]; simp)
      have RO := hid hw
      clear hw et hall hv hk
      go_wp2
      go_ret2
      rw [RV.out, RO.out]
      exact ⟨rfl, rfl⟩
 ·have R := hid (hno (b := false) (by
   unfold rdOk
   rw [hN, decide_eq_false (by rintro ⟨h1, h2, -⟩; exact hL ⟨h1, h2⟩)]
   rfl) rfl)
  by_cases hs : N < 1
  ·have a1 : (N : Int) < 1 := by omega
   clear hN hL hno hs
   go_enter Tryd.func51, Tryd.ntmps51
   go_wp2_with fail
   go_ret2
   rw [R.out.1, R.out.2]
   exact ⟨rfl, rfl⟩
  ·have a1 : ¬ (N : Int) < 1 := by omega
   have a2 : (9 : Int) < (N : Int) := by omega
   clear hN hL hno hs
   go_enter Tryd.func51, Tryd.ntmps51
   go_wp2_with fail
   go_ret2
   rw [R.out.1, R.out.2]
   exact ⟨rfl, rfl⟩
end splitSpec
end
end Go.Proofs.YtlaloakegajheabDoor
section
namespace Go.Proofs
open Go.Shelf
def Tryd.lays137_ren : Go.Shelf.Ren := ⟨fun | 137 => 106 | 217 => 127 | 266 => 140 | n => n, fun | 9 => 9 | 5 => 5 | 3 => 3 | n => n, fun | n => n⟩
theorem Tryd.lays137 : Go.Proofs.Lays.n137 Tryd.prog Tryd.lays137_ren := {
 mixed := by kernel_rfl
 f137 := Tryd.func106.trans (congrArg some (by kernel_rfl))
 f217 := Tryd.func127.trans (congrArg some (by kernel_rfl))
 f266 := Tryd.func140.trans (congrArg some (by kernel_rfl))
 t3 := Tryd.underlying3
 a3 := Tryd.isAgg3
 z3 := Tryd.sizeOf3
 v3 := Tryd.zeroValue3
 t5 := Tryd.underlying5
 a5 := Tryd.isAgg5
 z5 := Tryd.sizeOf5
 v5 := Tryd.zeroValue5
 t9 := Tryd.underlying9
 a9 := Tryd.isAgg9
 z9 := Tryd.sizeOf9
 v9 := Tryd.zeroValue9 }
open Go.RowKit Go.Lib in
theorem Tryd.strings_IndexByte (s : ByteArray) (c : Int) (w : World) :
  Calls Tryd.prog 106 #[.string s, .int .u8 c] w fun e w' => e = .returned (.int .i64 (Lib.indexByte s.data.toList c.toNat.toUInt8)) ∧ w' = w := Any.strings_IndexByte Tryd.lays137 s c w
def Tryd.lays119_ren : Go.Shelf.Ren := ⟨fun | 119 => 107 | n => n, fun | 21 => 21 | 4 => 4 | n => n, fun | n => n⟩
theorem Tryd.lays119 : Go.Proofs.Lays.n119 Tryd.prog Tryd.lays119_ren := {
 mixed := by kernel_rfl
 f119 := Tryd.func107.trans (congrArg some (by kernel_rfl))
 t4 := Tryd.underlying4
 a4 := Tryd.isAgg4
 z4 := Tryd.sizeOf4
 v4 := Tryd.zeroValue4
 t21 := Tryd.underlying21
 a21 := Tryd.isAgg21
 z21 := Tryd.sizeOf21
 v21 := Tryd.zeroValue21 }
open Go.RowKit Go.Lib in
theorem Tryd.utf8_ValidRune (r : Int) (w : World) :
  Calls Tryd.prog 107 #[.int .i32 r] w fun e w' => e = .returned (.bool (Lib.validRune r)) ∧ w' = w := Any.utf8_ValidRune Tryd.lays119 r w
def Tryd.lays152_ren : Go.Shelf.Ren := ⟨fun | 152 => 88 | 137 => 106 | 119 => 107 | 224 => 108 | 225 => 109 | 217 => 127 | 266 => 140 | n => n, fun | 9 => 9 | 21 => 21 | 3 => 3 | 4 => 4 | 5 => 5 | 0 => 0 | 46 => 129 | n => n, fun | n => n⟩
theorem Tryd.lays152 : Go.Proofs.Lays.n152 Tryd.prog Tryd.lays152_ren := {
 mixed := by kernel_rfl
 f119 := Tryd.func107.trans (congrArg some (by kernel_rfl))
 f137 := Tryd.func106.trans (congrArg some (by kernel_rfl))
 f152 := Tryd.func88.trans (congrArg some (by kernel_rfl))
 f217 := Tryd.func127.trans (congrArg some (by kernel_rfl))
 f224 := Tryd.func108.trans (congrArg some (by kernel_rfl))
 f225 := Tryd.func109.trans (congrArg some (by kernel_rfl))
 f266 := Tryd.func140.trans (congrArg some (by kernel_rfl))
 t0 := Tryd.underlying0
 a0 := Tryd.isAgg0
 z0 := Tryd.sizeOf0
 v0 := Tryd.zeroValue0
 t3 := Tryd.underlying3
 a3 := Tryd.isAgg3
 z3 := Tryd.sizeOf3
 v3 := Tryd.zeroValue3
 t4 := Tryd.underlying4
 a4 := Tryd.isAgg4
 z4 := Tryd.sizeOf4
 v4 := Tryd.zeroValue4
 t5 := Tryd.underlying5
 a5 := Tryd.isAgg5
 z5 := Tryd.sizeOf5
 v5 := Tryd.zeroValue5
 t9 := Tryd.underlying9
 a9 := Tryd.isAgg9
 z9 := Tryd.sizeOf9
 v9 := Tryd.zeroValue9
 t21 := Tryd.underlying21
 a21 := Tryd.isAgg21
 z21 := Tryd.sizeOf21
 v21 := Tryd.zeroValue21
 t46 := Tryd.underlying129
 a46 := Tryd.isAgg129
 z46 := Tryd.sizeOf129
 v46 := Tryd.zeroValue129 }
open Go.RowKit Go.Lib in
theorem Tryd.strings_IndexRune_ascii (s : ByteArray) (r : Int) (w : World) (h0 : 0 ≤ r) (h1 : r < 128) :
  Calls Tryd.prog 88 #[.string s, .int .i32 r] w fun e w' => e = .returned (.int .i64 (Lib.indexByte s.data.toList r.toNat.toUInt8)) ∧ w' = w := Any.strings_IndexRune_ascii Tryd.lays152 s r w h0 h1
end Go.Proofs
end
namespace Go.Proofs.YtlaloakegajheabDoor
section
open Go.Lib (hid)
namespace markRune
open Go.RowKit base text textL splitSpec
set_option maxRecDepth 100000
set_option maxHeartbeats 1000000 in
theorem indexRune_hi (r : Int) (w : World) (h1 : 128 ≤ r) (h2 : r ≤ 1114111) (h3 : ¬ r = 65533) :
  Calls Tryd.prog 88 #[.string (bs [40, 44, 41]), .int .i32 r] w fun e w' => e = .returned (.int .i64 (-1)) ∧ Below w.heap.size w w' := by
 obtain ⟨S, hS⟩ : ∃ S, bs [40, 44, 41] = S := ⟨_, rfl⟩
 have hlen : ∀ v : World, (Builtin.len_ #[9] 3 #[.string S]).run Tryd.prog v = .ok (.int .i64 3) v := by
  intro v
  rw [run_len_string (P := Tryd.prog) v 9 3 S Tryd.underlying9, ← hS, bs_size]
  rfl
 have i1 : ∀ v, (Instr.index 9 (.string S) (.int .i64 1)).run Tryd.prog v = .ok (.int .u8 44) v := fun v => by rw [← hS]; exact at_bs (l := [40, 44, 41]) (k := 1) (by decide) v
 have i2 : ∀ v, (Instr.index 9 (.string S) (.int .i64 2)).run Tryd.prog v = .ok (.int .u8 41) v := fun v => by rw [← hS]; exact at_bs (l := [40, 44, 41]) (k := 2) (by decide) v
 have g1 : (0 : Int) ≤ r := by omega
 have g2 : ¬ r < 128 := by omega
 have LV := hid (Tryd.utf8_ValidRune r w)
 rw [hS]
 have HS := hid hS
 clear hS
 go_enter Tryd.func88, Tryd.ntmps88
 go_wp2_with fail
 refine LV.out.mono ?_
 rintro e w1 ⟨he, hw⟩
 subst hw
 cases hv : Lib.validRune r with
 | false =>
  rw [hv] at he
  subst he
  have F := hid (Below.refl w1.heap.size w1)
  clear LV hv
  go_wp2
  go_ret
  exact ⟨rfl, F.out⟩
 | true =>
  rw [hv] at he
  subst he
  have hu : Utf8.valid r = true := by
   unfold Lib.validRune at hv
   unfold Utf8.valid
   simp at hv ⊢
   omega
  obtain ⟨f1, f2, f3⟩ := encode_facts r hu h1
  obtain ⟨E, hE⟩ : ∃ E, Utf8.encode r = E := ⟨_, rfl⟩
  rw [hE] at f1 f2 f3
  have hconv : ∀ v : World, (convert 21 9 (.int .i32 r)).run Tryd.prog v = .ok (.string E) v := fun v => by rw [← hE]; exact run_convert_int_string v _ _ _ _ (by rw [Tryd.underlying21]; rfl) Tryd.underlying9
  obtain ⟨n, hn⟩ : ∃ n, E.size = n := ⟨_, rfl⟩
  have hElen : ∀ v : World, (Builtin.len_ #[9] 3 #[.string E]).run Tryd.prog v = .ok (.int .i64 (n : Int)) v := by
   intro v
   rw [run_len_string (P := Tryd.prog) v 9 3 E Tryd.underlying9, hn]
   rfl
  have hlt : E.size - 1 < E.size := by omega
  obtain ⟨L, hL⟩ : ∃ L, (E[E.size - 1]'hlt).toNat = L := ⟨_, rfl⟩
  have hL1 : 128 ≤ L := by rw [← hL]; exact f3 hlt
  have hL2 : L < 256 := by rw [← hL]; exact UInt8.toNat_lt _
  have hEi : ∀ v : World, (Instr.index 9 (.string E) (.int .i64 ((n - 1 : Nat) : Int))).run Tryd.prog v = .ok (.int .u8 (L : Int)) v := fun v => by
   rw [run_index_string (P := Tryd.prog) v 9 E .i64 ((n - 1 : Nat) : Int) Tryd.underlying9, dif_pos ⟨by omega, by omega⟩]
   congr 3
   rw [← hL]
   congr 2
   omega
  rw [hn] at f1 f2
  have hcu : ¬ (41 : UInt8) = ((L : Int).toNat.toUInt8) := fun e => by
   have h9 := congrArg UInt8.toNat e
   have h8 : ((L : Int).toNat.toUInt8).toNat = L := by simp; omega
   rw [h8] at h9
   have h7 : (41 : UInt8).toNat = 41 := rfl
   omega
  have B1 := hid (fun (v : World) => (show Calls Tryd.prog 106 #[.string (bs [41]), .int .u8 (L : Int)] v fun e w' => e = .returned (.int .i64 (-1)) ∧ w' = v from by
   have h9 := Tryd.strings_IndexByte (bs [41]) (L : Int) v
   have h8 : Lib.indexByte (bs [41]).data.toList ((L : Int).toNat.toUInt8) = -1 := by
    show Lib.indexByte [41] _ = -1
    simpa [Lib.indexByte] using hcu
   rw [h8] at h9
   exact h9))
  have B2 := hid (fun (v : World) => (show Calls Tryd.prog 106 #[.string (bs []), .int .u8 (L : Int)] v fun e w' => e = .returned (.int .i64 (-1)) ∧ w' = v from Tryd.strings_IndexByte (bs []) (L : Int) v))
  clear hcu
  have wr2 : IntKind.i64.wrap 2 = 2 := by decide
  have wr3 : IntKind.i64.wrap 3 = 3 := by decide
  have b1 : ((44 : Int) != (L : Int)) = true := bne_iff_ne.2 (by omega)
  have b2 : ((41 : Int) != (L : Int)) = true := bne_iff_ne.2 (by omega)
  have s1 : ∀ v, (Instr.slice 9 (.string S) (some (.int .i64 2)) none none).run Tryd.prog v = .ok (.string (bs [41])) v := fun v => by rw [← HS.out]; exact run_slice_string_l (P := Tryd.prog) v 9 (bs [40, 44, 41]) Tryd.underlying9 .i64 2 (by decide) (by decide)
  have s2 : ∀ v, (Instr.slice 9 (.string S) (some (.int .i64 3)) none none).run Tryd.prog v = .ok (.string (bs [])) v := fun v => by rw [← HS.out]; exact run_slice_string_l (P := Tryd.prog) v 9 (bs [40, 44, 41]) Tryd.underlying9 .i64 3 (by decide) (by decide)
  have F := hid (fun q => base.below_drewN (Below.refl w1.heap.size w1) q)
  clear LV hv hu f3 hE hn hL hlt
  rcases (show n = 2 ∨ n = 3 ∨ n = 4 by omega) with rfl | rfl | rfl
  ·go_wp2_with fail
   refine wp_scope_straight ?_
   go_wp2_with fail
   go_loopw [9] (fun i wr => i = .int .i64 1 ∧ wr = w1) (fun _ _ => 0)
   case atStart => exact ⟨rfl, rfl⟩
   case round =>
    obtain ⟨rfl, rfl⟩ := hrel
    go_wp2_with fail
    refine wp_scope_straight ?_
    have hE1 : ∀ v : World, (Instr.index 9 (.string E) (.int .i64 1)).run Tryd.prog v = .ok (.int .u8 (L : Int)) v := hEi
    clear hEi
    go_wp2
    go_quiet (fail)
    go_wp2
    generalize hwq : wr.drewN nq = wq
    have FQ := hid (show Below wr.heap.size wr wq by rw [← hwq]; exact F.out _)
    clear hwq
    go_quiet ((go_at_call 106; exact Calls.quiet_of_same (v := .int .i64 (-1)) ((B1.out _).mono fun _ _ ⟨h1, h2⟩ => ⟨h1, h2⟩)))
    go_wp2
    rw [Exit.noGoto_ret]
    first
     | (go_wp2; rw [Exit.noGoto_ret]; go_ret)
     | (rw [Exit.noGoto_ret]; go_ret)
     | (simp only [Exit.noGoto_ret, Exit.inBlock]; go_ret)
    exact ⟨rfl, base.below_drewN FQ.out _⟩
  ·go_wp2_with fail
   refine wp_scope_straight ?_
   go_wp2_with fail
   go_loopw [9] (fun i wr => i = .int .i64 2 ∧ wr = w1) (fun _ _ => 0)
   case atStart => exact ⟨rfl, rfl⟩
   case round =>
    obtain ⟨rfl, rfl⟩ := hrel
    go_wp2_with fail
    refine wp_scope_straight ?_
    have hE1 : ∀ v : World, (Instr.index 9 (.string E) (.int .i64 2)).run Tryd.prog v = .ok (.int .u8 (L : Int)) v := hEi
    clear hEi
    go_wp2
    go_quiet (fail)
    go_wp2
    generalize hwq : wr.drewN nq = wq
    have FQ := hid (show Below wr.heap.size wr wq by rw [← hwq]; exact F.out _)
    clear hwq
    go_quiet ((go_at_call 106; exact Calls.quiet_of_same (v := .int .i64 (-1)) ((B2.out _).mono fun _ _ ⟨h1, h2⟩ => ⟨h1, h2⟩)))
    go_wp2
    rw [Exit.noGoto_ret]
    first
     | (go_wp2; rw [Exit.noGoto_ret]; go_ret)
     | (rw [Exit.noGoto_ret]; go_ret)
     | (simp only [Exit.noGoto_ret, Exit.inBlock]; go_ret)
    exact ⟨rfl, base.below_drewN FQ.out _⟩
  ·go_wp2_with fail
   refine wp_scope_straight ?_
   go_wp2_with fail
   go_loopw [9] (fun i wr => i = .int .i64 3 ∧ wr = w1) (fun _ _ => 0)
   case atStart => exact ⟨rfl, rfl⟩
   case round =>
    obtain ⟨rfl, rfl⟩ := hrel
    go_wp2
    rw [Exit.noGoto_ret]
    go_ret
    exact ⟨rfl, F.out 0⟩
end markRune
end
section
namespace markRuneB
open Go.RowKit base text textL splitSpec
set_option maxRecDepth 100000
theorem iter_below (w : World) (s : ByteArray) (p : Nat) : Below w.heap.size w (w.iter s p) := by
 have : w.iter s p = w.alloc (.stringIter s p) := rfl
 rw [this]
 exact (Below.refl _ _).alloc (Nat.le_refl _) _
set_option maxHeartbeats 1000000 in
theorem indexRune_bad (w : World) :
  Calls Tryd.prog 88 #[.string (bs [40, 44, 41]), .int .i32 65533] w fun e w' => e = .returned (.int .i64 (-1)) ∧ Below w.heap.size w w' := by
 obtain ⟨S, hS⟩ : ∃ S, bs [40, 44, 41] = S := ⟨_, rfl⟩
 have hz : S.size = 3 := by rw [← hS]; rfl
 have hd : ∀ p, p < 3 → (Utf8.decode S p).2 = 1 ∧ (Utf8.decode S p).1 < 128 := by
  rw [← hS]
  intro p hp
  rcases (show p = 0 ∨ p = 1 ∨ p = 2 by omega) with rfl | rfl | rfl <;> decide
 have HN := Lib.hid (fun (p : Nat) (hp : p < 3) => (show ∃ x : Nat, x < 128 ∧ ∀ ty, (Instr.next (.pointer (some ⟨w.heap.size, 0, none⟩)) true ty).run Tryd.prog (w.iter S p) = .ok (.tuple #[.bool true, .int .i64 (p : Int), .int .i32 (x : Int)]) (w.iter S (p + 1)) from ⟨_, (hd p hp).2, fun ty => by
  have h := run_next_any (P := Tryd.prog) w S p ty (by omega)
  rw [(hd p hp).1] at h
  exact h⟩))
 have HE := Lib.hid (fun (ty : TypeId) => run_next_end (P := Tryd.prog) w S 3 ty (by omega))
 have F := Lib.hid (fun p => iter_below w S p)
 rw [hS]
 clear hS hz hd
 go_enter Tryd.func88, Tryd.ntmps88
 go_wp2_with fail
 go_loopw [5] (fun i wr => ∃ p : Nat, p ≤ 3 ∧ wr = w.iter S p) (fun _ wr => 3 - wr.iterPos w.heap.size)
 case atStart => exact ⟨0, by omega, rfl⟩
 case round =>
  obtain ⟨p, hp, rfl⟩ := hrel
  by_cases h3 : p < 3
  ·obtain ⟨x, hx, hn⟩ := HN.out p h3
   have hx5 : ¬ (x : Int) = 65533 := by omega
   go_wp2
   go_roundw
   case rel => exact ⟨p + 1, by omega, rfl⟩
   case measure => rw [World.iterPos_iter, World.iterPos_iter]; omega
  ·obtain rfl : p = 3 := by omega
   have hn := HE.out
   go_wp2
   go_ret
   exact ⟨rfl, F.out 3⟩
end markRuneB
end
section
namespace term
theorem scan_split {sg : List Int} : ∀ {l : List Int} {p q j : Nat}, scan sg (p + q) l = some j → ∃ i, i ≤ j ∧ scan sg p l = some i ∧ scan sg q (l.drop i) = some (j - i) := by
 intro l
 induction l with
 | nil =>
  intro p q j h
  cases p with
  | zero => exact ⟨0, Nat.zero_le _, rfl, by simpa using h⟩
  | succ p => rw [show p + 1 + q = (p + q) + 1 by omega, scan_nil] at h; cases h
 | cons x r ih =>
  intro p q j h
  cases p with
  | zero => exact ⟨0, Nat.zero_le _, rfl, by simpa using h⟩
  | succ p =>
   rw [show p + 1 + q = (p + q) + 1 by omega] at h
   by_cases ha : ar sg x < 0
   ·rw [scan_bad ha] at h; cases h
   ·rw [scan_step ha] at h
    obtain ⟨j', hj', rfl⟩ := Option.map_eq_some_iff.1 h
    rw [show p + q + (ar sg x).toNat = (p + (ar sg x).toNat) + q by omega] at hj'
    obtain ⟨i, h1, h2, h3⟩ := ih hj'
    refine ⟨i + 1, by omega, by rw [scan_step ha, h2]; rfl, ?_⟩
    rw [List.drop_succ_cons, h3]
    congr 1
    omega
theorem scan_tail {sg : List Int} : ∀ {l : List Int} {q j a : Nat}, scan sg q l = some j → a < j → ∃ q', scan sg (q' + 1) (l.drop a) = some (j - a) := by
 intro l
 induction l with
 | nil =>
  intro q j a h ha
  cases q with
  | zero => rw [scan_zero] at h; injection h; omega
  | succ q => rw [scan_nil] at h; cases h
 | cons x r ih =>
  intro q j a h ha
  cases q with
  | zero => rw [scan_zero] at h; injection h; omega
  | succ q =>
   cases a with
   | zero => exact ⟨q, h⟩
   | succ a =>
    by_cases hx : ar sg x < 0
    ·rw [scan_bad hx] at h; cases h
    ·rw [scan_step hx] at h
     obtain ⟨j', hj', rfl⟩ := Option.map_eq_some_iff.1 h
     obtain ⟨q', h'⟩ := ih (a := a) hj' (by omega)
     exact ⟨q', by rw [List.drop_succ_cons, h']; congr 1; omega⟩
theorem scan_pos {sg : List Int} {l : List Int} {q j : Nat} (h : scan sg (q + 1) l = some j) : 1 ≤ j := by
 cases l with
 | nil => rw [scan_nil] at h; cases h
 | cons x r =>
  by_cases hx : ar sg x < 0
  ·rw [scan_bad hx] at h; cases h
  ·rw [scan_step hx] at h
   obtain ⟨j', _, rfl⟩ := Option.map_eq_some_iff.1 h
   omega
theorem scan_le {sg : List Int} : ∀ {l : List Int} {q j : Nat}, scan sg q l = some j → j ≤ l.length := by
 intro l
 induction l with
 | nil =>
  intro q j h
  cases q with
  | zero => rw [scan_zero] at h; injection h; omega
  | succ q => rw [scan_nil] at h; cases h
 | cons x r ih =>
  intro q j h
  cases q with
  | zero => rw [scan_zero] at h; injection h; omega
  | succ q =>
   by_cases hx : ar sg x < 0
   ·rw [scan_bad hx] at h; cases h
   ·rw [scan_step hx] at h
    obtain ⟨j', hj', rfl⟩ := Option.map_eq_some_iff.1 h
    have := ih hj'
    simp
    omega
theorem scan_at {sg t : List Int} (h : scan sg 1 t = some t.length) {a : Nat} (ha : a < t.length) : ∃ j, scan sg 1 (t.drop a) = some j ∧ 1 ≤ j ∧ a + j ≤ t.length := by
 obtain ⟨q', h'⟩ := scan_tail h ha
 rw [Nat.add_comm] at h'
 obtain ⟨i, h1, h2, _⟩ := scan_split h'
 have h3 := scan_pos (q := 0) h2
 exact ⟨i, h2, h3, by omega⟩
theorem scan_args {sg t : List Int} {a j : Nat} (h : scan sg 1 (t.drop a) = some j) : ∃ i, j = i + 1 ∧ a < t.length ∧ ¬ ar sg (t.getD a 0) < 0 ∧ scan sg (ar sg (t.getD a 0)).toNat (t.drop (a + 1)) = some i := by
 by_cases ha : a < t.length
 ·rw [drop_cons ha] at h
  by_cases hx : ar sg (t.getD a 0) < 0
  ·rw [scan_bad hx] at h; cases h
  ·rw [scan_step hx, Nat.zero_add] at h
   obtain ⟨i, hi, rfl⟩ := Option.map_eq_some_iff.1 h
   exact ⟨i, rfl, ha, hx, hi⟩
 ·rw [List.drop_eq_nil_of_le (by omega), scan_nil] at h; cases h
theorem scan_first {sg t : List Int} {q a i : Nat} (h : scan sg (q + 1) (t.drop a) = some i) : ∃ j, scan sg 1 (t.drop a) = some j ∧ 1 ≤ j ∧ j ≤ i ∧ scan sg q (t.drop (a + j)) = some (i - j) := by
 rw [Nat.add_comm] at h
 obtain ⟨j, h1, h2, h3⟩ := scan_split h
 rw [List.drop_drop] at h3
 exact ⟨j, h2, scan_pos (q := 0) h2, h1, h3⟩
def len1 (sg t : List Int) (a : Nat) : Nat := (scan sg 1 (t.drop a)).getD 0
theorem len1_eq {sg t : List Int} {a j : Nat} (h : scan sg 1 (t.drop a) = some j) : len1 sg t a = j := by unfold len1; rw [h]; rfl
def places (sg t : List Int) : Nat → Nat → List Int
 | 0, _ => []
 | k + 1, p => (p : Int) :: places sg t k (p + len1 sg t p)
def maxOver (sg t : List Int) (g : Nat → Int) : Nat → Nat → Int
 | 0, _ => 0
 | k + 1, p => max (g p) (maxOver sg t g k (p + len1 sg t p))
def dep (sg t : List Int) : Nat → Nat → Int
 | 0, _ => 0
 | f + 1, a => maxOver sg t (dep sg t f) (ar sg (t.getD a 0)).toNat (a + 1) + 1
theorem maxOver_bd {sg t : List Int} {g : Nat → Int} {B : Int} (hB : 0 ≤ B) (hg : ∀ p, 0 ≤ g p ∧ g p ≤ B) : ∀ k p, 0 ≤ maxOver sg t g k p ∧ maxOver sg t g k p ≤ B
 | 0, _ => by simp [maxOver, hB]
 | k + 1, p => by
  have h1 := hg p
  have h2 := maxOver_bd (sg := sg) (t := t) hB hg k (p + len1 sg t p)
  simp only [maxOver]
  omega
theorem dep_bd {sg t : List Int} : ∀ f a, 0 ≤ dep sg t f a ∧ dep sg t f a ≤ f
 | 0, _ => by simp [dep]
 | f + 1, a => by
  have := maxOver_bd (sg := sg) (t := t) (g := dep sg t f) (B := f) (by omega) (fun p => dep_bd (sg := sg) (t := t) f p) (ar sg (t.getD a 0)).toNat (a + 1)
  simp only [dep]
  omega
theorem places_len {sg t : List Int} : ∀ k p, (places sg t k p).length = k
 | 0, _ => rfl
 | k + 1, p => by simp [places, places_len]
end term
end
section
open Go.Lib (hid)
namespace endAt
open Go.RowKit base ints sig term arity endOf cursor termOk
def inB (t : List Int) (x : Int) : Bool := decide (0 ≤ x ∧ x < t.length)
def thereB (sg t : List Int) (x : Int) : Bool := termOkB sg t && inB t x
theorem termOk_parts {sg t : List Int} (h : termOkB sg t = true) : sigOkB sg = true ∧ t.length ≤ 60 ∧ scan sg 1 t = some t.length := by
 unfold termOkB termB at h
 simp only [Bool.and_eq_true, decide_eq_true_eq] at h
 exact h
theorem there_parts {sg t : List Int} {x : Int} (h : thereB sg t x = true) : termOkB sg t = true ∧ 0 ≤ x ∧ x < t.length := by
 unfold thereB inB at h
 simp only [Bool.and_eq_true, decide_eq_true_eq] at h
 exact h
theorem there_no {sg t : List Int} {x : Int} (h : termOkB sg t = false ∨ x < 0 ∨ (t.length : Int) ≤ x) : thereB sg t x = false := by
 unfold thereB inB
 rcases h with h | h | h
 ·rw [h, Bool.false_and]
 ·rw [decide_eq_false (by omega), Bool.and_false]
 ·rw [decide_eq_false (by omega), Bool.and_false]
theorem there_yes {sg t : List Int} {x : Int} (h : termOkB sg t = true) (h0 : 0 ≤ x) (h1 : x < t.length) : thereB sg t x = true := by
 unfold thereB inB
 rw [h, decide_eq_true ⟨h0, h1⟩]
 rfl
def AnsAt (w : World) (A : Option Addr) (n c : Nat) (A' : Option Addr) (m c' : Nat) (sg t : List Int) (x : Int) (e : Ending) (w' : World) : Prop :=
 Below w.heap.size w w' ∧ ((thereB sg t x = true ∧ ∃ p, e = .returned (.pointer (some ⟨p, 0, none⟩)) ∧ w.heap.size ≤ p ∧ Cur w' p A n c A' m c' sg t x.toNat) ∨ (thereB sg t x = false ∧ e = .returned (.pointer none)))
theorem at_no {w w' : World} {A A' : Option Addr} {n c m c' : Nat} {sg t : List Int} {x : Int} (h : thereB sg t x = false) (hb : Below w.heap.size w w') : AnsAt w A n c A' m c' sg t x (.returned (.pointer none)) w' := ⟨hb, .inr ⟨h, rfl⟩⟩
set_option maxHeartbeats 1000000 in
theorem cursorAt (A A' : Option Addr) (n c m c' : Nat) (sg t : List Int) (x : Int) (w : World) (h : Seg w w.heap.size A n sg) (h' : Seg w w.heap.size A' m t) (hn : n ≤ 1048576) (hm : m ≤ 1048576) :
  Calls Tryd.prog 70 #[.agg #[.slice A n c], .slice A' m c', .int .i64 x] w (AnsAt w A n c A' m c' sg t x) := by
 obtain ⟨W, hW⟩ : ∃ W, W = w.alloc (.cells #[.slice A n c] 28) := ⟨_, rfl⟩
 have rA : Row W w.heap.size 28 #[.slice A n c] := by rw [hW]; exact Row.new _ _ _
 have bel : Below w.heap.size w W := by rw [hW]; exact (Below.refl _ _).alloc (Nat.le_refl _) _
 replace h := (h.below bel).more bel.size
 replace h' := (h'.below bel).more bel.size
 have HW := hid hW
 have HL := hid h'.1
 clear hW
 have L := hid (implTermOk A A' n c m c' sg t W h h' hn hm)
 cases hok : termOkB sg t with
 | false =>
  have HS := hid hok
  clear hok h h'
  go_enter Tryd.func70, Tryd.ntmps70
  go_wp2_with fail
  rw [← HW.out]
  refine L.out.mono ?_
  rintro e w1 ⟨he, bb⟩
  rw [HS.out] at he
  subst he
  have F := hid (fun A n c A' m c' => at_no (A := A) (n := n) (c := c) (A' := A') (m := m) (c' := c') (x := x) (there_no (.inl HS.out)) (next_trans bel bb))
  clear bb bel rA
  go_wp2
  go_ret
  exact F.out _ _ _ _ _ _
 | true =>
  have HS := hid hok
  clear hok
  by_cases hin : 0 ≤ x ∧ x < (m : Int)
  ·have hars := (sig_arities (termOk_parts HS.out).1).1
   have HT := hid (there_yes HS.out hin.1 (by rw [HL.out]; exact hin.2))
   obtain ⟨k, rfl⟩ := Int.eq_ofNat_of_zero_le hin.1
   obtain ⟨i0, i1⟩ := hin
   go_enter Tryd.func70, Tryd.ntmps70
   go_wp2_with fail
   rw [← HW.out]
   refine L.out.mono ?_
   rintro e w1 ⟨he, bb⟩
   rw [HS.out] at he
   subst he
   replace h := h.next bb
   replace h' := h'.next bb
   replace rA := rA.next bb
   replace bel := next_trans bel bb
   have cA : w1.cell? ⟨w.heap.size, 0, none⟩ = some (.slice A n c) := rA.cell 0
   have CN := cur_new (c := c) (c' := c') h h' hn hm hars k (by omega)
   have F : AnsAt w A n c A' m c' sg t (k : Int) (.returned (.pointer (some ⟨w1.heap.size, 0, none⟩))) (w1.alloc (.cells #[.slice A n c, .slice A' m c', .int .i64 k] 90)) :=
    ⟨bel.alloc (Nat.le_of_lt rA.lt) _, .inl ⟨HT.out, _, rfl, Nat.le_of_lt rA.lt, by rw [Int.toNat_natCast]; exact CN⟩⟩
   have HF := hid F
   clear F CN bb bel rA h h' hars HT
   go_wp2
   go_ret
   exact HF.out
  ·have HT := hid (there_no (sg := sg) (t := t) (x := x) (by rw [HL.out]; omega))
   by_cases hx0 : x < 0
   ·clear hin
    go_enter Tryd.func70, Tryd.ntmps70
    go_wp2_with fail
    rw [← HW.out]
    refine L.out.mono ?_
    rintro e w1 ⟨he, bb⟩
    rw [HS.out] at he
    subst he
    have F := hid (fun A n c A' m c' => at_no (A := A) (n := n) (c := c) (A' := A') (m := m) (c' := c') HT.out (next_trans bel bb))
    clear bb bel rA h h'
    go_wp2
    go_ret
    exact F.out _ _ _ _ _ _
   ·have hx1 : (m : Int) ≤ x := by omega
    clear hin
    go_enter Tryd.func70, Tryd.ntmps70
    go_wp2_with fail
    rw [← HW.out]
    refine L.out.mono ?_
    rintro e w1 ⟨he, bb⟩
    rw [HS.out] at he
    subst he
    have F := hid (fun A n c A' m c' => at_no (A := A) (n := n) (c := c) (A' := A') (m := m) (c' := c') HT.out (next_trans bel bb))
    clear bb bel rA h h'
    go_wp2
    go_ret
    exact F.out _ _ _ _ _ _
end endAt
end
section
namespace sym
open Go.RowKit base ints sig term termOk marks app
end sym
end
section
open Go.Lib (hid)
namespace args
open Go.RowKit base ints sig term arity endOf cursor termOk endAt marks app sym
def argsL (sg t : List Int) (a : Nat) : List Int := places sg t (ar sg (t.getD a 0)).toNat (a + 1)
def Coll (sg t : List Int) (m : Nat) (L ys : List Int) (q p : Nat) : Prop := ys ++ places sg t q p = L ∧ ∃ i, scan sg q (t.drop p) = some i ∧ p + i ≤ m
theorem Coll.first {sg t : List Int} {m : Nat} {L ys : List Int} {q p : Nat} (h : Coll sg t m L ys (q + 1) p) : ∃ j, scan sg 1 (t.drop p) = some j ∧ p + j ≤ m ∧ p < t.length ∧ Coll sg t m L (ys ++ [(p : Int)]) q (p + j) := by
 obtain ⟨h1, i, h2, h3⟩ := h
 obtain ⟨j, e1, e2, e3, e4⟩ := scan_first h2
 have e5 := scan_le h2
 refine ⟨j, e1, by omega, ?_, ?_, i - j, e4, by omega⟩
 ·simp only [List.length_drop] at e5; omega
 ·rw [← h1, List.append_assoc]
  congr 1
  simp only [places, len1_eq e1, List.singleton_append]
theorem Coll.done {sg t : List Int} {m : Nat} {L ys : List Int} {p : Nat} (h : Coll sg t m L ys 0 p) : ys = L := by
 have := h.1
 simpa [places] using this
theorem Coll.len {sg t : List Int} {m : Nat} {L ys : List Int} {q p : Nat} (h : Coll sg t m L ys q p) : ys.length ≤ L.length := by
 rw [← h.1]; simp
theorem Coll.start {sg t : List Int} {m a j : Nat} (hm : t.length = m) (h : scan sg 1 (t.drop a) = some j) (hj : a + j ≤ m) : ¬ ar sg (t.getD a 0) < 0 ∧ Coll sg t m (argsL sg t a) [] (ar sg (t.getD a 0)).toNat (a + 1) := by
 obtain ⟨i, rfl, _, h2, h3⟩ := scan_args h
 exact ⟨h2, rfl, i, h3, by omega⟩
theorem argsL_len {sg t : List Int} (hs : Arities sg) (a : Nat) : (argsL sg t a).length ≤ 3 := by
 unfold argsL
 rw [places_len]
 have := ar_bd hs (t.getD a 0)
 omega
def HeadArgs (w : World) (A : Option Addr) (n c m : Nat) (sg t : List Int) (L : List Int) (out p k : Value) (wr : World) : Prop :=
 ∃ (q pp : Nat) (O : Option Addr) (on oc : Nat) (ys : List Int), k = .int .i64 q ∧ p = .int .i64 pp ∧ out = .slice O on oc ∧ Own wr (w.heap.size + 1) (.slice O on oc) ys ∧ Coll sg t m L ys q pp ∧ q ≤ 3 ∧ Row wr w.heap.size 28 #[.slice A n c] ∧ Below w.heap.size w wr
set_option maxHeartbeats 1000000 in
theorem l1Args (A A' : Option Addr) (n c m c' : Nat) (sg t : List Int) (a j : Nat) (w : World) (h : Seg w w.heap.size A n sg) (h' : Seg w w.heap.size A' m t) (hn : n ≤ 1048576) (hm : m ≤ 1048576)
  (hs : Arities sg) (ha : a < m) (hj : scan sg 1 (t.drop a) = some j) (hj2 : a + j ≤ m) :
  Calls Tryd.prog 86 #[.agg #[.slice A n c], .slice A' m c', .int .i64 (a : Int)] w (AnsList w (argsL sg t a)) := by
 have HL := hid h'.1
 obtain ⟨hneg, hcoll⟩ := Coll.start HL.out hj hj2
 have h3 := argsL_len (t := t) hs a
 obtain ⟨b, off, x, rfl, hbb, hx, ex⟩ := h'.spot ha
 rw [ex.out] at hneg hcoll
 have hzb := ar_bd hs x
 obtain ⟨z, hz⟩ : ∃ z, ar sg x = z := ⟨_, rfl⟩
 rw [hz] at hneg hcoll hzb
 obtain ⟨T, rfl⟩ := Int.eq_ofNat_of_zero_le (show 0 ≤ z by omega)
 rw [Int.toNat_natCast] at hcoll
 have HZ := hid hz
 obtain ⟨L, hL⟩ : ∃ L, argsL sg t a = L := ⟨_, rfl⟩
 rw [hL] at hcoll h3 ⊢
 obtain ⟨W, hW⟩ : ∃ W, W = (w.alloc (.cells #[.slice A n c] 28)).alloc (.cells #[] 2) := ⟨_, rfl⟩
 have rA : Row W w.heap.size 28 #[.slice A n c] := by rw [hW]; exact (Row.new _ _ _).alloc _
 have bel : Below w.heap.size w W := by rw [hW]; exact ((Below.refl _ _).alloc (Nat.le_refl _) _).alloc (by simp) _
 have ow : Own W (w.heap.size + 1) (.slice (some ⟨w.heap.size + 1, 0, none⟩) 0 0) [] := by
  rw [hW]
  have := own_empty (w.alloc (.cells #[.slice A n c] 28)) (w.heap.size + 1) (by simp)
  simpa using this
 have s : Seg W.drew W.heap.size A n sg := ((h.below bel).more bel.size).drew
 have hx1 : W.cell? ⟨b, off + a, none⟩ = some (.int .i64 x) := (bel.cell (p := ⟨b, off + a, none⟩) hbb).trans hx
 have cA : W.cell? ⟨w.heap.size, 0, none⟩ = some (.slice A n c) := rA.cell 0
 have i0 : (0 : Int) ≤ (a : Int) := by omega
 have i1 : (a : Int) < (m : Int) := by omega
 have HW := hid hW
 have HS0 := hid hs
 clear hW hx hL hz hj ex hs
 go_enter Tryd.func86, Tryd.ntmps86
 go_wp2_with fail
 rw [← HW.out]
 replace rA := rA.drew
 replace bel := bel.drew
 replace ow := Own.drew ow
 go_region_held3 (fun w' => w'.cell? ⟨w.heap.size, 0, none⟩ = some (.slice A n c) ∧ w'.cell? ⟨b, off + a, none⟩ = some (.int .i64 x))
  (go_keep)
  (first
   | (go_at_call 85; refine (specArity _ _ _ sg x _ s hn).mono ?_; rintro e w2 ⟨he, bb⟩; rw [HZ.out] at he; subst he; replace cA : w2.cell? ⟨w.heap.size, 0, none⟩ = some (.slice A n c) := (rA.next bb).cell 0; have cx' : w2.cell? ⟨b, off + a, none⟩ = some (.int .i64 x) := (bb.cell (p := ⟨b, off + a, none⟩) (Nat.lt_trans hbb rA.lt)).trans hx1))
 have S0 : HeadArgs w A n c m sg t L (.slice (some ⟨w.heap.size + 1, 0, none⟩) 0 0) (.int .i64 ((a + 1 : Nat) : Int)) (.int .i64 (T : Int)) w2 :=
  ⟨T, a + 1, _, _, _, [], rfl, rfl, rfl, Own.next ow bb, hcoll, by omega, rA.next bb, bel.trans (bb.mono (Nat.le_of_lt rA.lt))⟩
 have HS := hid S0
 clear S0 bb rA bel ow s hx1 cA cx' hcoll
 go_wp2_with fail
 go_loopw [7, 8, 9] (fun out p k wr => HeadArgs w A n c m sg t L out p k wr) (fun _ _ k _ => (intOf k).toNat)
 case atStart => simpa using HS.out
 case round =>
  obtain ⟨q, pp, O, on, oc, ys, rfl, rfl, rfl, ho, hc, hq, hr, hb⟩ := hrel
  clear HS
  have hon : on ≤ 3 := by have := Own.len ho; have := hc.len; omega
  cases q with
  | zero =>
   have F : AnsList w L (.returned (.slice O on oc)) wr := ⟨O, on, oc, rfl, by rw [← hc.done]; exact Own.lower ho (Nat.le_succ _), hb⟩
   have HF := hid F
   clear F ho hc hr hb h h'
   go_wp2
   go_ret
   exact HF.out
  | succ q =>
   obtain ⟨jj, hj, hj2', hlt, hc'⟩ := hc.first
   have HE := hid (endI_some hj)
   have hsz := hr.lt
   have e0 : (0 : Int) < ((q + 1 : Nat) : Int) := by omega
   have hpp : pp ≤ 1048576 := by omega
   clear hc hj
   go_wp2_with (at_builtin; refine app1 rfl _ _ rfl (w.heap.size + 1) O on oc ys rfl (Own.alloc ho _) wr.heap.size 1 (pp : Int) rfl ((Row.new _ _ _).cell 0) (by omega) (by simp; omega) ?_; intro O' oc' w2 ho2 b2; have r2 : Row w2 w.heap.size 28 #[.slice A n c] := (hr.alloc _).below b2 (Nat.lt_succ_self _); have bel2 : Below w.heap.size w w2 := (hb.alloc (Nat.le_of_lt hsz) _).trans (b2.mono (Nat.le_succ _)); have cA2 : w2.cell? ⟨w.heap.size, 0, none⟩ = some (.slice A n c) := r2.cell 0)
   have s2 : Seg w2 w2.heap.size A n sg := (h.below bel2).more bel2.size
   have s2' : Seg w2 w2.heap.size (some ⟨b, off, none⟩) m t := (h'.below bel2).more bel2.size
   clear ho b2 hr hb
   refine (specEnd A _ n c m c' sg t (pp : Int) _ s2 s2' hn hm HS0.out (by omega) (by omega)).mono ?_
   rintro e w3 ⟨he, bb⟩
   rw [Int.toNat_natCast, HE.out] at he
   subst he
   have S : HeadArgs w A n c m sg t L (.slice O' (on + 1) oc') (.int .i64 ((pp : Int) + jj)) (.int .i64 (q : Int)) w3 :=
    ⟨q, pp + jj, O', on + 1, oc', _, rfl, by simp, rfl, Own.next ho2 bb, hc', by omega, r2.next bb, next_trans bel2 bb⟩
   have HSS := hid S
   clear S bb ho2 r2 bel2 cA2 s2 s2' hc'
   go_wp2
   go_roundw
   case rel => first | exact HSS.out | simpa using HSS.out
   case measure => simp [intOf]
theorem Cur.keep {w w' : World} {p : Nat} {A : Option Addr} {n c : Nat} {A' : Option Addr} {m c' : Nat} {sg t : List Int} {k : Nat} (h : Cur w p A n c A' m c' sg t k) (hb : Below (p + 1) w w') : Cur w' p A n c A' m c' sg t k :=
 ⟨h.row.below hb (Nat.lt_succ_self _), h.s.below (hb.mono (Nat.le_succ _)), h.s'.below (hb.mono (Nat.le_succ _)), h.le, h.hn, h.hm, h.ars⟩
theorem Cur.alloc {w : World} {p : Nat} {A : Option Addr} {n c : Nat} {A' : Option Addr} {m c' : Nat} {sg t : List Int} {k : Nat} (h : Cur w p A n c A' m c' sg t k) (o : Obj) : Cur (w.alloc o) p A n c A' m c' sg t k :=
 h.below ((Below.refl _ _).alloc (Nat.le_refl _) _)
theorem args_over {w a b : World} {B : Nat} {r : Option Nat} (g : w.grownBy a r) (hb : Below B a b) (hB : w.heap.size ≤ B) : w.grownBy b r :=
 ⟨hb.os.trans g.os, hb.tape.trans g.tape, hb.output.trans g.output, Nat.le_trans g.size hb.size, fun k hk hne => (hb.block k (by omega)).trans (g.block k hk hne)⟩
end args
end
section
namespace depth
open Go.RowKit base ints sig term arity endOf cursor termOk endAt marks app sym args
def Deep (sg t : List Int) (f : Nat) (M d : Int) (q p : Nat) : Prop := max d (maxOver sg t (dep sg t f) q p) = M ∧ 0 ≤ d ∧ d ≤ f ∧ ∃ i, scan sg q (t.drop p) = some i ∧ i ≤ f ∧ p + i ≤ t.length
theorem Deep.first {sg t : List Int} {f : Nat} {M d : Int} {q p : Nat} (h : Deep sg t f M d (q + 1) p) : ∃ j, scan sg 1 (t.drop p) = some j ∧ j ≤ f ∧ p < t.length ∧ p + j ≤ t.length ∧ Deep sg t f M (max d (dep sg t f p)) q (p + j) := by
 obtain ⟨h1, h2, h3, i, h4, h5, h6⟩ := h
 obtain ⟨j, e1, e2, e3, e4⟩ := scan_first h4
 have hb := dep_bd (sg := sg) (t := t) f p
 refine ⟨j, e1, by omega, by omega, by omega, ?_, by omega, by omega, i - j, e4, by omega, by omega⟩
 simp only [maxOver, len1_eq e1] at h1
 omega
theorem Deep.done {sg t : List Int} {f : Nat} {M d : Int} {p : Nat} (h : Deep sg t f M d 0 p) : d = M := by
 have h1 := h.1
 have h2 := h.2.1
 simp only [maxOver] at h1
 omega
theorem termOk_pos {sg t : List Int} (h : termOkB sg t = true) : 0 < t.length := by
 have := scan_pos (q := 0) (termOk_parts h).2.2
 exact this
end depth
end
section
namespace termFacts
open sig term termOk
theorem term_parts {sg t : List Int} (h : termOkB sg t = true) : sigOkB sg = true ∧ t.length ≤ 60 ∧ scan sg 1 t = some t.length := by
 unfold termOkB termB at h
 simp only [Bool.and_eq_true, decide_eq_true_eq] at h
 exact h
theorem term_len {sg t : List Int} (h : termOkB sg t = true) : 1 ≤ t.length ∧ t.length ≤ 60 := ⟨scan_pos (q := 0) (term_parts h).2.2, (term_parts h).2.1⟩
theorem term_ar {sg t : List Int} (h : termOkB sg t = true) {j : Nat} (hj : j < t.length) : ¬ ar sg (t.getD j 0) < 0 := by
 obtain ⟨i, h1, _, _⟩ := scan_at (term_parts h).2.2 hj
 obtain ⟨_, _, _, h2, _⟩ := scan_args h1
 exact h2
theorem term_num {sg t : List Int} (h : termOkB sg t = true) {j : Nat} (hj : j < t.length) : -24 ≤ t.getD j 0 ∧ t.getD j 0 < 8 := by
 have h1 := term_ar h hj
 have h2 := (sig_arities (term_parts h).1).2
 unfold ar at h1
 split at h1
 ·omega
 ·split at h1
  ·omega
  ·omega
theorem term_mem {sg t : List Int} (h : termOkB sg t = true) {x : Int} (hx : x ∈ t) : -24 ≤ x ∧ x < 8 := by
 obtain ⟨j, hj, rfl⟩ := List.getElem_of_mem hx
 have := term_num h hj
 simpa [List.getD, hj] using this
end termFacts
end
section
namespace termText
open Go.RowKit base ints sig term arity endOf cursor termOk endAt marks app sym args depth termFacts text textL
set_option maxRecDepth 100000
def hdT (n : Int) : List UInt8 := if n < 0 then 120 :: dg (-1 - n).toNat else 102 :: dg n.toNat
def wordsOf (sg t : List Int) (g : Nat → List UInt8) : Nat → Nat → List (List UInt8)
 | 0, _ => []
 | k + 1, p => g p :: wordsOf sg t g k (p + len1 sg t p)
def open_ (ws : List (List UInt8)) : List UInt8 := if ws = [] then [] else 40 :: Lib.join ws [44]
def shut_ (ws : List (List UInt8)) : List UInt8 := if ws = [] then [] else [41]
def txt (sg t : List Int) : Nat → Nat → List UInt8
 | 0, _ => []
 | f + 1, a => hdT (t.getD a 0) ++ open_ (wordsOf sg t (txt sg t f) (ar sg (t.getD a 0)).toNat (a + 1)) ++ shut_ (wordsOf sg t (txt sg t f) (ar sg (t.getD a 0)).toNat (a + 1))
def Small (t : List Int) : Prop := ∀ p, p < t.length → -24 ≤ t.getD p 0 ∧ t.getD p 0 < 100
theorem hdT_len {n : Int} (h : -24 ≤ n ∧ n < 100) : (hdT n).length ≤ 3 := by
 unfold hdT
 split
 ·have := dg_len (n := (-1 - n).toNat) (by omega); simp; omega
 ·have := dg_len (n := n.toNat) (by omega); simp; omega
theorem words_count (sg t : List Int) (g : Nat → List UInt8) : ∀ k p, (wordsOf sg t g k p).length = k
 | 0, _ => rfl
 | k + 1, p => by simp [wordsOf, words_count sg t g k]
def lens (ws : List (List UInt8)) : Nat := (ws.map List.length).sum
theorem join_lens (ws : List (List UInt8)) (hne : ws ≠ []) : (Lib.join ws [44]).length + 1 ≤ lens ws + ws.length := by
 cases ws with
 | nil => exact absurd rfl hne
 | cons x r =>
  rw [Lib.join_cons]
  have h : ∀ r : List (List UInt8), (Lib.joinTail [44] r).length = lens r + r.length := by
   intro r
   induction r with
   | nil => simp [Lib.joinTail, lens]
   | cons y r ih =>
    have e : Lib.joinTail [44] (y :: r) = [44] ++ y ++ Lib.joinTail [44] r := by simp [Lib.joinTail]
    rw [e]
    simp only [List.length_append, ih, lens, List.map_cons, List.sum_cons, List.length_cons, List.length_nil]
    omega
  simp only [List.length_append, h, lens, List.map_cons, List.sum_cons, List.length_cons]
  omega
theorem txt_len {sg t : List Int} (hs : Arities sg) (hsm : Small t) : ∀ f a j, scan sg 1 (t.drop a) = some j → j ≤ f → (txt sg t f a).length ≤ 7 * j
 | 0, a, j, hj, hf => by have := scan_pos (q := 0) hj; omega
 | f + 1, a, j, hj, hf => by
  obtain ⟨r, rfl, hat, hneg, hr⟩ := scan_args hj
  have hw : ∀ q p r, scan sg q (t.drop p) = some r → r ≤ f → lens (wordsOf sg t (txt sg t f) q p) ≤ 7 * r := by
   intro q
   induction q with
   | zero => intro p r _ _; simp [wordsOf, lens]
   | succ q ih =>
    intro p r hr hf
    obtain ⟨j, e1, e2, e3, e4⟩ := scan_first hr
    have h1 := txt_len hs hsm f p j e1 (by omega)
    have h2 := ih (p + j) (r - j) e4 (by omega)
    simp only [wordsOf, len1_eq e1, lens, List.map_cons, List.sum_cons] at h2 ⊢
    omega
  have h1 := hw _ _ _ hr (by omega)
  have h2 := hdT_len (hsm a hat)
  have h3 := ar_bd hs (t.getD a 0)
  have h4 := words_count sg t (txt sg t f) (ar sg (t.getD a 0)).toNat (a + 1)
  have h5 := join_lens (wordsOf sg t (txt sg t f) (ar sg (t.getD a 0)).toNat (a + 1))
  obtain ⟨H, hH⟩ : ∃ H, hdT (t.getD a 0) = H := ⟨_, rfl⟩
  rw [hH] at h2
  show (hdT (t.getD a 0) ++ open_ _ ++ shut_ _).length ≤ _
  rw [hH]
  obtain ⟨ws, hws⟩ : ∃ ws, wordsOf sg t (txt sg t f) (ar sg (t.getD a 0)).toNat (a + 1) = ws := ⟨_, rfl⟩
  rw [hws] at h1 h4 h5 ⊢
  unfold open_ shut_
  by_cases hn : ws = []
  ·rw [if_pos hn, if_pos hn]; simp; omega
  ·have h6 := h5 hn
   rw [if_neg hn, if_neg hn]; simp only [List.length_append, List.length_cons, List.length_nil]; omega
theorem words_le {sg t : List Int} (hs : Arities sg) (hsm : Small t) {f : Nat} (hf60 : f ≤ 500) : ∀ q p r, scan sg q (t.drop p) = some r → r ≤ f → ∀ x ∈ wordsOf sg t (txt sg t f) q p, x.length ≤ 4096
 | 0, p, r, _, _ => by intro x hx; cases hx
 | q + 1, p, r, hr, hf => by
  intro x hx
  obtain ⟨j, e1, e2, e3, e4⟩ := scan_first hr
  rcases List.mem_cons.1 hx with rfl | hx
  ·have := txt_len hs hsm f p j e1 (by omega); omega
  ·rw [len1_eq e1] at hx
   exact words_le hs hsm hf60 q (p + j) (r - j) e4 (by omega) x hx
set_option maxHeartbeats 1000000 in
theorem headText (n : Int) (w : World) (h : -24 ≤ n ∧ n < 100) :
  Calls Tryd.prog 62 #[.int .i64 n] w fun e w' => e = .returned (.string (bs (hdT n))) ∧ w' = w := by
 by_cases h0 : n < 0
 ·obtain ⟨m, hm⟩ : ∃ m : Nat, -1 - n = (m : Int) := ⟨(-1 - n).toNat, by omega⟩
  have LN := Lib.hid (numberText m w (by omega))
  have e : bs [120] ++ bs (dg m) = bs (hdT n) := by
   rw [bs_app]
   unfold hdT
   rw [if_pos h0, hm, Int.toNat_natCast]
   rfl
  have E := Lib.hid e
  have h1 : -1 - n = (m : Int) := hm
  have h2 : (m : Int) < 100 := by omega
  have ho : ¬ 9223372036854775807 < (⟨#[120]⟩ : ByteArray).size + (bs (dg m)).size := by rw [bs_size]; have := dg_len (n := m) (by omega); show ¬ _ < 1 + _; omega
  clear e hm
  go_enter Tryd.func62, Tryd.ntmps62
  go_wp2_with fail
  refine LN.out.mono ?_
  rintro e w' ⟨rfl, hw⟩
  obtain rfl : w = w' := hw.symm
  clear h1
  go_wp2
  go_ret
  exact ⟨by rw [← E.out]; rfl, rfl⟩
 ·obtain ⟨m, rfl⟩ := Int.eq_ofNat_of_zero_le (Int.not_lt.1 h0)
  have LN := Lib.hid (numberText m w (by omega))
  have e : bs [102] ++ bs (dg m) = bs (hdT (m : Int)) := by
   rw [bs_app]
   unfold hdT
   rw [if_neg h0, Int.toNat_natCast]
   rfl
  have E := Lib.hid e
  have ho : ¬ 9223372036854775807 < (⟨#[102]⟩ : ByteArray).size + (bs (dg m)).size := by rw [bs_size]; have := dg_len (n := m) (by omega); show ¬ _ < 1 + _; omega
  clear e
  go_enter Tryd.func62, Tryd.ntmps62
  go_wp2_with fail
  refine LN.out.mono ?_
  rintro e w' ⟨rfl, hw⟩
  obtain rfl : w = w' := hw.symm
  go_wp2
  go_ret
  exact ⟨by rw [← E.out]; rfl, rfl⟩
end termText
end
section
namespace wordMath
open sig term arity termOk depth termFacts args text textL termText splitMath
def mkB (c : UInt8) : Bool := c == 40 || (c == 41 || c == 44)
inductive Tx : List Int → List UInt8 → Prop
 | one (n : Int) (m : List UInt8) (h : m.all mkB = true) : Tx [n] (hdT n ++ m)
 | cons (n : Int) (m : List UInt8) (ns : List Int) (s : List UInt8) (h : m.all mkB = true) (h0 : m ≠ []) (h1 : Tx ns s) : Tx (n :: ns) (hdT n ++ (m ++ s))
theorem Tx.mark {ns : List Int} {s : List UInt8} (h : Tx ns s) {m : List UInt8} (hm : m.all mkB = true) : Tx ns (s ++ m) := by
 induction h with
 | one n m' h =>
  rw [List.append_assoc]
  exact .one n (m' ++ m) (by rw [List.all_append, h, hm]; rfl)
 | cons n m' ns s h h0 h1 ih =>
  rw [List.append_assoc, List.append_assoc]
  exact .cons n m' ns (s ++ m) h h0 ih
theorem Tx.app {ns ns' : List Int} {s s' : List UInt8} (h : Tx ns s) {m : List UInt8} (hm : m.all mkB = true) (h0 : m ≠ []) (h' : Tx ns' s') : Tx (ns ++ ns') (s ++ (m ++ s')) := by
 induction h with
 | one n m' h =>
  have e : hdT n ++ m' ++ (m ++ s') = hdT n ++ ((m' ++ m) ++ s') := by simp
  rw [e]
  exact .cons n (m' ++ m) ns' s' (by rw [List.all_append, h, hm]; rfl) (by simp [h0]) h'
 | cons n m' ns s h h0' h1 ih =>
  have e : hdT n ++ (m' ++ s) ++ (m ++ s') = hdT n ++ (m' ++ (s ++ (m ++ s'))) := by simp
  rw [e]
  exact .cons n m' _ _ h h0' ih
theorem take_first {t : List Int} {a j i : Nat} (h1 : j ≤ i) : (t.drop a).take i = (t.drop a).take j ++ (t.drop (a + j)).take (i - j) := by
 rw [← List.drop_drop, ← List.take_add, show j + (i - j) = i by omega]
theorem take_head {t : List Int} {a i : Nat} (h : a < t.length) : (t.drop a).take (i + 1) = t.getD a 0 :: (t.drop (a + 1)).take i := by
 rw [List.drop_eq_getElem_cons h, List.take_succ_cons]
 simp [List.getD, h]
theorem txt_tx {sg t : List Int} : ∀ f a j, scan sg 1 (t.drop a) = some j → j ≤ f → Tx ((t.drop a).take j) (txt sg t f a)
 | 0, a, j, hj, hf => by have := scan_pos (q := 0) hj; omega
 | f + 1, a, j, hj, hf => by
  obtain ⟨r, rfl, hat, hneg, hr⟩ := scan_args hj
  have hw : ∀ q p r, scan sg (q + 1) (t.drop p) = some r → r ≤ f → Tx ((t.drop p).take r) (Lib.join (wordsOf sg t (txt sg t f) (q + 1) p) [44]) := by
   intro q
   induction q with
   | zero =>
    intro p r hr hf
    have h1 := txt_tx f p r hr hf
    rw [show wordsOf sg t (txt sg t f) (0 + 1) p = [txt sg t f p] from rfl, Lib.join_one]
    exact h1
   | succ q ih =>
    intro p r hr hf
    obtain ⟨j, e1, e2, e3, e4⟩ := scan_first hr
    have h1 := txt_tx f p j e1 (by omega)
    have h2 := ih (p + j) (r - j) e4 (by omega)
    rw [show wordsOf sg t (txt sg t f) (q + 1 + 1) p = txt sg t f p :: txt sg t f (p + len1 sg t p) :: wordsOf sg t (txt sg t f) q (p + len1 sg t p + len1 sg t (p + len1 sg t p)) from rfl, join_two, len1_eq e1, take_first e3]
    exact h1.app (m := [44]) (by decide) (by simp) h2
  rw [take_head hat]
  show Tx _ (hdT (t.getD a 0) ++ open_ (wordsOf sg t (txt sg t f) (ar sg (t.getD a 0)).toNat (a + 1)) ++ shut_ (wordsOf sg t (txt sg t f) (ar sg (t.getD a 0)).toNat (a + 1)))
  obtain ⟨q, hq⟩ : ∃ q, (ar sg (t.getD a 0)).toNat = q := ⟨_, rfl⟩
  rw [hq] at hr ⊢
  cases q with
  | zero =>
   have h0 : r = 0 := by
    rw [scan_zero] at hr
    injection hr with hr
    exact hr.symm
   subst h0
   rw [List.take_zero]
   have e : open_ (wordsOf sg t (txt sg t f) 0 (a + 1)) = [] := rfl
   have e2 : shut_ (wordsOf sg t (txt sg t f) 0 (a + 1)) = [] := rfl
   rw [e, e2, List.append_nil]
   exact .one _ [] rfl
  | succ q =>
   have h1 := hw q (a + 1) r hr (by omega)
   have hne : wordsOf sg t (txt sg t f) (q + 1) (a + 1) ≠ [] := by simp [wordsOf]
   unfold open_ shut_
   rw [if_neg hne, if_neg hne]
   have := Tx.cons (t.getD a 0) [40] _ _ (by decide) (by simp) (h1.mark (m := [41]) (by decide))
   simpa using this
def numN : Nat → List UInt8 → List Int → Option (List Int)
 | 0, _, out => some out
 | _ + 1, [], out => some out
 | f + 1, h :: r, out => if h = 120 ∨ h = 102 then (if rdOk (r.takeWhile dgt) = true ∧ out.length < 60 then numN f (r.drop (r.takeWhile dgt).length) (out ++ [if h = 120 then -1 - (rdV (r.takeWhile dgt) : Int) else rdV (r.takeWhile dgt)]) else none) else numN f r out
theorem num_mark : ∀ (m : List UInt8) (f : Nat) (s : List UInt8) (out : List Int), m.all mkB = true → m.length ≤ f → numN f (m ++ s) out = numN (f - m.length) s out
 | [], f, s, out, _, _ => rfl
 | c :: m, 0, s, out, _, h => by simp at h
 | c :: m, f + 1, s, out, hm, h => by
  rw [List.all_cons, Bool.and_eq_true] at hm
  have hc : ¬ (c = 120 ∨ c = 102) := by
   rintro (rfl | rfl)
   ·exact absurd hm.1 (by decide)
   ·exact absurd hm.1 (by decide)
  rw [List.cons_append, numN, if_neg hc, num_mark m f s out hm.2 (by simpa using h)]
  simp
theorem dgt_ch {d : Nat} (h : d < 10) : dgt (ch d) = true := by unfold dgt; rw [ch_toNat h]; exact decide_eq_true (by omega)
theorem dg_rd {n : Nat} (h : n < 100) : rdOk (dg n) = true ∧ rdV (dg n) = n ∧ (dg n).all dgt = true := by
 by_cases h0 : n < 10
 ·rw [dg_one h0]
  exact ⟨(rd_ch h0).1, (rd_ch h0).2, by rw [List.all_cons, dgt_ch h0]; rfl⟩
 ·have e : dg n = [ch (n / 10), ch (n % 10)] := by rw [dg_two h0, dg_one (by omega)]; rfl
  have h1 := ch_toNat (show n / 10 < 10 by omega)
  have h2 := ch_toNat (show n % 10 < 10 by omega)
  have h3 : [ch (n / 10), ch (n % 10)].all dgt = true := by rw [List.all_cons, List.all_cons, dgt_ch (by omega), dgt_ch (by omega)]; rfl
  rw [e]
  refine ⟨?_, ?_, h3⟩
  ·unfold rdOk
   rw [h3, Bool.and_true]
   refine decide_eq_true ⟨by simp, by simp, fun h4 => ?_⟩
   have h5 : (ch (n / 10)).toNat = (48 : UInt8).toNat := congrArg UInt8.toNat h4.1
   rw [h1] at h5
   have h6 : (48 : UInt8).toNat = 48 := rfl
   omega
  ·show rdF [ch (n / 10), ch (n % 10)] 0 = n
   simp only [rdF, List.foldl_cons, List.foldl_nil, h1, h2]
   omega
theorem take_dg {w s : List UInt8} (hw : w.all dgt = true) (hs : ∀ c r, s = c :: r → dgt c = false) : (w ++ s).takeWhile dgt = w := by
 induction w with
 | nil =>
  cases s with
  | nil => rfl
  | cons c r => rw [List.nil_append, List.takeWhile_cons, hs c r rfl]; rfl
 | cons c w ih =>
  rw [List.all_cons, Bool.and_eq_true] at hw
  rw [List.cons_append, List.takeWhile_cons, if_pos hw.1, ih hw.2]
theorem mark_no {c : UInt8} (h : mkB c = true) : dgt c = false := by
 unfold mkB at h
 simp only [Bool.or_eq_true, beq_iff_eq] at h
 rcases h with rfl | rfl | rfl <;> decide
theorem num_head {n : Int} (hn : -24 ≤ n ∧ n < 100) {f : Nat} {s : List UInt8} {out : List Int} (ho : out.length < 60) (hs : ∀ c r, s = c :: r → dgt c = false) : numN (f + 1) (hdT n ++ s) out = numN f s (out ++ [n]) := by
 by_cases h0 : n < 0
 ·obtain ⟨h1, h2, h3⟩ := dg_rd (n := (-1 - n).toNat) (by omega)
  unfold hdT
  rw [if_pos h0, List.cons_append, numN, if_pos (.inl rfl), take_dg h3 hs, if_pos ⟨h1, ho⟩, if_pos rfl, h2, List.drop_left]
  congr 3
  omega
 ·obtain ⟨h1, h2, h3⟩ := dg_rd (n := n.toNat) (by omega)
  unfold hdT
  rw [if_neg h0, List.cons_append, numN, if_pos (.inr rfl), take_dg h3 hs, if_pos ⟨h1, ho⟩, if_neg (by decide), h2, List.drop_left]
  congr 3
  omega
theorem num_tx {ns : List Int} {s : List UInt8} (h : Tx ns s) : ∀ (f : Nat) (out : List Int), s.length ≤ f → out.length + ns.length ≤ 60 → (∀ x ∈ ns, -24 ≤ x ∧ x < 100) → numN f s out = some (out ++ ns) := by
 have hp : ∀ n, 1 ≤ (hdT n).length := fun n => by unfold hdT; split <;> simp
 induction h with
 | one n m hm =>
  intro f out hf ho hx
  have := hp n
  rw [List.length_append] at hf
  obtain ⟨g, rfl⟩ : ∃ g, f = g + 1 := ⟨f - 1, by omega⟩
  rw [num_head (hx n (List.mem_cons_self ..)) (by simp at ho; omega) (fun c r e => mark_no (by rw [e, List.all_cons, Bool.and_eq_true] at hm; exact hm.1))]
  have h9 := num_mark m g [] (out ++ [n]) hm (by omega)
  rw [List.append_nil] at h9
  rw [h9]
  cases g - m.length <;> rfl
 | cons n m ns s hm h0 h1 ih =>
  intro f out hf ho hx
  have := hp n
  rw [List.length_append, List.length_append] at hf
  obtain ⟨g, rfl⟩ : ∃ g, f = g + 1 := ⟨f - 1, by omega⟩
  rw [num_head (hx n (List.mem_cons_self ..)) (by simp at ho; omega) (fun c r e => mark_no (by
   cases m with
   | nil => exact absurd rfl h0
   | cons d m =>
    rw [List.cons_append] at e
    injection e with e1 e2
    rw [List.all_cons, Bool.and_eq_true] at hm
    rw [← e1]
    exact hm.1)), num_mark m g s (out ++ [n]) hm (by omega), ih (g - m.length) (out ++ [n]) (by omega) (by simp at ho ⊢; omega) (fun x hx' => hx x (List.mem_cons_of_mem _ hx'))]
  simp
end wordMath
end
section
namespace fieldsMath
open text textL termText splitMath wordMath
def mkN (x : Nat) : Bool := x == 40 || (x == 41 || x == 44)
theorem mkN_byte (c : UInt8) : mkN c.toNat = mkB c := by
 have h : ∀ d : UInt8, (c.toNat == d.toNat) = (c == d) := fun d => by
  by_cases e : c = d
  ·subst e; simp
  ·rw [beq_eq_false_iff_ne.2 e, beq_eq_false_iff_ne.2 (fun e' => e (UInt8.toNat_inj.1 e'))]
 unfold mkN mkB
 rw [← h 40, ← h 41, ← h 44]
 rfl
def step (l : List UInt8) (f pos : Nat) (st : Option Nat) (acc : List (Nat × Nat)) : List (Nat × Nat) × Option Nat := Lib.spansFromP mkN (bs l) f pos st acc
theorem dec_at {l pre : List UInt8} {c : UInt8} {r : List UInt8} (h : l = pre ++ c :: r) (hc : c.toNat < 128) : pre.length < (bs l).size ∧ Utf8.decode (bs l) pre.length = (c.toNat, 1) := by
 have h1 : pre.length < (bs l).size := by rw [bs_size, h]; simp
 have h2 : (bs l)[pre.length]'h1 = c := by
  show (l.toArray)[pre.length]'(by rw [h]; simp) = c
  simp [h]
 exact ⟨h1, by rw [decode_ascii (bs l) pre.length h1 (by rw [h2]; exact hc), h2]⟩
theorem step_mark {l : List UInt8} : ∀ (m pre r : List UInt8) (f : Nat) (acc : List (Nat × Nat)), l = pre ++ (m ++ r) → m.all mkB = true → (∀ c ∈ m, c.toNat < 128) → step l (f + m.length) pre.length none acc = step l f (pre.length + m.length) none acc
 | [], pre, r, f, acc, _, _, _ => rfl
 | c :: m, pre, r, f, acc, h, hm, ha => by
  rw [List.all_cons, Bool.and_eq_true] at hm
  obtain ⟨h1, h2⟩ := dec_at (l := l) (pre := pre) (c := c) (r := m ++ r) h (ha c (List.mem_cons_self ..))
  have ih := step_mark (l := l) m (pre ++ [c]) r f acc (by rw [h]; simp) hm.2 (fun x hx => ha x (List.mem_cons_of_mem _ hx))
  rw [List.length_append, List.length_singleton] at ih
  show Lib.spansFromP mkN (bs l) ((f + m.length) + 1) pre.length none acc = _
  unfold Lib.spansFromP
  rw [if_pos h1, h2, if_pos (by rw [mkN_byte]; exact hm.1)]
  refine Eq.trans ih ?_
  rw [List.length_cons, show pre.length + 1 + m.length = pre.length + (m.length + 1) by omega]
theorem step_word {l : List UInt8} : ∀ (w pre r : List UInt8) (f a : Nat) (acc : List (Nat × Nat)), l = pre ++ (w ++ r) → w.all (fun c => !mkB c) = true → (∀ c ∈ w, c.toNat < 128) → step l (f + w.length) pre.length (some a) acc = step l f (pre.length + w.length) (some a) acc
 | [], pre, r, f, a, acc, _, _, _ => rfl
 | c :: w, pre, r, f, a, acc, h, hm, ha => by
  rw [List.all_cons, Bool.and_eq_true] at hm
  obtain ⟨h1, h2⟩ := dec_at (l := l) (pre := pre) (c := c) (r := w ++ r) h (ha c (List.mem_cons_self ..))
  have ih := step_word (l := l) w (pre ++ [c]) r f a acc (by rw [h]; simp) hm.2 (fun x hx => ha x (List.mem_cons_of_mem _ hx))
  rw [List.length_append, List.length_singleton] at ih
  show Lib.spansFromP mkN (bs l) ((f + w.length) + 1) pre.length (some a) acc = _
  unfold Lib.spansFromP
  rw [if_pos h1, h2, if_neg (by rw [mkN_byte]; have := hm.1; simpa using this)]
  refine Eq.trans ih ?_
  rw [List.length_cons, show pre.length + 1 + w.length = pre.length + (w.length + 1) by omega]
theorem step_first {l w pre r : List UInt8} {f : Nat} {acc : List (Nat × Nat)} (h : l = pre ++ (w ++ r)) (hw : w.all (fun c => !mkB c) = true) (ha : ∀ c ∈ w, c.toNat < 128) (hne : w ≠ []) : step l (f + w.length) pre.length none acc = step l f (pre.length + w.length) (some pre.length) acc := by
 cases w with
 | nil => exact absurd rfl hne
 | cons c w =>
  rw [List.all_cons, Bool.and_eq_true] at hw
  obtain ⟨h1, h2⟩ := dec_at (l := l) (pre := pre) (c := c) (r := w ++ r) h (ha c (List.mem_cons_self ..))
  have ih := step_word (l := l) w (pre ++ [c]) r f pre.length acc (by rw [h]; simp) hw.2 (fun x hx => ha x (List.mem_cons_of_mem _ hx))
  rw [List.length_append, List.length_singleton] at ih
  show Lib.spansFromP mkN (bs l) ((f + w.length) + 1) pre.length none acc = _
  unfold Lib.spansFromP
  rw [if_pos h1, h2, if_neg (by rw [mkN_byte]; have := hw.1; simpa using this)]
  refine Eq.trans ih ?_
  rw [List.length_cons, show pre.length + 1 + w.length = pre.length + (w.length + 1) by omega]
theorem step_shut {l m pre r : List UInt8} {f a : Nat} {acc : List (Nat × Nat)} (h : l = pre ++ (m ++ r)) (hm : m.all mkB = true) (ha : ∀ c ∈ m, c.toNat < 128) (hne : m ≠ []) : step l (f + m.length) pre.length (some a) acc = step l f (pre.length + m.length) none (acc ++ [(a, pre.length)]) := by
 cases m with
 | nil => exact absurd rfl hne
 | cons c m =>
  rw [List.all_cons, Bool.and_eq_true] at hm
  obtain ⟨h1, h2⟩ := dec_at (l := l) (pre := pre) (c := c) (r := m ++ r) h (ha c (List.mem_cons_self ..))
  have ih := step_mark (l := l) m (pre ++ [c]) r f (acc ++ [(a, pre.length)]) (by rw [h]; simp) hm.2 (fun x hx => ha x (List.mem_cons_of_mem _ hx))
  rw [List.length_append, List.length_singleton] at ih
  show Lib.spansFromP mkN (bs l) ((f + m.length) + 1) pre.length (some a) acc = _
  unfold Lib.spansFromP
  rw [if_pos h1, h2, if_pos (by rw [mkN_byte]; exact hm.1)]
  refine Eq.trans ih ?_
  rw [List.length_cons, show pre.length + 1 + m.length = pre.length + (m.length + 1) by omega]
theorem mark_small {c : UInt8} (h : mkB c = true) : c.toNat < 128 := by
 unfold mkB at h
 simp only [Bool.or_eq_true, beq_iff_eq] at h
 rcases h with rfl | rfl | rfl <;> decide
theorem dgt_plain {c : UInt8} (h : dgt c = true) : (!mkB c) = true ∧ c.toNat < 128 := by
 have h2 : 48 ≤ c.toNat ∧ c.toNat ≤ 57 := of_decide_eq_true h
 refine ⟨?_, by omega⟩
 cases hm : mkB c with
 | false => rfl
 | true => rw [mark_no hm] at h; cases h
theorem hd_plain {n : Int} (h : -24 ≤ n ∧ n < 100) : (hdT n).all (fun c => !mkB c) = true ∧ (∀ c ∈ hdT n, c.toNat < 128) ∧ hdT n ≠ [] := by
 have key : ∀ (c : UInt8) (m : Nat), (!mkB c) = true → c.toNat < 128 → m < 100 → (c :: dg m).all (fun c => !mkB c) = true ∧ (∀ x ∈ c :: dg m, x.toNat < 128) ∧ c :: dg m ≠ [] := by
  intro c m h1 h2 h3
  obtain ⟨-, -, h4⟩ := dg_rd h3
  rw [List.all_eq_true] at h4
  refine ⟨?_, fun x hx => ?_, by simp⟩
  ·rw [List.all_eq_true]
   intro x hx
   rcases List.mem_cons.1 hx with rfl | hx
   ·exact h1
   ·exact (dgt_plain (h4 x hx)).1
  ·rcases List.mem_cons.1 hx with rfl | hx
   ·exact h2
   ·exact (dgt_plain (h4 x hx)).2
 unfold hdT
 split
 ·exact key 120 _ (by decide) (by decide) (by omega)
 ·exact key 102 _ (by decide) (by decide) (by omega)
theorem ext_word {l pre w r : List UInt8} (h : l = pre ++ (w ++ r)) : (bs l).extract pre.length (pre.length + w.length) = bs w := by
 have := ByteArray.extract_mk l pre.length (pre.length + w.length)
 refine Eq.trans this ?_
 rw [h]
 simp [bs]
theorem fields_tx {ns : List Int} {s : List UInt8} (h : Tx ns s) : ∀ (l pre : List UInt8) (f : Nat) (acc : List (Nat × Nat)), l = pre ++ s → s.length ≤ f → (∀ x ∈ ns, -24 ≤ x ∧ x < 100) →
  (Lib.closeSpans (bs l) (step l f pre.length none acc)).map (fun x => (bs l).extract x.1 x.2) = acc.map (fun x => (bs l).extract x.1 x.2) ++ ns.map fun n => bs (hdT n) := by
 induction h with
 | one n m hm =>
  intro l pre f acc hl hf hx
  obtain ⟨p1, p2, p3⟩ := hd_plain (hx n (List.mem_cons_self ..))
  rw [List.length_append] at hf
  obtain ⟨g, rfl⟩ : ∃ g, f = g + m.length + (hdT n).length := ⟨f - m.length - (hdT n).length, by omega⟩
  rw [step_first hl p1 p2 p3]
  have hl2 : l = (pre ++ hdT n) ++ (m ++ []) := by rw [hl]; simp
  have e1 : (pre ++ hdT n).length = pre.length + (hdT n).length := List.length_append ..
  have hend : ∀ (st : Option Nat) (acc : List (Nat × Nat)), step l g (pre.length + (hdT n).length + m.length) st acc = (acc, st) := fun st acc => Lib.spansFromP_end _ _ _ _ _ _ (by rw [bs_size, hl]; simp; omega)
  by_cases hm0 : m = []
  ·subst hm0
   have h9 := hend (some pre.length) acc
   simp only [List.length_nil, Nat.add_zero] at h9 ⊢
   rw [h9]
   show (acc ++ [(pre.length, (bs l).size)]).map _ = _
   have e2 : (bs l).size = pre.length + (hdT n).length := by rw [bs_size, hl]; simp
   rw [e2, List.map_append, List.map_singleton, List.map_singleton, ext_word hl]
  ·have h9 := step_shut (l := l) (f := g) (a := pre.length) (acc := acc) hl2 hm (fun c hc => mark_small ((List.all_eq_true.1 hm) c hc)) hm0
   rw [e1] at h9
   rw [h9, hend none _]
   show (acc ++ [(pre.length, pre.length + (hdT n).length)]).map _ = _
   rw [List.map_append, List.map_singleton, List.map_singleton, ext_word hl]
 | cons n m ns s hm h0 h1 ih =>
  intro l pre f acc hl hf hx
  obtain ⟨p1, p2, p3⟩ := hd_plain (hx n (List.mem_cons_self ..))
  rw [List.length_append, List.length_append] at hf
  obtain ⟨g, rfl⟩ : ∃ g, f = g + m.length + (hdT n).length := ⟨f - m.length - (hdT n).length, by omega⟩
  rw [step_first hl p1 p2 p3]
  have hl2 : l = (pre ++ hdT n) ++ (m ++ s) := by rw [hl]; simp
  have e1 : (pre ++ hdT n).length = pre.length + (hdT n).length := List.length_append ..
  have h9 := step_shut (l := l) (f := g) (a := pre.length) (acc := acc) hl2 hm (fun c hc => mark_small ((List.all_eq_true.1 hm) c hc)) h0
  rw [e1] at h9
  have h8 := ih l (pre ++ hdT n ++ m) g (acc ++ [(pre.length, pre.length + (hdT n).length)]) (by rw [hl]; simp) (by omega) (fun x hx' => hx x (List.mem_cons_of_mem _ hx'))
  rw [List.length_append, e1] at h8
  rw [h9, h8, List.map_append, List.map_singleton, ext_word hl]
  simp
theorem fields_words {ns : List Int} {l : List UInt8} (h : Tx ns l) (hx : ∀ x ∈ ns, -24 ≤ x ∧ x < 100) : Lib.goFieldsP mkN (bs l) = ns.map fun n => bs (hdT n) := by
 have := fields_tx h l [] l.length [] rfl (Nat.le_refl _) hx
 unfold Lib.goFieldsP Lib.spansOfP
 rw [bs_size]
 simpa [step] using this
end fieldsMath
end
section
namespace isMark
open Go.RowKit base text textL splitSpec markRune markRuneB fieldsMath
set_option maxRecDepth 100000
theorem ascii_mark : ∀ x : Fin 128, decide (0 ≤ Lib.indexByte [40, 44, 41] (x.val.toUInt8)) = mkN x.val := by decide
theorem hi_mark {x : Nat} (h : 128 ≤ x) : mkN x = false := by
 unfold mkN
 rw [beq_eq_false_iff_ne.2 (by omega), beq_eq_false_iff_ne.2 (by omega), beq_eq_false_iff_ne.2 (by omega)]
 rfl
theorem indexRune (x : Nat) (hx : x ≤ 1114111) (w : World) :
  Calls Tryd.prog 88 #[.string (bs [40, 44, 41]), .int .i32 (x : Int)] w fun e w' => (∃ v : Int, e = .returned (.int .i64 v) ∧ decide (0 ≤ v) = mkN x) ∧ Below w.heap.size w w' := by
 by_cases h1 : x < 128
 ·refine (Tryd.strings_IndexRune_ascii (bs [40, 44, 41]) (x : Int) w (by omega) (by omega)).mono ?_
  rintro e w' ⟨rfl, rfl⟩
  exact ⟨⟨_, rfl, ascii_mark ⟨x, h1⟩⟩, Below.refl _ _⟩
 ·by_cases h2 : x = 65533
  ·subst h2
   refine (indexRune_bad w).mono ?_
   rintro e w' ⟨rfl, hb⟩
   exact ⟨⟨_, rfl, by rw [hi_mark (by omega)]; decide⟩, hb⟩
  ·refine (indexRune_hi (x : Int) w (by omega) (by omega) (by omega)).mono ?_
   rintro e w' ⟨rfl, hb⟩
   exact ⟨⟨_, rfl, by rw [hi_mark (by omega)]; decide⟩, hb⟩
theorem containsRune (x : Nat) (hx : x ≤ 1114111) (w : World) :
  Calls Tryd.prog 68 #[.string (bs [40, 44, 41]), .int .i32 (x : Int)] w fun e w' => e = .returned (.bool (mkN x)) ∧ Below w.heap.size w w' := by
 have L := Lib.hid (indexRune x hx w)
 obtain ⟨S, hS⟩ : ∃ S, bs [40, 44, 41] = S := ⟨_, rfl⟩
 rw [hS] at L ⊢
 clear hS
 go_enter Tryd.func68, Tryd.ntmps68
 go_wp2_with fail
 refine L.out.mono ?_
 rintro e w1 ⟨⟨v, rfl, hv⟩, bb⟩
 have F := Lib.hid bb
 have HV := Lib.hid hv
 clear bb hv L
 go_wp2
 go_ret
 exact ⟨by rw [← HV.out]; rfl, F.out⟩
theorem isMark (x : Nat) (hx : x ≤ 1114111) (w : World) :
  Calls Tryd.prog 40 #[.int .i32 (x : Int)] w fun e w' => e = .returned (.bool (mkN x)) ∧ Below w.heap.size w w' := by
 have L := Lib.hid (containsRune x hx w)
 go_enter Tryd.func40, Tryd.ntmps40
 go_wp2_with fail
 refine L.out.mono ?_
 rintro e w1 ⟨rfl, bb⟩
 have F := Lib.hid bb
 clear bb L
 go_wp2
 go_ret
 exact ⟨rfl, F.out⟩
end isMark
end
end Go.Proofs.YtlaloakegajheabDoor
section
namespace Go.Proofs
open Go.Shelf
def Tryd.lays229_ren : Go.Shelf.Ren := ⟨fun | 229 => 39 | n => n, fun | 9 => 9 | 40 => 65 | 31 => 63 | 152 => 85 | 3 => 3 | 0 => 0 | 4 => 4 | 21 => 21 | 154 => 87 | n => n, fun | n => n⟩
theorem Tryd.lays229 : Go.Proofs.Lays.n229 Tryd.prog Tryd.lays229_ren := {
 mixed := by kernel_rfl
 f229 := Tryd.func39.trans (congrArg some (by kernel_rfl))
 t0 := Tryd.underlying0
 a0 := Tryd.isAgg0
 z0 := Tryd.sizeOf0
 v0 := Tryd.zeroValue0
 t3 := Tryd.underlying3
 a3 := Tryd.isAgg3
 z3 := Tryd.sizeOf3
 v3 := Tryd.zeroValue3
 t4 := Tryd.underlying4
 a4 := Tryd.isAgg4
 z4 := Tryd.sizeOf4
 v4 := Tryd.zeroValue4
 t9 := Tryd.underlying9
 a9 := Tryd.isAgg9
 z9 := Tryd.sizeOf9
 v9 := Tryd.zeroValue9
 t21 := Tryd.underlying21
 a21 := Tryd.isAgg21
 z21 := Tryd.sizeOf21
 v21 := Tryd.zeroValue21
 t31 := Tryd.underlying63
 a31 := Tryd.isAgg63
 z31 := Tryd.sizeOf63
 v31 := Tryd.zeroValue63
 t40 := Tryd.underlying65
 a40 := Tryd.isAgg65
 z40 := Tryd.sizeOf65
 v40 := Tryd.zeroValue65
 t152 := Tryd.underlying85
 a152 := Tryd.isAgg85
 z152 := Tryd.sizeOf85
 v152 := Tryd.zeroValue85
 t154 := Tryd.underlying87
 a154 := Tryd.isAgg87
 z154 := Tryd.sizeOf87
 v154 := Tryd.zeroValue87 }
open Go.RowKit Go.Lib in
theorem Tryd.strings_FieldsFunc (g : Nat) (lb : Array Value) (eg : ∀ args w, (callFunc g args).run Tryd.prog w = .ok (.enter g args) w) (p : Nat → Bool) (s : ByteArray) (w : World) (hs : s.size ≤ 4294967296) (hp : PredGrows Tryd.prog g lb p w) :
  Calls Tryd.prog 39 #[.string s, .func (.func g) #[] lb] w fun e w' => ∃ A, e = .returned (.slice (some ⟨A, 0, none⟩) (Lib.goFieldsP p s).length (Lib.goFieldsP p s).length) ∧ w.heap.size ≤ A ∧
   w'.ownsRow w.heap.size 9 1 (.slice (some ⟨A, 0, none⟩) (Lib.goFieldsP p s).length (Lib.goFieldsP p s).length) (Lib.goFieldsP p s).length ((Lib.goFieldsP p s).map Value.string) ∧ Below w.heap.size w w' := Any.strings_FieldsFunc_grows Tryd.lays229 g lb eg p s w hs hp (by kernel_rfl) (by kernel_rfl)
end Go.Proofs
end
namespace Go.Proofs.YtlaloakegajheabDoor
section
open Go.Lib (hid)
namespace numSpec
open Go.RowKit base ints sym marks app text textL splitMath splitSpec wordMath
set_option maxRecDepth 100000
def AnsN (w : World) (R : Option (List Int)) (e : Ending) (w' : World) : Prop := ∃ A n c, e = .returned (.tuple #[.slice A n c, .bool R.isSome]) ∧ Own w' w.heap.size (.slice A n c) (R.getD []) ∧ Below w.heap.size w w'
def HeadN (w : World) (l : List UInt8) (N : Nat) (R : Option (List Int)) (out i : Value) (wr : World) : Prop :=
 ∃ (k m : Nat) (O : Option Addr) (oc : Nat) (D : List Int) (f : Nat), k ≤ N ∧ i = .int .i64 k ∧ out = .slice O m oc ∧ D.length = m ∧ m ≤ 60 ∧ Own wr w.heap.size (.slice O m oc) D ∧ N - k ≤ f ∧ numN f (l.drop k) D = R ∧ Below w.heap.size w wr
def HeadG (l : List UInt8) (N k : Nat) (wr0 : World) (i : Value) (wr : World) : Prop :=
 ∃ j : Nat, k + 1 ≤ j ∧ j ≤ N ∧ i = .int .i64 j ∧ ((l.drop (k + 1)).take (j - (k + 1))).all dgt = true ∧ wr = wr0
theorem drop_at {l : List UInt8} {k : Nat} (h : k < l.length) : l.drop k = l.getD k 0 :: l.drop (k + 1) := by
 rw [List.drop_eq_getElem_cons h]
 simp [List.getD, h]
theorem num_skip {l : List UInt8} {k f : Nat} {D : List Int} (h : k < l.length) (hf : l.length - k ≤ f) (hh : ¬ (l.getD k 0 = 120 ∨ l.getD k 0 = 102)) : numN f (l.drop k) D = numN (f - 1) (l.drop (k + 1)) D := by
 obtain ⟨g, rfl⟩ : ∃ g, f = g + 1 := ⟨f - 1, by omega⟩
 rw [drop_at h, numN, if_neg hh]
 rfl
theorem num_take {l : List UInt8} {k f j : Nat} {D : List Int} (h : k < l.length) (hf : l.length - k ≤ f) (hh : l.getD k 0 = 120 ∨ l.getD k 0 = 102) (hj : k + 1 ≤ j) (hjl : j ≤ l.length) (hd : ((l.drop (k + 1)).take (j - (k + 1))).all dgt = true) (he : j < l.length → dgt (l.getD j 0) = false) :
  numN f (l.drop k) D = if rdOk ((l.drop (k + 1)).take (j - (k + 1))) = true ∧ D.length < 60 then numN (f - 1) (l.drop j) (D ++ [if l.getD k 0 = 120 then -1 - (rdV ((l.drop (k + 1)).take (j - (k + 1))) : Int) else rdV ((l.drop (k + 1)).take (j - (k + 1)))]) else none := by
 obtain ⟨g, rfl⟩ : ∃ g, f = g + 1 := ⟨f - 1, by omega⟩
 have e0 : (l.drop (k + 1)).drop (j - (k + 1)) = l.drop j := by rw [List.drop_drop]; congr 1; omega
 have e : (l.drop (k + 1)).takeWhile dgt = (l.drop (k + 1)).take (j - (k + 1)) := by
  conv => lhs; rw [← List.take_append_drop (j - (k + 1)) (l.drop (k + 1))]
  refine take_dg hd (fun c r ec => ?_)
  rw [e0] at ec
  have hjl2 : j < l.length := by
   rcases Nat.lt_or_ge j l.length with q | q
   ·exact q
   ·rw [List.drop_eq_nil_of_le q] at ec; cases ec
  rw [drop_at hjl2] at ec
  injection ec with e1 e2
  rw [← e1]
  exact he hjl2
 have el : ((l.drop (k + 1)).take (j - (k + 1))).length = j - (k + 1) := by rw [List.length_take, List.length_drop]; omega
 rw [drop_at h, numN, if_pos hh, e, el, e0]
 rfl
theorem rd_lt {y : List UInt8} (h : rdOk y = true) : rdV y < 1000000000 := by
 unfold rdOk at h
 rw [Bool.and_eq_true, decide_eq_true_eq] at h
 have h1 := rdF_lt y 0 h.2
 have h2 : (10 : Nat) ^ y.length ≤ 10 ^ 9 := Nat.pow_le_pow_right (by omega) h.1.2.1
 have h3 : rdV y = rdF y 0 := rfl
 omega
set_option maxHeartbeats 2000000 in
theorem l10Numbers (l : List UInt8) (w : World) (hn : l.length ≤ 1048576) :
  Calls Tryd.prog 33 #[.string (bs l)] w (AnsN w (numN l.length l [])) := by
 obtain ⟨T, hT⟩ : ∃ T, bs l = T := ⟨_, rfl⟩
 obtain ⟨N, hN⟩ : ∃ N, l.length = N := ⟨_, rfl⟩
 rw [hT]
 have hlen : ∀ v : World, (Builtin.len_ #[9] 3 #[.string T]).run Tryd.prog v = .ok (.int .i64 (N : Int)) v := by
  intro v
  rw [run_len_string (P := Tryd.prog) v 9 3 T Tryd.underlying9, ← hT, bs_size, hN]
  rfl
 have HI := hid (fun (k : Nat) (h : k < l.length) => by rw [← hT]; exact at_bs h : ∀ k, k < l.length → ∀ v, (Instr.index 9 (.string T) (.int .i64 (k : Int))).run Tryd.prog v = .ok (.int .u8 ((l.getD k 0).toNat : Int)) v)
 have HC := hid (fun (a b : Nat) (h1 : a ≤ b) (h2 : b ≤ l.length) => by rw [← hT]; exact cut_bs h1 h2 : ∀ a b, a ≤ b → b ≤ l.length → ∀ v, (Instr.slice 9 (.string T) (some (.int .i64 (a : Int))) (some (.int .i64 (b : Int))) none).run Tryd.prog v = .ok (.string (bs ((l.drop a).take (b - a)))) v)
 have HN := hid hN
 obtain ⟨R, hR⟩ : ∃ R, numN l.length l [] = R := ⟨_, rfl⟩
 rw [hR]
 have S0 := hid (show HeadN w l N R (.slice (some ⟨w.heap.size, 0, none⟩) 0 0) (.int .i64 0) (w.alloc (.cells #[] 2)) from ⟨0, 0, _, 0, [], l.length, Nat.zero_le _, rfl, rfl, rfl, by omega, own_empty w w.heap.size (Nat.le_refl _), by omega, hR, (Below.refl _ _).alloc (Nat.le_refl _) _⟩)
 have HNb : N ≤ 1048576 := by omega
 clear hT hN hR hn
 go_enter Tryd.func33, Tryd.ntmps33
 go_wp2_with fail
 go_loopw [4, 5] (fun out i wr => HeadN w l N R out i wr) (fun _ i _ => N - (intOf i).toNat)
 case atStart => exact S0.out
 case round =>
  clear S0
  obtain ⟨k, m, O, oc, D, f, hk, rfl, rfl, hDm, hm, ho, hf, hr, hb⟩ := hrel
  have hz := hb.size
  by_cases hlt : k < N
  ·have i0 : (0 : Int) ≤ (k : Int) := by omega
   have i1 : (k : Int) < (N : Int) := by omega
   have hkl : k < l.length := by rw [HN.out]; exact hlt
   have hidx := HI.out k hkl
   have hf2 : l.length - k ≤ f := by rw [HN.out]; exact hf
   by_cases hh : l.getD k 0 = 120 ∨ l.getD k 0 = 102
   ·obtain ⟨X, hX⟩ : ∃ X, (l.getD k 0).toNat = X := ⟨_, rfl⟩
    rw [hX] at hidx
    have hxx : (X : Int) = 120 ∨ (¬ (X : Int) = 120 ∧ (X : Int) = 102) := by
     rcases hh with h | h
     ·refine .inl ?_
      rw [h] at hX
      have h9 : (120 : UInt8).toNat = 120 := rfl
      omega
     ·refine .inr ?_
      rw [h] at hX
      have h9 : (102 : UInt8).toNat = 102 := rfl
      omega
    have HX := hid hX
    have HT2 := hid (fun j h1 h2 h3 h4 => num_take (D := D) (j := j) hkl hf2 hh h1 h2 h3 h4)
    have HR := hid hr
    have HO := hid ho
    have HB := hid hb
    have HDM := hid hDm
    have HF := hid hf
    have HJ1 := hid hk
    have G0 := hid (show HeadG l N k wr (.int .i64 ((k : Int) + 1)) wr from ⟨k + 1, Nat.le_refl _, hlt, by simp, by simp, rfl⟩)
    clear hX hh hf2 hr ho hb hDm hf hkl
    rcases hxx with hx | ⟨hx, hx2⟩
    ·rw [hx] at hidx
     go_wp2_with fail
     go_loopw [5] (fun i w9 => HeadG l N k wr i w9) (fun i _ => N - (intOf i).toNat)
     case atStart => exact G0.out
     case round =>
      obtain ⟨j, hj1, hj2, rfl, hjd, rfl⟩ := hrel
      have g0 : (0 : Int) ≤ (j : Int) := by omega
      by_cases hcont : j < N ∧ dgt (l.getD j 0) = true
      ·have g1 : (j : Int) < (N : Int) := by omega
       have hjx := HI.out j (by rw [HN.out]; exact hcont.1)
       obtain ⟨Y, hY⟩ : ∃ Y, (l.getD j 0).toNat = Y := ⟨_, rfl⟩
       have hy1 : 48 ≤ Y ∧ Y ≤ 57 := by rw [← hY]; exact of_decide_eq_true hcont.2
       rw [hY] at hjx
       have g2 : (48 : Int) ≤ (Y : Int) := by omega
       have g3 : (Y : Int) ≤ 57 := by omega
       have S := hid (show HeadG l N k wr (.int .i64 ((j : Int) + 1)) wr from ⟨j + 1, by omega, by omega, by simp, by
        have h8 : k + 1 + (j - (k + 1)) = j := by omega
        have h9 : (l.drop (k + 1)).take (j + 1 - (k + 1)) = (l.drop (k + 1)).take (j - (k + 1)) ++ [l.getD j 0] := by
         rw [show j + 1 - (k + 1) = (j - (k + 1)) + 1 by omega, List.take_succ_eq_append_getElem (by rw [List.length_drop, HN.out]; omega)]
         simp [List.getD, h8, show j < l.length by rw [HN.out]; exact hcont.1]
        rw [h9, List.all_append, hjd, Bool.true_and, List.all_cons, hcont.2]
        rfl, rfl⟩)
       clear hjd hY hcont hy1
       go_wp2
       go_roundw
       case rel => exact S.out
       case measure => simp [intOf]; omega
      ·have hnum := HT2.out j hj1 (by rw [HN.out]; exact hj2) hjd (fun h => by
        cases hd : dgt (l.getD j 0) with
        | false => rfl
        | true => exact absurd ⟨by rw [← HN.out]; exact h, hd⟩ hcont)
       have hcut := HC.out (k + 1) j hj1 (by rw [HN.out]; exact hj2)
       obtain ⟨y, hy⟩ : ∃ y, (l.drop (k + 1)).take (j - (k + 1)) = y := ⟨_, rfl⟩
       rw [hy] at hcut hnum
       have ek : ((k + 1 : Nat) : Int) = (k : Int) + 1 := by omega
       rw [ek] at hcut
       have hn2 := hnum
       rw [HR.out] at hn2
       have LR := hid (l1Read y wr)
       have hstop : (¬ (j : Int) < (N : Int)) ∨ ((j : Int) < (N : Int) ∧ ∃ Y : Nat, (∀ v, (Instr.index 9 (.string T) (.int .i64 (j : Int))).run Tryd.prog v = .ok (.int .u8 (Y : Int)) v) ∧ (¬ (48 : Int) ≤ (Y : Int) ∨ ((48 : Int) ≤ (Y : Int) ∧ ¬ (Y : Int) ≤ 57))) := by
        by_cases hjN : j < N
        ·refine .inr ⟨by omega, (l.getD j 0).toNat, HI.out j (by rw [HN.out]; exact hjN), ?_⟩
         have hd : dgt (l.getD j 0) = false := by
          cases hd : dgt (l.getD j 0) with
          | false => rfl
          | true => exact absurd ⟨hjN, hd⟩ hcont
         have := of_decide_eq_false hd
         omega
        ·exact .inl (by omega)
       have HN2 := hid hn2
       have HJK := hid hj1
       clear hn2 hnum hy hjd hcont hj1
       rcases hstop with q0 | ⟨q0, Y, q1, q2 | ⟨q2, q3⟩⟩
       all_goals
        go_wp2_with fail
        refine LR.out.mono ?_
        rintro e w3 ⟨he, hw⟩
        subst hw
        cases hrd : rdOk y with
        | false =>
         rw [hrd] at he
         subst he
         have hR : R = none := by rw [HN2.out, hrd]; simp
         have F : AnsN w R (.returned (.tuple #[.slice (some ⟨w3.heap.size, 0, none⟩) 0 0, .bool false])) (w3.alloc (.cells #[] 2)) := ⟨_, _, _, by rw [hR]; rfl, by rw [hR]; exact own_empty w3 w.heap.size hz, HB.out.alloc hz _⟩
         have HFF := hid F
         clear F hR hrd LR
         go_wp2
         go_ret2
         exact HFF.out
        | true =>
         rw [hrd] at he
         subst he
         by_cases hm6 : m < 60
         ·skip
          have hRV := HN2.out
          rw [if_pos ⟨hrd, by rw [HDM.out]; exact hm6⟩, if_pos (UInt8.toNat_inj.1 (show _ = 120 by have := HX.out; omega))] at hRV
          have hvb := rd_lt hrd
          have hVI : rdI y = (rdV y : Int) := by unfold rdI; rw [if_pos hrd]
          rw [hVI]
          obtain ⟨V, hV⟩ : ∃ V, rdV y = V := ⟨_, rfl⟩
          rw [hV] at hRV hvb ⊢
          have hm7 : ¬ (60 : Int) ≤ (m : Int) := by omega
          have RV := hid hRV
          clear hRV hVI hV hrd LR
          go_wp2_with (at_builtin; refine app1 rfl _ _ rfl w.heap.size O m oc _ rfl (HO.out.alloc _) w3.heap.size 1 (-1 - (V : Int)) rfl ((Row.new _ _ _).cell 0) (by omega) (by simp; omega) ?_; intro O' oc' w2 ho2 b2)
          have S := hid (show HeadN w l N R (.slice O' (m + 1) oc') (.int .i64 (j : Int)) w2 from ⟨j, m + 1, O', oc', D ++ [(-1 - (V : Int))], f - 1, hj2, rfl, rfl, by rw [List.length_append, HDM.out]; rfl, by omega, ho2, by have := HF.out; have := HJK.out; omega, RV.out.symm, (HB.out.alloc hz _).trans b2⟩)
          clear ho2 b2
          go_wp2
          go_roundw
          case rel => exact S.out
          case measure => have := HJK.out; simp [intOf]; omega
         ·have hR : R = none := by rw [HN2.out, if_neg (fun h => hm6 (by rw [← HDM.out]; exact h.2))]
          have hm7 : (60 : Int) ≤ (m : Int) := by omega
          have F : AnsN w R (.returned (.tuple #[.slice (some ⟨w3.heap.size, 0, none⟩) 0 0, .bool false])) (w3.alloc (.cells #[] 2)) := ⟨_, _, _, by rw [hR]; rfl, by rw [hR]; exact own_empty w3 w.heap.size hz, HB.out.alloc hz _⟩
          have HFF := hid F
          clear F hR hrd LR
          go_wp2
          go_ret2
          exact HFF.out
    ·rw [hx2] at hidx
     go_wp2_with fail
     go_loopw [5] (fun i w9 => HeadG l N k wr i w9) (fun i _ => N - (intOf i).toNat)
     case atStart => exact G0.out
     case round =>
      obtain ⟨j, hj1, hj2, rfl, hjd, rfl⟩ := hrel
      have g0 : (0 : Int) ≤ (j : Int) := by omega
      by_cases hcont : j < N ∧ dgt (l.getD j 0) = true
      ·have g1 : (j : Int) < (N : Int) := by omega
       have hjx := HI.out j (by rw [HN.out]; exact hcont.1)
       obtain ⟨Y, hY⟩ : ∃ Y, (l.getD j 0).toNat = Y := ⟨_, rfl⟩
       have hy1 : 48 ≤ Y ∧ Y ≤ 57 := by rw [← hY]; exact of_decide_eq_true hcont.2
       rw [hY] at hjx
       have g2 : (48 : Int) ≤ (Y : Int) := by omega
       have g3 : (Y : Int) ≤ 57 := by omega
       have S := hid (show HeadG l N k wr (.int .i64 ((j : Int) + 1)) wr from ⟨j + 1, by omega, by omega, by simp, by
        have h8 : k + 1 + (j - (k + 1)) = j := by omega
        have h9 : (l.drop (k + 1)).take (j + 1 - (k + 1)) = (l.drop (k + 1)).take (j - (k + 1)) ++ [l.getD j 0] := by
         rw [show j + 1 - (k + 1) = (j - (k + 1)) + 1 by omega, List.take_succ_eq_append_getElem (by rw [List.length_drop, HN.out]; omega)]
         simp [List.getD, h8, show j < l.length by rw [HN.out]; exact hcont.1]
        rw [h9, List.all_append, hjd, Bool.true_and, List.all_cons, hcont.2]
        rfl, rfl⟩)
       clear hjd hY hcont hy1
       go_wp2
       go_roundw
       case rel => exact S.out
       case measure => simp [intOf]; omega
      ·have hnum := HT2.out j hj1 (by rw [HN.out]; exact hj2) hjd (fun h => by
        cases hd : dgt (l.getD j 0) with
        | false => rfl
        | true => exact absurd ⟨by rw [← HN.out]; exact h, hd⟩ hcont)
       have hcut := HC.out (k + 1) j hj1 (by rw [HN.out]; exact hj2)
       obtain ⟨y, hy⟩ : ∃ y, (l.drop (k + 1)).take (j - (k + 1)) = y := ⟨_, rfl⟩
       rw [hy] at hcut hnum
       have ek : ((k + 1 : Nat) : Int) = (k : Int) + 1 := by omega
       rw [ek] at hcut
       have hn2 := hnum
       rw [HR.out] at hn2
       have LR := hid (l1Read y wr)
       have hstop : (¬ (j : Int) < (N : Int)) ∨ ((j : Int) < (N : Int) ∧ ∃ Y : Nat, (∀ v, (Instr.index 9 (.string T) (.int .i64 (j : Int))).run Tryd.prog v = .ok (.int .u8 (Y : Int)) v) ∧ (¬ (48 : Int) ≤ (Y : Int) ∨ ((48 : Int) ≤ (Y : Int) ∧ ¬ (Y : Int) ≤ 57))) := by
        by_cases hjN : j < N
        ·refine .inr ⟨by omega, (l.getD j 0).toNat, HI.out j (by rw [HN.out]; exact hjN), ?_⟩
         have hd : dgt (l.getD j 0) = false := by
          cases hd : dgt (l.getD j 0) with
          | false => rfl
          | true => exact absurd ⟨hjN, hd⟩ hcont
         have := of_decide_eq_false hd
         omega
        ·exact .inl (by omega)
       have HN2 := hid hn2
       have HJK := hid hj1
       clear hn2 hnum hy hjd hcont hj1
       rcases hstop with q0 | ⟨q0, Y, q1, q2 | ⟨q2, q3⟩⟩
       all_goals
        go_wp2_with fail
        refine LR.out.mono ?_
        rintro e w3 ⟨he, hw⟩
        subst hw
        cases hrd : rdOk y with
        | false =>
         rw [hrd] at he
         subst he
         have hR : R = none := by rw [HN2.out, hrd]; simp
         have F : AnsN w R (.returned (.tuple #[.slice (some ⟨w3.heap.size, 0, none⟩) 0 0, .bool false])) (w3.alloc (.cells #[] 2)) := ⟨_, _, _, by rw [hR]; rfl, by rw [hR]; exact own_empty w3 w.heap.size hz, HB.out.alloc hz _⟩
         have HFF := hid F
         clear F hR hrd LR
         go_wp2
         go_ret2
         exact HFF.out
        | true =>
         rw [hrd] at he
         subst he
         by_cases hm6 : m < 60
         ·skip
          have hRV := HN2.out
          rw [if_pos ⟨hrd, by rw [HDM.out]; exact hm6⟩, if_neg (fun h => by have h8 := HX.out; rw [h] at h8; have h9 : (120 : UInt8).toNat = 120 := rfl; omega)] at hRV
          have hvb := rd_lt hrd
          have hVI : rdI y = (rdV y : Int) := by unfold rdI; rw [if_pos hrd]
          rw [hVI]
          obtain ⟨V, hV⟩ : ∃ V, rdV y = V := ⟨_, rfl⟩
          rw [hV] at hRV hvb ⊢
          have hm7 : ¬ (60 : Int) ≤ (m : Int) := by omega
          have RV := hid hRV
          clear hRV hVI hV hrd LR
          go_wp2_with (at_builtin; refine app1 rfl _ _ rfl w.heap.size O m oc _ rfl (HO.out.alloc _) w3.heap.size 1 (V : Int) rfl ((Row.new _ _ _).cell 0) (by omega) (by simp; omega) ?_; intro O' oc' w2 ho2 b2)
          have S := hid (show HeadN w l N R (.slice O' (m + 1) oc') (.int .i64 (j : Int)) w2 from ⟨j, m + 1, O', oc', D ++ [(V : Int)], f - 1, hj2, rfl, rfl, by rw [List.length_append, HDM.out]; rfl, by omega, ho2, by have := HF.out; have := HJK.out; omega, RV.out.symm, (HB.out.alloc hz _).trans b2⟩)
          clear ho2 b2
          go_wp2
          go_roundw
          case rel => exact S.out
          case measure => have := HJK.out; simp [intOf]; omega
         ·have hR : R = none := by rw [HN2.out, if_neg (fun h => hm6 (by rw [← HDM.out]; exact h.2))]
          have hm7 : (60 : Int) ≤ (m : Int) := by omega
          have F : AnsN w R (.returned (.tuple #[.slice (some ⟨w3.heap.size, 0, none⟩) 0 0, .bool false])) (w3.alloc (.cells #[] 2)) := ⟨_, _, _, by rw [hR]; rfl, by rw [hR]; exact own_empty w3 w.heap.size hz, HB.out.alloc hz _⟩
          have HFF := hid F
          clear F hR hrd LR
          go_wp2
          go_ret2
          exact HFF.out
   ·have hs := num_skip (D := D) hkl hf2 hh
    obtain ⟨X, hX⟩ : ∃ X, (l.getD k 0).toNat = X := ⟨_, rfl⟩
    have hx1 : ((X : Int) != 120) = true := bne_iff_ne.2 (fun e => hh (.inl (UInt8.toNat_inj.1 (show _ = 120 by omega))))
    have hx2 : ((X : Int) != 102) = true := bne_iff_ne.2 (fun e => hh (.inr (UInt8.toNat_inj.1 (show _ = 102 by omega))))
    rw [hX] at hidx
    have S := hid (show HeadN w l N R (.slice O m oc) (.int .i64 ((k : Int) + 1)) wr from ⟨k + 1, m, O, oc, D, f - 1, hlt, by simp, rfl, hDm, hm, ho, by omega, by rw [← hs]; exact hr, hb⟩)
    clear hs hh hX hkl hf hf2 hr ho hb hDm
    go_wp2
    go_roundw
    case rel => exact S.out
    case measure => simp [intOf]; omega
  ·have hkN : k = N := by omega
   have i1 : ¬ (k : Int) < (N : Int) := by omega
   have e : l.drop k = [] := List.drop_eq_nil_of_le (by rw [HN.out]; omega)
   have hR : R = some D := by
    rw [← hr, e]
    cases f <;> rfl
   have F : AnsN w R (.returned (.tuple #[.slice O m oc, .bool true])) wr := ⟨O, m, oc, by rw [hR]; rfl, by rw [hR]; exact ho, hb⟩
   have HF := hid F
   clear F hR e hr ho hb hkN hf hDm
   go_wp2
   go_ret2
   exact HF.out
end numSpec
end
section
open Go.Lib (hid)
namespace termText
open Go.RowKit base ints sig term arity endOf cursor termOk endAt marks app sym args depth termFacts text textL
set_option maxRecDepth 100000
def HeadTx (w : World) (A : Option Addr) (n c : Nat) (O : Option Addr) (T oc : Nat) (ys : List Int) (sg t : List Int) (f m : Nat) (H : List UInt8) (Wd : List (List UInt8)) (s i : Value) (wr : World) : Prop :=
 ∃ (k q pp r : Nat) (ws : List (List UInt8)), i = .int .i64 k ∧ k + q = T ∧ ws.length = k ∧ ws ++ wordsOf sg t (txt sg t f) q pp = Wd ∧ ys.drop k = places sg t q pp ∧ scan sg q (t.drop pp) = some r ∧ pp + r ≤ m ∧ r ≤ f ∧ s = .string (bs (H ++ open_ ws)) ∧ Own wr (w.heap.size + 1) (.slice O T oc) ys ∧ Row wr w.heap.size 28 #[.slice A n c] ∧ Below w.heap.size w wr
theorem open_len {ws : List (List UInt8)} (h3 : ws.length ≤ 3) (h : ∀ x ∈ ws, x.length ≤ 4096) : (open_ ws).length ≤ 20000 := by
 unfold open_
 split
 ·simp
 ·have := join_bd (M := 4096) [44] ws h
  have h4 : ws.length * (4096 + [(44 : UInt8)].length) ≤ 3 * 4097 := Nat.mul_le_mul h3 (by simp)
  rw [List.length_cons]
  omega
theorem open_one (w : List UInt8) : open_ ([] ++ [w]) = [40] ++ w := by unfold open_; rw [if_neg (by simp)]; rw [List.nil_append, Lib.join_one]; rfl
theorem open_more {ws : List (List UInt8)} (w : List UInt8) (h : ws ≠ []) : open_ (ws ++ [w]) = open_ ws ++ [44] ++ w := by
 unfold open_
 rw [if_neg (by simp), if_neg h, join_snoc _ _ h]
 simp
set_option maxHeartbeats 4000000 in
theorem specTxt (A A' : Option Addr) (n c m c' : Nat) (sg t : List Int) (hn : n ≤ 1048576) (hm : m ≤ 1048576) (hs : Arities sg) (hsm : Small t) : ∀ (f a j : Nat) (x : Int) (w : World), Seg w w.heap.size A n sg → Seg w w.heap.size A' m t →
  x = (a : Int) → a < m → scan sg 1 (t.drop a) = some j → a + j ≤ m → j ≤ f → f ≤ 500 →
  Calls Tryd.prog 66 #[.agg #[.slice A n c], .slice A' m c', .int .i64 x] w fun e w' => e = .returned (.string (bs (txt sg t f a))) ∧ Below w.heap.size w w' := by
 intro f
 induction f with
 | zero =>
  intro a j x w _ _ _ _ hj _ hf _
  have := scan_pos (q := 0) hj
  omega
 | succ f ih =>
  intro a j x w h h' hx ha hj hl hf hff
  subst hx
  have IH := hid ih
  clear ih
  have HL := hid h'.1
  have HSM := hid hsm
  have HWL := hid (fun q p r h1 h2 => words_le hs hsm (f := f) (by omega) q p r h1 h2)
  have HTL := hid (fun p j h1 h2 => txt_len hs hsm f p j h1 h2)
  obtain ⟨r0, hjr, hat, hneg, hr0⟩ := scan_args hj
  have hsa := hsm a hat
  have hzb := ar_bd hs (t.getD a 0)
  have e2 : argsL sg t a = places sg t (ar sg (t.getD a 0)).toNat (a + 1) := rfl
  obtain ⟨T, hT⟩ : ∃ T, (ar sg (t.getD a 0)).toNat = T := ⟨_, rfl⟩
  have e1 : txt sg t (f + 1) a = hdT (t.getD a 0) ++ open_ (wordsOf sg t (txt sg t f) T (a + 1)) ++ shut_ (wordsOf sg t (txt sg t f) T (a + 1)) := by rw [← hT]; rfl
  rw [hT] at e2 hr0
  have hT3 : T ≤ 3 := by omega
  obtain ⟨W, hW⟩ : ∃ W, W = w.alloc (.cells #[.slice A n c] 28) := ⟨_, rfl⟩
  have rA : Row W w.heap.size 28 #[.slice A n c] := by rw [hW]; exact Row.new _ _ _
  have bel : Below w.heap.size w W := by rw [hW]; exact (Below.refl _ _).alloc (Nat.le_refl _) _
  have zW : W.heap.size = w.heap.size + 1 := by rw [hW]; simp
  obtain ⟨b, off, x, hA', hbb, hcx0, ex⟩ := h'.spot ha
  have cx : (w.alloc (.cells #[.slice A n c] 28)).cell? ⟨b, off + a, none⟩ = some (.int .i64 x) := by rw [← hW]; exact (bel.cell (p := ⟨b, off + a, none⟩) hbb).trans hcx0
  have i0 : (0 : Int) ≤ (a : Int) := by omega
  have i1 : (a : Int) < (m : Int) := by omega
  rw [ex.out] at hsa e1 hT hzb
  have HW := hid hW
  clear hW hcx0
  subst hA'
  by_cases hx0 : x < 0
  ·obtain ⟨m0, hm0⟩ : ∃ z : Nat, -1 - x = (z : Int) := ⟨(-1 - x).toNat, by omega⟩
   have hT0 : T = 0 := by rw [← hT, ar_var (by omega)]; rfl
   have LI := hid (l1Int m0 W (by omega))
   have E := hid (show bs [120] ++ bs (dg m0) = bs (txt sg t (f + 1) a) by
    rw [bs_app, e1, hT0]
    unfold hdT open_ shut_ wordsOf
    rw [if_pos hx0, hm0, Int.toNat_natCast]
    simp)
   have ho : ¬ 9223372036854775807 < (⟨#[120]⟩ : ByteArray).size + (bs (dg m0)).size := by rw [bs_size]; have := dg_len (n := m0) (by omega); show ¬ _ < 1 + _; omega
   clear hj hr0 hT e1 e2 hneg hzb hat h h' HWL HTL IH
   go_enter Tryd.func66, Tryd.ntmps66
   go_wp2_with fail
   rw [← HW.out]
   refine LI.out.mono ?_
   rintro e w1 ⟨rfl, bb⟩
   have F := hid (next_trans bel bb)
   clear bb bel rA LI cx hm0
   go_wp2
   go_ret
   exact ⟨by rw [← E.out]; rfl, F.out⟩
  ·obtain ⟨x0, rfl⟩ := Int.eq_ofNat_of_zero_le (Int.not_lt.1 hx0)
   have HH := hid (show hdT (x0 : Int) = [102] ++ dg x0 by unfold hdT; rw [if_neg hx0, Int.toNat_natCast]; rfl)
   have LI := hid (l1Int x0 W (by omega))
   have hdl := dg_len (n := x0) (by omega)
   obtain ⟨Hd, hHd⟩ : ∃ z, hdT (x0 : Int) = z := ⟨_, rfl⟩
   have hHl : Hd.length ≤ 3 := by rw [← hHd]; exact hdT_len (by omega)
   rw [hHd] at HH e1
   have E0 := hid (show bs [102] ++ bs (dg x0) = bs Hd by rw [bs_app, HH.out])
   have ho : ¬ 9223372036854775807 < (⟨#[102]⟩ : ByteArray).size + (bs (dg x0)).size := by rw [bs_size]; show ¬ _ < 1 + _; omega
   obtain ⟨ys, hys⟩ : ∃ ys, argsL sg t a = ys := ⟨_, rfl⟩
   have hylen : ys.length = T := by rw [← hys, e2, places_len]
   have hpl : ys.drop 0 = places sg t T (a + 1) := by rw [← hys, e2]; rfl
   have LA := hid (fun (w1 : World) (bb : Below w.heap.size w w1) => l1Args A (some ⟨b, off, none⟩) n c m c' sg t a j w1 (h.next bb) (h'.next bb) hn hm hs ha hj hl)
   simp only [hys] at LA
   obtain ⟨Wd, hWd⟩ : ∃ z, wordsOf sg t (txt sg t f) T (a + 1) = z := ⟨_, rfl⟩
   rw [hWd] at e1
   have HE := hid e1
   have HWc := hid (show Wd.length = T by rw [← hWd]; exact words_count _ _ _ _ _)
   have HWb := hid (show ∀ x ∈ Wd, x.length ≤ 4096 by rw [← hWd]; exact HWL.out _ _ _ hr0 (by omega))
   have HST := hid (show scan sg T (t.drop (a + 1)) = some r0 ∧ a + 1 + r0 ≤ m ∧ r0 ≤ f ∧ wordsOf sg t (txt sg t f) T (a + 1) = Wd from ⟨hr0, by omega, by omega, hWd⟩)
   have HYS := hid (show ys.length = T ∧ ys.drop 0 = places sg t T (a + 1) from ⟨hylen, hpl⟩)
   have H := hid h
   have H' := hid h'
   clear hj hr0 hT e1 e2 hneg hzb hat hHd hys hWd hylen hpl hdl h h' HWL
   go_enter Tryd.func66, Tryd.ntmps66
   go_wp2_with fail
   rw [← HW.out]
   refine LI.out.mono ?_
   rintro e w1 ⟨rfl, bb⟩
   replace rA := rA.next bb
   replace bel := next_trans bel bb
   have cA : w1.cell? ⟨w.heap.size, 0, none⟩ = some (.slice A n c) := rA.cell 0
   have zw1 : w.heap.size + 1 ≤ w1.heap.size := by have := bb.size; omega
   have LA1 := hid (LA.out w1 bel)
   clear bb LI LA zW cx
   go_wp2_with fail
   refine LA1.out.mono ?_
   rintro e w2 ⟨O, on, oc, rfl, ho2, bb⟩
   have hon := Own.len ho2
   rw [HYS.out.1] at hon
   subst hon
   have S0 : HeadTx w A n c O on oc ys sg t f m Hd Wd (.string (bs Hd)) (.int .i64 0) w2 := ⟨0, on, a + 1, r0, [], rfl, by omega, rfl, by rw [List.nil_append]; exact HST.out.2.2.2, HYS.out.2, HST.out.1, HST.out.2.1, HST.out.2.2.1, by unfold open_; rw [if_pos rfl, List.append_nil], Own.lower ho2 zw1, rA.next bb, next_trans bel bb⟩
   have HS := hid S0
   clear S0 ho2 bb bel rA cA LA1
   have E1 : (⟨#[102]⟩ : ByteArray) ++ bs (dg x0) = bs Hd := E0.out
   go_wp2_with fail
   go_loopw [7, 9] (fun s i wr => HeadTx w A n c O on oc ys sg t f m Hd Wd s i wr) (fun _ i _ => on - (intOf i).toNat)
   case atStart => first | exact HS.out | (rw [E1]; exact HS.out)
   case round =>
    clear E1
    obtain ⟨k, q, pp, r, ws, rfl, hkq, hwl, hwd, hpl, hsc, hpr, hrf, rfl, ho, hr, hb⟩ := hrel
    clear HS
    have hwb : ∀ x ∈ ws, x.length ≤ 4096 := fun x hx => HWb.out x (by rw [← hwd]; exact List.mem_append_left _ hx)
    have hol := open_len (ws := ws) (by omega) hwb
    obtain ⟨V, hV⟩ : ∃ z, Hd ++ open_ ws = z := ⟨_, rfl⟩
    have hVl : V.length ≤ 20003 := by rw [← hV, List.length_append]; omega
    rw [hV]
    cases q with
    | zero =>
     have hk : k = on := by omega
     subst hk
     have hws : ws = Wd := by rw [← hwd]; simp [wordsOf]
     subst hws
     by_cases h0 : k = 0
     ·have hz : ws = [] := List.length_eq_zero_iff.1 (by omega)
      have F := hid (show bs V = bs (txt sg t (f + 1) a) ∧ Below w.heap.size w wr from ⟨by rw [HE.out, ← hV, hz]; unfold open_ shut_; simp, hb⟩)
      have hk0 : ¬ (0 : Int) < (k : Int) := by omega
      clear ho hr hb hpl hkq h0 hV hwd hz hwl
      go_wp2
      go_ret
      exact ⟨by rw [F.out.1]; rfl, F.out.2⟩
     ·have hz : ws ≠ [] := fun e => h0 (by rw [← hwl, e]; rfl)
      have F := hid (show bs V ++ bs [41] = bs (txt sg t (f + 1) a) ∧ Below w.heap.size w wr from ⟨by rw [bs_app, HE.out, ← hV]; unfold shut_; rw [if_neg hz], hb⟩)
      have hk0 : (0 : Int) < (k : Int) := by omega
      have ho3 : ¬ 9223372036854775807 < (bs V).size + (⟨#[41]⟩ : ByteArray).size := by rw [bs_size]; show ¬ _ < _ + 1; omega
      clear ho hr hb hpl hkq h0 hV hwd hz hwl
      go_wp2
      go_ret
      exact ⟨by rw [← F.out.1]; rfl, F.out.2⟩
    | succ q =>
     obtain ⟨jj, hj, hjr, hle, hsc'⟩ := scan_first hsc
     have hkT : k < on := by omega
     have hplt : pp < t.length := by have := scan_args hj; obtain ⟨_, _, h2, _⟩ := this; exact h2
     have hyk : ys.getD k 0 = (pp : Int) := by
      have : (ys.drop k)[0]? = (places sg t (q + 1) pp)[0]? := by rw [hpl]
      simp [places] at this
      simp [List.getD, this]
     have hpl' : ys.drop (k + 1) = places sg t q (pp + jj) := by
      have : (ys.drop k).drop 1 = (places sg t (q + 1) pp).drop 1 := by rw [hpl]
      rw [List.drop_drop] at this
      simpa [places, len1_eq hj] using this
     have so := Own.seg ho
     obtain ⟨bo, oo, y, rfl, hbo, hy, ey⟩ := so.spot hkT
     have hyy : y = (pp : Int) := by rw [← ey.out]; exact hyk
     subst hyy
     have cA : wr.cell? ⟨w.heap.size, 0, none⟩ = some (.slice A n c) := hr.cell 0
     have s : Seg wr.drew wr.heap.size A n sg := ((H.out.below hb).more hb.size).drew
     have s' : Seg wr.drew wr.heap.size (some ⟨b, off, none⟩) m t := ((H'.out.below hb).more hb.size).drew
     obtain ⟨X, hX⟩ : ∃ z, txt sg t f pp = z := ⟨_, rfl⟩
     have hXl : X.length ≤ 4096 := by rw [← hX]; have := HTL.out pp jj hj (by omega); omega
     have hws' : (ws ++ [X]) ++ wordsOf sg t (txt sg t f) q (pp + jj) = Wd := by
      rw [← hwd]
      simp only [wordsOf, len1_eq hj, hX, List.append_assoc, List.singleton_append]
     have HX := hid hX
     have HWS := hid hws'
     have HJ := hid hj
     have HKQ := hid hkq
     have HSC := hid (show scan sg q (t.drop (pp + jj)) = some (r - jj) ∧ pp + jj + (r - jj) ≤ m ∧ r - jj ≤ f from ⟨hsc', by omega, by omega⟩)
     have HWN := hid hwl
     have i0 : (0 : Int) ≤ (k : Int) := by omega
     have i1 : (k : Int) < (on : Int) := by omega
     have hplt' : pp < m := by rw [← HL.out]; exact hplt
     have hpj' : pp + jj ≤ m := by omega
     have hjf : jj ≤ f := by omega
     replace ho := Own.drew ho
     replace hr := hr.drew
     replace hb := hb.drew
     have HPL := hid hpl'
     have HV := hid hV
     clear hpl hpl' hyk ey so hj hkq hX hws' hwd hsc hsc' hplt hV hwb hol hle hjr hpr hrf
     by_cases h0 : k = 0
     case pos =>
      have oS1 : ¬ 9223372036854775807 < (bs V).size + (⟨#[40]⟩ : ByteArray).size := by rw [bs_size]; show ¬ _ < _ + 1; omega
      have eV : bs V ++ (⟨#[40]⟩ : ByteArray) = bs (V ++ [40]) := bs_app V [40]
      have oS2 : ¬ 9223372036854775807 < (bs V ++ (⟨#[40]⟩ : ByteArray)).size + (bs X).size := by rw [eV, bs_size, bs_size, List.length_append]; show ¬ _ < _ + 1 + _; omega
      have oS3 : ¬ 9223372036854775807 < (bs V).size + (⟨#[40]⟩ : ByteArray).size + (bs X).size := by rw [bs_size, bs_size]; show ¬ _ < _ + 1 + _; omega
      have oS4 : ¬ 9223372036854775807 < (bs V).size + 1 + (bs X).size := oS3
      have oS5 : (bs V).size + 1 + (bs X).size ≤ 9223372036854775807 := by omega
      have hrun : ∀ (v : World), (Op.stringOp .add (bs V ++ (⟨#[40]⟩ : ByteArray)) (bs X)).run Tryd.prog v = .ok (.string (bs V ++ (⟨#[40]⟩ : ByteArray) ++ bs X)) v := fun v => run_string_add_sum v _ _ (by omega)
      have EE := hid (show bs V ++ (⟨#[40]⟩ : ByteArray) ++ bs X = bs (Hd ++ open_ (ws ++ [X])) by rw [eV, bs_app, ← HV.out, List.length_eq_zero_iff.1 (show ws.length = 0 by have := HWN.out; omega), open_one]; unfold open_; simp)
      have EK : ((k : Int) == 0) = true := by rw [h0]; rfl
      clear eV h0
      go_wp2_with fail
      go_region_held3 (fun w' => w'.cell? ⟨w.heap.size, 0, none⟩ = some (.slice A n c) ∧ w'.cell? ⟨bo, oo + k, none⟩ = some (.int .i64 (pp : Int)))
       (go_keep)
       (first
        | (go_at_call 66; refine (IH.out pp jj _ _ s s' rfl hplt' HJ.out hpj' hjf (by omega)).mono ?_; rintro e w4 ⟨he, bb⟩; rw [HX.out] at he; subst he; replace hr := hr.next bb; replace ho := Own.next ho bb; replace hb := next_trans hb bb; replace cA : w4.cell? ⟨w.heap.size, 0, none⟩ = some (.slice A n c) := hr.cell 0; replace hy : w4.cell? ⟨bo, oo + k, none⟩ = some (.int .i64 (pp : Int)) := (bb.cell (p := ⟨bo, oo + k, none⟩) hbo).trans hy))
      have S : HeadTx w A n c (some ⟨bo, oo, none⟩) on oc ys sg t f m Hd Wd (.string (bs V ++ (⟨#[40]⟩ : ByteArray) ++ bs X)) (.int .i64 ((k : Int) + 1)) w4 :=
       ⟨k + 1, q, pp + jj, r - jj, ws ++ [X], by simp, by have := HKQ.out; omega, by rw [List.length_append, HWN.out]; rfl, HWS.out, HPL.out, HSC.out.1, HSC.out.2.1, HSC.out.2.2, by rw [EE.out], ho, hr, hb⟩
      have HSS := hid S
      clear S ho hr hb bb cA hy s s'
      go_wp2
      go_roundw
      case rel => exact HSS.out
      case measure => simp [intOf]; omega
     have oS1 : ¬ 9223372036854775807 < (bs V).size + (⟨#[44]⟩ : ByteArray).size := by rw [bs_size]; show ¬ _ < _ + 1; omega
     have eV : bs V ++ (⟨#[44]⟩ : ByteArray) = bs (V ++ [44]) := bs_app V [44]
     have oS2 : ¬ 9223372036854775807 < (bs V ++ (⟨#[44]⟩ : ByteArray)).size + (bs X).size := by rw [eV, bs_size, bs_size, List.length_append]; show ¬ _ < _ + 1 + _; omega
     have oS3 : ¬ 9223372036854775807 < (bs V).size + (⟨#[44]⟩ : ByteArray).size + (bs X).size := by rw [bs_size, bs_size]; show ¬ _ < _ + 1 + _; omega
     have oS4 : ¬ 9223372036854775807 < (bs V).size + 1 + (bs X).size := oS3
     have oS5 : (bs V).size + 1 + (bs X).size ≤ 9223372036854775807 := by omega
     have hrun : ∀ (v : World), (Op.stringOp .add (bs V ++ (⟨#[44]⟩ : ByteArray)) (bs X)).run Tryd.prog v = .ok (.string (bs V ++ (⟨#[44]⟩ : ByteArray) ++ bs X)) v := fun v => run_string_add_sum v _ _ (by omega)
     have EE := hid (show bs V ++ (⟨#[44]⟩ : ByteArray) ++ bs X = bs (Hd ++ open_ (ws ++ [X])) by rw [eV, bs_app, ← HV.out, open_more X (fun e => h0 (by have := HWN.out; rw [e] at this; exact this.symm))]; simp)
     have EK : ((k : Int) == 0) = false := by simp; omega
     clear eV h0
     go_wp2_with fail
     go_region_held3 (fun w' => w'.cell? ⟨w.heap.size, 0, none⟩ = some (.slice A n c) ∧ w'.cell? ⟨bo, oo + k, none⟩ = some (.int .i64 (pp : Int)))
      (go_keep)
      (first
       | (go_at_call 66; refine (IH.out pp jj _ _ s s' rfl hplt' HJ.out hpj' hjf (by omega)).mono ?_; rintro e w4 ⟨he, bb⟩; rw [HX.out] at he; subst he; replace hr := hr.next bb; replace ho := Own.next ho bb; replace hb := next_trans hb bb; replace cA : w4.cell? ⟨w.heap.size, 0, none⟩ = some (.slice A n c) := hr.cell 0; replace hy : w4.cell? ⟨bo, oo + k, none⟩ = some (.int .i64 (pp : Int)) := (bb.cell (p := ⟨bo, oo + k, none⟩) hbo).trans hy))
     have S : HeadTx w A n c (some ⟨bo, oo, none⟩) on oc ys sg t f m Hd Wd (.string (bs V ++ (⟨#[44]⟩ : ByteArray) ++ bs X)) (.int .i64 ((k : Int) + 1)) w4 :=
      ⟨k + 1, q, pp + jj, r - jj, ws ++ [X], by simp, by have := HKQ.out; omega, by rw [List.length_append, HWN.out]; rfl, HWS.out, HPL.out, HSC.out.1, HSC.out.2.1, HSC.out.2.2, by rw [EE.out], ho, hr, hb⟩
     have HSS := hid S
     clear S ho hr hb bb cA hy s s'
     go_wp2
     go_roundw
     case rel => exact HSS.out
     case measure => simp [intOf]; omega
def termT (sg t : List Int) : List UInt8 := if termOkB sg t = true then txt sg t t.length 0 else []
theorem small_of {sg t : List Int} (h : termOkB sg t = true) : Small t := fun p hp => by
 have hm : t.getD p 0 ∈ t := by simp only [List.getD, List.getElem?_eq_getElem hp, Option.getD_some]; exact List.getElem_mem hp
 have h1 := term_mem h hm
 have h2 := (sig_arities (termOk_parts h).1).2.2
 omega
set_option maxHeartbeats 2000000 in
theorem specTermText0 (A A' : Option Addr) (n c m c' : Nat) (sg t : List Int) (w : World) (h : Seg w w.heap.size A n sg) (h' : Seg w w.heap.size A' m t) (hn : n ≤ 1048576) (hm : m ≤ 1048576) :
  Calls Tryd.prog 35 #[.agg #[.slice A n c], .slice A' m c'] w fun e w' => e = .returned (.string (bs (termT sg t))) ∧ Below w.heap.size w w' := by
 obtain ⟨W, hW⟩ : ∃ W, W = w.alloc (.cells #[.slice A n c] 28) := ⟨_, rfl⟩
 have rA : Row W w.heap.size 28 #[.slice A n c] := by rw [hW]; exact Row.new _ _ _
 have bel : Below w.heap.size w W := by rw [hW]; exact (Below.refl _ _).alloc (Nat.le_refl _) _
 replace h := (h.below bel).more bel.size
 replace h' := (h'.below bel).more bel.size
 have HW := hid hW
 have HL := hid h'.1
 clear hW
 have L := hid (specTermOk A A' n c m c' sg t W h h' hn hm)
 cases hok : termOkB sg t with
 | false =>
  have HS := hid hok
  have HT := hid (show termT sg t = [] by unfold termT; rw [if_neg (by rw [hok]; simp)])
  clear hok h h'
  go_enter Tryd.func35, Tryd.ntmps35
  go_wp2_with fail
  rw [← HW.out]
  refine L.out.mono ?_
  rintro e w1 ⟨he, bb⟩
  rw [HS.out] at he
  subst he
  have F := hid (next_trans bel bb)
  clear bb bel rA L
  go_wp2
  go_ret
  exact ⟨by rw [HT.out]; rfl, F.out⟩
 | true =>
  have HS := hid hok
  have HT := hid (show termT sg t = txt sg t m 0 by unfold termT; rw [if_pos hok, HL.out])
  have hars := (sig_arities (termOk_parts HS.out).1).1
  have hsmall := small_of hok
  have hpos : 0 < m := by have := termOk_pos HS.out; rw [HL.out] at this; exact this
  have h60 : m ≤ 60 := by rw [← HL.out]; exact (term_len hok).2
  have HJ := hid (show scan sg 1 (t.drop 0) = some m by rw [← HL.out]; exact (termOk_parts HS.out).2.2)
  clear hok
  have LX := hid (fun (w1 : World) (bb : Below W.heap.size W w1) => specTxt A A' n c m c' sg t hn hm hars hsmall m 0 m 0 w1 (h.next bb) (h'.next bb) rfl hpos HJ.out (by omega) (Nat.le_refl _) (by omega))
  go_enter Tryd.func35, Tryd.ntmps35
  go_wp2_with fail
  rw [← HW.out]
  refine L.out.mono ?_
  rintro e w1 ⟨he, bb⟩
  rw [HS.out] at he
  subst he
  have LX1 := hid (LX.out w1 bb)
  replace rA := rA.next bb
  replace bel := next_trans bel bb
  have cA : w1.cell? ⟨w.heap.size, 0, none⟩ = some (.slice A n c) := rA.cell 0
  clear bb LX L h h'
  go_wp2_with fail
  refine LX1.out.mono ?_
  rintro e w2 ⟨rfl, bb⟩
  have F := hid (next_trans bel bb)
  clear bb bel rA cA LX1
  go_wp2
  go_ret
  exact ⟨by rw [HT.out]; rfl, F.out⟩
end termText
end
end Go.Proofs.YtlaloakegajheabDoor
