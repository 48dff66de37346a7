/-
  MERGED: my texts Strat, PickImpl, ByImpl, ByImplB, WFnLongest, one behind the other, as they are. By an AI agent.
-/
import Derived.Test.YtifckjchmjmhoabGreatMFnLongest11
import Derived.Maps.Own
import Derived.Shelf.Abstract
import Derived.Deep.LoopGhost
namespace Go.Proofs.YtifckjchmjmhoabGreat
section
namespace strat
open Go.RowKit base ints sig term marks app sym segs kinds shape kindsR ruleSpec orderMath
set_option maxRecDepth 100000
theorem run_find {P : Program} {k : TypeId} {w : World} {l : List MapEntry} (hk : P.underlying k = some (.int .i64)) (x : Int) {r : Option (Nat × Value)} (h : Instr.findNow (.int .i64) (.int .i64 x) l 0 = some r) : (Instr.findKey k (.int .i64 x) l).run P w = .ok r w := by
 unfold Instr.findKey
 simp [run_underlying hk, h, Result.andThen]
theorem run_ins {P : Program} {t k e : TypeId} {w : World} {b clock : Nat} {es : Array MapEntry} (ht : P.underlying t = some (.map k e)) (hk : P.underlying k = some (.int .i64)) (hb : w.heap[b]? = some (.map es clock)) (x : Int) (hx : (Lit.int .i64 x).wf = true) (v : Value) (hne : Instr.findNow (.int .i64) (.int .i64 x) es.toList 0 = some none) :
   (Instr.mapUpdate t (.map (some b)) (.int .i64 x) v).run P w = .ok () (ChangeMaps.setBlock w b (.map (es.push { key := .int .i64 x, val := v, born := clock }) (clock + 1))) := by
 have K : Maps.Keyed P k := Maps.int_keyed hk
 have hkey := Maps.keyOf_int_mk hk hx
 have hf := run_find (w := w) hk x hne
 simp [Instr.mapUpdate, run_underlying ht, MapKept.run_getObj_map hb, K.check w false hkey, hf, MapKept.run_setObj_map _ hb, Result.andThen, ChangeMaps.setBlock]
theorem run_look {P : Program} {t k e : TypeId} {w : World} {b clock : Nat} {es : Array MapEntry} (ht : P.underlying t = some (.map k e)) (hk : P.underlying k = some (.int .i64)) (hb : w.heap[b]? = some (.map es clock)) (x : Int) (hx : (Lit.int .i64 x).wf = true) (z : Value) (hz : (zeroValue e).run P w = .ok z w) (r : Option (Nat × Value)) (hne : Instr.findNow (.int .i64) (.int .i64 x) es.toList 0 = some r) :
   (Instr.lookup t (.map (some b)) (.int .i64 x) true).run P w = .ok (.tuple #[(r.map (·.2)).getD z, .bool r.isSome]) w := by
 have K : Maps.Keyed P k := Maps.int_keyed hk
 have hkey := Maps.keyOf_int_mk hk hx
 have hf := run_find (w := w) hk x hne
 cases r with
 | none => simp [Instr.lookup, run_underlying ht, MapKept.run_getObj_map hb, K.check w _ hkey, hf, hz, Result.andThen]
 | some p => simp [Instr.lookup, run_underlying ht, MapKept.run_getObj_map hb, K.check w _ hkey, hf, Result.andThen]
def pickG (s : Int) : Nat := if s = 1 then 101 else if s = 2 then 102 else 103
def pickV (a v : Value) (s : Int) : Value := if s = 1 then .func (.func 101) #[.agg #[a, v]] #[] else if s = 2 then .func (.func 102) #[.agg #[a, v]] #[] else if s = 3 then .func (.func 103) #[.agg #[a, v]] #[] else .nilFunc
theorem pickV_yes {a v : Value} {s : Int} (h : stratB s = true) : pickV a v s = .func (.func (pickG s)) #[.agg #[a, v]] #[] := by
 have h : 1 ≤ s ∧ s ≤ 3 := of_decide_eq_true h
 have hs : s = 1 ∨ s = 2 ∨ s = 3 := by omega
 rcases hs with rfl | rfl | rfl <;> rfl
def stEs (a v : Value) : Array MapEntry := #[{ key := .int .i64 1, val := .func (.func 101) #[.agg #[a, v]] #[], born := 0 }, { key := .int .i64 2, val := .func (.func 102) #[.agg #[a, v]] #[], born := 1 }, { key := .int .i64 3, val := .func (.func 103) #[.agg #[a, v]] #[], born := 2 }]
theorem look_st (a v : Value) (s : Int) : ∃ r, Instr.findNow (.int .i64) (.int .i64 s) (stEs a v).toList 0 = some r ∧ (r.map (·.2)).getD .nilFunc = pickV a v s ∧ r.isSome = stratB s := by
 unfold stEs pickV stratB
 by_cases h1 : s = 1
 · subst h1; exact ⟨_, rfl, rfl, rfl⟩
 by_cases h2 : s = 2
 · subst h2; exact ⟨_, rfl, rfl, rfl⟩
 by_cases h3 : s = 3
 · subst h3; exact ⟨_, rfl, rfl, rfl⟩
 refine ⟨none, ?_, ?_, ?_⟩
 · have e1 : (s == 1) = false := by simpa using h1
   have e2 : (s == 2) = false := by simpa using h2
   have e3 : (s == 3) = false := by simpa using h3
   simp [Instr.findNow, Instr.sameNow, e1, e2, e3]
 · rw [if_neg h1, if_neg h2, if_neg h3]; rfl
 · symm
   rw [Option.isSome_none, decide_eq_false_iff_not]
   omega
theorem grown_set {w : World} {b clock : Nat} {es : Array MapEntry} (hb : w.heap[b]? = some (.map es clock)) (o : Obj) : w.grownBy (ChangeMaps.setBlock w b o) (some b) :=
 ⟨rfl, rfl, rfl, by simp [ChangeMaps.setBlock], fun i hi hne => ChangeMaps.heap_setBlock_other hb o (fun e => hne (by rw [e]))⟩
set_option maxHeartbeats 1000000 in
theorem strategies (a v : Value) (w : World) : Calls Tryz.prog 72 #[.agg #[a, v]] w fun e w' => ∃ b, e = .returned (.map (some b)) ∧ w'.heap[b]? = some (.map (stEs a v) 3) ∧ Below w.heap.size w w' := by
 have hmm := @run_makeMap Tryz.prog
 have u1 := Tryz.underlying128
 have u2 := Tryz.underlying2
 obtain ⟨W0, hW0⟩ : ∃ W0, W0 = (w.alloc (.cells #[a, v] 60)).alloc (.map #[] 0) := ⟨_, rfl⟩
 have b0 : W0.heap[w.heap.size + 1]? = some (.map #[] 0) := by
   rw [hW0]
   have := (MapKept.heap_alloc (w.alloc (.cells #[a, v] 60)) (.map #[] 0)).1
   simpa using this
 have r0 : Row W0 w.heap.size 60 #[a, v] := by rw [hW0]; exact (Row.new _ _ _).alloc _
 have bel0 : Below w.heap.size w W0 := by rw [hW0]; exact ((Below.refl _ _).alloc (Nat.le_refl _) _).alloc (by simp) _
 obtain ⟨W1, hW1⟩ : ∃ W1, W1 = ChangeMaps.setBlock W0 (w.heap.size + 1) (.map #[{ key := .int .i64 1, val := .func (.func 101) #[.agg #[a, v]] #[], born := 0 }] 1) := ⟨_, rfl⟩
 have h1 := Lib.hid (show (Instr.mapUpdate 128 (.map (some (w.heap.size + 1))) (.int .i64 1) (.func (.func 101) #[.agg #[a, v]] #[])).run Tryz.prog W0 = .ok () W1 by rw [hW1]; exact run_ins (P := Tryz.prog) u1 u2 b0 1 (by decide) _ rfl)
 have b1 : W1.heap[w.heap.size + 1]? = some (.map #[{ key := .int .i64 1, val := .func (.func 101) #[.agg #[a, v]] #[], born := 0 }] 1) := by rw [hW1]; exact ChangeMaps.heap_setBlock_same b0 _
 have r1 : Row W1 w.heap.size 60 #[a, v] := by rw [hW1]; exact (ChangeMaps.heap_setBlock_other b0 _ (by omega)).trans r0
 have bel1 : Below w.heap.size w W1 := by rw [hW1]; exact bel0.grown (grown_set b0 _) bel0.size (fun k e => by injection e with e; omega)
 obtain ⟨W2, hW2⟩ : ∃ W2, W2 = ChangeMaps.setBlock W1 (w.heap.size + 1) (.map #[{ key := .int .i64 1, val := .func (.func 101) #[.agg #[a, v]] #[], born := 0 }, { key := .int .i64 2, val := .func (.func 102) #[.agg #[a, v]] #[], born := 1 }] 2) := ⟨_, rfl⟩
 have h2 := Lib.hid (show (Instr.mapUpdate 128 (.map (some (w.heap.size + 1))) (.int .i64 2) (.func (.func 102) #[.agg #[a, v]] #[])).run Tryz.prog W1 = .ok () W2 by rw [hW2]; exact run_ins (P := Tryz.prog) u1 u2 b1 2 (by decide) _ rfl)
 have b2 : W2.heap[w.heap.size + 1]? = some (.map #[{ key := .int .i64 1, val := .func (.func 101) #[.agg #[a, v]] #[], born := 0 }, { key := .int .i64 2, val := .func (.func 102) #[.agg #[a, v]] #[], born := 1 }] 2) := by rw [hW2]; exact ChangeMaps.heap_setBlock_same b1 _
 have r2 : Row W2 w.heap.size 60 #[a, v] := by rw [hW2]; exact (ChangeMaps.heap_setBlock_other b1 _ (by omega)).trans r1
 have bel2 : Below w.heap.size w W2 := by rw [hW2]; exact bel1.grown (grown_set b1 _) bel1.size (fun k e => by injection e with e; omega)
 obtain ⟨W3, hW3⟩ : ∃ W3, W3 = ChangeMaps.setBlock W2 (w.heap.size + 1) (.map (stEs a v) 3) := ⟨_, rfl⟩
 have h3 := Lib.hid (show (Instr.mapUpdate 128 (.map (some (w.heap.size + 1))) (.int .i64 3) (.func (.func 103) #[.agg #[a, v]] #[])).run Tryz.prog W2 = .ok () W3 by rw [hW3]; exact run_ins (P := Tryz.prog) u1 u2 b2 3 (by decide) _ rfl)
 have F := Lib.hid (show ∃ b, Ending.returned (.map (some (w.heap.size + 1))) = .returned (.map (some b)) ∧ W3.heap[b]? = some (.map (stEs a v) 3) ∧ Below w.heap.size w W3 from
   ⟨w.heap.size + 1, rfl, by rw [hW3]; exact ChangeMaps.heap_setBlock_same b2 _, by rw [hW3]; exact bel2.grown (grown_set b2 _) bel2.size (fun k e => by injection e with e; omega)⟩)
 have HW0 := Lib.hid hW0
 have HW1 := Lib.hid hW1
 have HW2 := Lib.hid hW2
 have HW3 := Lib.hid hW3
 have k10 : W1.cell? ⟨w.heap.size, 0, none⟩ = some a := r1.cell 0
 have k11 : W1.cell? ⟨w.heap.size, 1, none⟩ = some v := r1.cell 1
 have k20 : W2.cell? ⟨w.heap.size, 0, none⟩ = some a := r2.cell 0
 have k21 : W2.cell? ⟨w.heap.size, 1, none⟩ = some v := r2.cell 1
 clear hW0 hW1 hW2 hW3 b0 b1 b2 r0 r1 r2 bel0 bel1 bel2 u1 u2
 go_enter Tryz.func72, Tryz.ntmps72
 go_wp2_with fail
 rw [← HW0.out, h1.out]
 go_wp2_with fail
 rw [h2.out]
 go_wp2_with fail
 rw [h3.out]
 go_wp2_with fail
 go_ret
 exact F.out
end strat
end
section
namespace pickImpl
open Go.RowKit base ints sig term termOk endAt endOf marks app sym sub segs segsHelp kinds termFacts shifted shape kindsR ruleMath ruleSpec ruleImpl stepMath walkMath stepsMath varsOf stepSpec stepImpl orderMath appAt orderSpec sortedC strat heldT orderImpl
set_option maxRecDepth 100000
def AnsStr (w : World) (a v : Value) (s : Int) (b : Bool) (e : Ending) (w' : World) : Prop := ∃ A1 n1 c1 A2 n2 c2 f, e = .returned (.tuple #[.agg #[.slice A1 n1 c1, .slice A2 n2 c2], f, .bool b]) ∧ (b = true → .slice A1 n1 c1 = a ∧ .slice A2 n2 c2 = v ∧ f = pickV a v s) ∧ Below w.heap.size w w'
theorem str_no1 {sg : List Int} {rs : List Rl} {t : List Int} {s : Int} (h : sysOkB sg rs = false) : (rightB sg rs t && stratB s) = false := by rw [right_sys h]; rfl
set_option maxHeartbeats 8000000 in
theorem strategyIn (a v u : Value) (d : Dat sSystem) (t : List Int) (s : Int) (w : World) (h : Rd w w.heap.size sSystem [a, v] d) (ht : Rd w w.heap.size sI [u] t) (hz : sz sSystem d ≤ 1048576) (hz' : sz sI t ≤ 1048576) (s1 : -9223372036854775808 ≤ s) (s2 : s ≤ 9223372036854775807) :
   Calls Tryz.prog 48 #[.agg #[a, v], u, .int .i64 s] w (AnsStr w a v s (rightB d.1 d.2 t && stratB s)) := by
 have h0 := h
 obtain ⟨T, m, c, rfl, hT, hcT⟩ := rd_ints.1 ht
 have hm := len_ints hT.1 hz'
 obtain ⟨A, n, cs, V, q, cv, rfl, rfl, hs, hc, hcv, hq, hn, hq1, hrs, hsg, hE⟩ := rd_sys h hz
 have hwf : (Lit.int .i64 s).wf = true := by simp [Lit.wf, IntKind.min, IntKind.max, IntKind.signed, IntKind.bits]; omega
 obtain ⟨W, hW, r0, r1, bel⟩ : ∃ W, W = (w.alloc (.cells #[.slice A n cs, .slice V q cv] 29)).alloc (.cells #[.slice none 0 0, .slice none 0 0] 60) ∧ Row W w.heap.size 29 #[.slice A n cs, .slice V q cv] ∧ Row W (w.heap.size + 1) 60 #[.slice none 0 0, .slice none 0 0] ∧ Below w.heap.size w W := by
   refine ⟨_, rfl, (Row.new w _ _).alloc _, ?_, ((Below.refl _ _).alloc (Nat.le_refl _) _).alloc (by simp) _⟩
   have := Row.new (w.alloc (.cells #[.slice A n cs, .slice V q cv] 29)) 60 #[.slice none 0 0, .slice none 0 0]
   simpa using this
 have HW := Lib.hid hW
 have LS := Lib.hid (systemOf _ _ d W (h0.next bel) hz)
 have LT := Lib.hid (fun (w1 : World) (bb : Below w.heap.size w w1) => implTermOk A T n cs m c d.1 t w1 (hs.next bb) (hT.next bb) hn hm)
 have K0 : W.cell? ⟨w.heap.size, 0, none⟩ = some (.slice A n cs) := r0.cell 0
 have K1 : W.cell? ⟨w.heap.size, 1, none⟩ = some (.slice V q cv) := r0.cell 1
 clear hW h h0 ht hT hcT hs hc hcv hq hrs hsg hE
 cases ok : sysOkB d.1 d.2 with
 | false =>
   have HS := Lib.hid (str_no1 (t := t) (s := s) ok)
   rw [ok] at LS
   have LS := Lib.hid (show Calls Tryz.prog 35 #[.agg #[.slice A n cs, .slice V q cv]] W (fun e w' => e = .returned (.tuple #[.agg #[.slice none 0 0, .slice none 0 0], .bool false]) ∧ Below W.heap.size W w') from LS.out)
   clear ok LT
   rw [HS.out]
   go_enter Tryz.func48, Tryz.ntmps48
   go_wp2_with fail
   rw [← HW.out]
   go_wp2_with fail
   refine LS.out.mono ?_
   rintro e w1 ⟨rfl, bb⟩
   replace r1 := r1.next bb
   replace bel := next_trans bel bb
   have zz1 : w.heap.size + 1 < w1.heap.size := r1.lt
   obtain ⟨W2, hW2⟩ : ∃ W2, W2 = w1.alloc (.cells #[.slice none 0 0, .slice none 0 0] 60) := ⟨_, rfl⟩
   have rS : Row W2 w1.heap.size 60 #[.slice none 0 0, .slice none 0 0] := by rw [hW2]; exact Row.new _ _ _
   have b2 : Below w1.heap.size w1 W2 := by rw [hW2]; exact (Below.refl _ _).alloc (Nat.le_refl _) _
   have j0 : W2.cell? ⟨w1.heap.size, 0, none⟩ = some (.slice none 0 0) := rS.cell 0
   have j1 : W2.cell? ⟨w1.heap.size, 1, none⟩ = some (.slice none 0 0) := rS.cell 1
   have LX := Lib.hid (strategies (.slice none 0 0) (.slice none 0 0) W2)
   have HW2 := Lib.hid hW2
   replace r1 := r1.next b2
   replace bel := next_trans bel b2
   clear bb b2 hW2 LS K0 K1 r0 HW
   go_wp2_with fail
   rw [← HW2.out]
   refine LX.out.mono ?_
   rintro e w3 ⟨b, rfl, hb, bb⟩
   obtain ⟨r, hr1, hr2, hr3⟩ := look_st (.slice none 0 0) (.slice none 0 0) s
   have hlk := run_look (P := Tryz.prog) (w := w3) Tryz.underlying128 Tryz.underlying2 hb s hwf .nilFunc (by kernel_rfl) r hr1
   rw [hr2, hr3] at hlk
   obtain ⟨pv, hpv⟩ : ∃ x, pickV (.slice none 0 0) (.slice none 0 0) s = x := ⟨_, rfl⟩
   obtain ⟨bs, hbs⟩ : ∃ x, stratB s = x := ⟨_, rfl⟩
   rw [hpv, hbs] at hlk
   clear hbs
   have HPV := Lib.hid hpv
   replace r1 := r1.next bb
   replace rS := rS.next bb
   replace bel := next_trans bel bb
   have zz2 : W2.heap.size ≤ w3.heap.size := bb.size
   clear hr1 hr2 hr3 hpv HW2 LX bb j0 j1 hb
   replace r1 := r1.next (drew_below w3)
   replace rS := rS.next (drew_below w3)
   replace bel := next_trans bel (drew_below w3)
   have c0 : w3.drew.cell? ⟨w1.heap.size, 0, none⟩ = some (.slice none 0 0) := rS.cell 0
   have c1 : w3.drew.cell? ⟨w1.heap.size, 1, none⟩ = some (.slice none 0 0) := rS.cell 1
   have HR1 := Lib.hid r1
   have HRS := Lib.hid rS
   have JB3 := Lib.hid bel
   clear r1 rS bel
   generalize w1.heap.size = B at *
   go_upto_region 3 with (fail)
   clear hlk
   refine AnyT.start (S := (fun w' => w'.cell? ⟨B, 0, none⟩ = some (.slice none 0 0) ∧ w'.cell? ⟨B, 1, none⟩ = some (.slice none 0 0))) (fun _ => false) (by kernel_rfl) ⟨c0, c1⟩ (fun hHeld => ?_)
   generalize w3.drew = w5 at *
   refine AnyT.take (i := 0) (v := ?_) rfl (by kernel_rfl) (by kernel_rfl) (by kernel_rfl) (by kernel_rfl) (fun _ _ _ h => h) (Or.inl ⟨by rfl, ?_⟩) (by assumption) ?_
   rotate_left 1
   · (intro w0 hSw; (try dsimp only at hSw); go_simp; try with_reducible rfl)
   try simp only [Act.put, List.setIfInBounds_toArray, List.set_cons_zero, List.set_cons_succ, List.getElem_toArray, List.getElem_cons_zero, List.getElem_cons_succ]
   refine AnyT.takeA (i := 1) (v := ?_) rfl (by kernel_rfl) (by kernel_rfl) (by kernel_rfl) (fun _ _ _ h => h) (Or.inl ⟨by rfl, ?_⟩) ?_
   rotate_left 1
   · (intro w0 _; go_simp; try with_reducible rfl)
   try simp only [Act.put, List.setIfInBounds_toArray, List.set_cons_zero, List.set_cons_succ, List.getElem_toArray, List.getElem_cons_zero, List.getElem_cons_succ]
   refine AnyT.takeA (i := 2) (v := ?_) rfl (by kernel_rfl) (by kernel_rfl) (by kernel_rfl) (fun _ _ _ h => h) (Or.inl ⟨by rfl, ?_⟩) ?_
   rotate_left 1
   · (intro w0 _; go_simp; try with_reducible rfl)
   try simp only [Act.put, List.setIfInBounds_toArray, List.set_cons_zero, List.set_cons_succ, List.getElem_toArray, List.getElem_cons_zero, List.getElem_cons_succ]
   refine AnyT.takeA (i := 3) (v := ?_) rfl (by kernel_rfl) (by kernel_rfl) (by kernel_rfl) (fun _ _ _ h => h) (Or.inl ⟨by rfl, ?_⟩) ?_
   rotate_left 1
   · (intro w0 _; go_simp; try with_reducible rfl)
   try simp only [Act.put, List.setIfInBounds_toArray, List.set_cons_zero, List.set_cons_succ, List.getElem_toArray, List.getElem_cons_zero, List.getElem_cons_succ]
   refine AnyT.takeA (i := 4) (v := undef) rfl (by kernel_rfl) (by kernel_rfl) (by kernel_rfl) (fun _ _ _ h => h) (Or.inr ⟨by rfl, rfl⟩) ?_
   try simp only [Act.put, List.setIfInBounds_toArray, List.set_cons_zero, List.set_cons_succ, List.getElem_toArray, List.getElem_cons_zero, List.getElem_cons_succ]
   refine AnyT.takeA (i := 5) (v := ?_) rfl (by kernel_rfl) (by kernel_rfl) (by kernel_rfl) (fun _ _ _ h => h) (Or.inl ⟨by rfl, ?_⟩) ?_
   rotate_left 1
   · (intro w0 _; go_simp; try with_reducible rfl)
   try simp only [Act.put, List.setIfInBounds_toArray, List.set_cons_zero, List.set_cons_succ, List.getElem_toArray, List.getElem_cons_zero, List.getElem_cons_succ]
   refine AnyT.takeA (i := 6) (v := ?_) rfl (by kernel_rfl) (by kernel_rfl) (by kernel_rfl) (fun _ _ _ h => h) (Or.inl ⟨by rfl, ?_⟩) ?_
   rotate_left 1
   · (intro w0 _; go_simp; try with_reducible rfl)
   try simp only [Act.put, List.setIfInBounds_toArray, List.set_cons_zero, List.set_cons_succ, List.getElem_toArray, List.getElem_cons_zero, List.getElem_cons_succ]
   refine AnyT.takeA (i := 7) (v := undef) rfl (by kernel_rfl) (by kernel_rfl) (by kernel_rfl) (fun _ _ _ h => h) (Or.inr ⟨by rfl, rfl⟩) ?_
   try simp only [Act.put, List.setIfInBounds_toArray, List.set_cons_zero, List.set_cons_succ, List.getElem_toArray, List.getElem_cons_zero, List.getElem_cons_succ]
   refine AnyT.takeA (i := 8) (v := undef) rfl (by kernel_rfl) (by kernel_rfl) (by kernel_rfl) (fun _ _ _ h => h) (Or.inr ⟨by rfl, rfl⟩) ?_
   try simp only [Act.put, List.setIfInBounds_toArray, List.set_cons_zero, List.set_cons_succ, List.getElem_toArray, List.getElem_cons_zero, List.getElem_cons_succ]
   refine AnyT.takeA (i := 9) (v := undef) rfl (by kernel_rfl) (by kernel_rfl) (by kernel_rfl) (fun _ _ _ h => h) (Or.inr ⟨by rfl, rfl⟩) ?_
   try simp only [Act.put, List.setIfInBounds_toArray, List.set_cons_zero, List.set_cons_succ, List.getElem_toArray, List.getElem_cons_zero, List.getElem_cons_succ]
   refine AnyT.call (i := 10) (by kernel_rfl) rfl (fun K hK => ?_)
   try simp only [Act.put, List.setIfInBounds_toArray, List.set_cons_zero, List.set_cons_succ, List.getElem_toArray, List.getElem_cons_zero, List.getElem_cons_succ]
   rw [if_neg (by intro h; cases h)]
   refine hK.out _ _ (fun _ h => h) (fun _ => ?_)
   clear hK K
   try simp only [Act.put, List.setIfInBounds_toArray, List.set_cons_zero, List.set_cons_succ, List.getElem_toArray, List.getElem_cons_zero, List.getElem_cons_succ]
   refine AnyT.takeA (i := 11) (v := ?_) rfl (by kernel_rfl) (by kernel_rfl) (by kernel_rfl) (fun _ _ _ h => h) (Or.inl ⟨by rfl, ?_⟩) ?_
   rotate_left 1
   · (intro w0 _; go_simp; try with_reducible rfl)
   try simp only [Act.put, List.setIfInBounds_toArray, List.set_cons_zero, List.set_cons_succ, List.getElem_toArray, List.getElem_cons_zero, List.getElem_cons_succ]
   have r9 := HR1.out
   have q9 := HRS.out
   have g0 := r9.free 0
   have g1 := r9.free 1
   have y0 : w5.cell? ⟨w.heap.size + 1, 0, none⟩ = some (.slice none 0 0) := r9.cell 0
   have y1 : w5.cell? ⟨w.heap.size + 1, 1, none⟩ = some (.slice none 0 0) := r9.cell 1
   have ra := r9.put 0 (.slice none 0 0)
   have y2 : (w5.setCell ⟨w.heap.size + 1, 0, none⟩ (.slice none 0 0)).cell? ⟨w.heap.size + 1, 1, none⟩ = some (.slice none 0 0) := ra.cell 1
   have g2 := ra.free 1
   have rb := ra.put 1 (.slice none 0 0)
   have u0 : ((w5.setCell ⟨w.heap.size + 1, 0, none⟩ (.slice none 0 0)).setCell ⟨w.heap.size + 1, 1, none⟩ (.slice none 0 0)).cell? ⟨w.heap.size + 1, 0, none⟩ = some (.slice none 0 0) := rb.cell 0
   have u1 : ((w5.setCell ⟨w.heap.size + 1, 0, none⟩ (.slice none 0 0)).setCell ⟨w.heap.size + 1, 1, none⟩ (.slice none 0 0)).cell? ⟨w.heap.size + 1, 1, none⟩ = some (.slice none 0 0) := rb.cell 1
   have a3 := (q9.far (show B ≠ w.heap.size + 1 by omega) (p := ⟨w.heap.size + 1, 0, none⟩) (.slice none 0 0)).far (show B ≠ w.heap.size + 1 by omega) (p := ⟨w.heap.size + 1, 1, none⟩) (.slice none 0 0)
   have HA3 := Lib.hid a3
   have hb9 : Below w.heap.size w w5 := JB3.out
   have HFZ := Lib.hid (show AnsStr w (.slice A n cs) (.slice V q cv) s false (.returned (.tuple #[.agg #[.slice none 0 0, .slice none 0 0], pv, .bool false])) ((w5.setCell ⟨w.heap.size + 1, 0, none⟩ (.slice none 0 0)).setCell ⟨w.heap.size + 1, 1, none⟩ (.slice none 0 0)) from ⟨_, _, _, _, _, _, pv, rfl, (fun e => by cases e), (hb9.setCell (show w.heap.size ≤ w.heap.size + 1 by omega) _).setCell (show w.heap.size ≤ w.heap.size + 1 by omega) _⟩)
   clear ra rb r9 q9 a3 hb9
   refine AnyT.call (i := 12) (by kernel_rfl) rfl (fun K hK => ?_)
   try simp only [Act.put, List.setIfInBounds_toArray, List.set_cons_zero, List.set_cons_succ, List.getElem_toArray, List.getElem_cons_zero, List.getElem_cons_succ]
   rw [if_pos (by rfl)]
   go_simp
   refine hK.out _ _ (fun _ _ => ?_) (fun hKeep => ?_)
   · exact ⟨HA3.out.cell 0, HA3.out.cell 1⟩
   replace hHeld := hKeep (by first | rfl | trivial) hHeld
   clear hK K hKeep
   try simp only [Act.put, List.setIfInBounds_toArray, List.set_cons_zero, List.set_cons_succ, List.getElem_toArray, List.getElem_cons_zero, List.getElem_cons_succ]
   refine AnyT.takeA (i := 13) (v := ?_) rfl (by kernel_rfl) (by kernel_rfl) (by kernel_rfl) (fun _ _ _ h => h) (Or.inl ⟨by rfl, ?_⟩) ?_
   rotate_left 1
   · (intro w0 _; go_simp; try with_reducible rfl)
   try simp only [Act.put, List.setIfInBounds_toArray, List.set_cons_zero, List.set_cons_succ, List.getElem_toArray, List.getElem_cons_zero, List.getElem_cons_succ]
   refine AnyT.takeA (i := 14) (v := ?_) rfl (by kernel_rfl) (by kernel_rfl) (by kernel_rfl) (fun _ _ _ h => h) (Or.inl ⟨by rfl, ?_⟩) ?_
   rotate_left 1
   · (intro w0 _; go_simp; try with_reducible rfl)
   try simp only [Act.put, List.setIfInBounds_toArray, List.set_cons_zero, List.set_cons_succ, List.getElem_toArray, List.getElem_cons_zero, List.getElem_cons_succ]
   refine AnyT.done (by kernel_rfl) ?_ _
   go_wp2
   exact bodyPost_ret (v := .tuple #[.agg #[.slice none 0 0, .slice none 0 0], pv, .bool false]) (by simp [results, Tryz.results48, go_sem, u0, u1]) rfl HFZ.out
 | true =>
   have HS := Lib.hid ok
   rw [ok] at LS
   have LS := Lib.hid (show Calls Tryz.prog 35 #[.agg #[.slice A n cs, .slice V q cv]] W (fun e w' => e = .returned (.tuple #[.agg #[.slice A n cs, .slice V q cv], .bool true]) ∧ Below W.heap.size W w') from LS.out)
   clear ok
   cases okst : stratB s with
   | false =>
     have HST := Lib.hid okst
     clear LT okst
     rw [show (rightB d.1 d.2 t && false) = false by simp]
     go_enter Tryz.func48, Tryz.ntmps48
     go_wp2_with fail
     rw [← HW.out]
     go_wp2_with fail
     refine LS.out.mono ?_
     rintro e w1 ⟨rfl, bb⟩
     replace r1 := r1.next bb
     replace bel := next_trans bel bb
     have zz1 : w.heap.size + 1 < w1.heap.size := r1.lt
     obtain ⟨W2, hW2⟩ : ∃ W2, W2 = w1.alloc (.cells #[.slice A n cs, .slice V q cv] 60) := ⟨_, rfl⟩
     have rS : Row W2 w1.heap.size 60 #[.slice A n cs, .slice V q cv] := by rw [hW2]; exact Row.new _ _ _
     have b2 : Below w1.heap.size w1 W2 := by rw [hW2]; exact (Below.refl _ _).alloc (Nat.le_refl _) _
     have j0 : W2.cell? ⟨w1.heap.size, 0, none⟩ = some (.slice A n cs) := rS.cell 0
     have j1 : W2.cell? ⟨w1.heap.size, 1, none⟩ = some (.slice V q cv) := rS.cell 1
     have LX := Lib.hid (strategies (.slice A n cs) (.slice V q cv) W2)
     have HW2 := Lib.hid hW2
     replace r1 := r1.next b2
     replace bel := next_trans bel b2
     clear bb b2 hW2 LS K0 K1 r0 HW
     go_wp2_with fail
     rw [← HW2.out]
     refine LX.out.mono ?_
     rintro e w3 ⟨b, rfl, hb, bb⟩
     obtain ⟨r, hr1, hr2, hr3⟩ := look_st (.slice A n cs) (.slice V q cv) s
     have hlk := run_look (P := Tryz.prog) (w := w3) Tryz.underlying128 Tryz.underlying2 hb s hwf .nilFunc (by kernel_rfl) r hr1
     rw [hr2, hr3] at hlk
     obtain ⟨pv, hpv⟩ : ∃ x, pickV (.slice A n cs) (.slice V q cv) s = x := ⟨_, rfl⟩
     rw [hpv, HST.out] at hlk
     have HPV := Lib.hid hpv
     replace r1 := r1.next bb
     replace rS := rS.next bb
     replace bel := next_trans bel bb
     have zz2 : W2.heap.size ≤ w3.heap.size := bb.size
     clear hr1 hr2 hr3 hpv HW2 LX bb j0 j1 hb
     replace r1 := r1.next (drew_below w3)
     replace rS := rS.next (drew_below w3)
     replace bel := next_trans bel (drew_below w3)
     have c0 : w3.drew.cell? ⟨w1.heap.size, 0, none⟩ = some (.slice A n cs) := rS.cell 0
     have c1 : w3.drew.cell? ⟨w1.heap.size, 1, none⟩ = some (.slice V q cv) := rS.cell 1
     have HR1 := Lib.hid r1
     have HRS := Lib.hid rS
     have JB3 := Lib.hid bel
     clear r1 rS bel
     generalize w1.heap.size = B at *
     go_upto_region 3 with (fail)
     clear hlk
     refine AnyT.start (S := (fun w' => w'.cell? ⟨B, 0, none⟩ = some (.slice A n cs) ∧ w'.cell? ⟨B, 1, none⟩ = some (.slice V q cv))) (fun _ => false) (by kernel_rfl) ⟨c0, c1⟩ (fun hHeld => ?_)
     generalize w3.drew = w5 at *
     refine AnyT.take (i := 0) (v := ?_) rfl (by kernel_rfl) (by kernel_rfl) (by kernel_rfl) (by kernel_rfl) (fun _ _ _ h => h) (Or.inl ⟨by rfl, ?_⟩) (by assumption) ?_
     rotate_left 1
     · (intro w0 hSw; (try dsimp only at hSw); go_simp; try with_reducible rfl)
     try simp only [Act.put, List.setIfInBounds_toArray, List.set_cons_zero, List.set_cons_succ, List.getElem_toArray, List.getElem_cons_zero, List.getElem_cons_succ]
     refine AnyT.takeA (i := 1) (v := ?_) rfl (by kernel_rfl) (by kernel_rfl) (by kernel_rfl) (fun _ _ _ h => h) (Or.inl ⟨by rfl, ?_⟩) ?_
     rotate_left 1
     · (intro w0 _; go_simp; try with_reducible rfl)
     try simp only [Act.put, List.setIfInBounds_toArray, List.set_cons_zero, List.set_cons_succ, List.getElem_toArray, List.getElem_cons_zero, List.getElem_cons_succ]
     refine AnyT.takeA (i := 2) (v := ?_) rfl (by kernel_rfl) (by kernel_rfl) (by kernel_rfl) (fun _ _ _ h => h) (Or.inl ⟨by rfl, ?_⟩) ?_
     rotate_left 1
     · (intro w0 _; go_simp; try with_reducible rfl)
     try simp only [Act.put, List.setIfInBounds_toArray, List.set_cons_zero, List.set_cons_succ, List.getElem_toArray, List.getElem_cons_zero, List.getElem_cons_succ]
     refine AnyT.takeA (i := 3) (v := ?_) rfl (by kernel_rfl) (by kernel_rfl) (by kernel_rfl) (fun _ _ _ h => h) (Or.inl ⟨by rfl, ?_⟩) ?_
     rotate_left 1
     · (intro w0 _; go_simp; try with_reducible rfl)
     try simp only [Act.put, List.setIfInBounds_toArray, List.set_cons_zero, List.set_cons_succ, List.getElem_toArray, List.getElem_cons_zero, List.getElem_cons_succ]
     refine AnyT.takeA (i := 4) (v := ?_) rfl (by kernel_rfl) (by kernel_rfl) (by kernel_rfl) (fun _ _ _ h => h) (Or.inl ⟨by rfl, ?_⟩) ?_
     rotate_left 1
     · (intro w0 _; go_simp; try with_reducible rfl)
     try simp only [Act.put, List.setIfInBounds_toArray, List.set_cons_zero, List.set_cons_succ, List.getElem_toArray, List.getElem_cons_zero, List.getElem_cons_succ]
     refine AnyT.takeA (i := 5) (v := ?_) rfl (by kernel_rfl) (by kernel_rfl) (by kernel_rfl) (fun _ _ _ h => h) (Or.inl ⟨by rfl, ?_⟩) ?_
     rotate_left 1
     · (intro w0 _; go_simp; try with_reducible rfl)
     try simp only [Act.put, List.setIfInBounds_toArray, List.set_cons_zero, List.set_cons_succ, List.getElem_toArray, List.getElem_cons_zero, List.getElem_cons_succ]
     refine AnyT.takeA (i := 6) (v := ?_) rfl (by kernel_rfl) (by kernel_rfl) (by kernel_rfl) (fun _ _ _ h => h) (Or.inl ⟨by rfl, ?_⟩) ?_
     rotate_left 1
     · (intro w0 _; go_simp; try with_reducible rfl)
     try simp only [Act.put, List.setIfInBounds_toArray, List.set_cons_zero, List.set_cons_succ, List.getElem_toArray, List.getElem_cons_zero, List.getElem_cons_succ]
     refine AnyT.takeA (i := 7) (v := undef) rfl (by kernel_rfl) (by kernel_rfl) (by kernel_rfl) (fun _ _ _ h => h) (Or.inr ⟨by rfl, rfl⟩) ?_
     try simp only [Act.put, List.setIfInBounds_toArray, List.set_cons_zero, List.set_cons_succ, List.getElem_toArray, List.getElem_cons_zero, List.getElem_cons_succ]
     refine AnyT.takeA (i := 8) (v := undef) rfl (by kernel_rfl) (by kernel_rfl) (by kernel_rfl) (fun _ _ _ h => h) (Or.inr ⟨by rfl, rfl⟩) ?_
     try simp only [Act.put, List.setIfInBounds_toArray, List.set_cons_zero, List.set_cons_succ, List.getElem_toArray, List.getElem_cons_zero, List.getElem_cons_succ]
     refine AnyT.takeA (i := 9) (v := undef) rfl (by kernel_rfl) (by kernel_rfl) (by kernel_rfl) (fun _ _ _ h => h) (Or.inr ⟨by rfl, rfl⟩) ?_
     try simp only [Act.put, List.setIfInBounds_toArray, List.set_cons_zero, List.set_cons_succ, List.getElem_toArray, List.getElem_cons_zero, List.getElem_cons_succ]
     refine AnyT.call (i := 10) (by kernel_rfl) rfl (fun K hK => ?_)
     try simp only [Act.put, List.setIfInBounds_toArray, List.set_cons_zero, List.set_cons_succ, List.getElem_toArray, List.getElem_cons_zero, List.getElem_cons_succ]
     rw [if_neg (by intro h; cases h)]
     refine hK.out _ _ (fun _ h => h) (fun _ => ?_)
     clear hK K
     try simp only [Act.put, List.setIfInBounds_toArray, List.set_cons_zero, List.set_cons_succ, List.getElem_toArray, List.getElem_cons_zero, List.getElem_cons_succ]
     refine AnyT.takeA (i := 11) (v := ?_) rfl (by kernel_rfl) (by kernel_rfl) (by kernel_rfl) (fun _ _ _ h => h) (Or.inl ⟨by rfl, ?_⟩) ?_
     rotate_left 1
     · (intro w0 _; go_simp; try with_reducible rfl)
     try simp only [Act.put, List.setIfInBounds_toArray, List.set_cons_zero, List.set_cons_succ, List.getElem_toArray, List.getElem_cons_zero, List.getElem_cons_succ]
     have r9 := HR1.out
     have q9 := HRS.out
     have g0 := r9.free 0
     have g1 := r9.free 1
     have y0 : w5.cell? ⟨w.heap.size + 1, 0, none⟩ = some (.slice none 0 0) := r9.cell 0
     have y1 : w5.cell? ⟨w.heap.size + 1, 1, none⟩ = some (.slice none 0 0) := r9.cell 1
     have ra := r9.put 0 (.slice A n cs)
     have y2 : (w5.setCell ⟨w.heap.size + 1, 0, none⟩ (.slice A n cs)).cell? ⟨w.heap.size + 1, 1, none⟩ = some (.slice none 0 0) := ra.cell 1
     have g2 := ra.free 1
     have rb := ra.put 1 (.slice V q cv)
     have u0 : ((w5.setCell ⟨w.heap.size + 1, 0, none⟩ (.slice A n cs)).setCell ⟨w.heap.size + 1, 1, none⟩ (.slice V q cv)).cell? ⟨w.heap.size + 1, 0, none⟩ = some (.slice A n cs) := rb.cell 0
     have u1 : ((w5.setCell ⟨w.heap.size + 1, 0, none⟩ (.slice A n cs)).setCell ⟨w.heap.size + 1, 1, none⟩ (.slice V q cv)).cell? ⟨w.heap.size + 1, 1, none⟩ = some (.slice V q cv) := rb.cell 1
     have a3 := (q9.far (show B ≠ w.heap.size + 1 by omega) (p := ⟨w.heap.size + 1, 0, none⟩) (.slice A n cs)).far (show B ≠ w.heap.size + 1 by omega) (p := ⟨w.heap.size + 1, 1, none⟩) (.slice V q cv)
     have HA3 := Lib.hid a3
     have hb9 : Below w.heap.size w w5 := JB3.out
     have HFZ := Lib.hid (show AnsStr w (.slice A n cs) (.slice V q cv) s false (.returned (.tuple #[.agg #[.slice A n cs, .slice V q cv], pv, .bool false])) ((w5.setCell ⟨w.heap.size + 1, 0, none⟩ (.slice A n cs)).setCell ⟨w.heap.size + 1, 1, none⟩ (.slice V q cv)) from ⟨_, _, _, _, _, _, pv, rfl, (fun e => by cases e), (hb9.setCell (show w.heap.size ≤ w.heap.size + 1 by omega) _).setCell (show w.heap.size ≤ w.heap.size + 1 by omega) _⟩)
     clear ra rb r9 q9 a3 hb9
     refine AnyT.call (i := 12) (by kernel_rfl) rfl (fun K hK => ?_)
     try simp only [Act.put, List.setIfInBounds_toArray, List.set_cons_zero, List.set_cons_succ, List.getElem_toArray, List.getElem_cons_zero, List.getElem_cons_succ]
     rw [if_pos (by rfl)]
     go_simp
     refine hK.out _ _ (fun _ _ => ?_) (fun hKeep => ?_)
     · exact ⟨HA3.out.cell 0, HA3.out.cell 1⟩
     replace hHeld := hKeep (by first | rfl | trivial) hHeld
     clear hK K hKeep
     try simp only [Act.put, List.setIfInBounds_toArray, List.set_cons_zero, List.set_cons_succ, List.getElem_toArray, List.getElem_cons_zero, List.getElem_cons_succ]
     refine AnyT.takeA (i := 13) (v := ?_) rfl (by kernel_rfl) (by kernel_rfl) (by kernel_rfl) (fun _ _ _ h => h) (Or.inl ⟨by rfl, ?_⟩) ?_
     rotate_left 1
     · (intro w0 _; go_simp; try with_reducible rfl)
     try simp only [Act.put, List.setIfInBounds_toArray, List.set_cons_zero, List.set_cons_succ, List.getElem_toArray, List.getElem_cons_zero, List.getElem_cons_succ]
     refine AnyT.takeA (i := 14) (v := ?_) rfl (by kernel_rfl) (by kernel_rfl) (by kernel_rfl) (fun _ _ _ h => h) (Or.inl ⟨by rfl, ?_⟩) ?_
     rotate_left 1
     · (intro w0 _; go_simp; try with_reducible rfl)
     try simp only [Act.put, List.setIfInBounds_toArray, List.set_cons_zero, List.set_cons_succ, List.getElem_toArray, List.getElem_cons_zero, List.getElem_cons_succ]
     refine AnyT.done (by kernel_rfl) ?_ _
     go_wp2
     exact bodyPost_ret (v := .tuple #[.agg #[.slice A n cs, .slice V q cv], pv, .bool false]) (by simp [results, Tryz.results48, go_sem, u0, u1]) rfl HFZ.out
   | true =>
     have HST := Lib.hid okst
     clear okst
     obtain ⟨bt, hbt⟩ : ∃ b, termOkB d.1 t = b := ⟨_, rfl⟩
     have HBT := Lib.hid (show rightB d.1 d.2 t = bt by unfold rightB; rw [HS.out, hbt]; rfl)
     rw [HBT.out, Bool.and_true]
     have HBE := Lib.hid hbt
     clear hbt
     go_enter Tryz.func48, Tryz.ntmps48
     go_wp2_with fail
     rw [← HW.out]
     go_wp2_with fail
     refine LS.out.mono ?_
     rintro e w1 ⟨rfl, bb⟩
     replace r1 := r1.next bb
     replace bel := next_trans bel bb
     have zz1 : w.heap.size + 1 < w1.heap.size := r1.lt
     obtain ⟨W2, hW2⟩ : ∃ W2, W2 = w1.alloc (.cells #[.slice A n cs, .slice V q cv] 60) := ⟨_, rfl⟩
     have rS : Row W2 w1.heap.size 60 #[.slice A n cs, .slice V q cv] := by rw [hW2]; exact Row.new _ _ _
     have b2 : Below w1.heap.size w1 W2 := by rw [hW2]; exact (Below.refl _ _).alloc (Nat.le_refl _) _
     have j0 : W2.cell? ⟨w1.heap.size, 0, none⟩ = some (.slice A n cs) := rS.cell 0
     have j1 : W2.cell? ⟨w1.heap.size, 1, none⟩ = some (.slice V q cv) := rS.cell 1
     have LX := Lib.hid (strategies (.slice A n cs) (.slice V q cv) W2)
     have HW2 := Lib.hid hW2
     replace r1 := r1.next b2
     replace bel := next_trans bel b2
     clear bb b2 hW2 LS K0 K1 r0 HW
     go_wp2_with fail
     rw [← HW2.out]
     refine LX.out.mono ?_
     rintro e w3 ⟨b, rfl, hb, bb⟩
     obtain ⟨r, hr1, hr2, hr3⟩ := look_st (.slice A n cs) (.slice V q cv) s
     have hlk := run_look (P := Tryz.prog) (w := w3) Tryz.underlying128 Tryz.underlying2 hb s hwf .nilFunc (by kernel_rfl) r hr1
     rw [hr2, hr3] at hlk
     obtain ⟨pv, hpv⟩ : ∃ x, pickV (.slice A n cs) (.slice V q cv) s = x := ⟨_, rfl⟩
     rw [hpv, HST.out] at hlk
     have HPV := Lib.hid hpv
     replace r1 := r1.next bb
     replace rS := rS.next bb
     replace bel := next_trans bel bb
     have zz2 : W2.heap.size ≤ w3.heap.size := bb.size
     clear hr1 hr2 hr3 hpv HW2 LX bb j0 j1 hb
     replace r1 := r1.next (drew_below w3)
     replace rS := rS.next (drew_below w3)
     replace bel := next_trans bel (drew_below w3)
     have c0 : w3.drew.cell? ⟨w1.heap.size, 0, none⟩ = some (.slice A n cs) := rS.cell 0
     have c1 : w3.drew.cell? ⟨w1.heap.size, 1, none⟩ = some (.slice V q cv) := rS.cell 1
     have HR1 := Lib.hid r1
     have HRS := Lib.hid rS
     have JB3 := Lib.hid bel
     clear r1 rS bel
     generalize w1.heap.size = B at *
     go_upto_region 3 with (fail)
     clear hlk
     have LT1 := Lib.hid (LT.out w3.drew JB3.out)
     unfold AnsTerm at LT1
     rw [HBE.out] at LT1
     clear LT
     have zB : B < w3.drew.heap.size := HRS.out.lt
     refine AnyT.start (S := (fun w' => w'.cell? ⟨B, 0, none⟩ = some (.slice A n cs) ∧ w'.cell? ⟨B, 1, none⟩ = some (.slice V q cv))) (fun _ => false) (by kernel_rfl) ⟨c0, c1⟩ (fun hHeld => ?_)
     generalize w3.drew = w5 at *
     refine AnyT.take (i := 0) (v := ?_) rfl (by kernel_rfl) (by kernel_rfl) (by kernel_rfl) (by kernel_rfl) (fun _ _ _ h => h) (Or.inl ⟨by rfl, ?_⟩) (by assumption) ?_
     rotate_left 1
     · (intro w0 hSw; (try dsimp only at hSw); go_simp; try with_reducible rfl)
     try simp only [Act.put, List.setIfInBounds_toArray, List.set_cons_zero, List.set_cons_succ, List.getElem_toArray, List.getElem_cons_zero, List.getElem_cons_succ]
     refine AnyT.takeA (i := 1) (v := ?_) rfl (by kernel_rfl) (by kernel_rfl) (by kernel_rfl) (fun _ _ _ h => h) (Or.inl ⟨by rfl, ?_⟩) ?_
     rotate_left 1
     · (intro w0 _; go_simp; try with_reducible rfl)
     try simp only [Act.put, List.setIfInBounds_toArray, List.set_cons_zero, List.set_cons_succ, List.getElem_toArray, List.getElem_cons_zero, List.getElem_cons_succ]
     refine AnyT.takeA (i := 2) (v := ?_) rfl (by kernel_rfl) (by kernel_rfl) (by kernel_rfl) (fun _ _ _ h => h) (Or.inl ⟨by rfl, ?_⟩) ?_
     rotate_left 1
     · (intro w0 _; go_simp; try with_reducible rfl)
     try simp only [Act.put, List.setIfInBounds_toArray, List.set_cons_zero, List.set_cons_succ, List.getElem_toArray, List.getElem_cons_zero, List.getElem_cons_succ]
     refine AnyT.takeA (i := 3) (v := ?_) rfl (by kernel_rfl) (by kernel_rfl) (by kernel_rfl) (fun _ _ _ h => h) (Or.inl ⟨by rfl, ?_⟩) ?_
     rotate_left 1
     · (intro w0 _; go_simp; try with_reducible rfl)
     try simp only [Act.put, List.setIfInBounds_toArray, List.set_cons_zero, List.set_cons_succ, List.getElem_toArray, List.getElem_cons_zero, List.getElem_cons_succ]
     refine AnyT.takeA (i := 4) (v := ?_) rfl (by kernel_rfl) (by kernel_rfl) (by kernel_rfl) (fun _ _ _ h => h) (Or.inl ⟨by rfl, ?_⟩) ?_
     rotate_left 1
     · (intro w0 _; go_simp; try with_reducible rfl)
     try simp only [Act.put, List.setIfInBounds_toArray, List.set_cons_zero, List.set_cons_succ, List.getElem_toArray, List.getElem_cons_zero, List.getElem_cons_succ]
     refine AnyT.takeA (i := 5) (v := ?_) rfl (by kernel_rfl) (by kernel_rfl) (by kernel_rfl) (fun _ _ _ h => h) (Or.inl ⟨by rfl, ?_⟩) ?_
     rotate_left 1
     · (intro w0 _; go_simp; try with_reducible rfl)
     try simp only [Act.put, List.setIfInBounds_toArray, List.set_cons_zero, List.set_cons_succ, List.getElem_toArray, List.getElem_cons_zero, List.getElem_cons_succ]
     refine AnyT.takeA (i := 6) (v := ?_) rfl (by kernel_rfl) (by kernel_rfl) (by kernel_rfl) (fun _ _ _ h => h) (Or.inl ⟨by rfl, ?_⟩) ?_
     rotate_left 1
     · (intro w0 _; go_simp; try with_reducible rfl)
     try simp only [Act.put, List.setIfInBounds_toArray, List.set_cons_zero, List.set_cons_succ, List.getElem_toArray, List.getElem_cons_zero, List.getElem_cons_succ]
     refine AnyT.takeA (i := 7) (v := ?_) rfl (by kernel_rfl) (by kernel_rfl) (by kernel_rfl) (fun _ _ _ h => h) (Or.inl ⟨by rfl, ?_⟩) ?_
     rotate_left 1
     · (intro w0 _; go_simp; try with_reducible rfl)
     try simp only [Act.put, List.setIfInBounds_toArray, List.set_cons_zero, List.set_cons_succ, List.getElem_toArray, List.getElem_cons_zero, List.getElem_cons_succ]
     refine AnyT.take (i := 8) (v := ?_) rfl (by kernel_rfl) (by kernel_rfl) (by kernel_rfl) (by kernel_rfl) (fun _ _ _ h => h) (Or.inl ⟨by rfl, ?_⟩) (by assumption) ?_
     rotate_left 1
     · (intro w0 hSw; (try dsimp only at hSw); go_simp; try with_reducible rfl)
     try simp only [Act.put, List.setIfInBounds_toArray, List.set_cons_zero, List.set_cons_succ, List.getElem_toArray, List.getElem_cons_zero, List.getElem_cons_succ]
     refine AnyT.takeA (i := 9) (v := ?_) rfl (by kernel_rfl) (by kernel_rfl) (by kernel_rfl) (fun _ _ _ h => h) (Or.inl ⟨by rfl, ?_⟩) ?_
     rotate_left 1
     · (intro w0 _; go_simp; try with_reducible rfl)
     try simp only [Act.put, List.setIfInBounds_toArray, List.set_cons_zero, List.set_cons_succ, List.getElem_toArray, List.getElem_cons_zero, List.getElem_cons_succ]
     refine AnyT.call (i := 10) (by kernel_rfl) rfl (fun K hK => ?_)
     try simp only [Act.put, List.setIfInBounds_toArray, List.set_cons_zero, List.set_cons_succ, List.getElem_toArray, List.getElem_cons_zero, List.getElem_cons_succ]
     rw [if_pos (by rfl)]
     go_simp
     (go_at_call 36; refine LT1.out.mono ?_; rintro e w9 ⟨rfl, bb9⟩; have e0 : w9.cell? ⟨B, 0, none⟩ = some (.slice A n cs) := (bb9.cell (p := ⟨B, 0, none⟩) zB).trans c0; have e1 : w9.cell? ⟨B, 1, none⟩ = some (.slice V q cv) := (bb9.cell (p := ⟨B, 1, none⟩) zB).trans c1; go_wp2_with fail)
     refine hK.out _ _ (fun _ _ => ?_) (fun hKeep => ?_)
     · exact ⟨e0, e1⟩
     replace hHeld := hKeep (by first | rfl | trivial) hHeld
     clear hK K hKeep
     try simp only [Act.put, List.setIfInBounds_toArray, List.set_cons_zero, List.set_cons_succ, List.getElem_toArray, List.getElem_cons_zero, List.getElem_cons_succ]
     refine AnyT.takeA (i := 11) (v := ?_) rfl (by kernel_rfl) (by kernel_rfl) (by kernel_rfl) (fun _ _ _ h => h) (Or.inl ⟨by rfl, ?_⟩) ?_
     rotate_left 1
     · (intro w0 _; go_simp; try with_reducible rfl)
     try simp only [Act.put, List.setIfInBounds_toArray, List.set_cons_zero, List.set_cons_succ, List.getElem_toArray, List.getElem_cons_zero, List.getElem_cons_succ]
     have r9 := HR1.out.next bb9
     have q9 := HRS.out.next bb9
     have g0 := r9.free 0
     have g1 := r9.free 1
     have y0 : w9.cell? ⟨w.heap.size + 1, 0, none⟩ = some (.slice none 0 0) := r9.cell 0
     have y1 : w9.cell? ⟨w.heap.size + 1, 1, none⟩ = some (.slice none 0 0) := r9.cell 1
     have ra := r9.put 0 (.slice A n cs)
     have y2 : (w9.setCell ⟨w.heap.size + 1, 0, none⟩ (.slice A n cs)).cell? ⟨w.heap.size + 1, 1, none⟩ = some (.slice none 0 0) := ra.cell 1
     have g2 := ra.free 1
     have rb := ra.put 1 (.slice V q cv)
     have u0 : ((w9.setCell ⟨w.heap.size + 1, 0, none⟩ (.slice A n cs)).setCell ⟨w.heap.size + 1, 1, none⟩ (.slice V q cv)).cell? ⟨w.heap.size + 1, 0, none⟩ = some (.slice A n cs) := rb.cell 0
     have u1 : ((w9.setCell ⟨w.heap.size + 1, 0, none⟩ (.slice A n cs)).setCell ⟨w.heap.size + 1, 1, none⟩ (.slice V q cv)).cell? ⟨w.heap.size + 1, 1, none⟩ = some (.slice V q cv) := rb.cell 1
     have a3 := (q9.far (show B ≠ w.heap.size + 1 by omega) (p := ⟨w.heap.size + 1, 0, none⟩) (.slice A n cs)).far (show B ≠ w.heap.size + 1 by omega) (p := ⟨w.heap.size + 1, 1, none⟩) (.slice V q cv)
     have HA3 := Lib.hid a3
     have hb9 : Below w.heap.size w w9 := next_trans JB3.out bb9
     have HFZ := Lib.hid (show AnsStr w (.slice A n cs) (.slice V q cv) s bt (.returned (.tuple #[.agg #[.slice A n cs, .slice V q cv], pv, .bool bt])) ((w9.setCell ⟨w.heap.size + 1, 0, none⟩ (.slice A n cs)).setCell ⟨w.heap.size + 1, 1, none⟩ (.slice V q cv)) from ⟨_, _, _, _, _, _, pv, rfl, (fun _ => ⟨rfl, rfl, HPV.out.symm⟩), (hb9.setCell (show w.heap.size ≤ w.heap.size + 1 by omega) _).setCell (show w.heap.size ≤ w.heap.size + 1 by omega) _⟩)
     clear ra rb r9 q9 a3 hb9
     refine AnyT.call (i := 12) (by kernel_rfl) rfl (fun K hK => ?_)
     try simp only [Act.put, List.setIfInBounds_toArray, List.set_cons_zero, List.set_cons_succ, List.getElem_toArray, List.getElem_cons_zero, List.getElem_cons_succ]
     rw [if_pos (by rfl)]
     go_simp
     refine hK.out _ _ (fun _ _ => ?_) (fun hKeep => ?_)
     · exact ⟨HA3.out.cell 0, HA3.out.cell 1⟩
     replace hHeld := hKeep (by first | rfl | trivial) hHeld
     clear hK K hKeep
     try simp only [Act.put, List.setIfInBounds_toArray, List.set_cons_zero, List.set_cons_succ, List.getElem_toArray, List.getElem_cons_zero, List.getElem_cons_succ]
     refine AnyT.takeA (i := 13) (v := ?_) rfl (by kernel_rfl) (by kernel_rfl) (by kernel_rfl) (fun _ _ _ h => h) (Or.inl ⟨by rfl, ?_⟩) ?_
     rotate_left 1
     · (intro w0 _; go_simp; try with_reducible rfl)
     try simp only [Act.put, List.setIfInBounds_toArray, List.set_cons_zero, List.set_cons_succ, List.getElem_toArray, List.getElem_cons_zero, List.getElem_cons_succ]
     refine AnyT.takeA (i := 14) (v := ?_) rfl (by kernel_rfl) (by kernel_rfl) (by kernel_rfl) (fun _ _ _ h => h) (Or.inl ⟨by rfl, ?_⟩) ?_
     rotate_left 1
     · (intro w0 _; go_simp; try with_reducible rfl)
     try simp only [Act.put, List.setIfInBounds_toArray, List.set_cons_zero, List.set_cons_succ, List.getElem_toArray, List.getElem_cons_zero, List.getElem_cons_succ]
     refine AnyT.done (by kernel_rfl) ?_ _
     go_wp2
     exact bodyPost_ret (v := .tuple #[.agg #[.slice A n cs, .slice V q cv], pv, .bool bt]) (by simp [results, Tryz.results48, go_sem, u0, u1]) rfl HFZ.out
def PickFn (g : Nat) (a v : Value) (d : Dat sSystem) (s : Int) (w : World) : Prop := ∀ (W : World) (u : Value) (t : List Int), Below w.heap.size w W → Rd W W.heap.size sI [u] t → rightB d.1 d.2 t = true → ∃ L, L.head? = (selL d.1 d.2 t s).head? ∧ L.length ≤ 60 ∧ Calls Tryz.prog g #[.agg #[a, v], u] W (AnsList W L)
theorem PickFn.next {g : Nat} {a v : Value} {d : Dat sSystem} {s : Int} {w w' : World} (h : PickFn g a v d s w) (hb : Below w.heap.size w w') : PickFn g a v d s w' := fun W u t bb ht hr => h W u t (next_trans hb bb) ht hr
theorem pickFn {a v : Value} {d : Dat sSystem} {w : World} {s : Int} (h : Rd w w.heap.size sSystem [a, v] d) (hz : sz sSystem d ≤ 1048576) (hs : stratB s = true) : (∀ args w, (callFunc (pickG s) args).run Tryz.prog w = .ok (.enter (pickG s) args) w) ∧ PickFn (pickG s) a v d s w := by
 have hs : 1 ≤ s ∧ s ≤ 3 := of_decide_eq_true hs
 have hs : s = 1 ∨ s = 2 ∨ s = 3 := by omega
 rcases hs with rfl | rfl | rfl
 · refine ⟨enters_of Tryz.func101 (by kernel_rfl) rfl, fun W u t bb ht hr => ?_⟩
   exact ⟨inmostI d.1 d.2 t, by unfold inmostI selL; rw [← placesL_eq hr]; rfl, Nat.le_trans (in_len _ _ _) placesI_len, inmost a v u d t W (h.next bb) ht hz hr⟩
 · refine ⟨enters_of Tryz.func102 (by kernel_rfl) rfl, fun W u t bb ht hr => ?_⟩
   exact ⟨outmostI d.1 d.2 t, by rw [outI_head]; unfold selL; rw [← placesL_eq hr]; rfl, Nat.le_trans (out_len _ _ _) placesI_len, outmost a v u d t W (h.next bb) ht hz hr⟩
 · refine ⟨enters_of Tryz.func103 (by kernel_rfl) rfl, fun W u t bb ht hr => ?_⟩
   exact ⟨(placesI d.1 d.2 t).reverse, by unfold selL; rw [← placesL_eq hr]; rfl, by rw [List.length_reverse]; exact placesI_len, backward a v u d t W (h.next bb) ht hz hr⟩
theorem red_pick {sg : List Int} {rs : List Rl} {t : List Int} {p j : Nat} (hr : rightB sg rs t = true) (hp : p < t.length) (hj : j < rs.length) : redexB sg rs t (p : Int) (j : Int) = redB sg (rs.getD j ([], [])) t p := by
 rw [redex_yes (there_mk (right_parts hr).1 (right_parts hr).2 (by omega) (by omega))]
 unfold rl
 rw [Int.toNat_natCast, Int.toNat_natCast]
set_option maxHeartbeats 4000000 in
theorem selected (g : Nat) (eg : ∀ args w, (callFunc g args).run Tryz.prog w = .ok (.enter g args) w) (a v u : Value) (d : Dat sSystem) (t : List Int) (s : Int) (w : World) (h : Rd w w.heap.size sSystem [a, v] d) (ht : Rd w w.heap.size sI [u] t) (hz : sz sSystem d ≤ 1048576) (hok : rightB d.1 d.2 t = true) (hg : PickFn g a v d s w) :
   Calls Tryz.prog 73 #[.agg #[a, v], u, .func (.func g) #[.agg #[a, v]] #[]] w (AnsPick w (pickL d.1 d.2 t s)) := by
 have ht60 := (term_len (right_parts hok).2).2
 have hz' : sz sI t ≤ 1048576 := by rw [sz_ints]; omega
 obtain ⟨W, hW, rA, bel⟩ := box1 w 60 #[a, v]
 have HW := Lib.hid hW
 obtain ⟨L, hL1, hL2, hL3⟩ := hg W u t bel (ht.next bel) hok
 have LG := Lib.hid hL3
 have LH := Lib.hid (fun (w1 : World) (bb : Below w.heap.size w w1) x r => hasRedex a v u d t x r w1 (h.next bb) (ht.next bb) hz hz' (right_parts hok).1)
 obtain ⟨T, m, c, rfl, -, -⟩ := rd_ints.1 ht
 have zW : w.heap.size < W.heap.size := rA.lt
 clear hW h ht hg hL3
 go_enter Tryz.func73, Tryz.ntmps73
 go_wp2_with (go_at_fn g; rw [← HW.out]; refine LG.out.mono ?_; rintro e w1 ⟨O, on, oc, rfl, oO, bb⟩; refine (?_ : Hid _).out)
 have hlen := Own.len oO
 replace rA := rA.next bb
 replace bel := next_trans bel bb
 cases hL : L with
 | nil =>
   rw [hL] at hL1 hlen
   replace hlen : on = 0 := hlen
   subst hlen
   have F := Lib.hid (ansPick_none (w := w) (pickL_nil hL1.symm) bel)
   clear oO bb bel rA LG LH HW hL1 hL hL2
   refine Lib.hid ?_
   go_wp2
   go_ret3
   exact F.out
 | cons x r =>
   rw [hL] at hL1 hlen hL2
   replace hlen : on = r.length + 1 := hlen
   obtain ⟨p, rfl, hp⟩ := sel_at hL1.symm
   obtain ⟨b, off, y, rfl, hb, cy, ey⟩ := (Own.seg oO).spot (k := 0) (by omega)
   have ey : y = (p : Int) := by have := ey.out; rw [hL] at this; simpa using this.symm
   subst ey
   obtain ⟨pa, k, epk, hpa, hk, hred, hlow, -⟩ := pick_step (s := s) hok (pickL_at hL1.symm)
   obtain ⟨q1, q2⟩ := Prod.mk.inj epk
   have e1 : pa = p := by omega
   have e2 : ruleF d.1 d.2 t p = (k : Int) := by simpa using q2
   subst e1
   have HPK := Lib.hid (show pickL d.1 d.2 t s = some ((pa : Int), (k : Int)) by rw [pickL_at hL1.symm]; simp [e2])
   have HLH := Lib.hid (fun (w1 : World) (bb : Below w.heap.size w w1) (j : Nat) (hj : j ≤ k) => (show Calls Tryz.prog 96 #[.agg #[a, v], .slice T m c, .int .i64 (pa : Int), .int .i64 (j : Int)] w1 (AnsB w1 (decide (j = k))) from by
     have h1 := LH.out w1 bb (pa : Int) (j : Int)
     rw [red_pick hok hpa (by omega)] at h1
     by_cases hjk : j = k
     · subst hjk
       rw [hred] at h1
       rw [decide_eq_true rfl]
       exact h1
     · rw [hlow j (by omega)] at h1
       rw [decide_eq_false hjk]
       exact h1))
   have H0 := Lib.hid (show Row w1 w.heap.size 60 #[a, v] ∧ Below w.heap.size w w1 from ⟨rA, bel⟩)
   have cy0 : w1.cell? ⟨b, off, none⟩ = some (.int .i64 (pa : Int)) := cy
   have on0 : 0 < on := by omega
   have on1 : (0 : Int) < (on : Int) := by omega
   have hne : ¬ on = 0 := by omega
   have hne2 : ¬ (on : Int) = 0 := by omega
   have hb0 : ((on : Int) == 0) = false := by simpa using hne2
   have hk12 : k ≤ 12 := by have := (sys_parts (right_parts hok).1).2.1; omega
   clear cy oO hL1 hL bb bel rA LG LH hlen hL2 epk hred hlow e2 q1 q2
   refine Lib.hid ?_
   go_wp2_with fail
   go_loopg [7] k (fun G r wr => ∃ j : Nat, r = .int .i64 j ∧ j + G = k ∧ Row wr w.heap.size 60 #[a, v] ∧ Below w.heap.size w wr)
   case atStart => exact ⟨0, rfl, by omega, H0.out.1, H0.out.2⟩
   case round =>
     clear H0 cy0
     obtain ⟨j, rfl, hj, rA, bel⟩ := hrel
     have HJ := Lib.hid hj
     have K0 : wr.cell? ⟨w.heap.size, 0, none⟩ = some a := rA.cell 0
     have K1 : wr.cell? ⟨w.heap.size, 1, none⟩ = some v := rA.cell 1
     have LX := Lib.hid (HLH.out wr bel j (by omega))
     by_cases hjk : j = k
     · rw [decide_eq_true hjk] at LX
       subst hjk
       have j0 : (0 : Int) ≤ (j : Int) := by omega
       clear hj
       go_wp2_with fail
       refine LX.out.mono ?_
       rintro e w2 ⟨rfl, bb⟩
       have F := Lib.hid (ansPick_some (w := w) HPK.out (next_trans bel bb))
       clear bb bel rA K0 K1 LX
       go_wp2
       go_ret3
       exact F.out
     · rw [decide_eq_false hjk] at LX
       have j0 : (0 : Int) ≤ (j : Int) := by omega
       have j1 : (j : Int) < 12 := by omega
       clear hj
       go_wp2_with fail
       refine LX.out.mono ?_
       rintro e w2 ⟨rfl, bb⟩
       have HA := Lib.hid (rA.next bb)
       have HB := Lib.hid (next_trans bel bb)
       clear bb bel rA K0 K1 LX
       go_wp2
       go_roundg (gk - 1)
       case measure => have := HJ.out; omega
       case rel => exact ⟨j + 1, by simp, by have := HJ.out; omega, HA.out, HB.out⟩
end pickImpl
end
section
namespace byImpl
open Go.RowKit base ints sig term termOk endAt endOf marks app sym sub segs segsHelp kinds termFacts same shifted shape drawX kindsR kindsW varsOf ruleMath ruleSpec stepMath walkMath stepSpec stepImpl walkSpec walkX walkImpl ownL heldT orderMath orderSpec bySpec strat pickImpl
set_option maxRecDepth 100000
theorem gone_sz {sg : List Int} {rs : List Rl} {s : Int} {F i : Nat} {t u : List Int} {L : List St} (h : Gone sg rs s F t i L u) (ht : termOkB sg t = true) (hF : F ≤ 60) : sz sWalk ((t, L) : Wk) ≤ 1048576 := by
 obtain ⟨h1, h2, h3, h4, h5⟩ := h
 have hr := run_walk (sg := sg) (rs := rs) (s := s) (f := F) (t := t)
 rw [h1, go_append] at hr
 cases hg : goOn sg rs t L with
 | none => rw [hg] at hr; cases hr
 | some v =>
   refine walk_sz (term_len ht).2 (by show L.length ≤ 60; omega) (fun x hx => (term_len ((go_ok ht hg).2 x hx)).2)
theorem Wb.rdw {w wr : World} {T : TypeId} {a v : Value} {B : Nat} {X O : Option Addr} {xn xc on oc : Nat} {fr : List Int} {L : List St} (h : Wb w T a v B X O xn xc on oc fr L wr) : Rd wr wr.heap.size sWalk [.slice X xn xc, .slice O on oc] ((fr, L) : Wk) :=
 (owned_walk (h.x.wider (Nat.le_refl _) (Nat.le_succ _)) h.o (by have := h.z; omega) h.r3.lt).rd
set_option maxHeartbeats 8000000 in
theorem walk (g : Nat) (eg : ∀ args w, (callFunc g args).run Tryz.prog w = .ok (.enter g args) w) (a v u : Value) (d : Dat sSystem) (t : List Int) (s : Int) (F : Nat) (w : World) (h : Rd w w.heap.size sSystem [a, v] d) (ht : Rd w w.heap.size sI [u] t) (hz : sz sSystem d ≤ 1048576) (hok : rightB d.1 d.2 t = true) (hby : byB d.1 d.2 t s (F : Int) = true) (hF : F ≤ 60) (hg : PickFn g a v d s w) :
   Calls Tryz.prog 49 #[.agg #[a, v], u, .func (.func g) #[.agg #[a, v]] #[], .int .i64 (F : Int)] w (AnsWalk w (byW d.1 d.2 t s (F : Int)) (byD d.1 d.2 t s (F : Int))) := by
 obtain ⟨T, m, c, rfl, hT, hcT⟩ := rd_ints.1 ht
 obtain ⟨A, n, cs, V, q, cv, rfl, rfl, -⟩ := rd_sys h hz
 have htl := term_len (right_parts hok).2
 have hm : 1 ≤ m ∧ m ≤ 60 := by have := hT.1; omega
 obtain ⟨tb, toff, ty, rfl, -, -, -⟩ := hT.spot (k := 0) (by omega)
 obtain ⟨W, hW, r0, r1, bel⟩ : ∃ W, W = (w.alloc (.cells #[.slice A n cs, .slice V q cv] 60)).alloc (.cells #[.slice none 0 0, .slice none 0 0] 41) ∧ Row W w.heap.size 60 #[.slice A n cs, .slice V q cv] ∧ Row W (w.heap.size + 1) 41 #[.slice none 0 0, .slice none 0 0] ∧ Below w.heap.size w W := by
   refine ⟨_, rfl, (Row.new w _ _).alloc _, ?_, ((Below.refl _ _).alloc (Nat.le_refl _) _).alloc (by simp) _⟩
   have := Row.new (w.alloc (.cells #[.slice A n cs, .slice V q cv] 60)) 41 #[.slice none 0 0, .slice none 0 0]
   simpa using this
 have HW := Lib.hid hW
 have LC := Lib.hid (cloneInts tb toff m c t W (hT.next bel) (by omega))
 have LX := Lib.hid (fun (w1 : World) (bb : Below w.heap.size w w1) (nw : Value) (x : List Int) (hx : Rd w1 w1.heap.size sI [nw] x) (hr : rightB d.1 d.2 x = true) => selected g eg _ _ nw d x s w1 (h.next bb) hx hz hr (hg.next bb))
 have LD := Lib.hid (fun (w1 : World) (bb : Below w.heap.size w w1) (nw : Value) (x : List Int) (hx : Rd w1 w1.heap.size sI [nw] x) hr y k hy hk hred => reduced _ _ nw d x y k w1 (h.next bb) hx hz hr hy hk hred)
 have HOK := Lib.hid (And.intro hok (right_parts hok).2)
 have HB := Lib.hid hby
 have zW : w.heap.size + 1 < W.heap.size := r1.lt
 clear hW h ht hz hT hcT hg hok hby htl
 go_enter Tryz.func49, Tryz.ntmps49
 go_wp2_with fail
 rw [← HW.out]
 refine LC.out.mono ?_
 rintro e w3 ⟨X, xn, xc, rfl, oX, bb⟩
 replace r0 := r0.next bb
 replace r1 := r1.next bb
 replace bel := next_trans bel bb
 have zz := bb.size
 have b4 : Below w3.heap.size w3 (w3.alloc (.cells #[.slice X xn xc, .slice none 0 0] 41)) := (Below.refl _ _).alloc (Nat.le_refl _) _
 obtain ⟨W4, hW4⟩ : ∃ W4, W4 = w3.alloc (.cells #[.slice X xn xc, .slice none 0 0] 41) := ⟨_, rfl⟩
 have HI0 := Lib.hid (show Wb w 60 (.slice A n cs) (.slice V q cv) w3.heap.size X none xn xc 0 0 t [] W4 from by
   rw [hW4]
   exact ⟨r0.next b4, r1.next b4, Row.new _ _ _, ((Ownd.of_own oX).next b4).wider (by omega) (Nat.le_refl _), OwnL.nil _ _ _ _ _, next_trans bel b4, by omega⟩)
 have K0 : (w3.alloc (.cells #[.slice X xn xc, .slice none 0 0] 41)).cell? ⟨w.heap.size, 0, none⟩ = some (.slice A n cs) := (r0.next b4).cell 0
 have K1 : (w3.alloc (.cells #[.slice X xn xc, .slice none 0 0] 41)).cell? ⟨w.heap.size, 1, none⟩ = some (.slice V q cv) := (r0.next b4).cell 1
 have HW4 := Lib.hid hW4
 clear bb oX b4 r0 r1 bel hW4 LC HW
 go_wp2_with fail
 rw [← HW4.out]
 clear HW4 K0 K1
 generalize w3.heap.size = B at *
 go_loopg [11] F (fun g1 at_ wr => ∃ (i on oc : Nat) (O : Option Addr) (L : List St) (x : List Int), i + g1 = F ∧ Gone d.1 d.2 s F t i L x ∧ Wb w 60 (.slice A n cs) (.slice V q cv) B X O xn xc on oc t L wr)
 case atStart => exact ⟨0, 0, 0, _, _, _, by omega, gone_zero HOK.out.1, HI0.out⟩
 case round =>
   clear HI0
   obtain ⟨i, on, oc, O, L, x, hig, G, J⟩ := hrel
   have HI := Lib.hid hig
   have HG := Lib.hid G
   have hon : on = i := by rw [← G.2.1, J.o.1]
   subst hon
   have hx2 := gone_sz G HOK.out.2 hF
   have hiF : on ≤ F := G.2.2.2.2
   have HR := Lib.hid G.2.2.2.1
   have HEX := Lib.hid G.2.2.1
   have JD := J.next (drew_below wr)
   have LE1 := Lib.hid (endImpl _ _ ((t, L) : Wk) wr.drew (Wb.rdw JD) hx2)
   rw [← HEX.out] at LE1
   have LE2 := Lib.hid (fun (w1 : World) (bb : Below wr.heap.size wr w1) => (show Calls Tryz.prog 39 #[.agg #[.slice X xn xc, .slice O on oc]] w1 (fun e w' => ∃ A n c, e = .returned (.slice A n c) ∧ Rd w' w1.heap.size sI [.slice A n c] x ∧ Below w1.heap.size w1 w') from by
     have := endImpl _ _ ((t, L) : Wk) w1 (Wb.rdw (J.next bb)) hx2
     rw [← HEX.out] at this
     exact this))
   have K0 : wr.cell? ⟨w.heap.size, 0, none⟩ = some (.slice A n cs) := J.r0.cell 0
   have K1 : wr.cell? ⟨w.heap.size, 1, none⟩ = some (.slice V q cv) := J.r0.cell 1
   have K2 : wr.cell? ⟨B, 0, none⟩ = some (.slice X xn xc) := J.r3.cell 0
   have K3 : wr.cell? ⟨B, 1, none⟩ = some (.slice O on oc) := J.r3.cell 1
   have z0 : w.heap.size < wr.heap.size := J.r0.lt
   have z1 : B < wr.heap.size := J.r3.lt
   have LX1 := Lib.hid (fun (w1 : World) (bb : Below wr.heap.size wr w1) (nw : Value) (hx : Rd w1 w1.heap.size sI [nw] x) => LX.out w1 (next_trans J.b bb) nw x hx HR.out)
   have HJ := Lib.hid J
   have BD := Lib.hid (drew_below wr)
   clear J JD hig G hx2
   cases hp : pickL d.1 d.2 x s with
   | none =>
     have HP := Lib.hid (by_done (gone_none HG.out hp) HG.out.2.2.1 HB.out)
     have HND := Lib.hid (show normalB d.1 d.2 x = true by rw [normal_pick (s := s) HR.out, hp]; rfl)
     rw [hp] at LX1
     have LX1 := Lib.hid (show ∀ (w1 : World) (bb : Below wr.heap.size wr w1) (nw : Value) (hx : Rd w1 w1.heap.size sI [nw] x), Calls Tryz.prog 73 #[.agg #[.slice A n cs, .slice V q cv], nw, .func (.func g) #[.agg #[.slice A n cs, .slice V q cv]] #[]] w1 (fun e w' => e = .returned (.tuple #[.int .i64 0, .int .i64 0, .bool false]) ∧ Below w1.heap.size w1 w') from LX1.out)
     clear hp LD LX LE2
     go_wp2_with fail
     go_region_held3 (fun w' => w'.cell? ⟨w.heap.size, 0, none⟩ = some (.slice A n cs) ∧ w'.cell? ⟨w.heap.size, 1, none⟩ = some (.slice V q cv) ∧ w'.cell? ⟨B, 0, none⟩ = some (.slice X xn xc) ∧ w'.cell? ⟨B, 1, none⟩ = some (.slice O on oc))
       (go_keep)
       (first
         | (go_at_call 39; refine LE1.out.mono ?_; rintro e w4 ⟨N, nn, nc, rfl, hN, bb⟩; have a0 : w4.cell? ⟨w.heap.size, 0, none⟩ = some (.slice A n cs) := (bb.cell (p := ⟨w.heap.size, 0, none⟩) z0).trans K0; have a1 : w4.cell? ⟨w.heap.size, 1, none⟩ = some (.slice V q cv) := (bb.cell (p := ⟨w.heap.size, 1, none⟩) z0).trans K1; have a2 : w4.cell? ⟨B, 0, none⟩ = some (.slice X xn xc) := (bb.cell (p := ⟨B, 0, none⟩) z1).trans K2; have a3 : w4.cell? ⟨B, 1, none⟩ = some (.slice O on oc) := (bb.cell (p := ⟨B, 1, none⟩) z1).trans K3; have y0 : w.heap.size < w4.heap.size := Nat.lt_of_lt_of_le z0 bb.size; have y1 : B < w4.heap.size := Nat.lt_of_lt_of_le z1 bb.size)
         | (go_at_call 73; refine (LX1.out w4 (BD.out.trans bb) _ (hN.more bb.size)).mono ?_; rintro e w5 ⟨rfl, bb2⟩; have m0 : w5.cell? ⟨w.heap.size, 0, none⟩ = some (.slice A n cs) := (bb2.cell (p := ⟨w.heap.size, 0, none⟩) y0).trans a0; have m1 : w5.cell? ⟨w.heap.size, 1, none⟩ = some (.slice V q cv) := (bb2.cell (p := ⟨w.heap.size, 1, none⟩) y0).trans a1; have m2 : w5.cell? ⟨B, 0, none⟩ = some (.slice X xn xc) := (bb2.cell (p := ⟨B, 0, none⟩) y1).trans a2; have m3 : w5.cell? ⟨B, 1, none⟩ = some (.slice O on oc) := (bb2.cell (p := ⟨B, 1, none⟩) y1).trans a3))
     have HJ2 := HJ.out.next (BD.out.trans (bb.trans (bb2.mono bb.size)))
     have jr := HJ2.r1
     clear K0 K1 K2 K3 a0 a1 a2 a3 y0 y1 hN
     have FA := ansWalk_yes (b := byD d.1 d.2 t s (F : Int)) HJ2 HP.out.1 (Below.refl w5.heap.size w5)
     rw [HP.out.2, HND.out] at FA
     have HFA := Lib.hid FA
     have HPD := Lib.hid (show byD d.1 d.2 t s (F : Int) = true by rw [HP.out.2, HND.out])
     clear HJ LE1 LX1 BD bb bb2 HJ2 FA
     have y0 : w5.cell? ⟨w.heap.size + 1, 0, none⟩ = some (.slice none 0 0) := jr.cell 0
     have y1 : w5.cell? ⟨w.heap.size + 1, 1, none⟩ = some (.slice none 0 0) := jr.cell 1
     have g0 := jr.free 0
     have g1 := jr.free 1
     have ra := jr.put 0 (.slice X xn xc)
     have y2 : (w5.setCell ⟨w.heap.size + 1, 0, none⟩ (.slice X xn xc)).cell? ⟨w.heap.size + 1, 1, none⟩ = some (.slice none 0 0) := ra.cell 1
     have g2 := ra.free 1
     have rb := ra.put 1 (.slice O on oc)
     have u0 : ((w5.setCell ⟨w.heap.size + 1, 0, none⟩ (.slice X xn xc)).setCell ⟨w.heap.size + 1, 1, none⟩ (.slice O on oc)).cell? ⟨w.heap.size + 1, 0, none⟩ = some (.slice X xn xc) := rb.cell 0
     have u1 : ((w5.setCell ⟨w.heap.size + 1, 0, none⟩ (.slice X xn xc)).setCell ⟨w.heap.size + 1, 1, none⟩ (.slice O on oc)).cell? ⟨w.heap.size + 1, 1, none⟩ = some (.slice O on oc) := rb.cell 1
     have FZ : AnsWalk w (byW d.1 d.2 t s (F : Int)) true (.returned (.tuple #[.agg #[.slice X xn xc, .slice O on oc], .bool true])) ((w5.setCell ⟨w.heap.size + 1, 0, none⟩ (.slice X xn xc)).setCell ⟨w.heap.size + 1, 1, none⟩ (.slice O on oc)) := HFA.out
     have HFZ := Lib.hid FZ
     clear FZ ra rb jr
     go_wp2
     exact bodyPost_ret (v := .tuple #[.agg #[.slice X xn xc, .slice O on oc], .bool true]) (by simp [results, Tryz.results49, go_sem, u0, u1]) rfl (by rw [HPD.out]; exact HFZ.out)
   | some p =>
     obtain ⟨pa, pk, rfl, hpa, hpk, hred, -, hst⟩ := pick_step HR.out hp
     have HP := Lib.hid hp
     rw [hp] at LX1
     have LX1 := Lib.hid (show ∀ (w1 : World) (bb : Below wr.heap.size wr w1) (nw : Value) (hx : Rd w1 w1.heap.size sI [nw] x), Calls Tryz.prog 73 #[.agg #[.slice A n cs, .slice V q cv], nw, .func (.func g) #[.agg #[.slice A n cs, .slice V q cv]] #[]] w1 (fun e w' => e = .returned (.tuple #[.int .i64 (pa : Int), .int .i64 (pk : Int), .bool true]) ∧ Below w1.heap.size w1 w') from LX1.out)
     have HND := Lib.hid (show normalB d.1 d.2 x = false by rw [normal_pick (s := s) HR.out, hp]; rfl)
     by_cases hlt : on = F
     · have HQ := Lib.hid (by_done (gone_full HG.out (by omega)) HG.out.2.2.1 HB.out)
       have hE : ((on : Int) == (F : Int)) = true := by simp; omega
       clear hp LD LX LE2 hst hred hlt
       go_wp2_with fail
       go_region_held3 (fun w' => w'.cell? ⟨w.heap.size, 0, none⟩ = some (.slice A n cs) ∧ w'.cell? ⟨w.heap.size, 1, none⟩ = some (.slice V q cv) ∧ w'.cell? ⟨B, 0, none⟩ = some (.slice X xn xc) ∧ w'.cell? ⟨B, 1, none⟩ = some (.slice O on oc))
         (go_keep)
         (first
           | (go_at_call 39; refine LE1.out.mono ?_; rintro e w4 ⟨N, nn, nc, rfl, hN, bb⟩; have a0 : w4.cell? ⟨w.heap.size, 0, none⟩ = some (.slice A n cs) := (bb.cell (p := ⟨w.heap.size, 0, none⟩) z0).trans K0; have a1 : w4.cell? ⟨w.heap.size, 1, none⟩ = some (.slice V q cv) := (bb.cell (p := ⟨w.heap.size, 1, none⟩) z0).trans K1; have a2 : w4.cell? ⟨B, 0, none⟩ = some (.slice X xn xc) := (bb.cell (p := ⟨B, 0, none⟩) z1).trans K2; have a3 : w4.cell? ⟨B, 1, none⟩ = some (.slice O on oc) := (bb.cell (p := ⟨B, 1, none⟩) z1).trans K3; have y0 : w.heap.size < w4.heap.size := Nat.lt_of_lt_of_le z0 bb.size; have y1 : B < w4.heap.size := Nat.lt_of_lt_of_le z1 bb.size)
           | (go_at_call 73; refine (LX1.out w4 (BD.out.trans bb) _ (hN.more bb.size)).mono ?_; rintro e w5 ⟨rfl, bb2⟩; have m0 : w5.cell? ⟨w.heap.size, 0, none⟩ = some (.slice A n cs) := (bb2.cell (p := ⟨w.heap.size, 0, none⟩) y0).trans a0; have m1 : w5.cell? ⟨w.heap.size, 1, none⟩ = some (.slice V q cv) := (bb2.cell (p := ⟨w.heap.size, 1, none⟩) y0).trans a1; have m2 : w5.cell? ⟨B, 0, none⟩ = some (.slice X xn xc) := (bb2.cell (p := ⟨B, 0, none⟩) y1).trans a2; have m3 : w5.cell? ⟨B, 1, none⟩ = some (.slice O on oc) := (bb2.cell (p := ⟨B, 1, none⟩) y1).trans a3))
       have HJ2 := HJ.out.next (BD.out.trans (bb.trans (bb2.mono bb.size)))
       have jr := HJ2.r1
       clear K0 K1 K2 K3 a0 a1 a2 a3 y0 y1 hN
       have FA := ansWalk_yes (b := byD d.1 d.2 t s (F : Int)) HJ2 HQ.out.1 (Below.refl w5.heap.size w5)
       rw [HQ.out.2, HND.out] at FA
       have HFA := Lib.hid FA
       have HPD := Lib.hid (show byD d.1 d.2 t s (F : Int) = false by rw [HQ.out.2, HND.out])
       clear HJ LE1 LX1 BD bb bb2 HJ2 FA
       have y0 : w5.cell? ⟨w.heap.size + 1, 0, none⟩ = some (.slice none 0 0) := jr.cell 0
       have y1 : w5.cell? ⟨w.heap.size + 1, 1, none⟩ = some (.slice none 0 0) := jr.cell 1
       have g0 := jr.free 0
       have g1 := jr.free 1
       have ra := jr.put 0 (.slice X xn xc)
       have y2 : (w5.setCell ⟨w.heap.size + 1, 0, none⟩ (.slice X xn xc)).cell? ⟨w.heap.size + 1, 1, none⟩ = some (.slice none 0 0) := ra.cell 1
       have g2 := ra.free 1
       have rb := ra.put 1 (.slice O on oc)
       have u0 : ((w5.setCell ⟨w.heap.size + 1, 0, none⟩ (.slice X xn xc)).setCell ⟨w.heap.size + 1, 1, none⟩ (.slice O on oc)).cell? ⟨w.heap.size + 1, 0, none⟩ = some (.slice X xn xc) := rb.cell 0
       have u1 : ((w5.setCell ⟨w.heap.size + 1, 0, none⟩ (.slice X xn xc)).setCell ⟨w.heap.size + 1, 1, none⟩ (.slice O on oc)).cell? ⟨w.heap.size + 1, 1, none⟩ = some (.slice O on oc) := rb.cell 1
       have FZ : AnsWalk w (byW d.1 d.2 t s (F : Int)) false (.returned (.tuple #[.agg #[.slice X xn xc, .slice O on oc], .bool false])) ((w5.setCell ⟨w.heap.size + 1, 0, none⟩ (.slice X xn xc)).setCell ⟨w.heap.size + 1, 1, none⟩ (.slice O on oc)) := HFA.out
       have HFZ := Lib.hid FZ
       clear FZ ra rb jr
       go_wp2
       exact bodyPost_ret (v := .tuple #[.agg #[.slice X xn xc, .slice O on oc], .bool false]) (by simp [results, Tryz.results49, go_sem, u0, u1]) rfl (by rw [HPD.out]; exact HFZ.out)
     · have hE : ((on : Int) == (F : Int)) = false := by simp; omega
       have LD1 := Lib.hid (fun (w1 : World) (bb : Below wr.heap.size wr w1) (nw : Value) (hx : Rd w1 w1.heap.size sI [nw] x) => LD.out w1 (next_trans HJ.out.b bb) nw x hx HR.out pa pk hpa hpk hred)
       obtain ⟨so, hso⟩ : ∃ so, stepO d.1 (d.2.getD pk ([], [])) x pa = so := ⟨_, rfl⟩
       rw [hso] at LD1 hst
       have HST := Lib.hid hst
       have hlt2 : on < F := by omega
       clear hp LD LX hst hred hso
       go_wp2_with fail
       go_region_held3 (fun w' => w'.cell? ⟨w.heap.size, 0, none⟩ = some (.slice A n cs) ∧ w'.cell? ⟨w.heap.size, 1, none⟩ = some (.slice V q cv) ∧ w'.cell? ⟨B, 0, none⟩ = some (.slice X xn xc) ∧ w'.cell? ⟨B, 1, none⟩ = some (.slice O on oc))
         (go_keep)
         (first
           | (go_at_call 39; refine LE1.out.mono ?_; rintro e w4 ⟨N, nn, nc, rfl, hN, bb⟩; have a0 : w4.cell? ⟨w.heap.size, 0, none⟩ = some (.slice A n cs) := (bb.cell (p := ⟨w.heap.size, 0, none⟩) z0).trans K0; have a1 : w4.cell? ⟨w.heap.size, 1, none⟩ = some (.slice V q cv) := (bb.cell (p := ⟨w.heap.size, 1, none⟩) z0).trans K1; have a2 : w4.cell? ⟨B, 0, none⟩ = some (.slice X xn xc) := (bb.cell (p := ⟨B, 0, none⟩) z1).trans K2; have a3 : w4.cell? ⟨B, 1, none⟩ = some (.slice O on oc) := (bb.cell (p := ⟨B, 1, none⟩) z1).trans K3; have y0 : w.heap.size < w4.heap.size := Nat.lt_of_lt_of_le z0 bb.size; have y1 : B < w4.heap.size := Nat.lt_of_lt_of_le z1 bb.size)
           | (go_at_call 73; refine (LX1.out w4 (BD.out.trans bb) _ (hN.more bb.size)).mono ?_; rintro e w5 ⟨rfl, bb2⟩; have m0 : w5.cell? ⟨w.heap.size, 0, none⟩ = some (.slice A n cs) := (bb2.cell (p := ⟨w.heap.size, 0, none⟩) y0).trans a0; have m1 : w5.cell? ⟨w.heap.size, 1, none⟩ = some (.slice V q cv) := (bb2.cell (p := ⟨w.heap.size, 1, none⟩) y0).trans a1; have m2 : w5.cell? ⟨B, 0, none⟩ = some (.slice X xn xc) := (bb2.cell (p := ⟨B, 0, none⟩) y1).trans a2; have m3 : w5.cell? ⟨B, 1, none⟩ = some (.slice O on oc) := (bb2.cell (p := ⟨B, 1, none⟩) y1).trans a3))
       have B5 := BD.out.trans (bb.trans (bb2.mono bb.size))
       have HB5 := Lib.hid (show Below wr.heap.size wr w5 from B5)
       have HJ2 := Lib.hid (HJ.out.next B5)
       have LE3 := Lib.hid (LE2.out w5.drew (next_trans HB5.out (drew_below w5)))
       clear K0 K1 K2 K3 a0 a1 a2 a3 y0 y1 hN
       have z05 : w.heap.size < w5.heap.size := HJ2.out.r0.lt
       have z15 : B < w5.heap.size := HJ2.out.r3.lt
       have BD5 := Lib.hid (drew_below w5)
       clear HJ LE1 LX1 LE2 BD bb bb2 B5
       cases so with
       | none =>
         have HQ := Lib.hid (by_done (gone_stop HG.out HP.out HST.out) HG.out.2.2.1 HB.out)
         go_wp2_with fail
         go_region_held3 (fun w' => w'.cell? ⟨w.heap.size, 0, none⟩ = some (.slice A n cs) ∧ w'.cell? ⟨w.heap.size, 1, none⟩ = some (.slice V q cv) ∧ w'.cell? ⟨B, 0, none⟩ = some (.slice X xn xc) ∧ w'.cell? ⟨B, 1, none⟩ = some (.slice O on oc))
           (go_keep)
           (first
             | (go_at_call 39; refine LE3.out.mono ?_; rintro e w6 ⟨N2, nn2, nc2, rfl, hN2, bb6⟩; have b0 : w6.cell? ⟨w.heap.size, 0, none⟩ = some (.slice A n cs) := (bb6.cell (p := ⟨w.heap.size, 0, none⟩) z05).trans m0; have b1 : w6.cell? ⟨w.heap.size, 1, none⟩ = some (.slice V q cv) := (bb6.cell (p := ⟨w.heap.size, 1, none⟩) z05).trans m1; have b2 : w6.cell? ⟨B, 0, none⟩ = some (.slice X xn xc) := (bb6.cell (p := ⟨B, 0, none⟩) z15).trans m2; have b3 : w6.cell? ⟨B, 1, none⟩ = some (.slice O on oc) := (bb6.cell (p := ⟨B, 1, none⟩) z15).trans m3; have y6 : w.heap.size < w6.heap.size := Nat.lt_of_lt_of_le z05 bb6.size; have y7 : B < w6.heap.size := Nat.lt_of_lt_of_le z15 bb6.size)
             | (go_at_call 74; refine (LD1.out w6 (next_trans HB5.out (BD5.out.trans bb6)) _ (hN2.more bb6.size)).mono ?_; rintro e w7 ⟨Y, yn, yc, he, oY, bb7⟩; have he : e = .returned (.tuple #[.slice Y yn yc, .bool false]) := he; subst he; have p0 : w7.cell? ⟨w.heap.size, 0, none⟩ = some (.slice A n cs) := (bb7.cell (p := ⟨w.heap.size, 0, none⟩) y6).trans b0; have p1 : w7.cell? ⟨w.heap.size, 1, none⟩ = some (.slice V q cv) := (bb7.cell (p := ⟨w.heap.size, 1, none⟩) y6).trans b1; have p2 : w7.cell? ⟨B, 0, none⟩ = some (.slice X xn xc) := (bb7.cell (p := ⟨B, 0, none⟩) y7).trans b2; have p3 : w7.cell? ⟨B, 1, none⟩ = some (.slice O on oc) := (bb7.cell (p := ⟨B, 1, none⟩) y7).trans b3))
         have HJ3 := HJ2.out.next (BD5.out.trans (bb6.trans (bb7.mono bb6.size)))
         have jr := HJ3.r1
         have FA := ansWalk_yes (b := byD d.1 d.2 t s (F : Int)) HJ3 HQ.out.1 (Below.refl w7.heap.size w7)
         rw [HQ.out.2, HND.out] at FA
         have HFA := Lib.hid FA
         have HPD := Lib.hid (show byD d.1 d.2 t s (F : Int) = false by rw [HQ.out.2, HND.out])
         clear HJ2 LE3 LD1 LX1 BD5 bb6 bb7 HJ3 FA oY m0 m1 m2 m3 b0 b1 b2 b3 HB5
         have y0 : w7.cell? ⟨w.heap.size + 1, 0, none⟩ = some (.slice none 0 0) := jr.cell 0
         have y1 : w7.cell? ⟨w.heap.size + 1, 1, none⟩ = some (.slice none 0 0) := jr.cell 1
         have g0 := jr.free 0
         have g1 := jr.free 1
         have ra := jr.put 0 (.slice X xn xc)
         have y2 : (w7.setCell ⟨w.heap.size + 1, 0, none⟩ (.slice X xn xc)).cell? ⟨w.heap.size + 1, 1, none⟩ = some (.slice none 0 0) := ra.cell 1
         have g2 := ra.free 1
         have rb := ra.put 1 (.slice O on oc)
         have u0 : ((w7.setCell ⟨w.heap.size + 1, 0, none⟩ (.slice X xn xc)).setCell ⟨w.heap.size + 1, 1, none⟩ (.slice O on oc)).cell? ⟨w.heap.size + 1, 0, none⟩ = some (.slice X xn xc) := rb.cell 0
         have u1 : ((w7.setCell ⟨w.heap.size + 1, 0, none⟩ (.slice X xn xc)).setCell ⟨w.heap.size + 1, 1, none⟩ (.slice O on oc)).cell? ⟨w.heap.size + 1, 1, none⟩ = some (.slice O on oc) := rb.cell 1
         have FZ : AnsWalk w (byW d.1 d.2 t s (F : Int)) false (.returned (.tuple #[.agg #[.slice X xn xc, .slice O on oc], .bool false])) ((w7.setCell ⟨w.heap.size + 1, 0, none⟩ (.slice X xn xc)).setCell ⟨w.heap.size + 1, 1, none⟩ (.slice O on oc)) := HFA.out
         have HFZ := Lib.hid FZ
         clear FZ ra rb jr
         go_wp2
         exact bodyPost_ret (v := .tuple #[.agg #[.slice X xn xc, .slice O on oc], .bool false]) (by simp [results, Tryz.results49, go_sem, u0, u1]) rfl (by rw [HPD.out]; exact HFZ.out)
       | some y =>
         have HG2 := Lib.hid (gone_step HG.out hlt2 HP.out HST.out)
         go_wp2_with fail
         go_region_held3 (fun w' => w'.cell? ⟨w.heap.size, 0, none⟩ = some (.slice A n cs) ∧ w'.cell? ⟨w.heap.size, 1, none⟩ = some (.slice V q cv) ∧ w'.cell? ⟨B, 0, none⟩ = some (.slice X xn xc) ∧ w'.cell? ⟨B, 1, none⟩ = some (.slice O on oc))
           (go_keep)
           (first
             | (go_at_call 39; refine LE3.out.mono ?_; rintro e w6 ⟨N2, nn2, nc2, rfl, hN2, bb6⟩; have b0 : w6.cell? ⟨w.heap.size, 0, none⟩ = some (.slice A n cs) := (bb6.cell (p := ⟨w.heap.size, 0, none⟩) z05).trans m0; have b1 : w6.cell? ⟨w.heap.size, 1, none⟩ = some (.slice V q cv) := (bb6.cell (p := ⟨w.heap.size, 1, none⟩) z05).trans m1; have b2 : w6.cell? ⟨B, 0, none⟩ = some (.slice X xn xc) := (bb6.cell (p := ⟨B, 0, none⟩) z15).trans m2; have b3 : w6.cell? ⟨B, 1, none⟩ = some (.slice O on oc) := (bb6.cell (p := ⟨B, 1, none⟩) z15).trans m3; have y6 : w.heap.size < w6.heap.size := Nat.lt_of_lt_of_le z05 bb6.size; have y7 : B < w6.heap.size := Nat.lt_of_lt_of_le z15 bb6.size)
             | (go_at_call 74; refine (LD1.out w6 (next_trans HB5.out (BD5.out.trans bb6)) _ (hN2.more bb6.size)).mono ?_; rintro e w7 ⟨Y, yn, yc, he, oY, bb7⟩; have he : e = .returned (.tuple #[.slice Y yn yc, .bool true]) := he; subst he; have p0 : w7.cell? ⟨w.heap.size, 0, none⟩ = some (.slice A n cs) := (bb7.cell (p := ⟨w.heap.size, 0, none⟩) y6).trans b0; have p1 : w7.cell? ⟨w.heap.size, 1, none⟩ = some (.slice V q cv) := (bb7.cell (p := ⟨w.heap.size, 1, none⟩) y6).trans b1; have p2 : w7.cell? ⟨B, 0, none⟩ = some (.slice X xn xc) := (bb7.cell (p := ⟨B, 0, none⟩) y7).trans b2; have p3 : w7.cell? ⟨B, 1, none⟩ = some (.slice O on oc) := (bb7.cell (p := ⟨B, 1, none⟩) y7).trans b3))
         have oY : marks.Own w7 w6.heap.size (.slice Y yn yc) y := oY
         have B7 := BD5.out.trans (bb6.trans (bb7.mono bb6.size))
         have J3 := HJ2.out.next B7
         have zB : B + 1 ≤ w6.heap.size := by have := bb6.size; have h2 : w5.drew.heap.size = w5.heap.size := rfl; omega
         have J6 := HJ2.out.next (BD5.out.trans bb6)
         have b3' : Below w7.heap.size w7 (w7.alloc (.cells #[.int .i64 (pa : Int), .int .i64 (pk : Int), .slice Y yn yc] 70)) := (Below.refl _ _).alloc (Nat.le_refl _) _
         have z2 := bb7.size
         have HAPP := Lib.hid (show OwnL (w7.alloc (.cells #[.int .i64 (pa : Int), .int .i64 (pk : Int), .slice Y yn yc] 70)) (B + 1) w6.heap.size 70 sStep O on oc L ∧ OwnL (w7.alloc (.cells #[.int .i64 (pa : Int), .int .i64 (pk : Int), .slice Y yn yc] 70)) w6.heap.size (w7.heap.size + 1) 70 sStep (some ⟨w7.heap.size, 0, none⟩) 1 1 [((pa : Int), (pk : Int), y)] from
           ⟨(J6.o.next bb7).next b3', OwnL.single (e := 70) (s := sStep) (Row.new w7 70 #[.int .i64 (pa : Int), .int .i64 (pk : Int), .slice Y yn yc]) ((owned_step oY (pa : Int) (pk : Int)).next b3') (Nat.le_refl _) z2⟩)
         have HJ3 := Lib.hid J3
         have HR3 := Lib.hid (J3.r3.next b3')
         clear bb6 bb7 HJ2 LE3 LD1 LX1 oY b3' J3 J6 B7 BD5 b0 b1 b2 b3 HB5
         go_wp2_with (at_builtin; refine appLm rfl _ _ 39 70 sStep _ _ Tryz.underlying39 info_StepS rfl (by decide) rfl (B + 1) w6.heap.size w6.heap.size (w7.heap.size + 1) O on oc w7.heap.size 1 1 _ _ rfl HAPP.out.1 rfl HAPP.out.2 (Nat.le_refl _) zB (by omega) (by omega) (by simp; omega) ?_; intro A4 oc' w4 oL4 hg4 hat4 b4 hf4; obtain ⟨O', rfl⟩ := hf4 (.inr (by omega)); have rB4 := HR3.out.below b4 (show B < B + 1 by omega); have y1 : w4.cell? ⟨B, 1, none⟩ = some (.slice O on oc) := rB4.cell 1; have g1 := rB4.free 1; refine (?_ : Hid _).out)
         have HJ5 := Lib.hid (HJ3.out.app oL4 hg4)
         clear oL4 hg4 hat4 b4 hf4 HAPP HJ3 HR3 rB4
         refine Lib.hid ?_
         go_wp2
         go_roundg (gk - 1)
         case measure => have := HI.out; omega
         case rel => exact ⟨on + 1, on + 1, oc', some ⟨O', 0, none⟩, L ++ [((pa : Int), (pk : Int), y)], y, by have := HI.out; omega, HG2.out, HJ5.out⟩
end byImpl
end
section
namespace byImpl
open Go.RowKit base ints sig term termOk endAt endOf marks app sym sub segs segsHelp kinds termFacts same shifted shape drawX kindsR kindsW varsOf ruleMath ruleSpec stepMath walkMath stepSpec stepImpl walkSpec walkX walkImpl ownL heldT orderMath orderSpec bySpec strat pickImpl
set_option maxRecDepth 100000
set_option maxHeartbeats 4000000 in
theorem implWalkBy0 (a v u : Value) (d : Dat sSystem) (t : List Int) (s f : Int) (w : World) (h : Rd w w.heap.size sSystem [a, v] d) (ht : Rd w w.heap.size sI [u] t) (hz : sz sSystem d ≤ 1048576) (hz' : sz sI t ≤ 1048576) (s1 : -9223372036854775808 ≤ s) (s2 : s ≤ 9223372036854775807) :
   Calls Tryz.prog 24 #[.agg #[a, v], u, .int .i64 s, .int .i64 f] w (AnsWalk w (byW d.1 d.2 t s f) (byD d.1 d.2 t s f)) := by
 have h0 := h
 have ht0 := ht
 obtain ⟨T, m, c, rfl, -, -⟩ := rd_ints.1 ht
 obtain ⟨A, n, cs, V, q, cv, rfl, rfl, -⟩ := rd_sys h hz
 obtain ⟨W, hW, r0, r1, bel⟩ : ∃ W, W = (w.alloc (.cells #[.slice A n cs, .slice V q cv] 29)).alloc (.cells #[.slice none 0 0, .slice none 0 0] 41) ∧ Row W w.heap.size 29 #[.slice A n cs, .slice V q cv] ∧ Row W (w.heap.size + 1) 41 #[.slice none 0 0, .slice none 0 0] ∧ Below w.heap.size w W := by
   refine ⟨_, rfl, (Row.new w _ _).alloc _, ?_, ((Below.refl _ _).alloc (Nat.le_refl _) _).alloc (by simp) _⟩
   have := Row.new (w.alloc (.cells #[.slice A n cs, .slice V q cv] 29)) 41 #[.slice none 0 0, .slice none 0 0]
   simpa using this
 have HW := Lib.hid hW
 have LS := Lib.hid (strategyIn _ _ _ d t s W (h0.next bel) (ht0.next bel) hz hz' s1 s2)
 have HH := Lib.hid (And.intro h0 ht0)
 have K0 : W.cell? ⟨w.heap.size, 0, none⟩ = some (.slice A n cs) := r0.cell 0
 have K1 : W.cell? ⟨w.heap.size, 1, none⟩ = some (.slice V q cv) := r0.cell 1
 clear hW h ht h0 ht0
 cases ok : (rightB d.1 d.2 t && stratB s) with
 | false =>
   have HS := Lib.hid (by_off (by_no1 (f := f) ok))
   rw [ok] at LS
   clear ok
   go_enter Tryz.func24, Tryz.ntmps24
   go_wp2_with fail
   rw [← HW.out]
   refine LS.out.mono ?_
   rintro e w1 ⟨A1, n1, c1, A2, n2, c2, pf, rfl, -, bb⟩
   have b1 := next_trans bel bb
   have b2 : Below w1.heap.size w1 (w1.alloc (.cells #[.slice A1 n1 c1, .slice A2 n2 c2] 60)) := (Below.refl _ _).alloc (Nat.le_refl _) _
   have r3 := (r1.next bb).next b2
   have b3 := next_trans b1 b2
   clear bb b1 b2 bel r0 r1 LS K0 K1
   obtain ⟨W3, hW3⟩ : ∃ W3, W3 = w1.alloc (.cells #[.slice A1 n1 c1, .slice A2 n2 c2] 60) := ⟨_, rfl⟩
   rw [← hW3] at r3 b3
   have HW3 := Lib.hid hW3
   clear hW3
   go_upto_region 2 with fail
   rw [← HW3.out]
   clear HW3
   have y0 : W3.cell? ⟨w.heap.size + 1, 0, none⟩ = some (.slice none 0 0) := r3.cell 0
   have y1 : W3.cell? ⟨w.heap.size + 1, 1, none⟩ = some (.slice none 0 0) := r3.cell 1
   have g0 := r3.free 0
   have g1 := r3.free 1
   have ra := r3.put 0 (.slice none 0 0)
   have y2 : (W3.setCell ⟨w.heap.size + 1, 0, none⟩ (.slice none 0 0)).cell? ⟨w.heap.size + 1, 1, none⟩ = some (.slice none 0 0) := ra.cell 1
   have g2 := ra.free 1
   have rb := ra.put 1 (.slice none 0 0)
   have u0 : ((W3.setCell ⟨w.heap.size + 1, 0, none⟩ (.slice none 0 0)).setCell ⟨w.heap.size + 1, 1, none⟩ (.slice none 0 0)).cell? ⟨w.heap.size + 1, 0, none⟩ = some (.slice none 0 0) := rb.cell 0
   have u1 : ((W3.setCell ⟨w.heap.size + 1, 0, none⟩ (.slice none 0 0)).setCell ⟨w.heap.size + 1, 1, none⟩ (.slice none 0 0)).cell? ⟨w.heap.size + 1, 1, none⟩ = some (.slice none 0 0) := rb.cell 1
   have FZ : AnsWalk w (byW d.1 d.2 t s f) (byD d.1 d.2 t s f) (.returned (.tuple #[.agg #[.slice none 0 0, .slice none 0 0], .bool false])) ((W3.setCell ⟨w.heap.size + 1, 0, none⟩ (.slice none 0 0)).setCell ⟨w.heap.size + 1, 1, none⟩ (.slice none 0 0)) := ansWalk_no HS.out (((b3).setCell (show w.heap.size ≤ w.heap.size + 1 by omega) _).setCell (show w.heap.size ≤ w.heap.size + 1 by omega) _)
   have HFZ := Lib.hid FZ
   clear FZ ra rb b3
   go_wp2
   exact bodyPost_ret (v := .tuple #[.agg #[.slice none 0 0, .slice none 0 0], .bool false]) (by simp [results, Tryz.results24, go_sem, u0, u1]) rfl HFZ.out
 | true =>
   have HR := Lib.hid ((Bool.and_eq_true _ _).mp ok)
   have HOK := Lib.hid ok
   rw [ok] at LS
   clear ok
   go_enter Tryz.func24, Tryz.ntmps24
   go_wp2_with fail
   rw [← HW.out]
   refine LS.out.mono ?_
   rintro e w1 ⟨A1, n1, c1, A2, n2, c2, pf, rfl, hv, bb⟩
   obtain ⟨e1, e2, rfl⟩ := hv rfl
   injection e1 with e11 e12 e13
   injection e2 with e21 e22 e23
   subst e11 e12 e13 e21 e22 e23
   rw [pickV_yes HR.out.2]
   have b1 := next_trans bel bb
   have b2 : Below w1.heap.size w1 (w1.alloc (.cells #[.slice A1 n1 c1, .slice A2 n2 c2] 60)) := (Below.refl _ _).alloc (Nat.le_refl _) _
   have r3 := (r1.next bb).next b2
   have b3 := next_trans b1 b2
   have rS : Row (w1.alloc (.cells #[.slice A1 n1 c1, .slice A2 n2 c2] 60)) w1.heap.size 60 #[.slice A1 n1 c1, .slice A2 n2 c2] := Row.new _ _ _
   have zz : w.heap.size + 1 < w1.heap.size := (r1.next bb).lt
   obtain ⟨W3, hW3⟩ : ∃ W3, W3 = w1.alloc (.cells #[.slice A1 n1 c1, .slice A2 n2 c2] 60) := ⟨_, rfl⟩
   rw [← hW3] at r3 b3 rS
   have HW3 := Lib.hid hW3
   clear bb b1 b2 bel r0 r1 LS K0 K1 hW3
   go_upto_region 2 with fail
   rw [← HW3.out]
   clear HW3
   by_cases hf : 0 ≤ f ∧ f ≤ 60
   · obtain ⟨F, rfl⟩ := Int.eq_ofNat_of_zero_le hf.1
     have hF : F ≤ 60 := by omega
     have hpf := pickFn (HH.out.1.next b3) hz HR.out.2
     have LX := Lib.hid (walk (pickG s) hpf.1 _ _ _ d t s F W3 (HH.out.1.next b3) (HH.out.2.next b3) hz HR.out.1 (by_yes HOK.out (fuel_yes hF)) hF hpf.2)
     generalize pickG s = g at *
     generalize byW d.1 d.2 t s (F : Int) = bw at *
     generalize byD d.1 d.2 t s (F : Int) = bd at *
     have k0 : W3.cell? ⟨w1.heap.size, 0, none⟩ = some (.slice A1 n1 c1) := rS.cell 0
     have k1 : W3.cell? ⟨w1.heap.size, 1, none⟩ = some (.slice A2 n2 c2) := rS.cell 1
     have f0 : decide ((F : Int) < 0) = false := by simp
     have f6 : decide ((60 : Int) < (F : Int)) = false := by simp; omega
     clear hpf hf
     go_wp2_with fail
     refine LX.out.mono ?_
     rintro e w4 ⟨X, xn, xc, O, on, oc, rfl, ow, bb⟩
     have jr := r3.next bb
     have b4 := next_trans b3 bb
     have zW3 : w.heap.size + 1 < W3.heap.size := r3.lt
     have FA : AnsWalk w bw bd (.returned (.tuple #[.agg #[.slice X xn xc, .slice O on oc], .bool bd])) ((w4.setCell ⟨w.heap.size + 1, 0, none⟩ (.slice X xn xc)).setCell ⟨w.heap.size + 1, 1, none⟩ (.slice O on oc)) :=
       ⟨_, _, _, _, _, _, rfl, ((ow.put (g := w.heap.size + 1) (i := 0) (by omega)).put (g := w.heap.size + 1) (i := 1) (by omega)).wider (by omega) (by simp), (b4.setCell (show w.heap.size ≤ w.heap.size + 1 by omega) _).setCell (show w.heap.size ≤ w.heap.size + 1 by omega) _⟩
     have HFA := Lib.hid FA
     clear FA ow bb b3 b4 r3 rS LX k0 k1
     have y0 : w4.cell? ⟨w.heap.size + 1, 0, none⟩ = some (.slice none 0 0) := jr.cell 0
     have y1 : w4.cell? ⟨w.heap.size + 1, 1, none⟩ = some (.slice none 0 0) := jr.cell 1
     have g0 := jr.free 0
     have g1 := jr.free 1
     have ra := jr.put 0 (.slice X xn xc)
     have y2 : (w4.setCell ⟨w.heap.size + 1, 0, none⟩ (.slice X xn xc)).cell? ⟨w.heap.size + 1, 1, none⟩ = some (.slice none 0 0) := ra.cell 1
     have g2 := ra.free 1
     have rb := ra.put 1 (.slice O on oc)
     have u0 : ((w4.setCell ⟨w.heap.size + 1, 0, none⟩ (.slice X xn xc)).setCell ⟨w.heap.size + 1, 1, none⟩ (.slice O on oc)).cell? ⟨w.heap.size + 1, 0, none⟩ = some (.slice X xn xc) := rb.cell 0
     have u1 : ((w4.setCell ⟨w.heap.size + 1, 0, none⟩ (.slice X xn xc)).setCell ⟨w.heap.size + 1, 1, none⟩ (.slice O on oc)).cell? ⟨w.heap.size + 1, 1, none⟩ = some (.slice O on oc) := rb.cell 1
     have FZ : AnsWalk w bw bd (.returned (.tuple #[.agg #[.slice X xn xc, .slice O on oc], .bool bd])) ((w4.setCell ⟨w.heap.size + 1, 0, none⟩ (.slice X xn xc)).setCell ⟨w.heap.size + 1, 1, none⟩ (.slice O on oc)) := HFA.out
     have HFZ := Lib.hid FZ
     clear FZ ra rb jr
     go_wp2
     exact bodyPost_ret (v := .tuple #[.agg #[.slice X xn xc, .slice O on oc], .bool bd]) (by simp [results, Tryz.results24, go_sem, u0, u1]) rfl HFZ.out
   · have HB := Lib.hid (by_off (by_no2 (sg := d.1) (rs := d.2) (t := t) (s := s) (decide_eq_false hf : fuelB f = false)))
     by_cases hf0 : f < 0
     · have f0 : decide (f < 0) = true := decide_eq_true hf0
       clear hf hf0 rS
       have y0 : W3.cell? ⟨w.heap.size + 1, 0, none⟩ = some (.slice none 0 0) := r3.cell 0
       have y1 : W3.cell? ⟨w.heap.size + 1, 1, none⟩ = some (.slice none 0 0) := r3.cell 1
       have g0 := r3.free 0
       have g1 := r3.free 1
       have ra := r3.put 0 (.slice none 0 0)
       have y2 : (W3.setCell ⟨w.heap.size + 1, 0, none⟩ (.slice none 0 0)).cell? ⟨w.heap.size + 1, 1, none⟩ = some (.slice none 0 0) := ra.cell 1
       have g2 := ra.free 1
       have rb := ra.put 1 (.slice none 0 0)
       have u0 : ((W3.setCell ⟨w.heap.size + 1, 0, none⟩ (.slice none 0 0)).setCell ⟨w.heap.size + 1, 1, none⟩ (.slice none 0 0)).cell? ⟨w.heap.size + 1, 0, none⟩ = some (.slice none 0 0) := rb.cell 0
       have u1 : ((W3.setCell ⟨w.heap.size + 1, 0, none⟩ (.slice none 0 0)).setCell ⟨w.heap.size + 1, 1, none⟩ (.slice none 0 0)).cell? ⟨w.heap.size + 1, 1, none⟩ = some (.slice none 0 0) := rb.cell 1
       have FZ : AnsWalk w (byW d.1 d.2 t s f) (byD d.1 d.2 t s f) (.returned (.tuple #[.agg #[.slice none 0 0, .slice none 0 0], .bool false])) ((W3.setCell ⟨w.heap.size + 1, 0, none⟩ (.slice none 0 0)).setCell ⟨w.heap.size + 1, 1, none⟩ (.slice none 0 0)) := ansWalk_no HB.out (((b3).setCell (show w.heap.size ≤ w.heap.size + 1 by omega) _).setCell (show w.heap.size ≤ w.heap.size + 1 by omega) _)
       have HFZ := Lib.hid FZ
       clear FZ ra rb b3
       go_wp2
       exact bodyPost_ret (v := .tuple #[.agg #[.slice none 0 0, .slice none 0 0], .bool false]) (by simp [results, Tryz.results24, go_sem, u0, u1]) rfl HFZ.out
     · have f0 : decide (f < 0) = false := decide_eq_false hf0
       have f6 : decide (60 < f) = true := decide_eq_true (by omega)
       clear hf hf0 rS
       have y0 : W3.cell? ⟨w.heap.size + 1, 0, none⟩ = some (.slice none 0 0) := r3.cell 0
       have y1 : W3.cell? ⟨w.heap.size + 1, 1, none⟩ = some (.slice none 0 0) := r3.cell 1
       have g0 := r3.free 0
       have g1 := r3.free 1
       have ra := r3.put 0 (.slice none 0 0)
       have y2 : (W3.setCell ⟨w.heap.size + 1, 0, none⟩ (.slice none 0 0)).cell? ⟨w.heap.size + 1, 1, none⟩ = some (.slice none 0 0) := ra.cell 1
       have g2 := ra.free 1
       have rb := ra.put 1 (.slice none 0 0)
       have u0 : ((W3.setCell ⟨w.heap.size + 1, 0, none⟩ (.slice none 0 0)).setCell ⟨w.heap.size + 1, 1, none⟩ (.slice none 0 0)).cell? ⟨w.heap.size + 1, 0, none⟩ = some (.slice none 0 0) := rb.cell 0
       have u1 : ((W3.setCell ⟨w.heap.size + 1, 0, none⟩ (.slice none 0 0)).setCell ⟨w.heap.size + 1, 1, none⟩ (.slice none 0 0)).cell? ⟨w.heap.size + 1, 1, none⟩ = some (.slice none 0 0) := rb.cell 1
       have FZ : AnsWalk w (byW d.1 d.2 t s f) (byD d.1 d.2 t s f) (.returned (.tuple #[.agg #[.slice none 0 0, .slice none 0 0], .bool false])) ((W3.setCell ⟨w.heap.size + 1, 0, none⟩ (.slice none 0 0)).setCell ⟨w.heap.size + 1, 1, none⟩ (.slice none 0 0)) := ansWalk_no HB.out (((b3).setCell (show w.heap.size ≤ w.heap.size + 1 by omega) _).setCell (show w.heap.size ≤ w.heap.size + 1 by omega) _)
       have HFZ := Lib.hid FZ
       clear FZ ra rb b3
       go_wp2
       exact bodyPost_ret (v := .tuple #[.agg #[.slice none 0 0, .slice none 0 0], .bool false]) (by simp [results, Tryz.results24, go_sem, u0, u1]) rfl HFZ.out
end byImpl
end
section
namespace wFnLongest
open Go.RowKit base ints sig term termOk termFacts cursor marks app sym segs dice bigs drawL7 drawL9 shape kinds kindsR kindsW varsOf shifted ruleMath ruleSpec stepMath walkMath stepSpec stepImpl walkSpec iter same lawS reachMath orderMath bySpec byImpl longSpec longest findW findSpec normsSpec normsImpl
set_option maxRecDepth 100000
theorem owned_len {w : World} {lo hi : Nat} {A : Option Addr} {n c : Nat} {D : List (List Int)} (h : Owned w lo hi sTs [.slice A n c] D) : D.length = n := by
 obtain ⟨F, h, -⟩ := h
 obtain ⟨A', n', c', e, hl, -⟩ := h
 injection e with e
 injection e with e1 e2 e3
 rw [hl, e2]
theorem long_by {sg : List Int} {rs : List Rl} {t : List Int} {f r s : Int} (h : longI sg rs t f = r) (h0 : 0 ≤ r) (hs : 1 ≤ s ∧ s ≤ 3) : orderMath.byD sg rs t s r = true ∧ ((byW sg rs t s r).2.length : Int) ≤ r := by
 unfold longI at h
 split at h
 · rename_i ok
   obtain ⟨q1, q2, q3⟩ := r9_parts ok
   obtain ⟨j, hj, hjf, hR⟩ := lg_run (s := s) h (by omega)
   have hj2 : r = (j : Int) := by omega
   subst hj2
   have hb : byB sg rs t s (j : Int) = true := by
     unfold byB fuelB stratB
     rw [q1]
     simp only [Bool.true_and, Bool.and_eq_true, decide_eq_true_eq]
     omega
   have hn := hR t (List.mem_singleton.2 rfl) q1
   refine ⟨?_, ?_⟩
   · unfold orderMath.byD
     rw [hb, Int.toNat_natCast, hn]; rfl
   · unfold byW
     rw [if_pos hb, Int.toNat_natCast]
     show ((runS sg rs s j t).length : Int) ≤ (j : Int)
     have := run_len sg rs s j t
     omega
 · omega
set_option maxHeartbeats 4000000 in
theorem law (A : Option Addr) (n c : Nat) (_ : List Int) (w : World) (h : SegB w w.heap.size A n) (hN : n ≤ 9223372036854775807) :
   Calls Tryz.prog 4 #[.slice A n c] w (Fine w) := by
 by_cases hbig : n ≤ 4096
 · have LB := Lib.hid (bigAns A n c false w (by simp; omega) hN)
   go_enter Tryz.func4, Tryz.ntmps4
   go_wp2_with fail
   refine LB.out.mono ?_
   rintro e w' ⟨rfl, rfl⟩
   clear LB
   go_wp2_with fail
   refine (drawLongestOf A n c w h hbig).mono ?_
   rintro e w2 ⟨S, sn, sc, R, rn, rc, d, U, un, uc, t, f, rfl, sd, hz0, td, ht65, b2⟩
   clear h
   have hz : sz sSystem d ≤ 1048576 := by omega
   have hzt : sz sI t ≤ 1048576 := by rw [sz_ints]; omega
   obtain ⟨o, ho⟩ : ∃ o, w2.heap.size = o := ⟨_, rfl⟩
   obtain ⟨W, hW⟩ : ∃ W, W = w2.alloc (.cells #[.slice S sn sc, .slice R rn rc] 29) := ⟨_, rfl⟩
   have T : Sy w o S sn sc R rn rc d (.slice U un uc) t W := by
     have bb : Below w2.heap.size w2 W := by rw [hW]; exact (Below.refl _ _).alloc (Nat.le_refl _) _
     exact ⟨sd.next bb, td.next bb, by rw [hW, ← ho]; exact Row.new _ _ _, next_trans b2 bb⟩
   have HW := Lib.hid hW
   have HO := Lib.hid ho
   clear sd td b2 hW ho
   have c0 : W.cell? ⟨o, 0, none⟩ = some (.slice S sn sc) := T.c0
   have c1 : W.cell? ⟨o, 1, none⟩ = some (.slice R rn rc) := T.c1
   have HZ := Lib.hid (And.intro hz hzt)
   clear hz hzt hz0 ht65
   obtain ⟨r, hr⟩ : ∃ r, longI d.1 d.2 t f = r := ⟨_, rfl⟩
   have HR := Lib.hid hr
   have L1 := Lib.hid (implLongestOf _ _ _ d t f W T.s T.t HZ.out.1 HZ.out.2)
   rw [hr] at L1
   clear hr
   go_wp2_with fail
   rw [← HW.out, HO.out]
   refine L1.out.mono ?_
   rintro e w3 ⟨rfl, bb⟩
   replace T := T.next bb
   clear bb c0 c1 HW HO L1
   have c0 : w3.cell? ⟨o, 0, none⟩ = some (.slice S sn sc) := T.c0
   have c1 : w3.cell? ⟨o, 1, none⟩ = some (.slice R rn rc) := T.c1
   have L2 := Lib.hid (specLongestOf _ _ _ d t f w3 T.s T.t HZ.out.1 HZ.out.2)
   rw [HR.out] at L2
   have er : (r != r) = false := by simp
   go_wp2_with fail
   refine L2.out.mono ?_
   rintro e w4 ⟨rfl, bb⟩
   replace T := T.next bb
   clear bb c0 c1 L2
   have c0 : w4.cell? ⟨o, 0, none⟩ = some (.slice S sn sc) := T.c0
   have c1 : w4.cell? ⟨o, 1, none⟩ = some (.slice R rn rc) := T.c1
   obtain ⟨fb, hfb⟩ : ∃ b : Bool, decide (r ≠ -1) = b := ⟨_, rfl⟩
   have hfb2 : (r != -1) = fb := by rw [← hfb]; simp [bne, Bool.beq_eq_decide_eq]
   have efb : (fb != fb) = false := by simp
   have L3 := Lib.hid (implFiniteIn _ _ _ d t f w4 T.s T.t HZ.out.1 HZ.out.2)
   rw [HR.out, hfb] at L3
   clear hfb
   go_wp2_with fail
   refine L3.out.mono ?_
   rintro e w5 ⟨rfl, bb⟩
   replace T := T.next bb
   clear bb c0 c1 L3
   have c0 : w5.cell? ⟨o, 0, none⟩ = some (.slice S sn sc) := T.c0
   have c1 : w5.cell? ⟨o, 1, none⟩ = some (.slice R rn rc) := T.c1
   have L4 := Lib.hid (implNormalsOf _ _ _ d t f w5 T.s T.t HZ.out.1 HZ.out.2)
   go_wp2_with fail
   refine L4.out.mono ?_
   rintro e w6 ⟨X, xn, xc, rfl, oX, bb⟩
   have hx : (normsI d.1 d.2 t f).length = xn := (owned_len oX)
   replace T := T.next bb
   clear bb c0 c1 L4 oX
   have c0 : w6.cell? ⟨o, 0, none⟩ = some (.slice S sn sc) := T.c0
   have c1 : w6.cell? ⟨o, 1, none⟩ = some (.slice R rn rc) := T.c1
   have L5 := Lib.hid (specNormalsOf _ _ _ d t f w6 T.s T.t HZ.out.1 HZ.out.2)
   have HX := Lib.hid hx
   clear hx
   go_wp2_with fail
   refine L5.out.mono ?_
   rintro e w7 ⟨Y, yn, yc, rfl, oY, bb⟩
   have hy : yn = xn := by rw [← HX.out]; exact (owned_len oY).symm
   subst hy
   replace T := T.next bb
   clear bb c0 c1 L5 oY
   have HT := Lib.hid T
   clear T
   have en : ((yn : Int) != (yn : Int)) = false := by simp
   by_cases h0 : 0 ≤ r
   · have HBY := Lib.hid (fun s (hs : 1 ≤ s ∧ s ≤ 3) => long_by HR.out h0 hs)
     go_wp2_with fail
     go_loopg [8] 3 (fun g i wr => ∃ k : Nat, i = .int .i64 (k : Int) ∧ k + g = 4 ∧ 1 ≤ k ∧ Sy w o S sn sc R rn rc d (.slice U un uc) t wr)
     case atStart => exact ⟨1, rfl, by omega, by omega, HT.out⟩
     case round =>
       clear HT
       obtain ⟨k, rfl, hkg, hk1, T⟩ := hrel
       by_cases hk : k < 4
       · have i1 : (k : Int) < 4 := by omega
         have c0 : wr.cell? ⟨o, 0, none⟩ = some (.slice S sn sc) := T.c0
         have c1 : wr.cell? ⟨o, 1, none⟩ = some (.slice R rn rc) := T.c1
         have LW := Lib.hid (implWalkBy0 _ _ _ d t (k : Int) r wr T.s T.t HZ.out.1 HZ.out.2 (by omega) (by omega))
         have hby := HBY.out (k : Int) (by omega)
         rw [hby.1] at LW
         have HT := Lib.hid T
         have HK := Lib.hid (And.intro hkg hby.2)
         clear T hkg hby
         go_wp2_with fail
         refine LW.out.mono ?_
         rintro e w8 ⟨F, fn, fc, Q, qn, qc, rfl, oW, bb⟩
         have hq : (byW d.1 d.2 t (k : Int) r).2.length = qn := by
           have := (parts_Walk oW.rd).2
           obtain ⟨A', c', e, hc⟩ := this.slice
           injection e with e1 e2 e3
           exact e2.symm
         have hqr : ¬ r < (qn : Int) := by rw [← hq]; have := HK.out.2; omega
         obtain ⟨V, hV⟩ : ∃ V, V = w8.alloc (.cells #[.slice F fn fc, .slice Q qn qc] 41) := ⟨_, rfl⟩
         have bV : Below w8.heap.size w8 V := by rw [hV]; exact (Below.refl _ _).alloc (Nat.le_refl _) _
         have F1 := Lib.hid (show Sy w o S sn sc R rn rc d (.slice U un uc) t (w8.alloc (.cells #[.slice F fn fc, .slice Q qn qc] 41)) from by rw [← hV]; exact (HT.out.next bb).next bV)
         have G1 := Lib.hid HK.out.1
         clear oW bb hq LW HT HK hV bV V c0 c1
         go_wp2
         go_roundg (gk - 1)
         case measure => have := G1.out; omega
         case rel => exact ⟨k + 1, by simp, by have := G1.out; omega, by omega, F1.out⟩
       · have i1 : ¬ (k : Int) < 4 := by omega
         have F := Lib.hid T.b
         clear T
         go_wp2
         go_ret
         exact ⟨rfl, F.out⟩
   · have F := Lib.hid HT.out.b
     clear HT
     go_wp2_with fail
     go_loopg [8] 0 (fun g i wr => i = .int .i64 1 ∧ Below w.heap.size w wr)
     case atStart => exact ⟨rfl, F.out⟩
     case round =>
       obtain ⟨rfl, bw⟩ := hrel
       have F2 := Lib.hid bw
       clear bw F
       go_wp2
       go_ret
       exact ⟨rfl, F2.out⟩
 · have LB := Lib.hid (bigAns A n c true w (by simp; omega) hN)
   clear h
   go_enter Tryz.func4, Tryz.ntmps4
   go_wp2_with fail
   refine LB.out.mono ?_
   rintro e w' ⟨rfl, rfl⟩
   go_wp2
   go_ret
   exact ⟨rfl, Below.refl _ _⟩
end wFnLongest
end
end Go.Proofs.YtifckjchmjmhoabGreat
