/-
  MERGED: my texts PathSpec, WayTo, Place, PeakMath, KindsP, PeakSame, StepsMath, Dice, DrawSig, DrawTerm, DrawAny, DrawX, OwnL, StepSpecB, PeakSpec, WalkSpec, WalkSpecB, one behind the other, as they are. By an AI agent.
-/
import Derived.Test.YtlaloakegajheaaMFnExactPeakOk4
import Derived.Deep.LoopGhost
import Derived.Deep.RegionHeld3
import Derived.Deep.AppendLies
import Derived.Deep.RegionLaw
namespace Go.Proofs.Ytlaloakegajheaa
section
namespace pathSpec
open Go.RowKit base ints sig term arity endOf cursor termOk endAt inside marks app appAt sym args posMath
set_option maxRecDepth 100000
theorem own_lt {w : World} {base : Nat} {A : Option Addr} {n c : Nat} {xs : List Int} (h : Own w base (.slice A n c) xs) : ∀ k, blk A = some k → base ≤ k ∧ k < w.heap.size := fun k hk => World.ownsRow.lt h k (by rw [blk_own]; exact hk)
def PathIs (sg t : List Int) (x : Int) (pa : List Int) : Prop := (thereB sg t x = true ∧ ∃ ab, Trail sg t x.toNat 0 ab pa) ∨ (thereB sg t x = false ∧ pa = [])
theorem path_ex (sg t : List Int) (x : Int) : ∃ pa, PathIs sg t x pa := by
 cases h : thereB sg t x with
 | false => exact ⟨[], .inr ⟨h, rfl⟩⟩
 | true =>
  obtain ⟨hok, h0, h1⟩ := there_parts h
  obtain ⟨ab, pa, hw⟩ := way_root hok (show x.toNat < t.length by omega)
  exact ⟨pa, .inl ⟨h, ab, hw⟩⟩
theorem PathIs.one {sg t : List Int} {x : Int} {pa pa' : List Int} (h : PathIs sg t x pa) (h' : PathIs sg t x pa') : pa = pa' := by
 rcases h with ⟨e, ab, hw⟩ | ⟨e, rfl⟩ <;> rcases h' with ⟨e', ab', hw'⟩ | ⟨e', rfl⟩
 ·exact (hw.one hw').2
 ·rw [e] at e'; cases e'
 ·rw [e] at e'; cases e'
 ·rfl
theorem PathIs.len {sg t : List Int} {x : Int} {pa : List Int} (h : PathIs sg t x pa) : pa.length ≤ 60 := by
 rcases h with ⟨e, ab, hw⟩ | ⟨e, rfl⟩
 ·obtain ⟨hok, h0, h1⟩ := there_parts e
  have := hw.le
  have := (termOk_parts hok).2.1
  omega
 ·simp
theorem ins_nat {sg t : List Int} (hok : termOkB sg t = true) {k a : Nat} (hk : k < t.length) : insI sg t (k : Int) (a : Int) = decide (k ≤ a ∧ a < k + len1 sg t k) := by
 unfold insI
 rw [Int.toNat_natCast, end_at hok hk]
 exact decide_eq_decide.2 ⟨fun h => ⟨by omega, by omega⟩, fun h => ⟨by omega, by omega⟩⟩
theorem list_of {w w' : World} {xs ys : List Int} {A : Option Addr} {n c base : Nat} (e : ys = xs) (ho : Own w' base (.slice A n c) xs) (hB : w.heap.size ≤ base) (hb : Below w.heap.size w w') : AnsList w ys (.returned (.slice A n c)) w' :=
 ⟨A, n, c, rfl, by rw [e]; exact Own.lower ho hB, hb⟩
theorem app1At {w : World} {ops : Array Oper} {rest : List Oper} {o : Oper} {a : Act} {Q : Exit → Act → World → Prop} (hgd : o.guard = none) (s x : Operand)
  (ho : o.op = .call { callee := .builtin .append, args := #[s, x], argTypes := #[22, 22] })
  (base : Nat) (A : Option Addr) (n c : Nat) (xs : List Int) (hs : a.eval s = .slice A n c) (hown : Own w base (.slice A n c) xs)
  (g c2 : Nat) (y : Int) (hx : a.eval x = .slice (some ⟨g, 0, none⟩) 1 c2) (hy : w.cell? ⟨g, 0, none⟩ = some (.int .i64 y)) (hn : n ≤ 2097152) (hbase : base ≤ w.heap.size)
  (h : ∀ A' c' w', Own w' base (.slice A' (n + 1) c') (xs ++ [y]) → w.grownBy w' (blk A) → (blk A' = blk A ∨ blk A' = some w.heap.size) → wpList Try.prog ops Q rest (a.put o.dst (.slice A' (n + 1) c')) w') : wpList Try.prog ops Q (o :: rest) a w :=
 appAllAt hgd s x ho base A n c xs hs hown (some ⟨g, 0, none⟩) 1 c2 (g + 1) [y] hx ⟨rfl, fun _ => ⟨g, 0, rfl, Nat.lt_succ_self _, fun j hj => by
  obtain rfl : j = 0 := by omega
  exact hy⟩⟩ (Nat.le_refl _) hn (by omega) hbase h
theorem Trail.split {sg t : List Int} {a q : Nat} {ab pa : List Int} (h : Trail sg t a q ab pa) (hne : q ≠ a) : ∃ (k : Nat) (ab' pa' : List Int), ab = (q : Int) :: ab' ∧ pa = (k : Int) :: pa' ∧ q < a ∧ k < arN sg t q ∧ argP sg t k (q + 1) ≤ a ∧ a < argP sg t k (q + 1) + len1 sg t (argP sg t k (q + 1)) ∧ q < argP sg t k (q + 1) ∧ Trail sg t a (argP sg t k (q + 1)) ab' pa' := by
 cases h with
 | here => exact absurd rfl hne
 | @down _ k ab' pa' h1 h2 h3 h4 h5 h6 hw => exact ⟨k, ab', pa', rfl, rfl, h1, h2, h3, h4, h5, hw⟩
theorem argsL_get {sg t : List Int} {q k : Nat} (h : k < arN sg t q) : (argsL sg t q).getD k 0 = (argP sg t k (q + 1) : Int) := places_get h
theorem argsL_arN {sg t : List Int} {q : Nat} : (argsL sg t q).length = arN sg t q := places_len _ _
theorem own_cell {w : World} {base : Nat} {A : Option Addr} {n c : Nat} {xs : List Int} (h : Own w base (.slice A n c) xs) {k : Nat} (hk : k < n) : ∃ g off, A = some ⟨g, off, none⟩ ∧ base ≤ g ∧ w.cell? ⟨g, off + k, none⟩ = some (.int .i64 (xs.getD k 0)) := by
 obtain ⟨b, off, e, _, hc⟩ := (Own.seg h).round hk
 subst e
 exact ⟨b, off, rfl, (own_lt h b rfl).1, hc⟩
theorem cell_kept {w w' : World} {r : Option Nat} {p : Addr} {v : Value} (hg : w.grownBy w' r) (hr : ∀ k, r = some k → p.block ≠ k) (hp : p.block < w.heap.size) (h : w.cell? p = some v) : w'.cell? p = some v := by
 exact hg.cell h (fun e => hr _ e.symm rfl)
def HeadPa (w : World) (A : Option Addr) (n c : Nat) (sg : List Int) (A' : Option Addr) (m : Nat) (t : List Int) (a : Nat) (pa : List Int) (g : Nat) (out p : Value) (wr : World) : Prop :=
 ∃ (q : Nat) (O : Option Addr) (on oc : Nat) (ys ab' pa' : List Int), p = .int .i64 q ∧ q + g = a ∧ out = .slice O on oc ∧ Own wr (w.heap.size + 1) (.slice O on oc) ys ∧ Trail sg t a q ab' pa' ∧ ys ++ pa' = pa ∧ Fr w wr A n c sg A' m t
def InPa (w : World) (A : Option Addr) (n c : Nat) (sg : List Int) (A' : Option Addr) (m : Nat) (t : List Int) (k0 B : Nat) (O : Option Addr) (on oc : Nat) (ys : List Int) (A2 : Option Addr) (n2 c2 : Nat) (L : List Int) (g : Nat) (k : Value) (wr : World) : Prop :=
 ∃ j : Nat, k = .int .i64 j ∧ j + g = k0 ∧ Own wr (w.heap.size + 1) (.slice O on oc) ys ∧ (∀ b, blk O = some b → b < B) ∧ Own wr B (.slice A2 n2 c2) L ∧ Fr w wr A n c sg A' m t ∧ B ≤ wr.heap.size
set_option maxHeartbeats 4000000 in
theorem l3Path (A A' : Option Addr) (n c m c' : Nat) (sg t : List Int) (a : Nat) (ab pa : List Int) (w : World) (h : Seg w w.heap.size A n sg) (h' : Seg w w.heap.size A' m t) (hn : n ≤ 1048576) (hm : m ≤ 1048576) (hok : termOkB sg t = true) (hat : a < t.length) (hw : Trail sg t a 0 ab pa) :
  Calls Try.prog 103 #[.agg #[.slice A n c], .slice A' m c', .int .i64 (a : Int)] w (AnsList w pa) := by
 obtain ⟨W, hW⟩ : ∃ W, W = (w.alloc (.cells #[.slice A n c] 30)).alloc (.cells #[] 2) := ⟨_, rfl⟩
 have f : Fr w W A n c sg A' m t := by rw [hW]; exact (Fr.start h h').alloc _
 have ow : Own W (w.heap.size + 1) (.slice (some ⟨w.heap.size + 1, 0, none⟩) 0 0) [] := by
  rw [hW]
  have := own_empty (w.alloc (.cells #[.slice A n c] 30)) (w.heap.size + 1) (by simp)
  simpa using this
 have HW := Lib.hid hW
 have HL := Lib.hid h'.1
 have h60 := (termOk_parts hok).2.1
 have ha60 : a < 60 := by omega
 have HOK := Lib.hid hok
 have HAT := Lib.hid hat
 have HLP := Lib.hid hw.le.2
 have S0 : HeadPa w A n c sg A' m t a pa a (.slice (some ⟨w.heap.size + 1, 0, none⟩) 0 0) (.int .i64 0) W := ⟨0, _, 0, 0, [], ab, pa, rfl, by omega, rfl, ow, hw, rfl, f⟩
 have HS := Lib.hid S0
 clear S0 f ow hW h h' hok hat hw h60
 go_enter Try.func103, Try.ntmps103
 go_wp2_with fail
 rw [← HW.out]
 clear HW
 go_loopg [7, 8] a (fun g out p wr => HeadPa w A n c sg A' m t a pa g out p wr)
 case atStart => exact HS.out
 case round =>
  obtain ⟨q, O, on, oc, ys, ab', pa', rfl, hq, rfl, ho, htr, hpa, f⟩ := hrel
  obtain ⟨G, hG⟩ : ∃ G, G = gk := ⟨_, rfl⟩
  subst hG
  clear HS
  have hon : on ≤ 60 := by
   rw [Own.len ho]
   have h1 := HLP.out
   rw [← hpa] at h1
   simp only [List.length_append] at h1
   omega
  have HQ := Lib.hid hq
  have HPA := Lib.hid hpa
  clear hq hpa
  by_cases hqa : q = a
  ·subst hqa
   have F : AnsList w pa (.returned (.slice O on oc)) wr := list_of (by rw [← HPA.out, htr.here_eq.2, List.append_nil]) ho (Nat.le_succ _) f.b
   have HF := Lib.hid F
   clear F ho f htr
   go_wp2
   go_ret
   exact HF.out
  ·obtain ⟨k0, ab2, pa2, -, e2, hqlt, hk0, h3, h4, h5, htr'⟩ := Trail.split htr hqa
   have HE2 := Lib.hid e2
   have hok := HOK.out
   have hal := HAT.out
   have hars := (sig_arities (termOk_parts hok).1).1
   obtain ⟨s1, s2, s3⟩ := term_at hok (show q < t.length by omega)
   have hne : ¬ (q : Int) = (a : Int) := by omega
   have cA := f.cell
   obtain ⟨B, hB⟩ : ∃ B, wr.heap.size = B := ⟨_, rfl⟩
   have hL3 : (argsL sg t q).length = arN sg t q := argsL_arN
   have hars3 : arN sg t q ≤ 3 := by have := ar_bd hars (t.getD q 0); unfold arN; omega
   have LA := Lib.hid (l1Args A A' n c m c' sg t q (len1 sg t q) wr f.s1 f.t1 hn hm hars (by rw [← HL.out]; omega) s1 (by rw [← HL.out]; exact s3))
   have HX : Hid (∀ j : Nat, j ≤ k0 → thereB sg t (argP sg t j (q + 1) : Int) = true ∧ argP sg t j (q + 1) ≤ a ∧ insI sg t (argP sg t j (q + 1) : Int) (a : Int) = decide (j = k0)) := Lib.hid (fun j hj => by
    obtain ⟨b1, b2, b3⟩ := arg_at hok (show q < t.length by omega) (show j < arN sg t q by omega)
    have b4 := argP_mono (sg := sg) (t := t) (p := q + 1) hj
    refine ⟨there_yes hok (by omega) (by omega), by omega, ?_⟩
    rw [ins_nat hok b3]
    by_cases hjk : j = k0
    ·rw [decide_eq_true hjk, decide_eq_true (by subst hjk; exact ⟨h3, h4⟩)]
    ·have b5 := argP_mono (sg := sg) (t := t) (p := q + 1) (show j + 1 ≤ k0 by omega)
     rw [argP_succ] at b5
     rw [decide_eq_false hjk, decide_eq_false (by omega)])
   have HG : Hid (∀ j : Nat, j ≤ k0 → (argsL sg t q).getD j 0 = (argP sg t j (q + 1) : Int)) := Lib.hid (fun j hj => argsL_get (by omega))
   obtain ⟨L, hL⟩ : ∃ L, argsL sg t q = L := ⟨_, rfl⟩
   rw [hL] at LA HG hL3
   have HTR := Lib.hid htr'
   have H3 := Lib.hid h3
   have H5 := Lib.hid h5
   obtain ⟨z, hz⟩ : ∃ z, arN sg t q = z := ⟨_, rfl⟩
   rw [hz] at hk0 hL3 hars3
   have HL3 := Lib.hid hL3
   clear hok hal hars s1 s2 s3 htr htr' h3 h4 h5 e2 hL hL3 hz
   go_wp2_with fail
   refine LA.out.mono ?_
   rintro e w1 ⟨A2, n2, c2, rfl, o2, bb⟩
   have hbO : ∀ b, blk O = some b → b < B := fun b hb => by rw [← hB]; exact (own_lt ho b hb).2
   have hn2 : n2 = z := by rw [Own.len o2, HL3.out]
   rw [hB] at o2
   have S1 : InPa w A n c sg A' m t k0 B O on oc ys A2 n2 c2 L k0 (.int .i64 0) w1 := ⟨0, rfl, by omega, Own.next ho bb, hbO, o2, f.next bb, by rw [← hB]; exact bb.size⟩
   have HS1 := Lib.hid S1
   clear S1 ho bb o2 f cA hbO hB LA
   go_wp2_with fail
   go_loopg [7, 10] k0 (fun g out k wr => out = .slice O on oc ∧ InPa w A n c sg A' m t k0 B O on oc ys A2 n2 c2 L g k wr)
   case atStart => exact ⟨rfl, HS1.out⟩
   case round =>
    obtain ⟨rfl, j, rfl, hj, ho, hbO, o2, f, hBw⟩ := hrel
    clear HS1
    have HJ := Lib.hid hj
    have hjn : j < n2 := by omega
    obtain ⟨b2, off, rfl, hb2, hc2⟩ := own_cell o2 hjn
    obtain ⟨i1, i2, i3⟩ := HX.out j (by omega)
    rw [HG.out j (by omega)] at hc2
    have hjz : (j : Int) < (n2 : Int) := by omega
    have cA := f.cell
    obtain ⟨y, hy⟩ : ∃ y, argP sg t j (q + 1) = y := ⟨_, rfl⟩
    rw [hy] at hc2 i1 i2 i3
    obtain ⟨bj, hbj⟩ : ∃ b, decide (j = k0) = b := ⟨_, rfl⟩
    rw [hbj] at i3
    have HBJ := Lib.hid hbj
    have HY := Lib.hid hy
    have HI3 := Lib.hid i3
    have hb2w := (own_lt o2 b2 rfl).2
    have s1 : Seg wr.drew wr.heap.size A n sg := f.s1.drew
    have s1' : Seg wr.drew wr.heap.size A' m t := f.t1.drew
    replace f := f.drew
    replace ho := Own.drew ho
    replace o2 := Own.drew o2
    clear hj hy i3 hbj
    go_wp2_with fail
    go_region_held3 (fun w' => w'.cell? ⟨w.heap.size, 0, none⟩ = some (.slice A n c) ∧ w'.cell? ⟨b2, off + j, none⟩ = some (.int .i64 y))
     (go_keep)
     (first
      | (go_at_call 134; refine (l3Inside A A' n c m c' sg t (y : Int) (a : Int) _ s1 s1' hn hm i1).mono ?_; rintro e w2 ⟨he, bb⟩; replace cA : w2.cell? ⟨w.heap.size, 0, none⟩ = some (.slice A n c) := (f.next bb).cell; replace hc2 : w2.cell? ⟨b2, off + j, none⟩ = some (.int .i64 y) := (bb.cell (p := ⟨b2, off + j, none⟩) hb2w).trans hc2; rw [HI3.out] at he; subst he))
    replace f := f.next bb
    replace ho := Own.next ho bb
    replace o2 := Own.next o2 bb
    have hBw2 : B ≤ w2.heap.size := Nat.le_trans hBw bb.size
    have hb2l : b2 < w2.heap.size := (own_lt o2 b2 rfl).2
    clear bb s1 s1' hBw hb2w
    cases bj with
    | false =>
     have S : InPa w A n c sg A' m t k0 B O on oc ys (some ⟨b2, off, none⟩) n2 c2 L (gk - 1) (.int .i64 ((j : Int) + 1)) w2 := ⟨j + 1, by simp, by have h1 := HJ.out; have h2 := of_decide_eq_false HBJ.out; omega, ho, hbO, o2, f, hBw2⟩
     have HSS := Lib.hid S
     have hgk : gk - 1 < gk := by have h1 := HJ.out; have h2 := of_decide_eq_false HBJ.out; omega
     clear S ho o2 f cA hc2 i1 i2
     go_wp2
     go_roundg (gk - 1)
     case measure => exact hgk
     case rel => exact ⟨rfl, HSS.out⟩
    | true =>
     have hjk := Lib.hid (show j = k0 from of_decide_eq_true HBJ.out)
     have HC : Hid (∀ (o : Obj) (w3 : World), (w2.alloc o).grownBy w3 (blk O) → w3.cell? ⟨b2, off + j, none⟩ = some (.int .i64 y)) := Lib.hid (fun o w3 hg => cell_kept hg (fun k hk => by have := hbO k hk; show b2 ≠ k; omega) (by show b2 < (w2.alloc o).heap.size; simp; omega) ((((Below.refl w2.heap.size w2).alloc (Nat.le_refl _) o).cell (p := ⟨b2, off + j, none⟩) hb2l).trans hc2))
     have z1 : w.heap.size + 1 ≤ w2.heap.size := f.size
     clear o2 i1
     go_wp2_with (at_builtin; refine app1At rfl _ _ rfl (w.heap.size + 1) O on oc ys rfl (Own.alloc ho _) w2.heap.size 1 (j : Int) rfl ((Row.new _ _ _).cell 0) (by omega) (by simp; omega) ?_; intro O' oc' w3 ho3 hg3 hbl3; have hc3 := HC.out _ _ hg3)
     have b3 : Below (w.heap.size + 1) w2 w3 := (((Below.refl (w.heap.size + 1) w2).alloc z1 _).trans ((Below.refl _ _).grown hg3 (by simp; omega) (fun k hk => (own_lt ho k hk).1)))
     have S : HeadPa w A n c sg A' m t a pa (a - y) (.slice O' (on + 1) oc') (.int .i64 (y : Int)) w3 := ⟨y, O', on + 1, oc', ys ++ [(j : Int)], ab2, pa2, rfl, by omega, rfl, ho3, by have h1 := HTR.out; rw [← hjk.out, HY.out] at h1; exact h1, by rw [← HPA.out, HE2.out, hjk.out]; simp, f.over b3⟩
     have HSS := Lib.hid S
     have hgk : a - y < G := by have h1 := HQ.out; have h5 := H5.out; rw [← hjk.out, HY.out] at h5; omega
     clear S ho ho3 hg3 hbl3 b3 f cA hc2 HC i2
     go_wp2
     go_roundg (a - y)
     case measure => exact hgk
     case rel => exact HSS.out
set_option maxHeartbeats 1000000 in
theorem specPathOf (A A' : Option Addr) (n c m c' : Nat) (sg t : List Int) (x : Int) (pa : List Int) (w : World) (h : Seg w w.heap.size A n sg) (h' : Seg w w.heap.size A' m t) (hn : n ≤ 1048576) (hm : m ≤ 1048576) (hpa : PathIs sg t x pa) :
  Calls Try.prog 65 #[.agg #[.slice A n c], .slice A' m c', .int .i64 x] w (AnsList w pa) := by
 obtain ⟨W, hW⟩ : ∃ W, W = w.alloc (.cells #[.slice A n c] 30) := ⟨_, rfl⟩
 have f : Fr w W A n c sg A' m t := by rw [hW]; exact Fr.start h h'
 have HW := Lib.hid hW
 have L := Lib.hid (right A A' n c m c' sg t x W f.s1 f.t1 hn hm)
 clear hW h h'
 rcases hpa with ⟨hx, ab, hw⟩ | ⟨hx, rfl⟩
 ·have HX := Lib.hid hx
  have HTR := Lib.hid hw
  obtain ⟨hok, i0, i1⟩ := there_parts hx
  obtain ⟨a, rfl⟩ := Int.eq_ofNat_of_zero_le i0
  rw [Int.toNat_natCast] at HTR
  have HOK := Lib.hid hok
  have HAL := Lib.hid (show a < t.length by omega)
  clear hx hw hok i0 i1
  go_enter Try.func65, Try.ntmps65
  go_wp2_with fail
  rw [← HW.out]
  refine L.out.mono ?_
  rintro e w1 ⟨he, bb⟩
  rw [HX.out] at he
  subst he
  replace f := f.next bb
  have cA := f.cell
  clear bb L
  go_wp2_with fail
  refine (l3Path A A' n c m c' sg t a ab pa _ f.s1 f.t1 hn hm HOK.out HAL.out HTR.out).mono ?_
  rintro e w2 ⟨A2, n2, c2, rfl, o2, bb⟩
  have F := Lib.hid (list_of (w := w) rfl o2 (Nat.le_of_lt f.size) (f.next bb).b)
  clear f bb o2 cA
  go_wp2
  go_ret
  exact F.out
 ·have HX := Lib.hid hx
  clear hx
  go_enter Try.func65, Try.ntmps65
  go_wp2_with fail
  rw [← HW.out]
  refine L.out.mono ?_
  rintro e w1 ⟨he, bb⟩
  rw [HX.out] at he
  subst he
  replace f := f.next bb
  have F := Lib.hid (list_of (w := w) (xs := []) rfl (own_empty w1 w1.heap.size (Nat.le_refl _)) (Nat.le_of_lt f.size) (f.alloc _).b)
  clear f bb L
  go_wp2
  go_ret
  exact F.out
end pathSpec
end
section
namespace wayTo
open Go.RowKit base ints sig term arity endOf cursor termOk endAt inside marks app appAt sym args posMath pathSpec
set_option maxRecDepth 100000
structure Wy (w wr : World) (P : Nat) (A : Option Addr) (n c : Nat) (A' : Option Addr) (m c' : Nat) (sg t : List Int) (k : Nat) (O1 : Option Addr) (n1 c1 : Nat) (ys1 : List Int) (O2 : Option Addr) (n2 c2 : Nat) (ys2 : List Int) : Prop where
 cu : Cur wr P A n c A' m c' sg t k
 b : Below w.heap.size w wr
 hP : w.heap.size ≤ P
 o1 : Own wr (P + 1) (.slice O1 n1 c1) ys1
 o2 : Own wr (P + 1) (.slice O2 n2 c2) ys2
 dj : blk O1 = none ∨ blk O1 ≠ blk O2
section
variable {w wr w' : World} {P : Nat} {A : Option Addr} {n c : Nat} {A' : Option Addr} {m c' : Nat} {sg t : List Int} {k k' : Nat} {O1 : Option Addr} {n1 c1 : Nat} {ys1 : List Int} {O2 : Option Addr} {n2 c2 : Nat} {ys2 : List Int}
theorem Wy.lt (y : Wy w wr P A n c A' m c' sg t k O1 n1 c1 ys1 O2 n2 c2 ys2) : P < wr.heap.size := y.cu.row.lt
theorem Wy.move (y : Wy w wr P A n c A' m c' sg t k O1 n1 c1 ys1 O2 n2 c2 ys2) (hg : wr.grownBy w' (some P)) (cu : Cur w' P A n c A' m c' sg t k') : Wy w w' P A n c A' m c' sg t k' O1 n1 c1 ys1 O2 n2 c2 ys2 :=
 ⟨cu, y.b.grown hg (Nat.le_trans y.hP (Nat.le_of_lt y.lt)) (fun j hj => by injection hj with hj; rw [← hj]; exact y.hP), y.hP, Own.far y.o1 hg (fun j hj => by injection hj; omega), Own.far y.o2 hg (fun j hj => by injection hj; omega), y.dj⟩
theorem Wy.over (y : Wy w wr P A n c A' m c' sg t k O1 n1 c1 ys1 O2 n2 c2 ys2) {o : Obj} {r : Option Nat} (hg : (wr.alloc o).grownBy w' r) (hr : ∀ j, r = some j → P + 1 ≤ j) : Below (P + 1) wr w' :=
 ((Below.refl (P + 1) wr).alloc y.lt _).grown hg (by have := y.lt; simp; omega) hr
theorem Wy.app1 (y : Wy w wr P A n c A' m c' sg t k O1 n1 c1 ys1 O2 n2 c2 ys2) {o : Obj} {O1' : Option Addr} {n1' c1' : Nat} {zs : List Int} (ho : Own w' (P + 1) (.slice O1' n1' c1') zs) (hg : (wr.alloc o).grownBy w' (blk O1)) (hb : blk O1' = blk O1 ∨ blk O1' = some (wr.alloc o).heap.size) :
  Wy w w' P A n c A' m c' sg t k O1' n1' c1' zs O2 n2 c2 ys2 := by
 have hov := y.over hg (fun j hj => (own_lt y.o1 j hj).1)
 refine ⟨Cur.keep y.cu hov, y.b.trans (hov.mono (Nat.le_succ_of_le y.hP)), y.hP, ho, Own.kept (Own.alloc y.o2 _) hg ?_, ?_⟩
 ·cases h2 : blk O2 with
  | none => exact .inl rfl
  | some z =>
   refine .inr (fun e => ?_)
   rcases y.dj with h | h
   ·rw [h] at e; cases e
   ·exact h (by rw [← e, h2])
 ·rcases hb with e | e
  ·rw [e]; exact y.dj
  ·refine .inr (fun h => ?_)
   rw [e] at h
   have := (own_lt y.o2 _ h.symm).2
   simp at this
   omega
theorem Wy.app2 (y : Wy w wr P A n c A' m c' sg t k O1 n1 c1 ys1 O2 n2 c2 ys2) {o : Obj} {O2' : Option Addr} {n2' c2' : Nat} {zs : List Int} (ho : Own w' (P + 1) (.slice O2' n2' c2') zs) (hg : (wr.alloc o).grownBy w' (blk O2)) (hb : blk O2' = blk O2 ∨ blk O2' = some (wr.alloc o).heap.size) :
  Wy w w' P A n c A' m c' sg t k O1 n1 c1 ys1 O2' n2' c2' zs := by
 have hov := y.over hg (fun j hj => (own_lt y.o2 j hj).1)
 refine ⟨Cur.keep y.cu hov, y.b.trans (hov.mono (Nat.le_succ_of_le y.hP)), y.hP, Own.kept (Own.alloc y.o1 _) hg y.dj, ho, ?_⟩
 rcases hb with e | e
 ·rw [e]; exact y.dj
 ·refine .inr (fun h => ?_)
  rw [e] at h
  have := (own_lt y.o1 _ h).2
  simp at this
  omega
theorem Cur.setAt {p : Nat} (h : Cur w p A n c A' m c' sg t k) (hk : k' ≤ m) : Cur (w.setCell ⟨p, 2, none⟩ (.int .i64 (k' : Int))) p A n c A' m c' sg t k' :=
 ⟨h.row.put 2 _, h.s.put (Nat.le_refl _) _, h.s'.put (Nat.le_refl _) _, hk, h.hn, h.hm, h.ars⟩
theorem Wy.set (y : Wy w wr P A n c A' m c' sg t k O1 n1 c1 ys1 O2 n2 c2 ys2) (hk : k' ≤ m) : Wy w (wr.setCell ⟨P, 2, none⟩ (.int .i64 (k' : Int))) P A n c A' m c' sg t k' O1 n1 c1 ys1 O2 n2 c2 ys2 :=
 y.move (grown_put (World.grownBy.refl _ _) _ _) (Cur.setAt y.cu hk)
end
def AnsTwo (w : World) (ab pa : List Int) (e : Ending) (w' : World) : Prop :=
 ∃ (O1 : Option Addr) (n1 c1 : Nat) (O2 : Option Addr) (n2 c2 : Nat), e = .returned (.tuple #[.slice O1 n1 c1, .slice O2 n2 c2]) ∧ Own w' w.heap.size (.slice O1 n1 c1) ab ∧ Own w' w.heap.size (.slice O2 n2 c2) pa ∧ Below w.heap.size w w'
def TrailIs (sg t : List Int) (x : Int) (ab pa : List Int) : Prop := (thereB sg t x = true ∧ Trail sg t x.toNat 0 ab pa) ∨ (thereB sg t x = false ∧ ab = [] ∧ pa = [])
theorem PathIs.trail {sg t : List Int} {x : Int} {pa : List Int} (h : PathIs sg t x pa) : ∃ ab, TrailIs sg t x ab pa := by
 rcases h with ⟨e, ab, hw⟩ | ⟨e, rfl⟩
 ·exact ⟨ab, .inl ⟨e, hw⟩⟩
 ·exact ⟨[], .inr ⟨e, rfl, rfl⟩⟩
theorem TrailIs.path {sg t : List Int} {x : Int} {ab pa : List Int} (h : TrailIs sg t x ab pa) : PathIs sg t x pa := by
 rcases h with ⟨e, hw⟩ | ⟨e, rfl, rfl⟩
 ·exact .inl ⟨e, ab, hw⟩
 ·exact .inr ⟨e, rfl⟩
def HeadWy (w : World) (P : Nat) (A : Option Addr) (n c : Nat) (A' : Option Addr) (m c' : Nat) (sg t : List Int) (a : Nat) (ab pa : List Int) (g : Nat) (s6 s7 : Value) (wr : World) : Prop :=
 ∃ (q : Nat) (O1 : Option Addr) (n1 c1 : Nat) (ys1 : List Int) (O2 : Option Addr) (n2 c2 : Nat) (ys2 ab' pa' : List Int), q + g = a ∧ s6 = .slice O1 n1 c1 ∧ s7 = .slice O2 n2 c2 ∧ Wy w wr P A n c A' m c' sg t q O1 n1 c1 ys1 O2 n2 c2 ys2 ∧ Trail sg t a q ab' pa' ∧ ys1 ++ ab' = ab ∧ ys2 ++ pa' = pa
set_option maxHeartbeats 4000000 in
theorem wayTo (A A' : Option Addr) (n c m c' : Nat) (sg t : List Int) (x : Int) (ab pa : List Int) (w : World) (h : Seg w w.heap.size A n sg) (h' : Seg w w.heap.size A' m t) (hn : n ≤ 1048576) (hm : m ≤ 1048576) (hw : TrailIs sg t x ab pa) :
  Calls Try.prog 110 #[.agg #[.slice A n c], .slice A' m c', .int .i64 x] w (AnsTwo w ab pa) := by
 obtain ⟨W, hW⟩ : ∃ W, W = w.alloc (.cells #[.slice A n c] 30) := ⟨_, rfl⟩
 have f : Fr w W A n c sg A' m t := by rw [hW]; exact Fr.start h h'
 have HW := Lib.hid hW
 have HL := Lib.hid h'.1
 have L := Lib.hid (placeIn A A' n c m c' sg t x W f.s1 f.t1 hn hm)
 clear hW h h'
 rcases hw with ⟨hx, hw⟩ | ⟨hx, rfl, rfl⟩
 ·obtain ⟨hok, i0, i1⟩ := there_parts hx
  obtain ⟨a, rfl⟩ := Int.eq_ofNat_of_zero_le i0
  rw [Int.toNat_natCast] at hw
  have hal : a < t.length := by omega
  have h60 := (termOk_parts hok).2.1
  have ha60 : a < 60 := by omega
  have hars := (sig_arities (termOk_parts hok).1).1
  have HX := Lib.hid hx
  have HOK := Lib.hid hok
  have HAL := Lib.hid hal
  have HLP := Lib.hid hw.le.2
  have HLA := Lib.hid hw.len
  have HTR := Lib.hid hw
  clear hx hok hal h60 i0 i1 hw
  go_enter Try.func110, Try.ntmps110
  go_wp2_with fail
  go_step3
  go_wp2_with fail
  rw [← HW.out]
  refine L.out.mono ?_
  rintro e w1 ⟨he, bb⟩
  rw [HX.out] at he
  subst he
  replace f := f.next bb
  have cA := f.cell
  clear bb L
  have y0 : Wy w (w1.alloc (.cells #[.slice A n c, .slice A' m c', .int .i64 (0 : Nat)] 133)) w1.heap.size A n c A' m c' sg t 0 none 0 0 [] none 0 0 [] :=
   ⟨cur_new f.s1 f.t1 hn hm hars 0 (Nat.zero_le _), (f.alloc _).b, Nat.le_of_lt f.size, Own.nil _ _, Own.nil _ _, .inl rfl⟩
  have S0 : HeadWy w w1.heap.size A n c A' m c' sg t a ab pa a (.slice none 0 0) (.slice none 0 0) (w1.alloc (.cells #[.slice A n c, .slice A' m c', .int .i64 0] 133)) := ⟨0, none, 0, 0, [], none, 0, 0, [], ab, pa, by omega, rfl, rfl, y0, HTR.out, rfl, rfl⟩
  have HS := Lib.hid S0
  clear S0 y0 f
  go_wp2
  go_step3
  go_wp2
  clear cA
  generalize w1.heap.size = P at *
  go_loopg [6, 7] a (fun g s6 s7 wr => HeadWy w P A n c A' m c' sg t a ab pa g s6 s7 wr)
  case atStart => exact HS.out
  case round =>
   obtain ⟨q, O1, n1, c1, ys1, O2, n2, c2, ys2, ab', pa', hq, rfl, rfl, y, htr, hab, hpa⟩ := hrel
   obtain ⟨G, hG⟩ : ∃ G, G = gk := ⟨_, rfl⟩
   subst hG
   clear HS
   have hn1 : n1 ≤ 60 := by
    rw [Own.len y.o1]
    have h1 := HLP.out
    have h2 := HLA.out
    rw [← hab] at h2
    simp only [List.length_append] at h2
    omega
   have hn2 : n2 ≤ 60 := by
    rw [Own.len y.o2]
    have h1 := HLP.out
    rw [← hpa] at h1
    simp only [List.length_append] at h1
    omega
   have HQ := Lib.hid hq
   have HPA := Lib.hid hpa
   have HAB := Lib.hid hab
   have cp : wr.cell? ⟨P, 2, none⟩ = some (.int .i64 (q : Int)) := y.cu.row.cell 2
   have hPw := y.lt
   clear hq hpa hab
   by_cases hqa : q = a
   ·subst hqa
    obtain ⟨rfl, rfl⟩ := htr.here_eq
    have F : AnsTwo w ab pa (.returned (.tuple #[.slice O1 n1 c1, .slice O2 n2 c2])) wr := ⟨O1, n1, c1, O2, n2, c2, rfl, by rw [← HAB.out, List.append_nil]; exact Own.lower y.o1 (Nat.le_succ_of_le y.hP), by rw [← HPA.out, List.append_nil]; exact Own.lower y.o2 (Nat.le_succ_of_le y.hP), y.b⟩
    have HF := Lib.hid F
    clear F y htr
    go_wp2
    try rw [Exit.noGoto_ret]
    go_ret2
    exact HF.out
   ·obtain ⟨k0, ab2, pa2, e1, e2, hqlt, hk0, h3, h4, h5, htr'⟩ := Trail.split htr hqa
    have HE1 := Lib.hid e1
    have HE2 := Lib.hid e2
    have hok := HOK.out
    have hal := HAL.out
    have hneg := (head_scan hok (show q < t.length by omega)).1
    have hzb := ar_bd hars (t.getD q 0)
    have HX2 : Hid (∀ j : Nat, j ≤ k0 → scan sg 1 (t.drop (argP sg t j (q + 1))) = some (len1 sg t (argP sg t j (q + 1))) ∧ decide (a < argP sg t (j + 1) (q + 1)) = decide (j = k0) ∧ argP sg t (j + 1) (q + 1) = argP sg t j (q + 1) + len1 sg t (argP sg t j (q + 1)) ∧ argP sg t j (q + 1) ≤ a) := Lib.hid (fun j hj => by
     obtain ⟨b1, b2, b3⟩ := arg_at hok (show q < t.length by omega) (show j < arN sg t q by omega)
     refine ⟨(term_at hok b3).1, ?_, argP_succ _ _, by have := argP_mono (sg := sg) (t := t) (p := q + 1) hj; omega⟩
     by_cases hjk : j = k0
     ·rw [decide_eq_true hjk, decide_eq_true (by subst hjk; rw [argP_succ]; exact h4)]
     ·have b5 := argP_mono (sg := sg) (t := t) (p := q + 1) (show j + 1 ≤ k0 by omega)
      rw [decide_eq_false hjk, decide_eq_false (by omega)])
    obtain ⟨z, hz⟩ : ∃ z, ar sg (t.getD q 0) = z := ⟨_, rfl⟩
    have hk0z : (k0 : Int) < z := by unfold arN at hk0; omega
    have HZ := Lib.hid hz
    have HTR := Lib.hid htr'
    have H3 := Lib.hid h3
    have H5 := Lib.hid h5
    have HA0 : Hid (argP sg t 0 (q + 1) = q + 1) := Lib.hid rfl
    rw [hz] at hzb hneg
    clear hok hal htr htr' h3 h4 h5 e1 e2 hz hk0
    go_wp2_with (at_builtin; refine app1At rfl _ _ rfl (P + 1) O1 n1 c1 ys1 rfl (Own.alloc y.o1 _) wr.heap.size 1 (q : Int) rfl ((Row.new _ _ _).cell 0) (by omega) (by simp; omega) ?_; intro O1' c1' w3 ho3 hg3 hb3)
    have y3 := y.app1 ho3 hg3 hb3
    clear y ho3 hg3 hb3 cp hPw
    refine (next P A n c A' m c' sg t q _ y3.cu).mono ?_
    rintro e w4 ⟨hg4, ⟨-, he, hc4⟩ | ⟨hk', -, -⟩⟩
    case inr => have := HAL.out; have := HL.out; omega
    rw [HZ.out] at he
    subst he
    have y4 := y3.move hg4 hc4
    clear y3 hg4 hc4
    have HS1 := Lib.hid y4
    clear y4
    go_wp2_with fail
    go_loopg [7, 29] k0 (fun g s7 s29 wr => s7 = .slice O2 n2 c2 ∧ ∃ j : Nat, s29 = .int .i64 j ∧ j + g = k0 ∧ Wy w wr P A n c A' m c' sg t (argP sg t j (q + 1)) O1' (n1 + 1) c1' (ys1 ++ [(q : Int)]) O2 n2 c2 ys2)
    case atStart => exact ⟨rfl, 0, rfl, by omega, by rw [HA0.out]; exact HS1.out⟩
    case round =>
     obtain ⟨rfl, j, rfl, hj, y⟩ := hrel
     clear HS1
     have HJ := Lib.hid hj
     have hjz : (j : Int) < z := by omega
     obtain ⟨i1, i2, i3, i4⟩ := HX2.out j (by omega)
     obtain ⟨r, hr⟩ : ∃ r, argP sg t j (q + 1) = r := ⟨_, rfl⟩
     rw [hr] at i1 i3 i4 y
     have HR := Lib.hid hr
     have I1 := Lib.hid i1
     have I3 := Lib.hid i3
     obtain ⟨bj, hbj⟩ : ∃ b, decide (j = k0) = b := ⟨_, rfl⟩
     rw [hbj] at i2
     have HBJ := Lib.hid hbj
     have I2 := Lib.hid i2
     have cp : wr.cell? ⟨P, 2, none⟩ = some (.int .i64 (r : Int)) := y.cu.row.cell 2
     have hj64 : j ≤ 60 := by have := hzb.2; omega
     clear hj hr i1 i2 i3 hbj
     go_wp2_with fail
     refine (pass P A n c A' m c' sg t r _ y.cu).mono ?_
     rintro e w5 ⟨hg5, ⟨j', hj', rfl, hc5⟩ | ⟨hj', -, -⟩⟩
     case inr => rw [I1.out] at hj'; cases hj'
     have hj2 : len1 sg t r = j' := len1_eq hj'
     have y5 := y.move hg5 hc5
     obtain ⟨s, hs⟩ : ∃ s, argP sg t (j + 1) (q + 1) = s := ⟨_, rfl⟩
     have hrs : r + j' = s := by rw [← hs, I3.out, hj2]
     rw [hrs] at y5
     have HS2 := Lib.hid hs
     have i2 := I2.out
     rw [hs] at i2
     clear y cp hg5 hc5 hj' hj2 hs hrs
     have cp : w5.cell? ⟨P, 2, none⟩ = some (.int .i64 (s : Int)) := y5.cu.row.cell 2
     have hPw := y5.lt
     cases bj with
     | false =>
      have hle : ¬ (a : Int) < (s : Int) := by have := of_decide_eq_false i2; omega
      have SS := Lib.hid (show Wy w w5 P A n c A' m c' sg t (argP sg t (j + 1) (q + 1)) O1' (n1 + 1) c1' (ys1 ++ [(q : Int)]) O2 n2 c2 ys2 by rw [HS2.out]; exact y5)
      have hgk : gk - 1 < gk ∧ j + 1 + (gk - 1) = k0 := by have h1 := HJ.out; have h2 := of_decide_eq_false HBJ.out; omega
      have HGK := Lib.hid hgk
      clear y5 i2 hgk i4
      go_wp2
      go_roundg (gk - 1)
      case measure => exact HGK.out.1
      case rel => exact ⟨rfl, j + 1, by simp, HGK.out.2, SS.out⟩
     | true =>
      have hlt : (a : Int) < (s : Int) := by have := of_decide_eq_true i2; omega
      have hjk := Lib.hid (show j = k0 from of_decide_eq_true HBJ.out)
      clear i2
      go_wp2_with (at_builtin; refine app1At rfl _ _ rfl (P + 1) O2 n2 c2 ys2 rfl (Own.alloc y5.o2 _) w5.heap.size 1 (j : Int) rfl ((Row.new _ _ _).cell 0) (by omega) (by simp; omega) ?_; intro O2' c2' w6 ho6 hg6 hb6; have y6 := y5.app2 ho6 hg6 hb6; have fr6 := y6.cu.row.free 2; have cp6 := y6.cu.row.cell 2)
      have hrm : r ≤ m := by have := HAL.out; have := HL.out; omega
      have y7 := y6.set (k' := r) hrm
      have S : HeadWy w P A n c A' m c' sg t a ab pa (a - r) (.slice O1' (n1 + 1) c1') (.slice O2' (n2 + 1) c2') (w6.setCell ⟨P, 2, none⟩ (.int .i64 (r : Int))) :=
       ⟨r, O1', n1 + 1, c1', ys1 ++ [(q : Int)], O2', n2 + 1, c2', ys2 ++ [(j : Int)], ab2, pa2, by omega, rfl, rfl, y7, by have h1 := HTR.out; rw [← hjk.out, HR.out] at h1; exact h1, by rw [← HAB.out, HE1.out]; simp, by rw [← HPA.out, HE2.out, hjk.out]; simp⟩
      have HSS := Lib.hid S
      have hgk := Lib.hid (show a - r < G by have h1 := HQ.out; have h5 := H5.out; rw [← hjk.out, HR.out] at h5; omega)
      clear S y7 y5 y6 cp ho6 hg6 hb6 hlt i4
      go_wp2
      go_roundg (a - r)
      case measure => exact hgk.out
      case rel => exact HSS.out
 ·have HX := Lib.hid hx
  clear hx
  go_enter Try.func110, Try.ntmps110
  go_wp2_with fail
  go_step3
  go_wp2_with fail
  rw [← HW.out]
  refine L.out.mono ?_
  rintro e w1 ⟨he, bb⟩
  rw [HX.out] at he
  subst he
  have F : AnsTwo w [] [] (.returned (.tuple #[.slice none 0 0, .slice none 0 0])) w1 := ⟨none, 0, 0, none, 0, 0, rfl, Own.nil _ _, Own.nil _ _, (f.next bb).b⟩
  replace F := Lib.hid F
  clear f bb L
  go_wp2
  try rw [Exit.noGoto_ret]
  go_ret2
  exact F.out
set_option maxHeartbeats 1000000 in
theorem implPathOf (A A' : Option Addr) (n c m c' : Nat) (sg t : List Int) (x : Int) (pa : List Int) (w : World) (h : Seg w w.heap.size A n sg) (h' : Seg w w.heap.size A' m t) (hn : n ≤ 1048576) (hm : m ≤ 1048576) (hpa : PathIs sg t x pa) :
  Calls Try.prog 68 #[.agg #[.slice A n c], .slice A' m c', .int .i64 x] w (AnsList w pa) := by
 obtain ⟨W, hW⟩ : ∃ W, W = w.alloc (.cells #[.slice A n c] 30) := ⟨_, rfl⟩
 have f : Fr w W A n c sg A' m t := by rw [hW]; exact Fr.start h h'
 have HW := Lib.hid hW
 obtain ⟨ab, htr⟩ := PathIs.trail hpa
 have L := Lib.hid (wayTo A A' n c m c' sg t x ab pa W f.s1 f.t1 hn hm htr)
 have z := f.size
 have b0 := f.b
 clear hW h h' hpa htr f
 go_enter Try.func68, Try.ntmps68
 go_wp2_with fail
 rw [← HW.out]
 refine L.out.mono ?_
 rintro e w1 ⟨O1, n1, c1, O2, n2, c2, rfl, o1, o2, bb⟩
 have F := Lib.hid (list_of (w := w) rfl o2 (Nat.le_of_lt z) (next_trans b0 bb))
 clear bb L o1 o2 b0
 go_wp2
 go_ret
 exact F.out
end wayTo
end
section
namespace place
open Go.RowKit base ints sig term arity endOf cursor termOk endAt inside marks app appAt sym args posMath pathSpec wayTo
set_option maxRecDepth 100000
def placeI (sg t path : List Int) : Int := if termOkB sg t = true then walkI sg t 0 path else -1
def GivesI (w : World) (v : Int) (e : Ending) (w' : World) : Prop := e = .returned (.int .i64 v) ∧ Below w.heap.size w w'
theorem drop_step {path : List Int} {i : Nat} (h : i < path.length) : path.drop i = path.getD i 0 :: path.drop (i + 1) := drop_cons h
def HeadPl (w : World) (A : Option Addr) (n c : Nat) (sg : List Int) (A' : Option Addr) (m : Nat) (t : List Int) (Ap : Option Addr) (pn : Nat) (path : List Int) (R : Int) (g : Nat) (p i : Value) (wr : World) : Prop :=
 ∃ (q k : Nat), p = .int .i64 q ∧ i = .int .i64 k ∧ k + g = pn ∧ q < t.length ∧ walkI sg t q (path.drop k) = R ∧ Fr w wr A n c sg A' m t ∧ Seg wr w.heap.size Ap pn path
set_option maxHeartbeats 1000000 in
theorem specPlaceOf (A A' Ap : Option Addr) (n c m c' pn pc : Nat) (sg t path : List Int) (w : World) (h : Seg w w.heap.size A n sg) (h' : Seg w w.heap.size A' m t) (hp : Seg w w.heap.size Ap pn path) (hn : n ≤ 1048576) (hm : m ≤ 1048576) (hpn : pn ≤ 1048576) :
  Calls Try.prog 64 #[.agg #[.slice A n c], .slice A' m c', .slice Ap pn pc] w (GivesI w (placeI sg t path)) := by
 obtain ⟨W, hW⟩ : ∃ W, W = w.alloc (.cells #[.slice A n c] 30) := ⟨_, rfl⟩
 have f : Fr w W A n c sg A' m t := by rw [hW]; exact Fr.start h h'
 replace hp : Seg W w.heap.size Ap pn path := hp.below f.b
 have HW := Lib.hid hW
 have HL := Lib.hid h'.1
 have HLP := Lib.hid hp.1
 have L := Lib.hid (specTermOk A A' n c m c' sg t W f.s1 f.t1 hn hm)
 clear hW h h'
 cases hok : termOkB sg t with
 | false =>
  have HS := Lib.hid hok
  have HR := Lib.hid (show placeI sg t path = -1 by unfold placeI; rw [if_neg (by rw [hok]; simp)])
  clear hok hp
  go_enter Try.func64, Try.ntmps64
  go_wp2_with fail
  rw [← HW.out]
  refine L.out.mono ?_
  rintro e w1 ⟨he, bb⟩
  rw [HS.out] at he
  subst he
  have F := Lib.hid (show GivesI w (placeI sg t path) (.returned (.int .i64 (-1))) w1 from ⟨by rw [HR.out], (f.next bb).b⟩)
  clear f L bb
  go_wp2
  go_ret
  exact F.out
 | true =>
  have HS := Lib.hid hok
  have HR := Lib.hid (show placeI sg t path = walkI sg t 0 path by unfold placeI; rw [if_pos hok])
  have h60 := (termOk_parts hok).2.1
  have h1 := (root_len hok)
  have hpos : 0 < t.length := by
   by_cases e : 0 < t.length
   ·exact e
   ·have h3 := (termOk_parts hok).2.2
    have h2 := scan_pos (q := 0) h3
    omega
  obtain ⟨R, hR⟩ : ∃ R, walkI sg t 0 path = R := ⟨_, rfl⟩
  rw [hR] at HR
  have hars := (sig_arities (termOk_parts hok).1).1
  go_enter Try.func64, Try.ntmps64
  go_wp2_with fail
  rw [← HW.out]
  refine L.out.mono ?_
  rintro e w1 ⟨he, bb⟩
  rw [HS.out] at he
  subst he
  have bw : Below w.heap.size W w1 := bb.mono (Nat.le_of_lt f.size)
  have S0 : HeadPl w A n c sg A' m t Ap pn path R pn (.int .i64 0) (.int .i64 0) w1 := ⟨0, 0, rfl, rfl, by omega, hpos, hR, f.next bb, hp.below bw⟩
  have HS0 := Lib.hid S0
  clear S0 f bb bw hp L hR h1 hpos hok h60
  go_wp2_with fail
  go_loopg [7, 8] pn (fun g p i wr => HeadPl w A n c sg A' m t Ap pn path R g p i wr)
  case atStart => exact HS0.out
  case round =>
   obtain ⟨q, k, rfl, rfl, hk, hq, hwk, f, hp⟩ := hrel
   clear HS0
   have HK := Lib.hid hk
   have HWK := Lib.hid hwk
   have HQ := Lib.hid hq
   have hpnB := hpn
   clear hk hwk
   by_cases hlt : k < pn
   ·obtain ⟨b, off, s, rfl, hbb, hs, es⟩ := hp.spot hlt
    have hok := HS.out
    obtain ⟨t1, t2, t3⟩ := term_at hok hq
    have LA := Lib.hid (l1Args A A' n c m c' sg t q (len1 sg t q) wr f.s1 f.t1 hn hm hars (by rw [← HL.out]; exact hq) t1 (by rw [← HL.out]; exact t3))
    have hL3 : (argsL sg t q).length = arN sg t q := argsL_arN
    have hars3 : arN sg t q ≤ 3 := by have := ar_bd hars (t.getD q 0); unfold arN; omega
    have hz0 : ar sg (t.getD q 0) = (arN sg t q : Int) := by have := (head_scan hok hq).1; unfold arN; omega
    have HSTEP := Lib.hid (show path.drop k = s :: path.drop (k + 1) by rw [drop_step (by rw [HLP.out]; exact hlt), es.out])
    have HG : Hid (∀ j : Nat, j < arN sg t q → (argsL sg t q).getD j 0 = (argP sg t j (q + 1) : Int) ∧ argP sg t j (q + 1) < t.length) := Lib.hid (fun j hj => ⟨argsL_get hj, (arg_at hok hq hj).2.2⟩)
    obtain ⟨Ls, hLs⟩ : ∃ L, argsL sg t q = L := ⟨_, rfl⟩
    rw [hLs] at LA HG hL3
    obtain ⟨z, hz⟩ : ∃ z, arN sg t q = z := ⟨_, rfl⟩
    rw [hz] at hL3 hars3 HG hz0
    have HZ := Lib.hid hz
    have HZ0 := Lib.hid hz0
    have HL3 := Lib.hid hL3
    have cA := f.cell
    have hbs := f.size
    clear hok t1 t2 t3 hLs hz hz0 hL3 es hq
    go_wp2_with fail
    refine LA.out.mono ?_
    rintro e w2 ⟨A2, n2, c2, rfl, o2, bb⟩
    obtain rfl : n2 = z := by rw [Own.len o2, HL3.out]
    have hs2 : w2.cell? ⟨b, off + k, none⟩ = some (.int .i64 s) := (bb.cell (p := ⟨b, off + k, none⟩) (by show b < wr.heap.size; omega)).trans hs
    replace f := f.next bb
    replace hp := hp.below (bb.mono (Nat.le_of_lt hbs))
    clear LA bb cA hs hbs
    by_cases hin : 0 ≤ s ∧ s ≤ (n2 : Int) - 1
    ·obtain ⟨j, rfl⟩ := Int.eq_ofNat_of_zero_le hin.1
     have hjz : j < n2 := by omega
     obtain ⟨b2, off2, rfl, hb2, hc2⟩ := own_cell o2 (show j < n2 by omega)
     obtain ⟨g1, g2⟩ := HG.out j hjz
     rw [g1] at hc2
     have hjn : (j : Int) < (n2 : Int) := by omega
     have hIN := Lib.hid hin
     have S : HeadPl w A n c sg A' m t (some ⟨b, off, none⟩) pn path R (gk - 1) (.int .i64 (argP sg t j (q + 1) : Nat)) (.int .i64 ((k : Int) + 1)) w2 :=
      ⟨argP sg t j (q + 1), k + 1, rfl, by simp, by have := HK.out; omega, g2, by rw [← HWK.out, HSTEP.out, walk_step (by rw [HZ.out]; exact hjz)], f, hp⟩
     have HSS := Lib.hid S
     have hgk := Lib.hid (show gk - 1 < gk by have := HK.out; omega)
     generalize argP sg t j (q + 1) = y at *
     clear S f hp o2 g1 g2 hin
     go_wp2_with fail
     refine (inYes _ _ _ _ hIN.out).mono ?_
     rintro e w3 ⟨rfl, rfl⟩
     go_wp2
     go_roundg (gk - 1)
     case measure => exact hgk.out
     case rel => exact HSS.out
    ·have F := Lib.hid (show GivesI w (placeI sg t path) (.returned (.int .i64 (-1))) w2 from ⟨by rw [HR.out, ← HWK.out, HSTEP.out, walk_no (by rw [HZ0.out]; omega)], f.b⟩)
     have hIN := Lib.hid hin
     clear f hp o2 hin
     go_wp2_with fail
     refine (inNo _ _ _ _ hIN.out).mono ?_
     rintro e w3 ⟨rfl, rfl⟩
     go_wp2
     go_ret
     exact F.out
   ·have hkp : k = pn := by have := HK.out; omega
    have F := Lib.hid (show GivesI w (placeI sg t path) (.returned (.int .i64 (q : Int))) wr from ⟨by rw [HR.out, ← HWK.out, List.drop_eq_nil_of_le (by rw [HLP.out]; omega)]; rfl, f.b⟩)
    clear f hp hkp hq
    go_wp2
    go_ret
    exact F.out
def HeadPi (w : World) (P : Nat) (A : Option Addr) (n c : Nat) (A' : Option Addr) (m c' : Nat) (sg t : List Int) (Ap : Option Addr) (pn : Nat) (path : List Int) (R : Int) (g : Nat) (i : Value) (wr : World) : Prop :=
 ∃ (q k : Nat), i = .int .i64 k ∧ k + g = pn ∧ q < t.length ∧ walkI sg t q (path.drop k) = R ∧ Cur wr P A n c A' m c' sg t q ∧ Seg wr P Ap pn path ∧ Below w.heap.size w wr ∧ w.heap.size ≤ P
set_option maxHeartbeats 1000000 in
theorem implPlaceOf (A A' Ap : Option Addr) (n c m c' pn pc : Nat) (sg t path : List Int) (w : World) (h : Seg w w.heap.size A n sg) (h' : Seg w w.heap.size A' m t) (hp : Seg w w.heap.size Ap pn path) (hn : n ≤ 1048576) (hm : m ≤ 1048576) (hpn : pn ≤ 1048576) :
  Calls Try.prog 67 #[.agg #[.slice A n c], .slice A' m c', .slice Ap pn pc] w (GivesI w (placeI sg t path)) := by
 obtain ⟨W, hW⟩ : ∃ W, W = w.alloc (.cells #[.slice A n c] 30) := ⟨_, rfl⟩
 have f : Fr w W A n c sg A' m t := by rw [hW]; exact Fr.start h h'
 replace hp : Seg W W.heap.size Ap pn path := (hp.below f.b).more (Nat.le_of_lt f.size)
 have HW := Lib.hid hW
 have HL := Lib.hid h'.1
 have HLP := Lib.hid hp.1
 have L := Lib.hid (cursorAt A A' n c m c' sg t 0 W f.s1 f.t1 hn hm)
 have bel := f.b
 have hWs := f.size
 clear hW h h' f
 go_enter Try.func67, Try.ntmps67
 go_wp2_with fail
 go_step3
 go_wp2_with fail
 rw [← HW.out]
 refine L.out.mono ?_
 rintro e w1 ⟨bb, ⟨ht, P, rfl, hP, hc⟩ | ⟨ht, rfl⟩⟩
 ·obtain ⟨hok, -, hpos⟩ := there_parts ht
  have HS := Lib.hid hok
  obtain ⟨R, hR⟩ : ∃ R, walkI sg t 0 path = R := ⟨_, rfl⟩
  have HR := Lib.hid (show placeI sg t path = R by unfold placeI; rw [if_pos hok, hR])
  have hars := hc.ars
  have S0 : HeadPi w P A n c A' m c' sg t Ap pn path R pn (.int .i64 0) w1 := ⟨0, 0, rfl, by omega, by omega, hR, hc, (hp.below bb).more hP, next_trans bel bb, by omega⟩
  have HS0 := Lib.hid S0
  clear S0 bb hp hc hR ht hok hpos bel L hWs hP
  go_wp2
  go_step3
  go_wp2
  go_loopg [18] pn (fun g i wr => HeadPi w P A n c A' m c' sg t Ap pn path R g i wr)
  case atStart => exact HS0.out
  case round =>
   obtain ⟨q, k, rfl, hk, hq, hwk, hc, hp, hb, hwP⟩ := hrel
   obtain ⟨G, hG⟩ : ∃ G, G = gk := ⟨_, rfl⟩
   subst hG
   clear HS0
   have HK := Lib.hid hk
   have HWK := Lib.hid hwk
   clear hk hwk
   by_cases hlt : k < pn
   ·obtain ⟨b, off, s, rfl, hbb, hs, es⟩ := hp.spot hlt
    have hok := HS.out
    have hneg := (head_scan hok hq).1
    have hzb := ar_bd hars (t.getD q 0)
    obtain ⟨z, hz⟩ : ∃ z, arN sg t q = z := ⟨_, rfl⟩
    have hz0 : ar sg (t.getD q 0) = (z : Int) := by rw [← hz]; unfold arN; omega
    have HSTEP := Lib.hid (show path.drop k = s :: path.drop (k + 1) by rw [drop_step (by rw [HLP.out]; exact hlt), es.out])
    have HX : Hid (∀ j : Nat, j < z → scan sg 1 (t.drop (argP sg t j (q + 1))) = some (len1 sg t (argP sg t j (q + 1))) ∧ argP sg t (j + 1) (q + 1) = argP sg t j (q + 1) + len1 sg t (argP sg t j (q + 1)) ∧ argP sg t j (q + 1) < t.length) := Lib.hid (fun j hj => by
     obtain ⟨b1, b2, b3⟩ := arg_at hok hq (show j < arN sg t q by omega)
     exact ⟨(term_at hok b3).1, argP_succ _ _, b3⟩)
    have HZ := Lib.hid hz
    have HZ0 := Lib.hid hz0
    have hz3 : z ≤ 3 := by omega
    have HQL := Lib.hid hq
    have HA0 : Hid (argP sg t 0 (q + 1) = q + 1) := Lib.hid rfl
    clear hok hneg hzb hz hz0 es hq
    go_wp2_with fail
    refine (next P A n c A' m c' sg t q _ hc).mono ?_
    rintro e w2 ⟨hg, ⟨-, he, hc2⟩ | ⟨hk', -, -⟩⟩
    case inr => have := HQL.out; have := HL.out; omega
    rw [HZ0.out] at he
    subst he
    have hPw := hc.row.lt
    have hp2 := Seg.far hp hg (Nat.le_of_lt hPw) (fun j hj => by injection hj; omega)
    have hb2 := hb.grown hg (Nat.le_trans hwP (Nat.le_of_lt hPw)) (fun j hj => by injection hj; omega)
    clear hp hc hb hg hs hPw
    have HS1 := Lib.hid (show Cur w2 P A n c A' m c' sg t (argP sg t 0 (q + 1)) ∧ Seg w2 P (some ⟨b, off, none⟩) pn path ∧ Below w.heap.size w w2 from ⟨by rw [HA0.out]; exact hc2, hp2, hb2⟩)
    clear hc2 hp2 hb2
    go_wp2_with fail
    go_loopg [24] z (fun g i wr => ∃ j : Nat, i = .int .i64 j ∧ j + g = z ∧ (∀ j' : Nat, j' < j → (j' : Int) ≠ s) ∧ Cur wr P A n c A' m c' sg t (argP sg t j (q + 1)) ∧ Seg wr P (some ⟨b, off, none⟩) pn path ∧ Below w.heap.size w wr)
    case atStart => exact ⟨0, rfl, by omega, fun j' hj' => absurd hj' (Nat.not_lt_zero _), HS1.out⟩
    case round =>
     obtain ⟨j, rfl, hj, hne, hc, hp, hb⟩ := hrel
     clear HS1
     have HNE := Lib.hid hne
     have HJ := Lib.hid hj
     clear hne hj
     by_cases hjz : j < z
     ·obtain ⟨x1, x2, x3⟩ := HX.out j hjz
      have X2 := Lib.hid x2
      have X1 := Lib.hid x1
      have X3 := Lib.hid x3
      clear x1 x2 x3
      by_cases hjs : (j : Int) = s
      ·have S : HeadPi w P A n c A' m c' sg t (some ⟨b, off, none⟩) pn path R (G - 1) (.int .i64 ((k : Int) + 1)) wr :=
        ⟨argP sg t j (q + 1), k + 1, by simp, by have := HK.out; omega, X3.out, by rw [← HWK.out, HSTEP.out, ← hjs, walk_step (by rw [HZ.out]; exact hjz)], hc, hp, hb, hwP⟩
       have HSS := Lib.hid S
       have hgk := Lib.hid (show G - 1 < G by have := HK.out; omega)
       subst hjs
       clear S hc hp hb
       go_wp2
       go_roundg (G - 1)
       case measure => exact hgk.out
       case rel => exact HSS.out
      ·obtain ⟨r, hr⟩ : ∃ r, argP sg t j (q + 1) = r := ⟨_, rfl⟩
       rw [hr] at hc X1 X2
       have hd : ((j : Int) == s) = false := by simp [hjs]
       have HJS := Lib.hid hjs
       clear hjs hr
       go_wp2_with fail
       refine (pass P A n c A' m c' sg t r _ hc).mono ?_
       rintro e w5 ⟨hg5, ⟨j', hj', rfl, hc5⟩ | ⟨hj', -, -⟩⟩
       case inr => rw [X1.out] at hj'; cases hj'
       have hj2 : len1 sg t r = j' := len1_eq hj'
       have hPw := hc.row.lt
       have S := Lib.hid (show Cur w5 P A n c A' m c' sg t (argP sg t (j + 1) (q + 1)) ∧ Seg w5 P (some ⟨b, off, none⟩) pn path ∧ Below w.heap.size w w5 from ⟨by rw [X2.out, hj2]; exact hc5, Seg.far hp hg5 (Nat.le_of_lt hPw) (fun j hj => by injection hj; omega), hb.grown hg5 (Nat.le_trans hwP (Nat.le_of_lt hPw)) (fun j hj => by injection hj; omega)⟩)
       have hgk := Lib.hid (show gk - 1 < gk ∧ j + 1 + (gk - 1) = z by have := HJ.out; omega)
       clear hc hp hb hg5 hj' hc5 hj2 hPw
       go_wp2
       go_roundg (gk - 1)
       case measure => exact hgk.out.1
       case rel => exact ⟨j + 1, by simp, hgk.out.2, fun j' hj' => by
        by_cases e : j' = j
        ·subst e; exact HJS.out
        ·exact HNE.out j' (by omega), S.out⟩
     ·have F := Lib.hid (show GivesI w (placeI sg t path) (.returned (.int .i64 (-1))) wr from ⟨by
       rw [HR.out, ← HWK.out, HSTEP.out, walk_no]
       rintro ⟨e1, e2⟩
       rw [HZ0.out] at e2
       obtain ⟨jj, rfl⟩ := Int.eq_ofNat_of_zero_le e1
       exact HNE.out jj (by omega) rfl, hb⟩)
      clear hc hp hb
      go_wp2
      try rw [Exit.noGoto_ret]
      go_ret
      exact F.out
   ·have hkp : k = pn := by have := HK.out; omega
    have F := Lib.hid (show GivesI w (placeI sg t path) (.returned (.int .i64 (q : Int))) wr from ⟨by rw [HR.out, ← HWK.out, List.drop_eq_nil_of_le (by rw [HLP.out]; omega)]; rfl, hb⟩)
    have cp : wr.cell? ⟨P, 2, none⟩ = some (.int .i64 (q : Int)) := hc.row.cell 2
    clear hc hp hb hkp hq
    go_wp2
    try rw [Exit.noGoto_ret]
    go_ret
    exact F.out
 ·have hno : placeI sg t path = -1 := by
   unfold placeI
   cases hok : termOkB sg t with
   | false => rw [if_neg (by simp)]
   | true =>
    exfalso
    have h3 := (termOk_parts hok).2.2
    have h2 := scan_pos (q := 0) h3
    rw [there_yes hok (by omega) (by omega)] at ht
    cases ht
  have F := Lib.hid (show GivesI w (placeI sg t path) (.returned (.int .i64 (-1))) w1 from ⟨by rw [hno], next_trans bel bb⟩)
  clear bb L bel hp
  go_wp2
  try rw [Exit.noGoto_ret]
  go_ret
  exact F.out
end place
end
section
namespace peakMath
open Go.RowKit base ints sig term termOk endAt sym pathSpec place substOk filled ruleMath stepMath walkMath
abbrev Pk := List Int × List Int × List Int × Int × Int × Int
noncomputable def pathI (sg t : List Int) (x : Int) : List Int := Classical.choose (path_ex sg t x)
theorem pathI_is (sg t : List Int) (x : Int) : PathIs sg t x (pathI sg t x) := Classical.choose_spec (path_ex sg t x)
theorem pathI_len (sg t : List Int) (x : Int) : (pathI sg t x).length ≤ 60 := (pathI_is sg t x).len
def lhsI (rs : List Rl) (r : Int) : List Int := (rs.getD r.toNat ([], [])).1
def symAt (t : List Int) (a : Int) : Bool := decide (0 ≤ a ∧ a < (t.length : Int) ∧ 0 ≤ t.getD a.toNat 0)
def mayB (rs : List Rl) (o a u : Int) : Bool := walkMath.inB o rs.length && (walkMath.inB u rs.length && (symAt (lhsI rs o) a && !decide (a = 0 ∧ o = u)))
noncomputable def placeP (sg : List Int) (rs : List Rl) (t : List Int) (o a : Int) : Int := placeI sg t (pathI sg (lhsI rs o) a)
noncomputable def peakB (sg : List Int) (rs : List Rl) (p : Pk) : Bool :=
 sysOkB sg rs && (mayB rs p.2.2.2.2.2 p.2.2.2.1 p.2.2.2.2.1 &&
  (decide (stepAtO sg rs p.1 0 p.2.2.2.2.2 = some p.2.2.1) && decide (stepAtO sg rs p.1 (placeP sg rs p.1 p.2.2.2.2.2 p.2.2.2.1) p.2.2.2.2.1 = some p.2.1)))
theorem sym_mem {sg t : List Int} {a : Int} (h : termOkB sg t = true) : decide (a ∈ symI sg t) = symAt t a := by
 have e : (a ∈ symI sg t) ↔ (0 ≤ a ∧ a < (t.length : Int) ∧ 0 ≤ t.getD a.toNat 0) := by
  unfold symI
  rw [if_pos h]
  unfold symP
  simp only [List.mem_map, List.mem_filter, List.mem_range, decide_eq_true_eq]
  constructor
  ·rintro ⟨j, ⟨h1, h2⟩, rfl⟩
   refine ⟨by omega, by omega, ?_⟩
   rw [Int.toNat_natCast]
   exact h2
  ·rintro ⟨h1, h2, h3⟩
   exact ⟨a.toNat, ⟨by omega, h3⟩, by omega⟩
 unfold symAt
 exact decide_eq_decide.2 e
section
variable {sg : List Int} {rs : List Rl} {p : Pk}
theorem may_no1 {o a u : Int} (h : walkMath.inB o rs.length = false) : mayB rs o a u = false := by unfold mayB; rw [h]; rfl
theorem may_no2 {o a u : Int} (h : walkMath.inB u rs.length = false) : mayB rs o a u = false := by unfold mayB; rw [h]; simp
theorem may_no3 {o a u : Int} (h : symAt (lhsI rs o) a = false) : mayB rs o a u = false := by unfold mayB; rw [h]; simp
theorem may_no4 {o a u : Int} (h : a = 0 ∧ o = u) : mayB rs o a u = false := by unfold mayB; rw [decide_eq_true h]; simp
theorem may_yes {o a u : Int} (h1 : walkMath.inB o rs.length = true) (h2 : walkMath.inB u rs.length = true) (h3 : symAt (lhsI rs o) a = true) (h4 : ¬ (a = 0 ∧ o = u)) : mayB rs o a u = true := by unfold mayB; rw [h1, h2, h3, decide_eq_false h4]; rfl
theorem may_parts {o a u : Int} (h : mayB rs o a u = true) : (walkMath.inB o rs.length = true ∧ walkMath.inB u rs.length = true) ∧ symAt (lhsI rs o) a = true ∧ ¬ (a = 0 ∧ o = u) := by
 unfold mayB at h
 simp only [Bool.and_eq_true, Bool.not_eq_true', decide_eq_false_iff_not] at h
 exact ⟨⟨h.1, h.2.1⟩, h.2.2.1, h.2.2.2⟩
theorem peak_sys (h : sysOkB sg rs = false) : peakB sg rs p = false := by unfold peakB; rw [h]; rfl
theorem peak_may (h : mayB rs p.2.2.2.2.2 p.2.2.2.1 p.2.2.2.2.1 = false) : peakB sg rs p = false := by unfold peakB; rw [h]; simp
theorem peak_right (h : ¬ stepAtO sg rs p.1 0 p.2.2.2.2.2 = some p.2.2.1) : peakB sg rs p = false := by unfold peakB; rw [decide_eq_false h]; simp
theorem peak_yes (h1 : sysOkB sg rs = true) (h2 : mayB rs p.2.2.2.2.2 p.2.2.2.1 p.2.2.2.2.1 = true) (h3 : stepAtO sg rs p.1 0 p.2.2.2.2.2 = some p.2.2.1) : peakB sg rs p = decide (stepAtO sg rs p.1 (placeP sg rs p.1 p.2.2.2.2.2 p.2.2.2.1) p.2.2.2.2.1 = some p.2.1) := by
 unfold peakB; rw [h1, h2, decide_eq_true h3]; rfl
end
open Classical in
section
variable {sg : List Int} {rs : List Rl} {p : Pk} {ss : List (List Int)}
end
end peakMath
end
section
namespace kindsP
open Go.RowKit base ints sig cursor marks app sym appAt segs segsHelp segsMark kinds shape
set_option maxRecDepth 100000
abbrev sPeak : Sh := .cat sI (.cat sI (.cat sI (.cat .num (.cat .num .num))))
theorem parts_Peak {w : World} {B : Nat} {v0 v1 v2 : Value} {d : Dat sPeak} (h : Rd w B sPeak [v0, v1, v2, .int .i64 d.2.2.2.1, .int .i64 d.2.2.2.2.1, .int .i64 d.2.2.2.2.2] d) : Rd w B sI [v0] d.1 ∧ Rd w B sI [v1] d.2.1 ∧ Rd w B sI [v2] d.2.2.1 ∧ Rd w B .num [.int .i64 d.2.2.2.1] d.2.2.2.1 ∧ Rd w B .num [.int .i64 d.2.2.2.2.1] d.2.2.2.2.1 ∧ Rd w B .num [.int .i64 d.2.2.2.2.2] d.2.2.2.2.2 := by
 obtain ⟨p0, q0⟩ := Rd.split (ca := [v0]) (cb := [v1, v2, .int .i64 d.2.2.2.1, .int .i64 d.2.2.2.2.1, .int .i64 d.2.2.2.2.2]) h rfl
 obtain ⟨p1, q1⟩ := Rd.split (ca := [v1]) (cb := [v2, .int .i64 d.2.2.2.1, .int .i64 d.2.2.2.2.1, .int .i64 d.2.2.2.2.2]) q0 rfl
 obtain ⟨p2, q2⟩ := Rd.split (ca := [v2]) (cb := [.int .i64 d.2.2.2.1, .int .i64 d.2.2.2.2.1, .int .i64 d.2.2.2.2.2]) q1 rfl
 obtain ⟨p3, q3⟩ := Rd.split (ca := [.int .i64 d.2.2.2.1]) (cb := [.int .i64 d.2.2.2.2.1, .int .i64 d.2.2.2.2.2]) q2 rfl
 obtain ⟨p4, q4⟩ := Rd.split (ca := [.int .i64 d.2.2.2.2.1]) (cb := [.int .i64 d.2.2.2.2.2]) q3 rfl
 exact ⟨p0, p1, p2, p3, p4, q4⟩
theorem join_Peak {w : World} {lo hi : Nat} {v0 v1 v2 : Value} {d : Dat sPeak} {m0 m1 m2 m3 m4 m5 m6 : Nat} (o0 : Owned w m0 m1 sI [v0] d.1) (o1 : Owned w m1 m2 sI [v1] d.2.1) (o2 : Owned w m2 m3 sI [v2] d.2.2.1) (o3 : Owned w m3 m4 .num [.int .i64 d.2.2.2.1] d.2.2.2.1) (o4 : Owned w m4 m5 .num [.int .i64 d.2.2.2.2.1] d.2.2.2.2.1) (o5 : Owned w m5 m6 .num [.int .i64 d.2.2.2.2.2] d.2.2.2.2.2) (l0 : m0 ≤ m1) (l1 : m1 ≤ m2) (l2 : m2 ≤ m3) (l3 : m3 ≤ m4) (l4 : m4 ≤ m5) (l5 : m5 ≤ m6) (hl : lo ≤ m0) (hh : m6 ≤ hi) : Owned w lo hi sPeak [v0, v1, v2, .int .i64 d.2.2.2.1, .int .i64 d.2.2.2.2.1, .int .i64 d.2.2.2.2.2] d := by
 exact ((Owned.cat o0 (Owned.cat o1 (Owned.cat o2 (Owned.cat o3 (Owned.cat o4 o5 (Nat.le_refl _) (by omega) (by omega)) (Nat.le_refl _) (by omega) (by omega)) (Nat.le_refl _) (by omega) (by omega)) (Nat.le_refl _) (by omega) (by omega)) (Nat.le_refl _) (by omega) (by omega)) : Owned w m0 m6 sPeak [v0, v1, v2, .int .i64 d.2.2.2.1, .int .i64 d.2.2.2.2.1, .int .i64 d.2.2.2.2.2] d).wider hl hh
theorem cells_Peak {w : World} {B : Nat} {es : List Value} {d : Dat sPeak} (h : Rd w B sPeak es d) : ∃ (v0 : Value) (v1 : Value) (v2 : Value), es = [v0, v1, v2, .int .i64 d.2.2.2.1, .int .i64 d.2.2.2.2.1, .int .i64 d.2.2.2.2.2] := by
 obtain ⟨ca0, cb0, e0, p0, q0⟩ := h
 obtain ⟨A0, n0, c0, z0, -⟩ := p0
 obtain ⟨ca1, cb1, e1, p1, q1⟩ := q0
 obtain ⟨A1, n1, c1, z1, -⟩ := p1
 obtain ⟨ca2, cb2, e2, p2, q2⟩ := q1
 obtain ⟨A2, n2, c2, z2, -⟩ := p2
 obtain ⟨ca3, cb3, e3, p3, q3⟩ := q2
 obtain ⟨ca4, cb4, e4, p4, q4⟩ := q3
 exact ⟨.slice A0 n0 c0, .slice A1 n1 c1, .slice A2 n2 c2, by rw [e0, z0, e1, z1, e2, z2, e3, (show _ = _ from p3), e4, (show _ = _ from p4), (show _ = _ from q4)] <;> rfl⟩
set_option maxHeartbeats 2000000 in
theorem szK_Peak (v0 v1 v2 : Value) (d : Dat sPeak) (left : Int) (w : World) (h : Rd w w.heap.size sPeak [v0, v1, v2, .int .i64 d.2.2.2.1, .int .i64 d.2.2.2.2.1, .int .i64 d.2.2.2.2.2] d) (h0 : 0 ≤ left) (h1 : left ≤ 1048576) :
  Calls Try.prog 29 #[.agg #[v0, v1, v2, .int .i64 d.2.2.2.1, .int .i64 d.2.2.2.2.1, .int .i64 d.2.2.2.2.2], .int .i64 left] w (AnsSzK w left (sz sPeak d)) := by
 obtain ⟨g0, g1, g2, g3, g4, g5⟩ := parts_Peak h
 obtain ⟨t0, ht0⟩ : ∃ t, sz sI d.1 = t := ⟨_, rfl⟩
 obtain ⟨t1, ht1⟩ : ∃ t, sz sI d.2.1 = t := ⟨_, rfl⟩
 obtain ⟨t2, ht2⟩ : ∃ t, sz sI d.2.2.1 = t := ⟨_, rfl⟩
 have HE : Hid (sz sPeak d = t0 + t1 + t2) := Lib.hid (by rw [← ht0, ← ht1, ← ht2]; simp only [sz]; try omega)
 have HT0 := Lib.hid ht0
 have G0 := Lib.hid g0
 have HT1 := Lib.hid ht1
 have G1 := Lib.hid g1
 have HT2 := Lib.hid ht2
 have G2 := Lib.hid g2
 obtain ⟨W, hW⟩ : ∃ W, W = w.alloc (.cells #[v0, v1, v2, .int .i64 d.2.2.2.1, .int .i64 d.2.2.2.2.1, .int .i64 d.2.2.2.2.2] 53) := ⟨_, rfl⟩
 have r : Row W w.heap.size 53 #[v0, v1, v2, .int .i64 d.2.2.2.1, .int .i64 d.2.2.2.2.1, .int .i64 d.2.2.2.2.2] := by rw [hW]; exact Row.new _ _ _
 have bel : Below w.heap.size w W := by rw [hW]; exact (Below.refl _ _).alloc (Nat.le_refl _) _
 have HW := Lib.hid hW
 clear hW h g0 g1 g2 g3 g4 g5 ht0 ht1 ht2
 go_enter Try.func29, Try.ntmps29
 go_wp2_with fail
 rw [← HW.out]
 refine (szK_ints _ _ left W (G0.out.next bel) h0 h1).mono ?_
 rintro e w1 ⟨he, bb⟩
 rw [HT0.out] at he
 replace r := r.next bb
 replace bel := next_trans bel bb
 clear bb
 by_cases q0 : left - (t0 : Int) < 0
 ·rw [if_pos q0] at he
  subst he
  have F : AnsSzK w left (sz sPeak d) (.returned (.int .i64 (-1))) w1 := ⟨by rw [HE.out, if_pos (by omega)], bel⟩
  have HF := Lib.hid F
  clear F bel r
  go_wp2
  go_ret
  exact HF.out
 rw [if_neg q0] at he
 obtain ⟨l0, hl0⟩ : ∃ l, left - (t0 : Int) = l := ⟨_, rfl⟩
 rw [hl0] at he
 have a0 : 0 ≤ l0 := by omega
 have b0 : l0 ≤ 1048576 := by omega
 have HL0 := Lib.hid hl0
 clear hl0 q0
 subst he
 have c0_0 : w1.cell? ⟨w.heap.size, 1, none⟩ = some (v1) := r.cell 1
 go_wp2_with fail
 refine (szK_ints _ _ l0 w1 (G1.out.next bel) a0 b0).mono ?_
 rintro e w2 ⟨he, bb⟩
 rw [HT1.out] at he
 replace r := r.next bb
 replace bel := next_trans bel bb
 clear bb
 by_cases q1 : l0 - (t1 : Int) < 0
 ·rw [if_pos q1] at he
  subst he
  have F : AnsSzK w left (sz sPeak d) (.returned (.int .i64 (-1))) w2 := ⟨by have := HL0.out; rw [HE.out, if_pos (by omega)], bel⟩
  have HF := Lib.hid F
  clear F bel r
  go_wp2
  go_ret
  exact HF.out
 rw [if_neg q1] at he
 obtain ⟨l1, hl1⟩ : ∃ l, l0 - (t1 : Int) = l := ⟨_, rfl⟩
 rw [hl1] at he
 have a1 : 0 ≤ l1 := by omega
 have b1 : l1 ≤ 1048576 := by omega
 have HL1 := Lib.hid hl1
 clear hl1 q1
 subst he
 have c1_0 : w2.cell? ⟨w.heap.size, 2, none⟩ = some (v2) := r.cell 2
 go_wp2_with fail
 refine (szK_ints _ _ l1 w2 (G2.out.next bel) a1 b1).mono ?_
 rintro e w3 ⟨he, bb⟩
 rw [HT2.out] at he
 replace r := r.next bb
 replace bel := next_trans bel bb
 clear bb
 by_cases q2 : l1 - (t2 : Int) < 0
 ·rw [if_pos q2] at he
  subst he
  have F : AnsSzK w left (sz sPeak d) (.returned (.int .i64 (-1))) w3 := ⟨by have := HL0.out; have := HL1.out; rw [HE.out, if_pos (by omega)], bel⟩
  have HF := Lib.hid F
  clear F bel r
  go_wp2
  go_ret
  exact HF.out
 rw [if_neg q2] at he
 obtain ⟨l2, hl2⟩ : ∃ l, l1 - (t2 : Int) = l := ⟨_, rfl⟩
 rw [hl2] at he
 have a2 : 0 ≤ l2 := by omega
 have b2 : l2 ≤ 1048576 := by omega
 have HL2 := Lib.hid hl2
 clear hl2 q2
 subst he
 have F : AnsSzK w left (sz sPeak d) (.returned (.int .i64 l2)) w3 := ⟨by have := HL0.out; have := HL1.out; have := HL2.out; rw [HE.out, if_neg (by omega)]; exact congrArg (fun z => Ending.returned (.int .i64 z)) (by omega), bel⟩
 have HF := Lib.hid F
 clear F bel r
 go_wp2
 go_ret
 exact HF.out
def CopyPeak (w : World) (d : Dat sPeak) (e : Ending) (w' : World) : Prop := ∃ A0 n0 c0 A1 n1 c1 A2 n2 c2, e = .returned (.agg #[.slice A0 n0 c0, .slice A1 n1 c1, .slice A2 n2 c2, .int .i64 d.2.2.2.1, .int .i64 d.2.2.2.2.1, .int .i64 d.2.2.2.2.2]) ∧ Owned w' w.heap.size w'.heap.size sPeak [.slice A0 n0 c0, .slice A1 n1 c1, .slice A2 n2 c2, .int .i64 d.2.2.2.1, .int .i64 d.2.2.2.2.1, .int .i64 d.2.2.2.2.2] d ∧ Below w.heap.size w w'
set_option maxHeartbeats 2000000 in
theorem toK_Peak (v0 v1 v2 : Value) (d : Dat sPeak) (w : World) (h : Rd w w.heap.size sPeak [v0, v1, v2, .int .i64 d.2.2.2.1, .int .i64 d.2.2.2.2.1, .int .i64 d.2.2.2.2.2] d) (hz : sz sPeak d ≤ 1048576) :
  Calls Try.prog 31 #[.agg #[v0, v1, v2, .int .i64 d.2.2.2.1, .int .i64 d.2.2.2.2.1, .int .i64 d.2.2.2.2.2]] w (CopyPeak w d) := by
 obtain ⟨g0, g1, g2, g3, g4, g5⟩ := parts_Peak h
 have cp0 := CpS.zero w 53 41 #[v0, v1, v2, .int .i64 d.2.2.2.1, .int .i64 d.2.2.2.2.1, .int .i64 d.2.2.2.2.2] #[.slice none 0 0, .slice none 0 0, .slice none 0 0, .int .i64 0, .int .i64 0, .int .i64 0]
 obtain ⟨W, hW⟩ : ∃ W, W = ((w.alloc (.cells #[v0, v1, v2, .int .i64 d.2.2.2.1, .int .i64 d.2.2.2.2.1, .int .i64 d.2.2.2.2.2] 53)).alloc (.cells #[.slice none 0 0, .slice none 0 0, .slice none 0 0, .int .i64 0, .int .i64 0, .int .i64 0] 41)).alloc (.cells #[.slice none 0 0, .slice none 0 0, .slice none 0 0, .int .i64 0, .int .i64 0, .int .i64 0] 41) := ⟨_, rfl⟩
 rw [← hW] at cp0
 have HW := Lib.hid hW
 have G0 := Lib.hid g0
 have Z0 : Hid (sz sI d.1 ≤ 1048576) := Lib.hid (by have := hz; simp only [sz] at this ⊢; omega)
 have G1 := Lib.hid g1
 have Z1 : Hid (sz sI d.2.1 ≤ 1048576) := Lib.hid (by have := hz; simp only [sz] at this ⊢; omega)
 have G2 := Lib.hid g2
 have Z2 : Hid (sz sI d.2.2.1 ≤ 1048576) := Lib.hid (by have := hz; simp only [sz] at this ⊢; omega)
 clear hW hz h g0 g1 g2 g3 g4 g5
 go_enter Try.func31, Try.ntmps31
 go_wp2_with fail
 rw [← HW.out]
 refine (toK_ints _ _ _ ((G0.out.below cp0.bel).more cp0.bel.size) Z0.out).mono ?_
 rintro e w1 ⟨x0A0, x0n0, x0c0, rfl, o0, bb⟩
 have zb0 := bb.size
 have zc0 := cp0.size
 replace cp0 := cp0.next bb
 clear bb
 have f0_0 : w1.frozen? ⟨w.heap.size + 1 + 1, 0, none⟩ = false := cp0.cur.free 0
 have k0_0 : w1.cell? ⟨w.heap.size + 1 + 1, 0, none⟩ = some (.slice none 0 0) := cp0.cur.cell 0
 obtain ⟨w2, hw0⟩ : ∃ x, x = (w1.setCell ⟨w.heap.size + 1 + 1, 0, none⟩ (.slice x0A0 x0n0 x0c0)) := ⟨_, rfl⟩
 replace o0 := o0.put (g := w.heap.size + 1 + 1) (i := 0) (u := .slice x0A0 x0n0 x0c0) (by omega)
 rw [← hw0] at o0
 replace cp0 : CpS w 53 41 #[v0, v1, v2, .int .i64 d.2.2.2.1, .int .i64 d.2.2.2.2.1, .int .i64 d.2.2.2.2.2] #[.slice none 0 0, .slice none 0 0, .slice none 0 0, .int .i64 0, .int .i64 0, .int .i64 0] #[.slice x0A0 x0n0 x0c0, .slice none 0 0, .slice none 0 0, .int .i64 0, .int .i64 0, .int .i64 0] w2 := by rw [hw0]; exact (CpS.put cp0 0 (.slice x0A0 x0n0 x0c0))
 have zw0 : w2.heap.size = w1.heap.size := by rw [hw0]; simp
 have HW0 := Lib.hid hw0
 clear hw0
 have d1_0 : w2.cell? ⟨w.heap.size, 1, none⟩ = some (v1) := cp0.box.cell 1
 rw [HW0.out] at d1_0
 go_wp2_with fail
 rw [← HW0.out]
 clear d1_0
 refine (toK_ints _ _ _ ((G1.out.below cp0.bel).more cp0.bel.size) Z1.out).mono ?_
 rintro e w3 ⟨x1A0, x1n0, x1c0, rfl, o1, bb⟩
 replace o0 := o0.next bb
 have zb1 := bb.size
 have zc1 := cp0.size
 replace cp0 := cp0.next bb
 clear bb
 have f1_0 : w3.frozen? ⟨w.heap.size + 1 + 1, 1, none⟩ = false := cp0.cur.free 1
 have k1_0 : w3.cell? ⟨w.heap.size + 1 + 1, 1, none⟩ = some (.slice none 0 0) := cp0.cur.cell 1
 obtain ⟨w4, hw1⟩ : ∃ x, x = (w3.setCell ⟨w.heap.size + 1 + 1, 1, none⟩ (.slice x1A0 x1n0 x1c0)) := ⟨_, rfl⟩
 replace o0 := o0.put (g := w.heap.size + 1 + 1) (i := 1) (u := .slice x1A0 x1n0 x1c0) (by omega)
 rw [← hw1] at o0
 replace o1 := o1.put (g := w.heap.size + 1 + 1) (i := 1) (u := .slice x1A0 x1n0 x1c0) (by omega)
 rw [← hw1] at o1
 replace cp0 : CpS w 53 41 #[v0, v1, v2, .int .i64 d.2.2.2.1, .int .i64 d.2.2.2.2.1, .int .i64 d.2.2.2.2.2] #[.slice none 0 0, .slice none 0 0, .slice none 0 0, .int .i64 0, .int .i64 0, .int .i64 0] #[.slice x0A0 x0n0 x0c0, .slice x1A0 x1n0 x1c0, .slice none 0 0, .int .i64 0, .int .i64 0, .int .i64 0] w4 := by rw [hw1]; exact (CpS.put cp0 1 (.slice x1A0 x1n0 x1c0))
 have zw1 : w4.heap.size = w3.heap.size := by rw [hw1]; simp
 have HW1 := Lib.hid hw1
 clear hw1
 have d2_0 : w4.cell? ⟨w.heap.size, 2, none⟩ = some (v2) := cp0.box.cell 2
 rw [HW1.out] at d2_0
 go_wp2_with fail
 rw [← HW1.out]
 clear d2_0
 refine (toK_ints _ _ _ ((G2.out.below cp0.bel).more cp0.bel.size) Z2.out).mono ?_
 rintro e w5 ⟨x2A0, x2n0, x2c0, rfl, o2, bb⟩
 replace o0 := o0.next bb
 replace o1 := o1.next bb
 have zb2 := bb.size
 have zc2 := cp0.size
 replace cp0 := cp0.next bb
 clear bb
 have f2_0 : w5.frozen? ⟨w.heap.size + 1 + 1, 2, none⟩ = false := cp0.cur.free 2
 have k2_0 : w5.cell? ⟨w.heap.size + 1 + 1, 2, none⟩ = some (.slice none 0 0) := cp0.cur.cell 2
 have f3_0 : ((w5.setCell ⟨w.heap.size + 1 + 1, 2, none⟩ (.slice x2A0 x2n0 x2c0))).frozen? ⟨w.heap.size + 1 + 1, 3, none⟩ = false := (CpS.put cp0 2 (.slice x2A0 x2n0 x2c0)).cur.free 3
 have k3_0 : ((w5.setCell ⟨w.heap.size + 1 + 1, 2, none⟩ (.slice x2A0 x2n0 x2c0))).cell? ⟨w.heap.size + 1 + 1, 3, none⟩ = some (.int .i64 0) := (CpS.put cp0 2 (.slice x2A0 x2n0 x2c0)).cur.cell 3
 have b3_0 : ((w5.setCell ⟨w.heap.size + 1 + 1, 2, none⟩ (.slice x2A0 x2n0 x2c0))).cell? ⟨w.heap.size, 3, none⟩ = some (.int .i64 d.2.2.2.1) := (CpS.put cp0 2 (.slice x2A0 x2n0 x2c0)).box.cell 3
 have f4_0 : (((w5.setCell ⟨w.heap.size + 1 + 1, 2, none⟩ (.slice x2A0 x2n0 x2c0)).setCell ⟨w.heap.size + 1 + 1, 3, none⟩ (.int .i64 d.2.2.2.1))).frozen? ⟨w.heap.size + 1 + 1, 4, none⟩ = false := (CpS.put (CpS.put cp0 2 (.slice x2A0 x2n0 x2c0)) 3 (.int .i64 d.2.2.2.1)).cur.free 4
 have k4_0 : (((w5.setCell ⟨w.heap.size + 1 + 1, 2, none⟩ (.slice x2A0 x2n0 x2c0)).setCell ⟨w.heap.size + 1 + 1, 3, none⟩ (.int .i64 d.2.2.2.1))).cell? ⟨w.heap.size + 1 + 1, 4, none⟩ = some (.int .i64 0) := (CpS.put (CpS.put cp0 2 (.slice x2A0 x2n0 x2c0)) 3 (.int .i64 d.2.2.2.1)).cur.cell 4
 have b4_0 : (((w5.setCell ⟨w.heap.size + 1 + 1, 2, none⟩ (.slice x2A0 x2n0 x2c0)).setCell ⟨w.heap.size + 1 + 1, 3, none⟩ (.int .i64 d.2.2.2.1))).cell? ⟨w.heap.size, 4, none⟩ = some (.int .i64 d.2.2.2.2.1) := (CpS.put (CpS.put cp0 2 (.slice x2A0 x2n0 x2c0)) 3 (.int .i64 d.2.2.2.1)).box.cell 4
 have f5_0 : ((((w5.setCell ⟨w.heap.size + 1 + 1, 2, none⟩ (.slice x2A0 x2n0 x2c0)).setCell ⟨w.heap.size + 1 + 1, 3, none⟩ (.int .i64 d.2.2.2.1)).setCell ⟨w.heap.size + 1 + 1, 4, none⟩ (.int .i64 d.2.2.2.2.1))).frozen? ⟨w.heap.size + 1 + 1, 5, none⟩ = false := (CpS.put (CpS.put (CpS.put cp0 2 (.slice x2A0 x2n0 x2c0)) 3 (.int .i64 d.2.2.2.1)) 4 (.int .i64 d.2.2.2.2.1)).cur.free 5
 have k5_0 : ((((w5.setCell ⟨w.heap.size + 1 + 1, 2, none⟩ (.slice x2A0 x2n0 x2c0)).setCell ⟨w.heap.size + 1 + 1, 3, none⟩ (.int .i64 d.2.2.2.1)).setCell ⟨w.heap.size + 1 + 1, 4, none⟩ (.int .i64 d.2.2.2.2.1))).cell? ⟨w.heap.size + 1 + 1, 5, none⟩ = some (.int .i64 0) := (CpS.put (CpS.put (CpS.put cp0 2 (.slice x2A0 x2n0 x2c0)) 3 (.int .i64 d.2.2.2.1)) 4 (.int .i64 d.2.2.2.2.1)).cur.cell 5
 have b5_0 : ((((w5.setCell ⟨w.heap.size + 1 + 1, 2, none⟩ (.slice x2A0 x2n0 x2c0)).setCell ⟨w.heap.size + 1 + 1, 3, none⟩ (.int .i64 d.2.2.2.1)).setCell ⟨w.heap.size + 1 + 1, 4, none⟩ (.int .i64 d.2.2.2.2.1))).cell? ⟨w.heap.size, 5, none⟩ = some (.int .i64 d.2.2.2.2.2) := (CpS.put (CpS.put (CpS.put cp0 2 (.slice x2A0 x2n0 x2c0)) 3 (.int .i64 d.2.2.2.1)) 4 (.int .i64 d.2.2.2.2.1)).box.cell 5
 obtain ⟨w6, hw2⟩ : ∃ x, x = ((((w5.setCell ⟨w.heap.size + 1 + 1, 2, none⟩ (.slice x2A0 x2n0 x2c0)).setCell ⟨w.heap.size + 1 + 1, 3, none⟩ (.int .i64 d.2.2.2.1)).setCell ⟨w.heap.size + 1 + 1, 4, none⟩ (.int .i64 d.2.2.2.2.1)).setCell ⟨w.heap.size + 1 + 1, 5, none⟩ (.int .i64 d.2.2.2.2.2)) := ⟨_, rfl⟩
 replace o0 := o0.put (g := w.heap.size + 1 + 1) (i := 2) (u := .slice x2A0 x2n0 x2c0) (by omega)
 replace o0 := o0.put (g := w.heap.size + 1 + 1) (i := 3) (u := .int .i64 d.2.2.2.1) (by omega)
 replace o0 := o0.put (g := w.heap.size + 1 + 1) (i := 4) (u := .int .i64 d.2.2.2.2.1) (by omega)
 replace o0 := o0.put (g := w.heap.size + 1 + 1) (i := 5) (u := .int .i64 d.2.2.2.2.2) (by omega)
 rw [← hw2] at o0
 replace o1 := o1.put (g := w.heap.size + 1 + 1) (i := 2) (u := .slice x2A0 x2n0 x2c0) (by omega)
 replace o1 := o1.put (g := w.heap.size + 1 + 1) (i := 3) (u := .int .i64 d.2.2.2.1) (by omega)
 replace o1 := o1.put (g := w.heap.size + 1 + 1) (i := 4) (u := .int .i64 d.2.2.2.2.1) (by omega)
 replace o1 := o1.put (g := w.heap.size + 1 + 1) (i := 5) (u := .int .i64 d.2.2.2.2.2) (by omega)
 rw [← hw2] at o1
 replace o2 := o2.put (g := w.heap.size + 1 + 1) (i := 2) (u := .slice x2A0 x2n0 x2c0) (by omega)
 replace o2 := o2.put (g := w.heap.size + 1 + 1) (i := 3) (u := .int .i64 d.2.2.2.1) (by omega)
 replace o2 := o2.put (g := w.heap.size + 1 + 1) (i := 4) (u := .int .i64 d.2.2.2.2.1) (by omega)
 replace o2 := o2.put (g := w.heap.size + 1 + 1) (i := 5) (u := .int .i64 d.2.2.2.2.2) (by omega)
 rw [← hw2] at o2
 replace cp0 : CpS w 53 41 #[v0, v1, v2, .int .i64 d.2.2.2.1, .int .i64 d.2.2.2.2.1, .int .i64 d.2.2.2.2.2] #[.slice none 0 0, .slice none 0 0, .slice none 0 0, .int .i64 0, .int .i64 0, .int .i64 0] #[.slice x0A0 x0n0 x0c0, .slice x1A0 x1n0 x1c0, .slice x2A0 x2n0 x2c0, .int .i64 d.2.2.2.1, .int .i64 d.2.2.2.2.1, .int .i64 d.2.2.2.2.2] w6 := by rw [hw2]; exact (CpS.put (CpS.put (CpS.put (CpS.put cp0 2 (.slice x2A0 x2n0 x2c0)) 3 (.int .i64 d.2.2.2.1)) 4 (.int .i64 d.2.2.2.2.1)) 5 (.int .i64 d.2.2.2.2.2))
 have zw2 : w6.heap.size = w5.heap.size := by rw [hw2]; simp
 have HW2 := Lib.hid hw2
 clear hw2
 have y0 : w6.cell? ⟨w.heap.size + 1 + 1, 0, none⟩ = some (.slice x0A0 x0n0 x0c0) := cp0.cur.cell 0
 rw [HW2.out] at y0
 have y1 : w6.cell? ⟨w.heap.size + 1 + 1, 1, none⟩ = some (.slice x1A0 x1n0 x1c0) := cp0.cur.cell 1
 rw [HW2.out] at y1
 have y2 : w6.cell? ⟨w.heap.size + 1 + 1, 2, none⟩ = some (.slice x2A0 x2n0 x2c0) := cp0.cur.cell 2
 rw [HW2.out] at y2
 have y3 : w6.cell? ⟨w.heap.size + 1 + 1, 3, none⟩ = some (.int .i64 d.2.2.2.1) := cp0.cur.cell 3
 rw [HW2.out] at y3
 have y4 : w6.cell? ⟨w.heap.size + 1 + 1, 4, none⟩ = some (.int .i64 d.2.2.2.2.1) := cp0.cur.cell 4
 rw [HW2.out] at y4
 have y5 : w6.cell? ⟨w.heap.size + 1 + 1, 5, none⟩ = some (.int .i64 d.2.2.2.2.2) := cp0.cur.cell 5
 rw [HW2.out] at y5
 have s0 : (w6).cell? ⟨w.heap.size + 1, 0, none⟩ = some (.slice none 0 0) := cp0.res.cell 0
 rw [HW2.out] at s0
 have r0 : (w6).frozen? ⟨w.heap.size + 1, 0, none⟩ = false := cp0.res.free 0
 rw [HW2.out] at r0
 have s1 : ((w6.setCell ⟨w.heap.size + 1, 0, none⟩ (.slice x0A0 x0n0 x0c0))).cell? ⟨w.heap.size + 1, 1, none⟩ = some (.slice none 0 0) := (CpS.fin cp0 0 (.slice x0A0 x0n0 x0c0)).res.cell 1
 rw [HW2.out] at s1
 have r1 : ((w6.setCell ⟨w.heap.size + 1, 0, none⟩ (.slice x0A0 x0n0 x0c0))).frozen? ⟨w.heap.size + 1, 1, none⟩ = false := (CpS.fin cp0 0 (.slice x0A0 x0n0 x0c0)).res.free 1
 rw [HW2.out] at r1
 have s2 : (((w6.setCell ⟨w.heap.size + 1, 0, none⟩ (.slice x0A0 x0n0 x0c0)).setCell ⟨w.heap.size + 1, 1, none⟩ (.slice x1A0 x1n0 x1c0))).cell? ⟨w.heap.size + 1, 2, none⟩ = some (.slice none 0 0) := (CpS.fin (CpS.fin cp0 0 (.slice x0A0 x0n0 x0c0)) 1 (.slice x1A0 x1n0 x1c0)).res.cell 2
 rw [HW2.out] at s2
 have r2 : (((w6.setCell ⟨w.heap.size + 1, 0, none⟩ (.slice x0A0 x0n0 x0c0)).setCell ⟨w.heap.size + 1, 1, none⟩ (.slice x1A0 x1n0 x1c0))).frozen? ⟨w.heap.size + 1, 2, none⟩ = false := (CpS.fin (CpS.fin cp0 0 (.slice x0A0 x0n0 x0c0)) 1 (.slice x1A0 x1n0 x1c0)).res.free 2
 rw [HW2.out] at r2
 have s3 : ((((w6.setCell ⟨w.heap.size + 1, 0, none⟩ (.slice x0A0 x0n0 x0c0)).setCell ⟨w.heap.size + 1, 1, none⟩ (.slice x1A0 x1n0 x1c0)).setCell ⟨w.heap.size + 1, 2, none⟩ (.slice x2A0 x2n0 x2c0))).cell? ⟨w.heap.size + 1, 3, none⟩ = some (.int .i64 0) := (CpS.fin (CpS.fin (CpS.fin cp0 0 (.slice x0A0 x0n0 x0c0)) 1 (.slice x1A0 x1n0 x1c0)) 2 (.slice x2A0 x2n0 x2c0)).res.cell 3
 rw [HW2.out] at s3
 have r3 : ((((w6.setCell ⟨w.heap.size + 1, 0, none⟩ (.slice x0A0 x0n0 x0c0)).setCell ⟨w.heap.size + 1, 1, none⟩ (.slice x1A0 x1n0 x1c0)).setCell ⟨w.heap.size + 1, 2, none⟩ (.slice x2A0 x2n0 x2c0))).frozen? ⟨w.heap.size + 1, 3, none⟩ = false := (CpS.fin (CpS.fin (CpS.fin cp0 0 (.slice x0A0 x0n0 x0c0)) 1 (.slice x1A0 x1n0 x1c0)) 2 (.slice x2A0 x2n0 x2c0)).res.free 3
 rw [HW2.out] at r3
 have s4 : (((((w6.setCell ⟨w.heap.size + 1, 0, none⟩ (.slice x0A0 x0n0 x0c0)).setCell ⟨w.heap.size + 1, 1, none⟩ (.slice x1A0 x1n0 x1c0)).setCell ⟨w.heap.size + 1, 2, none⟩ (.slice x2A0 x2n0 x2c0)).setCell ⟨w.heap.size + 1, 3, none⟩ (.int .i64 d.2.2.2.1))).cell? ⟨w.heap.size + 1, 4, none⟩ = some (.int .i64 0) := (CpS.fin (CpS.fin (CpS.fin (CpS.fin cp0 0 (.slice x0A0 x0n0 x0c0)) 1 (.slice x1A0 x1n0 x1c0)) 2 (.slice x2A0 x2n0 x2c0)) 3 (.int .i64 d.2.2.2.1)).res.cell 4
 rw [HW2.out] at s4
 have r4 : (((((w6.setCell ⟨w.heap.size + 1, 0, none⟩ (.slice x0A0 x0n0 x0c0)).setCell ⟨w.heap.size + 1, 1, none⟩ (.slice x1A0 x1n0 x1c0)).setCell ⟨w.heap.size + 1, 2, none⟩ (.slice x2A0 x2n0 x2c0)).setCell ⟨w.heap.size + 1, 3, none⟩ (.int .i64 d.2.2.2.1))).frozen? ⟨w.heap.size + 1, 4, none⟩ = false := (CpS.fin (CpS.fin (CpS.fin (CpS.fin cp0 0 (.slice x0A0 x0n0 x0c0)) 1 (.slice x1A0 x1n0 x1c0)) 2 (.slice x2A0 x2n0 x2c0)) 3 (.int .i64 d.2.2.2.1)).res.free 4
 rw [HW2.out] at r4
 have s5 : ((((((w6.setCell ⟨w.heap.size + 1, 0, none⟩ (.slice x0A0 x0n0 x0c0)).setCell ⟨w.heap.size + 1, 1, none⟩ (.slice x1A0 x1n0 x1c0)).setCell ⟨w.heap.size + 1, 2, none⟩ (.slice x2A0 x2n0 x2c0)).setCell ⟨w.heap.size + 1, 3, none⟩ (.int .i64 d.2.2.2.1)).setCell ⟨w.heap.size + 1, 4, none⟩ (.int .i64 d.2.2.2.2.1))).cell? ⟨w.heap.size + 1, 5, none⟩ = some (.int .i64 0) := (CpS.fin (CpS.fin (CpS.fin (CpS.fin (CpS.fin cp0 0 (.slice x0A0 x0n0 x0c0)) 1 (.slice x1A0 x1n0 x1c0)) 2 (.slice x2A0 x2n0 x2c0)) 3 (.int .i64 d.2.2.2.1)) 4 (.int .i64 d.2.2.2.2.1)).res.cell 5
 rw [HW2.out] at s5
 have r5 : ((((((w6.setCell ⟨w.heap.size + 1, 0, none⟩ (.slice x0A0 x0n0 x0c0)).setCell ⟨w.heap.size + 1, 1, none⟩ (.slice x1A0 x1n0 x1c0)).setCell ⟨w.heap.size + 1, 2, none⟩ (.slice x2A0 x2n0 x2c0)).setCell ⟨w.heap.size + 1, 3, none⟩ (.int .i64 d.2.2.2.1)).setCell ⟨w.heap.size + 1, 4, none⟩ (.int .i64 d.2.2.2.2.1))).frozen? ⟨w.heap.size + 1, 5, none⟩ = false := (CpS.fin (CpS.fin (CpS.fin (CpS.fin (CpS.fin cp0 0 (.slice x0A0 x0n0 x0c0)) 1 (.slice x1A0 x1n0 x1c0)) 2 (.slice x2A0 x2n0 x2c0)) 3 (.int .i64 d.2.2.2.1)) 4 (.int .i64 d.2.2.2.2.1)).res.free 5
 rw [HW2.out] at r5
 have o3 := Owned.num w6 (w6.heap.size) (w6.heap.size) d.2.2.2.1
 have o4 := Owned.num w6 (w6.heap.size) (w6.heap.size) d.2.2.2.2.1
 have o5 := Owned.num w6 (w6.heap.size) (w6.heap.size) d.2.2.2.2.2
 have oo : Owned w6 (w.heap.size + 1 + 1 + 1) w6.heap.size sPeak [.slice x0A0 x0n0 x0c0, .slice x1A0 x1n0 x1c0, .slice x2A0 x2n0 x2c0, .int .i64 d.2.2.2.1, .int .i64 d.2.2.2.2.1, .int .i64 d.2.2.2.2.2] d := join_Peak (m0 := W.heap.size) (m1 := w2.heap.size) (m2 := w4.heap.size) (m3 := w6.heap.size) (m4 := w6.heap.size) (m5 := w6.heap.size) (m6 := w6.heap.size) (o0.wider (Nat.le_refl _) (by omega)) (o1.wider (Nat.le_refl _) (by omega)) (o2.wider (Nat.le_refl _) (by omega)) o3 o4 o5 (by omega) (by omega) (by omega) (by omega) (by omega) (by omega) (by omega) (by omega)
 have F : CopyPeak w d (.returned (.agg #[.slice x0A0 x0n0 x0c0, .slice x1A0 x1n0 x1c0, .slice x2A0 x2n0 x2c0, .int .i64 d.2.2.2.1, .int .i64 d.2.2.2.2.1, .int .i64 d.2.2.2.2.2])) ((((((w6.setCell ⟨w.heap.size + 1, 0, none⟩ (.slice x0A0 x0n0 x0c0)).setCell ⟨w.heap.size + 1, 1, none⟩ (.slice x1A0 x1n0 x1c0)).setCell ⟨w.heap.size + 1, 2, none⟩ (.slice x2A0 x2n0 x2c0)).setCell ⟨w.heap.size + 1, 3, none⟩ (.int .i64 d.2.2.2.1)).setCell ⟨w.heap.size + 1, 4, none⟩ (.int .i64 d.2.2.2.2.1)).setCell ⟨w.heap.size + 1, 5, none⟩ (.int .i64 d.2.2.2.2.2)) := ⟨x0A0, x0n0, x0c0, x1A0, x1n0, x1c0, x2A0, x2n0, x2c0, rfl, Owned.wider (((((((oo.put (g := w.heap.size + 1) (i := 0) (u := .slice x0A0 x0n0 x0c0) (by omega)).put (g := w.heap.size + 1) (i := 1) (u := .slice x1A0 x1n0 x1c0) (by omega)).put (g := w.heap.size + 1) (i := 2) (u := .slice x2A0 x2n0 x2c0) (by omega)).put (g := w.heap.size + 1) (i := 3) (u := .int .i64 d.2.2.2.1) (by omega)).put (g := w.heap.size + 1) (i := 4) (u := .int .i64 d.2.2.2.2.1) (by omega)).put (g := w.heap.size + 1) (i := 5) (u := .int .i64 d.2.2.2.2.2) (by omega))) (by omega) (by simp), ((CpS.fin (CpS.fin (CpS.fin (CpS.fin (CpS.fin (CpS.fin cp0 0 (.slice x0A0 x0n0 x0c0)) 1 (.slice x1A0 x1n0 x1c0)) 2 (.slice x2A0 x2n0 x2c0)) 3 (.int .i64 d.2.2.2.1)) 4 (.int .i64 d.2.2.2.2.1)) 5 (.int .i64 d.2.2.2.2.2))).bel⟩
 have u0 : (((((((w6.setCell ⟨w.heap.size + 1, 0, none⟩ (.slice x0A0 x0n0 x0c0)).setCell ⟨w.heap.size + 1, 1, none⟩ (.slice x1A0 x1n0 x1c0)).setCell ⟨w.heap.size + 1, 2, none⟩ (.slice x2A0 x2n0 x2c0)).setCell ⟨w.heap.size + 1, 3, none⟩ (.int .i64 d.2.2.2.1)).setCell ⟨w.heap.size + 1, 4, none⟩ (.int .i64 d.2.2.2.2.1)).setCell ⟨w.heap.size + 1, 5, none⟩ (.int .i64 d.2.2.2.2.2))).cell? ⟨w.heap.size + 1, 0, none⟩ = some (.slice x0A0 x0n0 x0c0) := (CpS.fin (CpS.fin (CpS.fin (CpS.fin (CpS.fin (CpS.fin cp0 0 (.slice x0A0 x0n0 x0c0)) 1 (.slice x1A0 x1n0 x1c0)) 2 (.slice x2A0 x2n0 x2c0)) 3 (.int .i64 d.2.2.2.1)) 4 (.int .i64 d.2.2.2.2.1)) 5 (.int .i64 d.2.2.2.2.2)).res.cell 0
 rw [HW2.out] at u0
 have u1 : (((((((w6.setCell ⟨w.heap.size + 1, 0, none⟩ (.slice x0A0 x0n0 x0c0)).setCell ⟨w.heap.size + 1, 1, none⟩ (.slice x1A0 x1n0 x1c0)).setCell ⟨w.heap.size + 1, 2, none⟩ (.slice x2A0 x2n0 x2c0)).setCell ⟨w.heap.size + 1, 3, none⟩ (.int .i64 d.2.2.2.1)).setCell ⟨w.heap.size + 1, 4, none⟩ (.int .i64 d.2.2.2.2.1)).setCell ⟨w.heap.size + 1, 5, none⟩ (.int .i64 d.2.2.2.2.2))).cell? ⟨w.heap.size + 1, 1, none⟩ = some (.slice x1A0 x1n0 x1c0) := (CpS.fin (CpS.fin (CpS.fin (CpS.fin (CpS.fin (CpS.fin cp0 0 (.slice x0A0 x0n0 x0c0)) 1 (.slice x1A0 x1n0 x1c0)) 2 (.slice x2A0 x2n0 x2c0)) 3 (.int .i64 d.2.2.2.1)) 4 (.int .i64 d.2.2.2.2.1)) 5 (.int .i64 d.2.2.2.2.2)).res.cell 1
 rw [HW2.out] at u1
 have u2 : (((((((w6.setCell ⟨w.heap.size + 1, 0, none⟩ (.slice x0A0 x0n0 x0c0)).setCell ⟨w.heap.size + 1, 1, none⟩ (.slice x1A0 x1n0 x1c0)).setCell ⟨w.heap.size + 1, 2, none⟩ (.slice x2A0 x2n0 x2c0)).setCell ⟨w.heap.size + 1, 3, none⟩ (.int .i64 d.2.2.2.1)).setCell ⟨w.heap.size + 1, 4, none⟩ (.int .i64 d.2.2.2.2.1)).setCell ⟨w.heap.size + 1, 5, none⟩ (.int .i64 d.2.2.2.2.2))).cell? ⟨w.heap.size + 1, 2, none⟩ = some (.slice x2A0 x2n0 x2c0) := (CpS.fin (CpS.fin (CpS.fin (CpS.fin (CpS.fin (CpS.fin cp0 0 (.slice x0A0 x0n0 x0c0)) 1 (.slice x1A0 x1n0 x1c0)) 2 (.slice x2A0 x2n0 x2c0)) 3 (.int .i64 d.2.2.2.1)) 4 (.int .i64 d.2.2.2.2.1)) 5 (.int .i64 d.2.2.2.2.2)).res.cell 2
 rw [HW2.out] at u2
 have u3 : (((((((w6.setCell ⟨w.heap.size + 1, 0, none⟩ (.slice x0A0 x0n0 x0c0)).setCell ⟨w.heap.size + 1, 1, none⟩ (.slice x1A0 x1n0 x1c0)).setCell ⟨w.heap.size + 1, 2, none⟩ (.slice x2A0 x2n0 x2c0)).setCell ⟨w.heap.size + 1, 3, none⟩ (.int .i64 d.2.2.2.1)).setCell ⟨w.heap.size + 1, 4, none⟩ (.int .i64 d.2.2.2.2.1)).setCell ⟨w.heap.size + 1, 5, none⟩ (.int .i64 d.2.2.2.2.2))).cell? ⟨w.heap.size + 1, 3, none⟩ = some (.int .i64 d.2.2.2.1) := (CpS.fin (CpS.fin (CpS.fin (CpS.fin (CpS.fin (CpS.fin cp0 0 (.slice x0A0 x0n0 x0c0)) 1 (.slice x1A0 x1n0 x1c0)) 2 (.slice x2A0 x2n0 x2c0)) 3 (.int .i64 d.2.2.2.1)) 4 (.int .i64 d.2.2.2.2.1)) 5 (.int .i64 d.2.2.2.2.2)).res.cell 3
 rw [HW2.out] at u3
 have u4 : (((((((w6.setCell ⟨w.heap.size + 1, 0, none⟩ (.slice x0A0 x0n0 x0c0)).setCell ⟨w.heap.size + 1, 1, none⟩ (.slice x1A0 x1n0 x1c0)).setCell ⟨w.heap.size + 1, 2, none⟩ (.slice x2A0 x2n0 x2c0)).setCell ⟨w.heap.size + 1, 3, none⟩ (.int .i64 d.2.2.2.1)).setCell ⟨w.heap.size + 1, 4, none⟩ (.int .i64 d.2.2.2.2.1)).setCell ⟨w.heap.size + 1, 5, none⟩ (.int .i64 d.2.2.2.2.2))).cell? ⟨w.heap.size + 1, 4, none⟩ = some (.int .i64 d.2.2.2.2.1) := (CpS.fin (CpS.fin (CpS.fin (CpS.fin (CpS.fin (CpS.fin cp0 0 (.slice x0A0 x0n0 x0c0)) 1 (.slice x1A0 x1n0 x1c0)) 2 (.slice x2A0 x2n0 x2c0)) 3 (.int .i64 d.2.2.2.1)) 4 (.int .i64 d.2.2.2.2.1)) 5 (.int .i64 d.2.2.2.2.2)).res.cell 4
 rw [HW2.out] at u4
 have u5 : (((((((w6.setCell ⟨w.heap.size + 1, 0, none⟩ (.slice x0A0 x0n0 x0c0)).setCell ⟨w.heap.size + 1, 1, none⟩ (.slice x1A0 x1n0 x1c0)).setCell ⟨w.heap.size + 1, 2, none⟩ (.slice x2A0 x2n0 x2c0)).setCell ⟨w.heap.size + 1, 3, none⟩ (.int .i64 d.2.2.2.1)).setCell ⟨w.heap.size + 1, 4, none⟩ (.int .i64 d.2.2.2.2.1)).setCell ⟨w.heap.size + 1, 5, none⟩ (.int .i64 d.2.2.2.2.2))).cell? ⟨w.heap.size + 1, 5, none⟩ = some (.int .i64 d.2.2.2.2.2) := (CpS.fin (CpS.fin (CpS.fin (CpS.fin (CpS.fin (CpS.fin cp0 0 (.slice x0A0 x0n0 x0c0)) 1 (.slice x1A0 x1n0 x1c0)) 2 (.slice x2A0 x2n0 x2c0)) 3 (.int .i64 d.2.2.2.1)) 4 (.int .i64 d.2.2.2.2.1)) 5 (.int .i64 d.2.2.2.2.2)).res.cell 5
 rw [HW2.out] at u5
 rw [HW2.out] at F
 have HF := Lib.hid F
 clear F oo cp0 o0 o1 o2
 go_wp2
 exact bodyPost_ret (v := .agg #[.slice x0A0 x0n0 x0c0, .slice x1A0 x1n0 x1c0, .slice x2A0 x2n0 x2c0, .int .i64 d.2.2.2.1, .int .i64 d.2.2.2.2.1, .int .i64 d.2.2.2.2.2]) (by simp [results, Try.results31, go_sem, u0, u1, u2, u3, u4, u5]) rfl HF.out
set_option maxHeartbeats 2000000 in
theorem eqK_Peak (v0 v1 v2 u0 u1 u2 : Value) (d : Dat sPeak) (w : World) (h : Rd w w.heap.size sPeak [v0, v1, v2, .int .i64 d.2.2.2.1, .int .i64 d.2.2.2.2.1, .int .i64 d.2.2.2.2.2] d) (h' : Rd w w.heap.size sPeak [u0, u1, u2, .int .i64 d.2.2.2.1, .int .i64 d.2.2.2.2.1, .int .i64 d.2.2.2.2.2] d) (hz : sz sPeak d ≤ 1048576) :
  Calls Try.prog 21 #[.agg #[v0, v1, v2, .int .i64 d.2.2.2.1, .int .i64 d.2.2.2.2.1, .int .i64 d.2.2.2.2.2], .agg #[u0, u1, u2, .int .i64 d.2.2.2.1, .int .i64 d.2.2.2.2.1, .int .i64 d.2.2.2.2.2]] w (Yes w) := by
 obtain ⟨g0, g1, g2, g3, g4, g5⟩ := parts_Peak h
 obtain ⟨g0', g1', g2', g3', g4', g5'⟩ := parts_Peak h'
 obtain ⟨W, hW⟩ : ∃ W, W = (w.alloc (.cells #[v0, v1, v2, .int .i64 d.2.2.2.1, .int .i64 d.2.2.2.2.1, .int .i64 d.2.2.2.2.2] 41)).alloc (.cells #[u0, u1, u2, .int .i64 d.2.2.2.1, .int .i64 d.2.2.2.2.1, .int .i64 d.2.2.2.2.2] 41) := ⟨_, rfl⟩
 have ra : Row W w.heap.size 41 #[v0, v1, v2, .int .i64 d.2.2.2.1, .int .i64 d.2.2.2.2.1, .int .i64 d.2.2.2.2.2] := by rw [hW]; exact (Row.new w 41 #[v0, v1, v2, .int .i64 d.2.2.2.1, .int .i64 d.2.2.2.2.1, .int .i64 d.2.2.2.2.2]).alloc _
 have rb : Row W (w.heap.size + 1) 41 #[u0, u1, u2, .int .i64 d.2.2.2.1, .int .i64 d.2.2.2.2.1, .int .i64 d.2.2.2.2.2] := by rw [hW]; have := Row.new (w.alloc (.cells #[v0, v1, v2, .int .i64 d.2.2.2.1, .int .i64 d.2.2.2.2.1, .int .i64 d.2.2.2.2.2] 41)) 41 #[u0, u1, u2, .int .i64 d.2.2.2.1, .int .i64 d.2.2.2.2.1, .int .i64 d.2.2.2.2.2]; simpa using this
 have bel : Below w.heap.size w W := by rw [hW]; exact ((Below.refl _ _).alloc (Nat.le_refl _) _).alloc (by simp) _
 have HW := Lib.hid hW
 have G0 := Lib.hid g0
 have G0' := Lib.hid g0'
 have Z0 : Hid (sz sI d.1 ≤ 1048576) := Lib.hid (by have := hz; simp only [sz] at this ⊢; omega)
 have G1 := Lib.hid g1
 have G1' := Lib.hid g1'
 have Z1 : Hid (sz sI d.2.1 ≤ 1048576) := Lib.hid (by have := hz; simp only [sz] at this ⊢; omega)
 have G2 := Lib.hid g2
 have G2' := Lib.hid g2'
 have Z2 : Hid (sz sI d.2.2.1 ≤ 1048576) := Lib.hid (by have := hz; simp only [sz] at this ⊢; omega)
 clear hW hz h h' g0 g0' g1 g1' g2 g2' g3 g3' g4 g4' g5 g5'
 go_enter Try.func21, Try.ntmps21
 go_wp2_with fail
 rw [← HW.out]
 refine (eqK_ints _ _ _ W (G0.out.next bel) (G0'.out.next bel) Z0.out).mono ?_
 rintro e w1 ⟨rfl, bb⟩
 replace ra := ra.next bb
 replace rb := rb.next bb
 replace bel := next_trans bel bb
 clear bb
 have a1_0 : w1.cell? ⟨w.heap.size, 1, none⟩ = some (v1) := ra.cell 1
 have b1_0 : w1.cell? ⟨w.heap.size + 1, 1, none⟩ = some (u1) := rb.cell 1
 go_wp2_with fail
 clear a1_0 b1_0
 refine (eqK_ints _ _ _ w1 (G1.out.next bel) (G1'.out.next bel) Z1.out).mono ?_
 rintro e w2 ⟨rfl, bb⟩
 replace ra := ra.next bb
 replace rb := rb.next bb
 replace bel := next_trans bel bb
 clear bb
 have a2_0 : w2.cell? ⟨w.heap.size, 2, none⟩ = some (v2) := ra.cell 2
 have b2_0 : w2.cell? ⟨w.heap.size + 1, 2, none⟩ = some (u2) := rb.cell 2
 go_wp2_with fail
 clear a2_0 b2_0
 refine (eqK_ints _ _ _ w2 (G2.out.next bel) (G2'.out.next bel) Z2.out).mono ?_
 rintro e w3 ⟨rfl, bb⟩
 replace ra := ra.next bb
 replace rb := rb.next bb
 replace bel := next_trans bel bb
 clear bb
 have a5_0 : w3.cell? ⟨w.heap.size, 5, none⟩ = some (.int .i64 d.2.2.2.2.2) := ra.cell 5
 have b5_0 : w3.cell? ⟨w.heap.size + 1, 5, none⟩ = some (.int .i64 d.2.2.2.2.2) := rb.cell 5
 have a4_0 : w3.cell? ⟨w.heap.size, 4, none⟩ = some (.int .i64 d.2.2.2.2.1) := ra.cell 4
 have b4_0 : w3.cell? ⟨w.heap.size + 1, 4, none⟩ = some (.int .i64 d.2.2.2.2.1) := rb.cell 4
 have a3_0 : w3.cell? ⟨w.heap.size, 3, none⟩ = some (.int .i64 d.2.2.2.1) := ra.cell 3
 have b3_0 : w3.cell? ⟨w.heap.size + 1, 3, none⟩ = some (.int .i64 d.2.2.2.1) := rb.cell 3
 have F : Yes w (.returned (.bool true)) w3 := ⟨rfl, bel⟩
 have HF := Lib.hid F
 clear F ra rb bel
 go_wp2
 go_ret
 exact HF.out
end kindsP
end
section
namespace peakSame
open Go.RowKit base ints sig term termOk marks app sym segs segsHelp kinds same shape kindsR kindsP varsOf ruleMath ruleSpec ruleImpl
set_option maxRecDepth 100000
theorem rd_peak {w : World} {B : Nat} {v0 v1 v2 : Value} {p : Dat sPeak} (h : Rd w B sPeak [v0, v1, v2, .int .i64 p.2.2.2.1, .int .i64 p.2.2.2.2.1, .int .i64 p.2.2.2.2.2] p) (hz : sz sPeak p ≤ 1048576) :
  ∃ A n c A' n' c' A2 n2 c2, v0 = .slice A n c ∧ v1 = .slice A' n' c' ∧ v2 = .slice A2 n2 c2 ∧ Seg w B A n p.1 ∧ Seg w B A' n' p.2.1 ∧ Seg w B A2 n2 p.2.2.1 ∧ n ≤ 1048576 ∧ n' ≤ 1048576 ∧ n2 ≤ 1048576 := by
 obtain ⟨g0, g1, g2, -⟩ := parts_Peak h
 have hz0 : sz sI p.1 + (sz sI p.2.1 + (sz sI p.2.2.1 + (0 + (0 + 0)))) ≤ 1048576 := hz
 obtain ⟨A, n, c, rfl, hA, -⟩ := rd_ints.1 g0
 obtain ⟨A', n', c', rfl, hA', -⟩ := rd_ints.1 g1
 obtain ⟨A2, n2, c2, rfl, hA2, -⟩ := rd_ints.1 g2
 exact ⟨A, n, c, A', n', c', A2, n2, c2, rfl, rfl, rfl, hA, hA', hA2, len_ints hA.1 (by omega), len_ints hA'.1 (by omega), len_ints hA2.1 (by omega)⟩
end peakSame
end
section
namespace stepsMath
open sig term termOk termFacts ruleMath stepMath walkMath
section
variable {sg : List Int} {rs : List Rl} {t : List Int} {i k : Nat}
end
def rdN (sg : List Int) (rs : List Rl) (t : List Int) (i k : Nat) : Nat := ((List.range i).map fun a => rs.countP fun x => redB sg x t a).sum + (rs.take k).countP fun x => redB sg x t i
section
variable {sg : List Int} {rs : List Rl} {t : List Int} {i k : Nat}
theorem rd_zero : rdN sg rs t 0 0 = 0 := rfl
end
end stepsMath
end
section
namespace dice
open Go.RowKit base ints cursor
section
variable {w w' : World} {p : Nat} {A : Option Addr} {n c i : Nat} {h : Int}
end
end dice
end
section
namespace drawSig
open Go.RowKit base ints sig cursor marks app sym dice
set_option maxRecDepth 100000
section
variable {w : World} {p : Nat} {A : Option Addr} {n c v : Nat} {wr : World} {O : Option Addr} {on oc : Nat} {xs : List Int}
end
end drawSig
end
section
namespace drawTerm
open Go.RowKit base ints sig term cursor marks app sym dice drawSig
set_option maxRecDepth 100000
def Rd (w : World) (p B : Nat) (A : Option Addr) (n : Nat) (xs : List Int) : Prop :=
 xs.length = n ∧ (0 < n → ∃ b off, A = some ⟨b, off, none⟩ ∧ b < B ∧ b ≠ p ∧ ∀ j, j < n → w.cell? ⟨b, off + j, none⟩ = some (.int .i64 (xs.getD j 0)))
theorem Rd.more {w : World} {p B B' : Nat} {A : Option Addr} {n : Nat} {xs : List Int} (h : Rd w p B A n xs) (hB : B ≤ B') : Rd w p B' A n xs :=
 ⟨h.1, fun hn => by obtain ⟨b, off, e, hb, hne, hc⟩ := h.2 hn; exact ⟨b, off, e, by omega, hne, hc⟩⟩
theorem Rd.keep {w w' : World} {p B : Nat} {A : Option Addr} {n : Nat} {xs : List Int} (h : Rd w p B A n xs) (hk : ∀ q : Addr, q.block < B → q.block ≠ p → w'.cell? q = w.cell? q) : Rd w' p B A n xs :=
 ⟨h.1, fun hn => by obtain ⟨b, off, e, hb, hne, hc⟩ := h.2 hn; exact ⟨b, off, e, hb, hne, fun j hj => (hk ⟨b, off + j, none⟩ hb hne).trans (hc j hj)⟩⟩
theorem Rd.below {w w' : World} {p B B' : Nat} {A : Option Addr} {n : Nat} {xs : List Int} (h : Rd w p B A n xs) (hb : Below B' w w') (hB : B ≤ B') : Rd w' p B A n xs :=
 h.keep fun q hq _ => hb.cell (by omega)
theorem Rd.seg {w : World} {p B : Nat} {A : Option Addr} {n : Nat} {xs : List Int} (h : Rd w p B A n xs) : Seg w B A n xs :=
 ⟨h.1, fun hn => by obtain ⟨b, off, e, hb, _, hc⟩ := h.2 hn; exact ⟨b, off, e, hb, hc⟩⟩
section
variable {w : World} {p : Nat} {A : Option Addr} {n c : Nat} {S : Option Addr} {sn sc : Nat} {sg : List Int} {wr w' : World}
end
end drawTerm
end
section
namespace drawAny
open Go.RowKit base ints sig term cursor termOk marks app sym dice drawSig drawTerm
set_option maxRecDepth 100000
theorem Own.cap {w : World} {base : Nat} {O : Option Addr} {on oc : Nat} {xs : List Int} (h : Own w base (.slice O on oc) xs) : on ≤ oc ∧ oc ≤ 9223372036854775807 := by
 rcases h.2 with ⟨e, _⟩ | ⟨g, cap, cur, e, _, _, h1, h2, _⟩
 ·injection e with _ e1 e2; omega
 ·injection e with _ e1 e2
  have := Own.len h
  unfold maxLen at h2
  omega
end drawAny
end
section
namespace drawX
open Go.RowKit base ints sig cursor marks app appAt sym segs shape dice
def RdQ (w : World) (Q : Nat → Prop) : (s : Sh) → List Value → Dat s → Prop
 | .num, cs, (x : Int) => cs = [.int .i64 x]
 | .bit, cs, (x : Bool) => cs = [.bool x]
 | .row _ s, cs, (d : List (Dat s)) => ∃ A n c, cs = [.slice A n c] ∧ Cap A n c ∧ d.length = n ∧
   (0 < n → ∃ b off, A = some ⟨b, off, none⟩ ∧ Q b ∧ ∀ j, j < n → ∃ es, es.length = nc s ∧ Piece w b (off + j * nc s) es ∧ RdQ w Q s es (d.getD j (dft s)))
 | .cat a b, cs, d => ∃ ca cb, cs = ca ++ cb ∧ RdQ w Q a ca d.1 ∧ RdQ w Q b cb d.2
section
variable {w w' : World} {Q Q' : Nat → Prop} {B : Nat}
theorem RdQ.keep (hk : ∀ b, Q b → w'.heap[b]? = w.heap[b]?) : ∀ {s : Sh} {cs : List Value} {d : Dat s}, RdQ w Q s cs d → RdQ w' Q s cs d
 | .num, _, _, h => h
 | .bit, _, _, h => h
 | .row _ s, _, _, h => by
  obtain ⟨A, n, c, e, hc, hl, h1⟩ := h
  refine ⟨A, n, c, e, hc, hl, fun hn => ?_⟩
  obtain ⟨b, off, e2, hb, h2⟩ := h1 hn
  refine ⟨b, off, e2, hb, fun j hj => ?_⟩
  obtain ⟨es, he, hp, hr⟩ := h2 j hj
  exact ⟨es, he, hp.keep (fun p hp => World.cell?_of_block (by rw [hp]; exact hk b hb)), hr.keep hk⟩
 | .cat a b, _, _, h => by
  obtain ⟨ca, cb, e, h1, h2⟩ := h
  exact ⟨ca, cb, e, h1.keep hk, h2.keep hk⟩
theorem RdQ.rd (hk : ∀ b, Q b → b < B) : ∀ {s : Sh} {cs : List Value} {d : Dat s}, RdQ w Q s cs d → Rd w B s cs d
 | .num, _, _, h => h
 | .bit, _, _, h => h
 | .row _ s, _, _, h => by
  obtain ⟨A, n, c, e, hc, hl, h1⟩ := h
  refine ⟨A, n, c, e, hc, hl, fun hn => ?_⟩
  obtain ⟨b, off, e2, hb, h2⟩ := h1 hn
  refine ⟨b, off, e2, hk b hb, fun j hj => ?_⟩
  obtain ⟨es, he, hp, hr⟩ := h2 j hj
  exact ⟨es, he, hp, hr.rd hk⟩
 | .cat a b, _, _, h => by
  obtain ⟨ca, cb, e, h1, h2⟩ := h
  exact ⟨ca, cb, e, h1.rd hk, h2.rd hk⟩
theorem RdQ.len : ∀ {s : Sh} {cs : List Value} {d : Dat s}, RdQ w Q s cs d → cs.length = nc s
 | .num, _, _, h => by have h : _ = _ := h; rw [h]; rfl
 | .bit, _, _, h => by have h : _ = _ := h; rw [h]; rfl
 | .row _ _, _, _, h => by obtain ⟨A, n, c, e, _⟩ := h; rw [e]; rfl
 | .cat a b, _, _, h => by
  obtain ⟨ca, cb, e, h1, h2⟩ := h
  rw [e, List.length_append, h1.len, h2.len]; rfl
theorem RdQ.cat {a b : Sh} {ca cb : List Value} {x : Dat a} {y : Dat b} (h1 : RdQ w Q a ca x) (h2 : RdQ w Q b cb y) : RdQ w Q (.cat a b) (ca ++ cb) (x, y) := ⟨ca, cb, rfl, h1, h2⟩
theorem RdQ.one : ∀ {s : Sh} {cs : List Value} {d : Dat s}, RdQ w Q s cs d → ∀ u ∈ cs, u.oneCell' = true
 | .num, _, _, h, u, hu => by have h : _ = _ := h; rw [h] at hu; rw [List.mem_singleton.1 hu]; rfl
 | .bit, _, _, h, u, hu => by have h : _ = _ := h; rw [h] at hu; rw [List.mem_singleton.1 hu]; rfl
 | .row _ _, _, _, h, u, hu => by obtain ⟨A, n, c, e, _⟩ := h; rw [e] at hu; rw [List.mem_singleton.1 hu]; rfl
 | .cat a b, _, _, h, u, hu => by
  obtain ⟨ca, cb, e, h1, h2⟩ := h
  rw [e] at hu
  rcases List.mem_append.1 hu with hu | hu
  ·exact h1.one u hu
  ·exact h2.one u hu
end
def OutR (w : World) (p : Nat) (r : Option Nat) (b : Nat) : Prop := b < w.heap.size ∧ b ≠ p ∧ some b ≠ r
section
variable {w w' : World} {p : Nat} {r : Option Nat} {s : Sh} {cs : List Value} {d : Dat s}
end
def cellsOf (k : Nat) (vs : List Value) (j : Nat) : List Value := (vs.drop (j * k)).take k
def OwnQ (w : World) (p lo : Nat) (e : TypeId) (s : Sh) (A : Option Addr) (n c : Nat) (D : List (Dat s)) : Prop :=
 D.length = n ∧ ∃ vs : List Value, w.ownsRow lo e (nc s) (.slice A n c) n vs ∧ ∀ j, j < n → RdQ w (OutR w p (blk A)) s (cellsOf (nc s) vs j) (D.getD j (dft s))
section
variable {w w' : World} {p lo n c : Nat} {e : TypeId} {s : Sh} {A : Option Addr} {D : List (Dat s)}
theorem OwnQ.nil (w : World) (p lo : Nat) (e : TypeId) (s : Sh) : OwnQ w p lo e s none 0 0 [] := ⟨rfl, [], ⟨by simp, .inl ⟨rfl, rfl⟩⟩, fun j hj => absurd hj (Nat.not_lt_zero _)⟩
end
end drawX
end
section
namespace ownL
open Go.RowKit base ints sig cursor marks app appAt sym segs shape drawX
set_option maxRecDepth 100000
theorem Ow.one {w : World} : ∀ {s : Sh} {cs : List Value} {d : Dat s} {F : List Nat}, Ow w s cs d F → ∀ u ∈ cs, u.oneCell' = true
 | .num, _, _, _, h, u, hu => by have h : _ = _ ∧ _ := h; rw [h.1] at hu; rw [List.mem_singleton.1 hu]; rfl
 | .bit, _, _, _, h, u, hu => by have h : _ = _ ∧ _ := h; rw [h.1] at hu; rw [List.mem_singleton.1 hu]; rfl
 | .row _ _, _, _, _, h, u, hu => by obtain ⟨A, n, c, e, _⟩ := h; rw [e] at hu; rw [List.mem_singleton.1 hu]; rfl
 | .cat a b, _, _, _, h, u, hu => by
  obtain ⟨ca, cb, Fa, Fb, e, _, h1, h2⟩ := h
  rw [e] at hu
  rcases List.mem_append.1 hu with hu | hu
  ·exact Ow.one h1 u hu
  ·exact Ow.one h2 u hu
def OwnL (w : World) (lo hi : Nat) (e : TypeId) (s : Sh) (A : Option Addr) (n c : Nat) (D : List (Dat s)) : Prop :=
 D.length = n ∧ (∀ k, blk A = some k → k < hi) ∧ ∃ (vs : List Value) (G : Nat → List Nat), w.ownsRow lo e (nc s) (.slice A n c) n vs ∧ (A = none → c = 0) ∧ ((List.range n).flatMap G).Nodup ∧
  ∀ j, j < n → Ow w s (cellsOf (nc s) vs j) (D.getD j (dft s)) (G j) ∧ ∀ q ∈ G j, lo ≤ q ∧ q < hi ∧ some q ≠ blk A
section
variable {w w' : World} {lo hi n c : Nat} {e : TypeId} {s : Sh} {A : Option Addr} {D : List (Dat s)}
theorem OwnL.nil (w : World) (lo hi : Nat) (e : TypeId) (s : Sh) : OwnL w lo hi e s none 0 0 [] := ⟨rfl, (fun k hk => by cases hk), [], fun _ => [], ⟨by simp, .inl ⟨rfl, rfl⟩⟩, fun _ => rfl, by simp, fun j hj => absurd hj (Nat.not_lt_zero _)⟩
theorem OwnL.keep (h : OwnL w lo hi e s A n c D) (hk : ∀ k, lo ≤ k → k < hi → k < w.heap.size → w'.heap[k]? = w.heap[k]?) (hs : w.heap.size ≤ w'.heap.size) : OwnL w' lo hi e s A n c D := by
 obtain ⟨h1, h2, vs, G, h3, h4, h5, h6⟩ := h
 refine ⟨h1, h2, vs, G, ?_, h4, h5, fun j hj => ⟨(h6 j hj).1.keep fun q hq => ?_, (h6 j hj).2⟩⟩
 ·refine ⟨h3.1, ?_⟩
  rcases h3.2 with q | ⟨g, cap, cur, e1, hg, hr, q⟩
  ·exact .inl q
  ·have hlt := (Array.getElem?_eq_some_iff.1 hr).1
   injection e1 with e2 e3 e4
   exact .inr ⟨g, cap, cur, by rw [e2, e4], hg, (hk g hg (h2 g (by rw [e2]; rfl)) hlt).trans hr, q⟩
 ·have := (h6 j hj).2 q hq
  exact hk q this.1 this.2.1 ((h6 j hj).1.lt q hq)
theorem OwnL.next (h : OwnL w lo hi e s A n c D) (hb : Below w.heap.size w w') : OwnL w' lo hi e s A n c D := h.keep (fun k _ _ hk => hb.block k hk) hb.size
theorem OwnL.owned (h : OwnL w lo hi e s A n c D) : Owned w lo hi (.row e s) [.slice A n c] D := by
 obtain ⟨h1, h2, vs, G, h3, h4, h5, h6⟩ := h
 rcases h3.2 with ⟨e1, h0⟩ | ⟨g, cap, cur, e1, hg, hrow, hn, hm, hs, ht⟩
 ·injection e1 with a1 a2 a3
  subst a1 a2 a3
  exact ⟨[], ⟨none, 0, 0, rfl, h1, .inl ⟨rfl, rfl, rfl, rfl⟩⟩, by simp, fun k hk => by cases hk⟩
 ·injection e1 with a1 a2 a3
  subst a1 a3
  have hl : vs.length = n * nc s := h3.1
  refine ⟨g :: (List.range n).flatMap G, ⟨_, n, c, rfl, h1, .inr ⟨g, cur, cellsOf (nc s) vs, G, rfl, hrow, hn, by unfold maxLen at hm; omega, hs, rfl, fun j hj => ?_⟩⟩, List.nodup_cons.2 ⟨fun hb => ?_, h5⟩, fun k hk => ?_⟩
  ·have hjn : j * nc s + nc s ≤ n * nc s := by
    have := Nat.mul_le_mul_right (nc s) (show j + 1 ≤ n by omega)
    rw [Nat.add_mul] at this
    omega
   refine ⟨(h6 j hj).1.len, fun i hi => ?_, (h6 j hj).1⟩
   have h7 : cur.toList[j * nc s + i]? = vs[j * nc s + i]? := by rw [← ht, List.getElem?_take, if_pos (by omega)]
   rw [← Array.getElem?_toList, h7]
   unfold cellsOf
   rw [List.getElem?_take, if_pos hi, List.getElem?_drop]
  ·obtain ⟨j, hj, hb⟩ := List.mem_flatMap.1 hb
   exact ((h6 j (List.mem_range.1 hj)).2 g hb).2.2 rfl
  ·rcases List.mem_cons.1 hk with hk | hk
   ·rw [hk]; exact ⟨hg, h2 g rfl⟩
   ·obtain ⟨j, hj, hb⟩ := List.mem_flatMap.1 hk
    have := (h6 j (List.mem_range.1 hj)).2 k hb
    exact ⟨this.1, this.2.1⟩
theorem OwnL.rd (h : OwnL w lo hi e s A n c D) : Rd w w.heap.size (.row e s) [.slice A n c] D := h.owned.rd
end
end ownL
end
section
namespace stepSpec
open Go.RowKit base ints sig term termOk endAt endOf marks app sym sub segs segsHelp kinds termFacts shifted matchMath matchSpec shape kindsR kindsW ruleMath ruleSpec stepMath walkMath stepsMath ownL
set_option maxRecDepth 100000
structure Sn (w : World) (A V : Option Addr) (n cs q cv : Nat) (L : List St) (O : Option Addr) (on oc : Nat) (wr : World) : Prop where
 r : Row wr w.heap.size 33 #[.slice A n cs, .slice V q cv]
 o : OwnL wr (w.heap.size + 1) wr.heap.size 97 sStep O on oc L
 b : Below w.heap.size w wr
theorem Sn.len {w wr : World} {A V : Option Addr} {n cs q cv : Nat} {L : List St} {O : Option Addr} {on oc : Nat} (h : Sn w A V n cs q cv L O on oc wr) : L.length = on := h.o.1
end stepSpec
end
section
namespace peakSpec
open Go.RowKit base ints sig term termOk endAt marks app sym pathSpec place segs segsHelp kinds termFacts same shape kindsR kindsP varsOf shifted ruleMath ruleSpec stepMath walkMath stepSpec peakMath peakSame
set_option maxRecDepth 100000
theorem specRule (a : Value) (V : Option Addr) (q cv : Nat) (r : Int) (w : World) (hq : q ≤ 1048576) :
  Calls Try.prog 42 #[.agg #[a, .slice V q cv], .int .i64 r] w (AnsB w (walkMath.inB r q)) := by
 obtain ⟨W, hW, rA, bel⟩ := box1 w 33 #[a, .slice V q cv]
 have HW := Lib.hid hW
 have K1 : (w.alloc (.cells #[a, .slice V q cv] 33)).cell? ⟨w.heap.size, 1, none⟩ = some (.slice V q cv) := by rw [← hW]; exact rA.cell 1
 by_cases h : 0 ≤ r ∧ r ≤ (q : Int) - 1
 ·have F := Lib.hid (ansB (b := walkMath.inB r q) (a := true) (by unfold walkMath.inB; rw [decide_eq_true (by omega)]) bel)
  have L := Lib.hid (inYes r 0 ((q : Int) - 1) W h)
  clear hW rA bel
  go_enter Try.func42, Try.ntmps42
  go_wp2_with fail
  rw [← HW.out]
  refine L.out.mono ?_
  rintro e w1 ⟨rfl, rfl⟩
  go_wp2
  go_ret
  exact F.out
 ·have F := Lib.hid (ansB (b := walkMath.inB r q) (a := false) (by unfold walkMath.inB; rw [decide_eq_false (by omega)]) bel)
  have L := Lib.hid (inNo r 0 ((q : Int) - 1) W h)
  clear hW rA bel
  go_enter Try.func42, Try.ntmps42
  go_wp2_with fail
  rw [← HW.out]
  refine L.out.mono ?_
  rintro e w1 ⟨rfl, rfl⟩
  go_wp2
  go_ret
  exact F.out
theorem sym_no1 {t : List Int} {a : Int} (h : ¬ (0 ≤ a ∧ a ≤ (t.length : Int) - 1)) : symAt t a = false := by unfold symAt; exact decide_eq_false (by omega)
theorem sym_no2 {t : List Int} {a : Nat} (h : t.getD a 0 < 0) : symAt t (a : Int) = false := by unfold symAt; rw [Int.toNat_natCast]; exact decide_eq_false (by omega)
theorem sym_yes {t : List Int} {a : Nat} (h : a < t.length) (h' : ¬ t.getD a 0 < 0) : symAt t (a : Int) = true := by unfold symAt; rw [Int.toNat_natCast]; exact decide_eq_true (by omega)
set_option maxHeartbeats 2000000 in
theorem specPeakC (A V T0 T1 T2 : Option Addr) (n cs q cv tn tc un uc yn yc : Nat) (d : Dat sSystem) (t0 t1 t2 : List Int) (xa xu xo : Int) (w : World) (h : Rd w w.heap.size sSystem [.slice A n cs, .slice V q cv] d) (g0 : Rd w w.heap.size sI [.slice T0 tn tc] t0) (s0 : Seg w w.heap.size T0 tn t0) (s1 : Seg w w.heap.size T1 un t1) (s2 : Seg w w.heap.size T2 yn t2) (hz : sz sSystem d ≤ 1048576) (z0 : sz sI t0 ≤ 1048576) (b0 : tn ≤ 1048576) (b1 : un ≤ 1048576) (b2 : yn ≤ 1048576) :
  Calls Try.prog 35 #[.agg #[.slice A n cs, .slice V q cv], .agg #[.slice T0 tn tc, .slice T1 un uc, .slice T2 yn yc, .int .i64 xa, .int .i64 xu, .int .i64 xo]] w (AnsB w (peakB d.1 d.2 (t0, t1, t2, xa, xu, xo))) := by
 obtain ⟨W, hW, rS, rP, bel⟩ := box2 w 33 41 #[.slice A n cs, .slice V q cv] #[.slice T0 tn tc, .slice T1 un uc, .slice T2 yn yc, .int .i64 xa, .int .i64 xu, .int .i64 xo]
 have HW := Lib.hid hW
 have LS := Lib.hid (specSystemOk _ _ d W (h.next bel) hz)
 obtain ⟨A', n', cs', V', q', cv', e1, e2, hs, hc, hcv, hq, hn, hq1, hrs, hsg, hE⟩ := rd_sys h hz
 injection e1 with e1 e3 e4
 injection e2 with e2 e5 e6
 subst e1 e3 e4 e2 e5 e6
 have LR := Lib.hid (fun (r : Int) (w1 : World) => specRule (.slice A n cs) V q cv r w1 hq1)
 have RAW := Lib.hid hW
 have a0 : ((w.alloc (.cells #[.slice A n cs, .slice V q cv] 33)).alloc (.cells #[.slice T0 tn tc, .slice T1 un uc, .slice T2 yn yc, .int .i64 xa, .int .i64 xu, .int .i64 xo] 41)).cell? ⟨w.heap.size, 0, none⟩ = some (.slice A n cs) := by rw [← hW]; exact rS.cell 0
 have a1 : ((w.alloc (.cells #[.slice A n cs, .slice V q cv] 33)).alloc (.cells #[.slice T0 tn tc, .slice T1 un uc, .slice T2 yn yc, .int .i64 xa, .int .i64 xu, .int .i64 xo] 41)).cell? ⟨w.heap.size, 1, none⟩ = some (.slice V q cv) := by rw [← hW]; exact rS.cell 1
 have k0 : ((w.alloc (.cells #[.slice A n cs, .slice V q cv] 33)).alloc (.cells #[.slice T0 tn tc, .slice T1 un uc, .slice T2 yn yc, .int .i64 xa, .int .i64 xu, .int .i64 xo] 41)).cell? ⟨w.heap.size + 1, 0, none⟩ = some (.slice T0 tn tc) := by rw [← hW]; exact rP.cell 0
 have k1 : ((w.alloc (.cells #[.slice A n cs, .slice V q cv] 33)).alloc (.cells #[.slice T0 tn tc, .slice T1 un uc, .slice T2 yn yc, .int .i64 xa, .int .i64 xu, .int .i64 xo] 41)).cell? ⟨w.heap.size + 1, 1, none⟩ = some (.slice T1 un uc) := by rw [← hW]; exact rP.cell 1
 have k2 : ((w.alloc (.cells #[.slice A n cs, .slice V q cv] 33)).alloc (.cells #[.slice T0 tn tc, .slice T1 un uc, .slice T2 yn yc, .int .i64 xa, .int .i64 xu, .int .i64 xo] 41)).cell? ⟨w.heap.size + 1, 2, none⟩ = some (.slice T2 yn yc) := by rw [← hW]; exact rP.cell 2
 have k3 : ((w.alloc (.cells #[.slice A n cs, .slice V q cv] 33)).alloc (.cells #[.slice T0 tn tc, .slice T1 un uc, .slice T2 yn yc, .int .i64 xa, .int .i64 xu, .int .i64 xo] 41)).cell? ⟨w.heap.size + 1, 3, none⟩ = some (.int .i64 xa) := by rw [← hW]; exact rP.cell 3
 have k4 : ((w.alloc (.cells #[.slice A n cs, .slice V q cv] 33)).alloc (.cells #[.slice T0 tn tc, .slice T1 un uc, .slice T2 yn yc, .int .i64 xa, .int .i64 xu, .int .i64 xo] 41)).cell? ⟨w.heap.size + 1, 4, none⟩ = some (.int .i64 xu) := by rw [← hW]; exact rP.cell 4
 have k5 : ((w.alloc (.cells #[.slice A n cs, .slice V q cv] 33)).alloc (.cells #[.slice T0 tn tc, .slice T1 un uc, .slice T2 yn yc, .int .i64 xa, .int .i64 xu, .int .i64 xo] 41)).cell? ⟨w.heap.size + 1, 5, none⟩ = some (.int .i64 xo) := by rw [← hW]; exact rP.cell 5
 clear hW RAW
 cases ok : sysOkB d.1 d.2 with
 | false =>
  have HS := Lib.hid ok
  clear h g0 s0 s1 s2 hs hc hcv hq hrs hsg hE
  go_enter Try.func35, Try.ntmps35
  go_wp2_with fail
  rw [← HW.out]
  refine LS.out.mono ?_
  rintro e w1 ⟨he, bb⟩
  rw [HS.out] at he
  subst he
  have F := Lib.hid (ansB (b := peakB d.1 d.2 (t0, t1, t2, xa, xu, xo)) (a := false) (peak_sys ok).symm (next_trans bel bb))
  clear bb bel rS rP LS LR ok k0 k1 k2 k3 k4 k5 a0 a1
  go_wp2
  go_ret
  exact F.out
 | true =>
  have HS := Lib.hid ok
  have LST := Lib.hid (fun (w1 : World) (bb : Below w.heap.size w w1) (x r : Int) => specStepAt0 (.slice A n cs) (.slice V q cv) (.slice T0 tn tc) d t0 x r w1 (h.next bb) (g0.next bb) hz z0)
  have H0 := Lib.hid s0
  have H1 := Lib.hid s1
  have H2 := Lib.hid s2
  have HA := Lib.hid hs
  have PARTS : Hid (walkMath.inB xo q = true → ∃ (k : Nat) (b off : Nat) (L : Option Addr) (ln lc : Nat) (y : List Int), xo = (k : Int) ∧ k < q ∧ V = some ⟨b, off, none⟩ ∧ b < w.heap.size ∧ w.cell? ⟨b, off + k * 2, none⟩ = some (.slice L ln lc) ∧ Seg w w.heap.size L ln y ∧ ln ≤ 1048576 ∧ lhsI d.2 (k : Int) = y) := Lib.hid (fun hb => by
   have hkk : 0 ≤ xo ∧ xo < (q : Int) := of_decide_eq_true hb
   obtain ⟨k, rfl⟩ := Int.eq_ofNat_of_zero_le hkk.1
   obtain ⟨b, off, l, r, y, rfl, hb, ex, c0, -, hy⟩ := rd_at hrs (Below.refl _ _) hq (show k < q by omega)
   have hzy : sz sRule y ≤ 1048576 := by rw [← ex.out]; exact hE k (by omega)
   obtain ⟨L, ln, lc, L', ln', lc', rfl, rfl, sL, qL, -, -, hln, -⟩ := rd_rule hy hzy
   exact ⟨k, b, off, L, ln, lc, y.1, rfl, by omega, rfl, hb, c0, sL, hln, by unfold lhsI; rw [Int.toNat_natCast, ex.out]⟩)
  have HQ := Lib.hid hq
  clear ok h g0 s0 s1 s2 hs hc hcv hq hrs hsg hE
  obtain ⟨bo, hbo⟩ : ∃ z, walkMath.inB xo q = z := ⟨_, rfl⟩
  obtain ⟨bu, hbu⟩ : ∃ z, walkMath.inB xu q = z := ⟨_, rfl⟩
  have LR1 := Lib.hid (fun (w1 : World) => LR.out xo w1)
  have LR2 := Lib.hid (fun (w1 : World) => LR.out xu w1)
  simp only [hbo] at LR1
  simp only [hbu] at LR2
  have HBO := Lib.hid hbo
  have HBU := Lib.hid hbu
  clear LR hbo hbu
  go_enter Try.func35, Try.ntmps35
  go_wp2_with fail
  rw [← HW.out]
  refine LS.out.mono ?_
  rintro e w1 ⟨he, bb⟩
  rw [HS.out] at he
  subst he
  replace rS := rS.next bb
  replace rP := rP.next bb
  replace bel := next_trans bel bb
  clear k0 k1 k2 k3 k4 k5 a0 a1
  have a0 : w1.cell? ⟨w.heap.size, 0, none⟩ = some (.slice A n cs) := rS.cell 0
  have a1 : w1.cell? ⟨w.heap.size, 1, none⟩ = some (.slice V q cv) := rS.cell 1
  have k0 : w1.cell? ⟨w.heap.size + 1, 0, none⟩ = some (.slice T0 tn tc) := rP.cell 0
  have k1 : w1.cell? ⟨w.heap.size + 1, 1, none⟩ = some (.slice T1 un uc) := rP.cell 1
  have k2 : w1.cell? ⟨w.heap.size + 1, 2, none⟩ = some (.slice T2 yn yc) := rP.cell 2
  have k3 : w1.cell? ⟨w.heap.size + 1, 3, none⟩ = some (.int .i64 xa) := rP.cell 3
  have k4 : w1.cell? ⟨w.heap.size + 1, 4, none⟩ = some (.int .i64 xu) := rP.cell 4
  have k5 : w1.cell? ⟨w.heap.size + 1, 5, none⟩ = some (.int .i64 xo) := rP.cell 5
  clear bb LS
  go_wp2_with fail
  refine (LR1.out w1).mono ?_
  rintro e w2 ⟨rfl, bb⟩
  replace rS := rS.next bb
  replace rP := rP.next bb
  replace bel := next_trans bel bb
  clear bb LR1
  cases bo with
  | false =>
   have F := Lib.hid (ansB (b := peakB d.1 d.2 (t0, t1, t2, xa, xu, xo)) (a := false) (peak_may (may_no1 (by rw [HQ.out]; exact HBO.out))).symm bel)
   clear bel rS rP LR2 LST PARTS k0 k1 k2 k3 k4 k5 a0 a1
   go_wp2
   go_ret
   exact F.out
  | true =>
   clear k0 k1 k2 k3 k4 k5 a0 a1
   have a0 : w2.cell? ⟨w.heap.size, 0, none⟩ = some (.slice A n cs) := rS.cell 0
   have a1 : w2.cell? ⟨w.heap.size, 1, none⟩ = some (.slice V q cv) := rS.cell 1
   have k0 : w2.cell? ⟨w.heap.size + 1, 0, none⟩ = some (.slice T0 tn tc) := rP.cell 0
   have k1 : w2.cell? ⟨w.heap.size + 1, 1, none⟩ = some (.slice T1 un uc) := rP.cell 1
   have k2 : w2.cell? ⟨w.heap.size + 1, 2, none⟩ = some (.slice T2 yn yc) := rP.cell 2
   have k3 : w2.cell? ⟨w.heap.size + 1, 3, none⟩ = some (.int .i64 xa) := rP.cell 3
   have k4 : w2.cell? ⟨w.heap.size + 1, 4, none⟩ = some (.int .i64 xu) := rP.cell 4
   have k5 : w2.cell? ⟨w.heap.size + 1, 5, none⟩ = some (.int .i64 xo) := rP.cell 5
   go_wp2_with fail
   refine (LR2.out w2).mono ?_
   rintro e w3 ⟨rfl, bb⟩
   replace rS := rS.next bb
   replace rP := rP.next bb
   replace bel := next_trans bel bb
   clear bb LR2
   cases bu with
   | false =>
    have F := Lib.hid (ansB (b := peakB d.1 d.2 (t0, t1, t2, xa, xu, xo)) (a := false) (peak_may (may_no2 (by rw [HQ.out]; exact HBU.out))).symm bel)
    clear bel rS rP LST PARTS k0 k1 k2 k3 k4 k5 a0 a1
    go_wp2
    go_ret
    exact F.out
   | true =>
    obtain ⟨k, b, off, L, ln, lc, y, hxo, hkq, rfl, hb, cL, sL, hln, hLy⟩ := PARTS.out HBO.out
    have i0 : (0 : Int) ≤ (k : Int) := by omega
    have i1 : (k : Int) < (q : Int) := by omega
    have kl : w3.cell? ⟨b, off + k * 2, none⟩ = some (.slice L ln lc) := (bel.cell (p := ⟨b, off + k * 2, none⟩) hb).trans cL
    have HLN := Lib.hid sL.1
    have HLY := Lib.hid hLy
    have SL := Lib.hid sL
    have HB := Lib.hid hb
    have CL := Lib.hid cL
    subst hxo
    clear hLy sL cL PARTS
    clear k0 k1 k2 k3 k4 k5 a0 a1
    have a0 : w3.cell? ⟨w.heap.size, 0, none⟩ = some (.slice A n cs) := rS.cell 0
    have a1 : w3.cell? ⟨w.heap.size, 1, none⟩ = some (.slice (some ⟨b, off, none⟩) q cv) := rS.cell 1
    have k0 : w3.cell? ⟨w.heap.size + 1, 0, none⟩ = some (.slice T0 tn tc) := rP.cell 0
    have k1 : w3.cell? ⟨w.heap.size + 1, 1, none⟩ = some (.slice T1 un uc) := rP.cell 1
    have k2 : w3.cell? ⟨w.heap.size + 1, 2, none⟩ = some (.slice T2 yn yc) := rP.cell 2
    have k3 : w3.cell? ⟨w.heap.size + 1, 3, none⟩ = some (.int .i64 xa) := rP.cell 3
    have k4 : w3.cell? ⟨w.heap.size + 1, 4, none⟩ = some (.int .i64 xu) := rP.cell 4
    have k5 : w3.cell? ⟨w.heap.size + 1, 5, none⟩ = some (.int .i64 (k : Int)) := rP.cell 5
    by_cases hin : 0 ≤ xa ∧ xa ≤ (ln : Int) - 1
    case neg =>
     have LN := Lib.hid (inNo xa 0 ((ln : Int) - 1) w3 hin)
     have F := Lib.hid (ansB (b := peakB d.1 d.2 (t0, t1, t2, xa, xu, (k : Int))) (a := false) (peak_may (may_no3 (by rw [HLY.out]; exact sym_no1 (by rw [HLN.out]; exact hin)))).symm bel)
     clear hin rS rP LST bel
     go_wp2_with fail
     refine LN.out.mono ?_
     rintro e w4 ⟨rfl, rfl⟩
     go_wp2
     go_ret
     exact F.out
    obtain ⟨ai, rfl⟩ := Int.eq_ofNat_of_zero_le hin.1
    have hal : ai < ln := by omega
    have LY := Lib.hid (inYes (ai : Int) 0 ((ln : Int) - 1) w3 hin)
    obtain ⟨lb, loff, lx, rfl, hlb, cx, ex⟩ := SL.out.spot hal
    have cx3 : w3.cell? ⟨lb, loff + ai, none⟩ = some (.int .i64 lx) := (bel.cell (p := ⟨lb, loff + ai, none⟩) hlb).trans cx
    have j0 : (0 : Int) ≤ (ai : Int) := by omega
    have j1 : (ai : Int) < (ln : Int) := by omega
    clear cx
    by_cases hx : lx < 0
    case pos =>
     have F := Lib.hid (ansB (b := peakB d.1 d.2 (t0, t1, t2, (ai : Int), xu, (k : Int))) (a := false) (peak_may (may_no3 (by rw [HLY.out]; exact sym_no2 (by rw [ex.out]; exact hx)))).symm bel)
     clear hin rS rP LST bel
     go_wp2_with fail
     refine LY.out.mono ?_
     rintro e w4 ⟨rfl, rfl⟩
     go_wp2
     go_ret
     exact F.out
    have HSYM := Lib.hid (sym_yes (t := y) (a := ai) (by rw [HLN.out]; exact hal) (by rw [ex.out]; exact hx))
    by_cases hax : (ai : Int) = 0 ∧ (k : Int) = xu
    case pos =>
     obtain ⟨h1, h2⟩ := hax
     have F := Lib.hid (ansB (b := peakB d.1 d.2 (t0, t1, t2, (ai : Int), xu, (k : Int))) (a := false) (peak_may (may_no4 ⟨h1, h2⟩)).symm bel)
     have E0 : ((ai : Int) == 0) = true := by simp [h1]
     have E1 : ((k : Int) == xu) = true := by simp [h2]
     clear hin rS rP LST bel h1 h2
     go_wp2_with fail
     refine LY.out.mono ?_
     rintro e w4 ⟨rfl, rfl⟩
     go_wp2
     go_ret
     exact F.out
    have HM := Lib.hid (may_yes (rs := d.2) (by rw [HQ.out]; exact HBO.out) (by rw [HQ.out]; exact HBU.out) (by rw [HLY.out]; exact HSYM.out) hax)
    have HPK := Lib.hid (fun hr => peak_yes (p := (t0, t1, t2, (ai : Int), xu, (k : Int))) HS.out HM.out hr)
    have HPN := Lib.hid (fun hr => peak_right (sg := d.1) (rs := d.2) (p := (t0, t1, t2, (ai : Int), xu, (k : Int))) hr)
    have LS1 := Lib.hid (LST.out w3 bel 0 (k : Int))
    obtain ⟨o1, ho1⟩ : ∃ z, stepAtO d.1 d.2 t0 0 (k : Int) = z := ⟨_, rfl⟩
    have HO1 := Lib.hid ho1
    rw [ho1] at LS1
    have HL1 := Lib.hid (show ∀ z, o1 = some z → z.length ≤ 60 from fun z hz => by subst hz; exact step_len (stepAt_parts ho1).2)
    clear ho1
    have hcs : (((ai : Int) == 0) = true ∧ ((k : Int) == xu) = false) ∨ ((ai : Int) == 0) = false := by
     by_cases q : (ai : Int) = 0
     ·exact .inl ⟨by simp [q], by simp; exact fun r => hax ⟨q, r⟩⟩
     ·exact .inr (by simp; omega)
    have HIN := Lib.hid hin
    clear hax hin HSYM HM
    rcases hcs with ⟨hc1, hc2⟩ | hc1
    all_goals
     go_wp2_with fail
     refine LY.out.mono ?_
     rintro e w4 ⟨rfl, rfl⟩
     go_wp2_with fail
     refine LS1.out.mono ?_
     rintro e w5 ⟨X, xn, xc, rfl, oX, bb⟩
     clear hc1 LS1 LY cx3
     try clear hc2
     replace rS := rS.next bb
     replace rP := rP.next bb
     have bel5 := next_trans bel bb
     cases o1 with
     | none =>
      have F := Lib.hid (ansB (b := peakB d.1 d.2 (t0, t1, t2, (ai : Int), xu, (k : Int))) (a := false) (HPN.out (by rw [HO1.out]; intro q; cases q)).symm bel5)
      clear bb bel5 oX rS rP LST HPK HPN bel k0 k1 k2 k3 k4 k5 a0 a1 kl
      go_wp2
      go_ret
      exact F.out
     | some z =>
      have oY : Own w5 w3.heap.size (.slice X xn xc) z := oX
      have hxn : xn ≤ 1048576 := by have := HL1.out z rfl; have := Own.len oY; omega
      have LE := Lib.hid (specSame X T2 xn yn xc yc z t2 w5 (Own.seg oY) (H2.out.next bel5) hxn b2)
      clear k0 k1 k2 k3 k4 k5 a0 a1
      have a0 : w5.cell? ⟨w.heap.size, 0, none⟩ = some (.slice A n cs) := rS.cell 0
      have a1 : w5.cell? ⟨w.heap.size, 1, none⟩ = some (.slice (some ⟨b, off, none⟩) q cv) := rS.cell 1
      have k0 : w5.cell? ⟨w.heap.size + 1, 0, none⟩ = some (.slice T0 tn tc) := rP.cell 0
      have k1 : w5.cell? ⟨w.heap.size + 1, 1, none⟩ = some (.slice T1 un uc) := rP.cell 1
      have k2 : w5.cell? ⟨w.heap.size + 1, 2, none⟩ = some (.slice T2 yn yc) := rP.cell 2
      have k3 : w5.cell? ⟨w.heap.size + 1, 3, none⟩ = some (.int .i64 (ai : Int)) := rP.cell 3
      have k4 : w5.cell? ⟨w.heap.size + 1, 4, none⟩ = some (.int .i64 xu) := rP.cell 4
      have k5 : w5.cell? ⟨w.heap.size + 1, 5, none⟩ = some (.int .i64 (k : Int)) := rP.cell 5
      clear oX oY
      go_wp2_with fail
      refine LE.out.mono ?_
      rintro e w6 ⟨rfl, dd, rfl⟩
      clear LE HL1
      by_cases hzt : z = t2
      case neg =>
       have F := Lib.hid (ansB (b := peakB d.1 d.2 (t0, t1, t2, (ai : Int), xu, (k : Int))) (a := false) (HPN.out (by rw [HO1.out]; intro q; injection q with q; exact hzt q)).symm (below_drewN bel5 dd))
       rw [decide_eq_false hzt]
       clear bb bel5 rS rP LST HPK HPN bel k0 k1 k2 k3 k4 k5 a0 a1 kl hzt
       go_wp2
       go_ret
       exact F.out
      rw [decide_eq_true hzt]
      have HV := Lib.hid (HPK.out (by rw [HO1.out, hzt]))
      replace rS := rS.drewN dd
      replace rP := rP.drewN dd
      replace bel5 := below_drewN bel5 dd
      clear bb HPK HPN hzt
      obtain ⟨w6, hw6⟩ : ∃ W, W = w5.drewN dd := ⟨_, rfl⟩
      rw [← hw6] at rS rP bel5 ⊢
      clear hw6
      have zP : w.heap.size + 1 < w6.heap.size := rP.lt
      have zS : w.heap.size < w6.heap.size := rS.lt
      clear k0 k1 k2 k3 k4 k5 a0 a1
      have a0 : w6.cell? ⟨w.heap.size, 0, none⟩ = some (.slice A n cs) := rS.cell 0
      have a1 : w6.cell? ⟨w.heap.size, 1, none⟩ = some (.slice (some ⟨b, off, none⟩) q cv) := rS.cell 1
      have k0 : w6.cell? ⟨w.heap.size + 1, 0, none⟩ = some (.slice T0 tn tc) := rP.cell 0
      have k1 : w6.cell? ⟨w.heap.size + 1, 1, none⟩ = some (.slice T1 un uc) := rP.cell 1
      have k2 : w6.cell? ⟨w.heap.size + 1, 2, none⟩ = some (.slice T2 yn yc) := rP.cell 2
      have k3 : w6.cell? ⟨w.heap.size + 1, 3, none⟩ = some (.int .i64 (ai : Int)) := rP.cell 3
      have k4 : w6.cell? ⟨w.heap.size + 1, 4, none⟩ = some (.int .i64 xu) := rP.cell 4
      have k5 : w6.cell? ⟨w.heap.size + 1, 5, none⟩ = some (.int .i64 (k : Int)) := rP.cell 5
      have LPA := Lib.hid (specPathOf A (some ⟨lb, loff, none⟩) n cs ln lc d.1 y (ai : Int) (pathI d.1 y (ai : Int)) w6.drew (HA.out.next bel5.drew) (SL.out.next bel5.drew) hn hln (pathI_is d.1 y (ai : Int)))
      have LPL := Lib.hid (fun (w7 : World) (P : Option Addr) (pn pc : Nat) (bb : Below w6.heap.size w6 w7) (hP : Seg w7 w7.heap.size P pn (pathI d.1 y (ai : Int))) => specPlaceOf A T0 P n cs tn tc pn pc d.1 t0 (pathI d.1 y (ai : Int)) w7 ((HA.out.next bel5).next bb) ((H0.out.next bel5).next bb) hP hn b0 (by have := hP.1; have := pathI_len d.1 y (ai : Int); omega))
      obtain ⟨zp, hzp⟩ : ∃ z, placeI d.1 t0 (pathI d.1 y (ai : Int)) = z := ⟨_, rfl⟩
      simp only [hzp] at LPL
      have HZ2 := Lib.hid (show placeP d.1 d.2 t0 (k : Int) (ai : Int) = zp by unfold placeP; rw [HLY.out]; exact hzp)
      have LS2 := Lib.hid (fun (w8 : World) (bb : Below w6.heap.size w6 w8) => LST.out w8 (next_trans bel5 bb) zp xu)
      obtain ⟨o2, ho2⟩ : ∃ z, stepAtO d.1 d.2 t0 zp xu = z := ⟨_, rfl⟩
      have HO2 := Lib.hid ho2
      simp only [ho2] at LS2
      have HL2 := Lib.hid (show ∀ z, o2 = some z → z.length ≤ 60 from fun z hz => by subst hz; exact step_len (stepAt_parts ho2).2)
      clear ho2 hzp LST bel kl
      go_wp2_with fail
      go_region_held3 (fun w' => (w'.cell? ⟨w.heap.size, 0, none⟩ = some (.slice A n cs) ∧ w'.cell? ⟨w.heap.size, 1, none⟩ = some (.slice (some ⟨b, off, none⟩) q cv)) ∧ w'.cell? ⟨w.heap.size + 1, 0, none⟩ = some (.slice T0 tn tc) ∧ w'.cell? ⟨w.heap.size + 1, 3, none⟩ = some (.int .i64 (ai : Int)) ∧ w'.cell? ⟨w.heap.size + 1, 4, none⟩ = some (.int .i64 xu))
       (go_keep)
       (first
        | (go_at_call 65; refine LPA.out.mono ?_; rintro e w7 ⟨P, pn, pc, rfl, oP, b7⟩; have B7 : Below w6.heap.size w6 w7 := next_trans (Below.refl w6.heap.size w6).drew b7; have h0 := (B7.cell (p := ⟨w.heap.size, 0, none⟩) zS).trans a0; have h1 := (B7.cell (p := ⟨w.heap.size, 1, none⟩) zS).trans a1; have h2 := (B7.cell (p := ⟨w.heap.size + 1, 0, none⟩) zP).trans k0; have h3 := (B7.cell (p := ⟨w.heap.size + 1, 3, none⟩) zP).trans k3; have h4 := (B7.cell (p := ⟨w.heap.size + 1, 4, none⟩) zP).trans k4)
        | (go_at_call 64; refine (LPL.out w7 P pn pc B7 (Own.seg oP)).mono ?_; rintro e w8 ⟨rfl, b8⟩; have B8 : Below w6.heap.size w6 w8 := next_trans B7 b8; have i0' := (B8.cell (p := ⟨w.heap.size, 0, none⟩) zS).trans a0; have i1' := (B8.cell (p := ⟨w.heap.size, 1, none⟩) zS).trans a1; have i2' := (B8.cell (p := ⟨w.heap.size + 1, 0, none⟩) zP).trans k0; have i3' := (B8.cell (p := ⟨w.heap.size + 1, 3, none⟩) zP).trans k3; have i4' := (B8.cell (p := ⟨w.heap.size + 1, 4, none⟩) zP).trans k4)
        | (go_at_call 63; refine (LS2.out w8 B8).mono ?_; rintro e w9 ⟨Y, ym, yd, rfl, oZ, b9⟩; have B9 : Below w6.heap.size w6 w9 := next_trans B8 b9; have l0' := (B9.cell (p := ⟨w.heap.size, 0, none⟩) zS).trans a0; have l1' := (B9.cell (p := ⟨w.heap.size, 1, none⟩) zS).trans a1; have l2' := (B9.cell (p := ⟨w.heap.size + 1, 0, none⟩) zP).trans k0; have l3' := (B9.cell (p := ⟨w.heap.size + 1, 3, none⟩) zP).trans k3; have l4' := (B9.cell (p := ⟨w.heap.size + 1, 4, none⟩) zP).trans k4))
      clear h0 h1 h2 h3 h4 i0' i1' i2' i3' i4' l0' l1' l2' l3' l4' a0 a1 k0 k1 k2 k3 k4 k5 oP b7 b8 B7 B8 LPA LPL LS2
      have bel9 := next_trans bel5 B9
      replace rP := rP.next B9
      have k1 : w9.cell? ⟨w.heap.size + 1, 1, none⟩ = some (.slice T1 un uc) := rP.cell 1
      have HEND := Lib.hid (show peakB d.1 d.2 (t0, t1, t2, (ai : Int), xu, (k : Int)) = decide (o2 = some t1) by rw [HV.out]; show decide (stepAtO d.1 d.2 t0 (placeP d.1 d.2 t0 (k : Int) (ai : Int)) xu = some t1) = _; rw [HZ2.out, HO2.out])
      cases o2 with
      | none =>
       have F := Lib.hid (ansB (b := peakB d.1 d.2 (t0, t1, t2, (ai : Int), xu, (k : Int))) (a := false) (by rw [HEND.out]; rfl) bel9)
       clear bel9 bel5 rS rP oZ b9 B9 k1
       go_wp2
       go_ret
       exact F.out
      | some z2 =>
       have oY : Own w9 w8.heap.size (.slice Y ym yd) z2 := oZ
       have hym : ym ≤ 1048576 := by have := HL2.out z2 rfl; have := Own.len oY; omega
       have LE := Lib.hid (specSame Y T1 ym un yd uc z2 t1 w9 (Own.seg oY) (H1.out.next bel9) hym b1)
       clear oZ oY bel5 rS rP b9 B9 HL2
       go_wp2_with fail
       refine LE.out.mono ?_
       rintro e w10 ⟨rfl, d2, rfl⟩
       have F := Lib.hid (show AnsB w (peakB d.1 d.2 (t0, t1, t2, (ai : Int), xu, (k : Int))) (.returned (.bool (decide (z2 = t1)))) (w9.drewN d2) from ⟨by rw [HEND.out]; congr 2; simp, below_drewN bel9 d2⟩)
       clear bel9 k1 LE
       generalize decide (z2 = t1) = bz at *
       go_wp2
       go_ret
       exact F.out
theorem specPeakOk (a v v0 v1 v2 : Value) (d : Dat sSystem) (p : Dat sPeak) (w : World) (h : Rd w w.heap.size sSystem [a, v] d) (h' : Rd w w.heap.size sPeak [v0, v1, v2, .int .i64 p.2.2.2.1, .int .i64 p.2.2.2.2.1, .int .i64 p.2.2.2.2.2] p) (hz : sz sSystem d ≤ 1048576) (hz' : sz sPeak p ≤ 1048576) :
  Calls Try.prog 35 #[.agg #[a, v], .agg #[v0, v1, v2, .int .i64 p.2.2.2.1, .int .i64 p.2.2.2.2.1, .int .i64 p.2.2.2.2.2]] w (AnsB w (peakB d.1 d.2 p)) := by
 obtain ⟨A, n, cs, V, q, cv, rfl, rfl, -⟩ := rd_sys h hz
 obtain ⟨T0, tn, tc, T1, un, uc, T2, yn, yc, rfl, rfl, rfl, s0, s1, s2, b0, b1, b2⟩ := rd_peak h' hz'
 obtain ⟨g0, -⟩ := parts_Peak h'
 have hz0 : sz sI p.1 + (sz sI p.2.1 + (sz sI p.2.2.1 + (0 + (0 + 0)))) ≤ 1048576 := hz'
 exact specPeakC A V T0 T1 T2 n cs q cv tn tc un uc yn yc d p.1 p.2.1 p.2.2.1 _ _ _ w h g0 s0 s1 s2 hz (by omega) b0 b1 b2
end peakSpec
end
section
namespace walkSpec
open Go.RowKit base ints sig term termOk endAt endOf marks app sym sub segs segsHelp kinds termFacts same shifted shape kindsR kindsW varsOf ruleMath ruleSpec stepMath walkMath stepSpec
set_option maxRecDepth 100000
end walkSpec
end
section
namespace walkSpec
open Go.RowKit base ints sig term termOk endAt endOf marks app sym sub segs segsHelp kinds termFacts same shifted shape kindsR kindsW varsOf ruleMath ruleSpec stepMath walkMath stepSpec ownL heldT
set_option maxRecDepth 100000
end walkSpec
end
end Go.Proofs.Ytlaloakegajheaa
