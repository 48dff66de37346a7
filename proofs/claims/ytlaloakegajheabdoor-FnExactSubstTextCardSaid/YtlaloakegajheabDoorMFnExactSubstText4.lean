/-
  MERGED: my texts SubstText, WSubstText, OpenX, one behind the other, as they are. By an AI agent.
-/
import Derived.Test.YtlaloakegajheabDoorMFnExactSubstText3
import Derived.Deep.AppendLies
import Derived.Deep.RegionHeld3
import Derived.ProofKit
import Derived.OpenShut
import Derived.Lib.SmallJoins
import Derived.Deep.Slices
import Derived.Deep.Fields
namespace Go.Proofs.YtlaloakegajheabDoor
section
open Go.Lib (hid)
open List (setIfInBounds_toArray set_cons_zero set_cons_succ getElem_toArray getElem_cons_zero getElem_cons_succ)
namespace substText
open Go.RowKit heldT base ints sig term endOf termOk endAt marks app sym segs segsHelp kinds termFacts shape kindsR kindsT varsOf gives plain plainMath plainOf substOk und text textL termText ruleText
set_option maxRecDepth 100000
theorem wpApp1S {w : World} {o : Oper} {a : Act} {K : Act → World → Prop} {Q : Exit → Act → World → Prop} (s x : Operand)
  (ho : o.op = .call { callee := .builtin .append, args := #[s, x], argTypes := #[63, 63] })
  (base : Nat) (A : Option Addr) (n c : Nat) (xs : List (List UInt8)) (hs : a.eval s = .slice A n c) (hown : OwnS w base (.slice A n c) xs)
  (g c2 : Nat) (y : List UInt8) (hx : a.eval x = .slice (some ⟨g, 0, none⟩) 1 c2) (hy : w.cell? ⟨g, 0, none⟩ = some (.string (bs y))) (hn : n ≤ 2097152) (hbase : base ≤ w.heap.size)
  (h : ∀ g' c' w', OwnS w' base (.slice (some ⟨g', 0, none⟩) (n + 1) c') (xs ++ [y]) → Below base w w' → K (a.put o.dst (.slice (some ⟨g', 0, none⟩) (n + 1) c')) w') :
  o.wp Tryd.prog a w K Q := by
 obtain ⟨i0, hi, hz0, hz1, hz2⟩ := info_parts info_str
 have hl : xs.length = n := by
  obtain ⟨A', c', e⟩ := hown.slice
  injection e with _ e _
  exact e.symm
 refine wp_append_lies w s x 63 ho base 9 i0 (.string ⟨#[]⟩) 1 16 Tryd.underlying63 hi hz0 hz1 hz2 rfl (by decide) (.slice A n c) n (xs.map fun x => Value.string (bs x)) hs (by rw [← hl]; rw [← hl] at hown; exact hown)
  ⟨g, 0, none⟩ 1 c2 [.string (bs y)] hx rfl (fun j u hj => ?_) (fun u hu => ?_) (by omega) (by unfold maxLen; omega) (by omega) hbase w.heap.size rfl ?_
 ·match j, hj with
  | 0, hj => simp at hj; subst hj; simpa [Addr.add] using hy
 ·simp at hu; subst hu; rfl
 ·intro g' c' w' hown' hg hat hlt
  have e : (xs.map fun x => Value.string (bs x)) ++ [.string (bs y)] = (xs ++ [y]).map fun x => Value.string (bs x) := by simp
  rw [e] at hown'
  refine h g' c' w' ?_ ((Below.refl base w).grown hg hbase (fun k hk => (World.ownsRow.lt hown k hk).1))
  have hl2 : (xs ++ [y]).length = n + 1 := by simp [hl]
  unfold OwnS
  rw [hl2]
  exact hown'
theorem field_subst (P : Option Addr) (pn pc : Nat) (w : World) : (Instr.field 53 (.agg #[.slice P pn pc]) 0).run Tryd.prog w = .ok (.slice P pn pc) w := by kernel_rfl
theorem wrap_small {x : Int} (h : -9223372036854775808 ≤ x) (h' : x ≤ 9223372036854775807) : IntKind.i64.wrap x = x := by
 simp [IntKind.wrap, IntKind.signed, IntKind.bits]
 omega
def subW (sg : List Int) (ps : List (List Int)) : Nat → List (List UInt8)
 | 0 => []
 | k + 1 => if (ps.getD k []).length = 0 then subW sg ps k else subW sg ps k ++ [[120] ++ dg k ++ [61] ++ termT sg (ps.getD k [])]
def substW (sg : List Int) (ps : List (List Int)) : List UInt8 := if subW sg ps ps.length = [] then [45] else Lib.join (subW sg ps ps.length) [32]
def substT (sg : List Int) (ss : List (List Int)) : List UInt8 := if substOkB sg ss = true then substW sg (plainL (givesL ss) ss.length) else []
theorem sub_no {sg : List Int} {ps : List (List Int)} {k : Nat} (h : (ps.getD k []).length = 0) : subW sg ps (k + 1) = subW sg ps k := by
 show (if _ then _ else _) = _
 rw [if_pos h]
theorem sub_yes {sg : List Int} {ps : List (List Int)} {k : Nat} (h : ¬ (ps.getD k []).length = 0) : subW sg ps (k + 1) = subW sg ps k ++ [[120] ++ dg k ++ [61] ++ termT sg (ps.getD k [])] := by
 show (if _ then _ else _) = _
 rw [if_neg h]
theorem sub_len {sg : List Int} {ps : List (List Int)} : ∀ k, k ≤ 24 → (subW sg ps k).length ≤ k ∧ ∀ x ∈ subW sg ps k, x.length ≤ 4096
 | 0, _ => ⟨Nat.le_refl _, fun x hx => by cases hx⟩
 | k + 1, hk => by
  obtain ⟨h1, h2⟩ := sub_len (sg := sg) (ps := ps) k (by omega)
  by_cases h : (ps.getD k []).length = 0
  ·rw [sub_no h]; exact ⟨by omega, h2⟩
  ·rw [sub_yes h]
   refine ⟨by simp; omega, fun x hx => ?_⟩
   rcases List.mem_append.1 hx with hx | hx
   ·exact h2 x hx
   ·have e := List.mem_singleton.1 hx
    have h3 := termT_len sg (ps.getD k [])
    have h4 := dg_len (n := k) (by omega)
    rw [e]
    simp only [List.length_append, List.length_cons, List.length_nil]
    omega
def HeadSu (w w3 : World) (sg : List Int) (ps : List (List Int)) (PB : Nat) (out i : Value) (wr : World) : Prop :=
 ∃ (k : Nat) (O : Option Addr) (on oc : Nat), k ≤ ps.length ∧ i = .int .i64 k ∧ out = .slice O on oc ∧ OwnS wr w3.heap.size (.slice O on oc) (subW sg ps k) ∧ Below w3.heap.size w3 wr
set_option maxHeartbeats 1000000 in
theorem specSubst0 (A S : Option Addr) (n c m c' : Nat) (sg : List Int) (ss : List (List Int)) (w : World) (h : Seg w w.heap.size A n sg) (h' : Segs w w.heap.size S m ss) (hn : n ≤ 1048576) (ht : tot ss ≤ 1048576) :
  Calls Tryd.prog 28 #[.agg #[.slice A n c], .agg #[.slice S m c']] w fun e w' => e = .returned (.string (bs (substT sg ss))) ∧ Below w.heap.size w w' := by
 obtain ⟨W, hW, rA, rS, bel⟩ := boxes2 w A n c S m c'
 have HW := hid hW
 have HL := hid h'.1
 have LS := hid (specSubstOk A S n c m c' sg ss W (h.next bel) (h'.next bel) hn ht)
 have H := hid h
 have H' := hid h'
 clear hW h h'
 cases ok : substOkB sg ss with
 | false =>
  have HS := hid ok
  have HT := hid (show substT sg ss = [] by unfold substT; rw [if_neg (by rw [ok]; simp)])
  clear ok
  go_enter Tryd.func28, Tryd.ntmps28
  go_wp2_with fail
  rw [← HW.out]
  refine LS.out.mono ?_
  rintro e w1 ⟨he, bb⟩
  rw [HS.out] at he
  subst he
  have F := hid (next_trans bel bb)
  clear bel bb rA rS LS
  go_wp2
  go_ret
  exact ⟨by rw [HT.out]; rfl, F.out⟩
 | true =>
  have HS := hid ok
  have hparts := substOk_parts ok
  obtain ⟨ps, hps⟩ : ∃ z, plainL (givesL ss) ss.length = z := ⟨_, rfl⟩
  have HT := hid (show substT sg ss = substW sg ps by unfold substT; rw [if_pos ok, hps])
  have HP24 : ps.length ≤ 24 := by rw [← hps]; exact Nat.le_trans (plain_len _ _) hparts.2.1
  have HPE := hid (fun i => (show (ps.getD i []).length ≤ 60 by rw [← hps]; exact plain_each (gives_len ok) i))
  have HPI := hid (show plainI sg ss = ps by rw [plain_yes ok, hps])
  have HPM := hid (show plainL (givesL ss) m = ps by rw [← HL.out]; exact hps)
  have HSL := hid (fun k hk => sub_len (sg := sg) (ps := ps) k hk)
  clear ok hps hparts
  go_enter Tryd.func28, Tryd.ntmps28
  go_wp2_with fail
  rw [← HW.out]
  refine LS.out.mono ?_
  rintro e w1 ⟨he, bb⟩
  rw [HS.out] at he
  subst he
  replace rA := rA.next bb
  replace rS := rS.next bb
  replace bel := next_trans bel bb
  clear bb LS
  have s0 : w1.cell? ⟨w.heap.size + 1, 0, none⟩ = some (.slice S m c') := rS.cell 0
  have LP := hid (l2Plain S m c' ss w1 (H'.out.next bel) ht)
  go_wp2_with fail
  refine LP.out.mono ?_
  rintro e w2 ⟨P, pn, pc, rfl, oP0, bb⟩
  rw [HPM.out] at oP0
  replace rA := rA.next bb
  have z2 : w1.heap.size ≤ w2.heap.size := bb.size
  replace bel := next_trans bel bb
  have sP0 := oP0.segs
  obtain ⟨w3, hw3⟩ : ∃ z, z = w2.alloc (.cells #[.slice P pn pc] 53) := ⟨_, rfl⟩
  have b3 : Below w2.heap.size w2 w3 := by rw [hw3]; exact (Below.refl _ _).alloc (Nat.le_refl _) _
  have rP : Row w3 w2.heap.size 53 #[.slice P pn pc] := by rw [hw3]; exact Row.new _ _ _
  have zP : w2.heap.size < w3.heap.size := rP.lt
  obtain ⟨PB, hPB⟩ : ∃ z, w2.heap.size = z := ⟨_, rfl⟩
  rw [hPB] at rP zP
  have zPw : w.heap.size ≤ PB := by rw [← hPB]; exact bel.size
  have rA3 := rA.next b3
  have bel3 := next_trans bel b3
  have sP := sP0.next b3
  have hpn : ps.length = pn := sP.1
  have b4 : Below w3.heap.size w3 (w3.alloc (.cells #[] 9)) := (Below.refl _ _).alloc (Nat.le_refl _) _
  have S0 := hid (show HeadSu w w3 sg ps PB (.slice (some ⟨w3.heap.size, 0, none⟩) 0 0) (.int .i64 0) (w3.alloc (.cells #[] 9)) from ⟨0, some ⟨w3.heap.size, 0, none⟩, 0, 0, Nat.zero_le _, rfl, rfl, ownS_empty w3 w3.heap.size (Nat.le_refl _), b4⟩)
  have HW3 := hid hw3
  have Z3 := hid (show w3.heap.size = PB + 1 by rw [hw3, ← hPB]; simp)
  have RA := hid rA3
  have RP := hid rP
  have SP := hid sP
  have BEL := hid bel3
  have HPN := hid hpn
  have HPB := hid hPB
  clear hw3 rA rS bel bb b3 b4 rP rA3 bel3 sP hpn oP0 sP0 s0 LP z2 hPB
  go_wp2_with fail
  simp only [HPB.out]
  rw [← HW3.out]
  go_loopw [6, 7] (fun out i wr => HeadSu w w3 sg ps PB out i wr) (fun _ i _ => pn - (intOf i).toNat)
  case atStart => have h9 := S0.out; rw [Z3.out] at h9; exact h9
  case round =>
   clear S0
   obtain ⟨k, O, on, oc, hk, rfl, rfl, ho, hb⟩ := hrel
   have zw := hb.size
   have cP : wr.cell? ⟨PB, 0, none⟩ = some (.slice P pn pc) := (RP.out.next hb).cell 0
   have cA : wr.cell? ⟨w.heap.size, 0, none⟩ = some (.slice A n c) := (RA.out.next hb).cell 0
   have zA : w.heap.size < wr.heap.size := (RA.out.next hb).lt
   have zPr : PB < wr.heap.size := (RP.out.next hb).lt
   have hol : (subW sg ps k).length = on := ho.at.1
   have hon : on ≤ 24 := by have := (HSL.out k (by omega)).1; omega
   by_cases hlt : k < pn
   ·obtain ⟨b, off, U, un, uc, rfl, hbB, hcU, sU, -⟩ := (SP.out.next hb).spot hlt
    have hun : un = (ps.getD k []).length := sU.1.symm
    have hu60 : un ≤ 60 := by rw [hun]; exact HPE.out k
    have i0 : (0 : Int) ≤ (k : Int) := by omega
    have i1 : (k : Int) < (pn : Int) := by omega
    by_cases hu0 : un = 0
    ·have S := hid (show HeadSu w w3 sg ps PB (.slice O on oc) (.int .i64 ((k : Int) + 1)) wr from ⟨k + 1, O, on, oc, by have := HPN.out; omega, by simp, rfl, by rw [sub_no (by omega)]; exact ho, hb⟩)
     have hg0 : ¬ (0 : Int) < (un : Int) := by omega
     clear ho hb sU hun hol
     go_wp2
     go_roundw
     case rel => exact S.out
     case measure => simp [intOf]; omega
    ·have hg0 : (0 : Int) < (un : Int) := by omega
     have HSY := hid (sub_yes (sg := sg) (ps := ps) (k := k) (by omega))
     have LI := hid (l1Int k wr.drew (by omega))
     have LT := hid (fun (w1 : World) (bb : Below wr.heap.size wr w1) => specTermText0 A U n c un uc sg (ps.getD k []) w1 ((H.out.next (next_trans BEL.out hb)).next bb) (sU.next bb) hn (by omega))
     obtain ⟨X, hX⟩ : ∃ z, termT sg (ps.getD k []) = z := ⟨_, rfl⟩
     have hXl : X.length ≤ 420 := by rw [← hX]; exact termT_len _ _
     simp only [hX] at LT
     rw [hX] at HSY
     have hdl := dg_len (n := k) (by omega)
     obtain ⟨Dk, hDk⟩ : ∃ z, dg k = z := ⟨_, rfl⟩
     rw [hDk] at LI HSY hdl
     have q1 : (bs Dk).size ≤ 2 := by rw [bs_size]; exact hdl
     have q2 : (bs X).size ≤ 420 := by rw [bs_size]; exact hXl
     obtain ⟨Z1, hZ1⟩ : ∃ z, [120] ++ Dk = z := ⟨_, rfl⟩
     obtain ⟨Z2, hZ2⟩ : ∃ z, Z1 ++ [61] = z := ⟨_, rfl⟩
     obtain ⟨Z3, hZ3⟩ : ∃ z, Z2 ++ X = z := ⟨_, rfl⟩
     rw [hZ1, hZ2, hZ3] at HSY
     have p1 : ∀ (v : World), (Op.stringOp .add (⟨#[120]⟩ : ByteArray) (bs Dk)).run Tryd.prog v = .ok (.string (bs Z1)) v := fun v => by rw [← hZ1, ← bs_app]; exact run_string_add_sum v _ _ (by show 1 + _ ≤ _; omega)
     have e1 : (bs Z1).size ≤ 3 := by rw [bs_size, ← hZ1, List.length_append]; rw [bs_size] at q1; show 1 + _ ≤ _; omega
     have p2 : ∀ (v : World), (Op.stringOp .add (bs Z1) (⟨#[61]⟩ : ByteArray)).run Tryd.prog v = .ok (.string (bs Z2)) v := fun v => by rw [← hZ2, ← bs_app Z1 [61]]; exact run_string_add_sum v _ _ (by show _ + 1 ≤ _; omega)
     have e2 : (bs Z2).size ≤ 4 := by rw [bs_size, ← hZ2, List.length_append]; rw [bs_size] at e1; show _ + 1 ≤ _; omega
     have p3 : ∀ (v : World), (Op.stringOp .add (bs Z2) (bs X)).run Tryd.prog v = .ok (.string (bs Z3)) v := fun v => by rw [← hZ3, ← bs_app Z2 X]; exact run_string_add_sum v _ _ (by omega)
     clear hZ1 hZ2 hZ3
     have HO := hid ho
     have HB := hid hb
     clear hX hDk hdl hXl hun sU hol ho hb e1 e2 q1 q2
     go_upto_region 9 with fail
     refine AnyT.start (S := (fun w' => w'.cell? ⟨w.heap.size, 0, none⟩ = some (.slice A n c) ∧ w'.cell? ⟨PB, 0, none⟩ = some (.slice (some ⟨b, off, none⟩) pn pc) ∧ w'.cell? ⟨b, off + k, none⟩ = some (.slice U un uc))) (fun j => j == 13 || j == 14) (by kernel_rfl) ⟨cA, cP, hcU⟩ (fun hHeld => ?_)
     refine AnyT.takeA (i := 0) (v := ?_) rfl (by kernel_rfl) (by kernel_rfl) (by kernel_rfl) (fun _ _ _ h => h) (Or.inl ⟨by rfl, ?_⟩) ?_
     rotate_left 1
     ·(intro w0 _; go_simp; try with_reducible rfl)
     try simp only [Act.put, setIfInBounds_toArray, set_cons_zero, set_cons_succ, getElem_toArray, getElem_cons_zero, getElem_cons_succ]
     refine AnyT.takeA (i := 1) (v := ?_) rfl (by kernel_rfl) (by kernel_rfl) (by kernel_rfl) (fun _ _ _ h => h) (Or.inl ⟨by rfl, ?_⟩) ?_
     rotate_left 1
     ·(intro w0 _; go_simp; try with_reducible rfl)
     try simp only [Act.put, setIfInBounds_toArray, set_cons_zero, set_cons_succ, getElem_toArray, getElem_cons_zero, getElem_cons_succ]
     refine AnyT.takeU (i := 5) (v := ?_) rfl (by kernel_rfl) (by kernel_rfl) (by kernel_rfl) (by kernel_rfl) (by kernel_rfl) (fun _ _ _ h => h) (Or.inl ⟨by rfl, ?_⟩) (by assumption) ?_
     rotate_left 1
     ·(intro w0 hSw; (try dsimp only at hSw); go_simp; try with_reducible rfl)
     try simp only [Act.put, setIfInBounds_toArray, set_cons_zero, set_cons_succ, getElem_toArray, getElem_cons_zero, getElem_cons_succ]
     refine AnyT.takeA (i := 6) (v := ?_) rfl (by kernel_rfl) (by kernel_rfl) (by kernel_rfl) (fun _ _ _ h => h) (Or.inl ⟨by rfl, ?_⟩) ?_
     rotate_left 1
     ·(intro w0 _; go_simp; try with_reducible rfl)
     try simp only [Act.put, setIfInBounds_toArray, set_cons_zero, set_cons_succ, getElem_toArray, getElem_cons_zero, getElem_cons_succ]
     refine AnyT.takeU (i := 7) (v := ?_) rfl (by kernel_rfl) (by kernel_rfl) (by kernel_rfl) (by kernel_rfl) (by kernel_rfl) (fun _ _ _ h => h) (Or.inl ⟨by rfl, ?_⟩) (by assumption) ?_
     rotate_left 1
     ·(intro w0 hSw; (try dsimp only at hSw); go_simp; try with_reducible rfl)
     try simp only [Act.put, setIfInBounds_toArray, set_cons_zero, set_cons_succ, getElem_toArray, getElem_cons_zero, getElem_cons_succ]
     refine AnyT.takeA (i := 8) (v := ?_) rfl (by kernel_rfl) (by kernel_rfl) (by kernel_rfl) (fun _ _ _ h => h) (Or.inl ⟨by rfl, ?_⟩) ?_
     rotate_left 1
     ·(intro w0 _; go_simp; try with_reducible rfl)
     try simp only [Act.put, setIfInBounds_toArray, set_cons_zero, set_cons_succ, getElem_toArray, getElem_cons_zero, getElem_cons_succ]
     refine AnyT.takeA (i := 9) (v := ?_) rfl (by kernel_rfl) (by kernel_rfl) (by kernel_rfl) (fun _ _ _ h => h) (Or.inl ⟨by rfl, ?_⟩) ?_
     rotate_left 1
     ·(intro w0 _; go_simp; try with_reducible rfl)
     try simp only [Act.put, setIfInBounds_toArray, set_cons_zero, set_cons_succ, getElem_toArray, getElem_cons_zero, getElem_cons_succ]
     refine AnyT.takeU (i := 10) (v := ?_) rfl (by kernel_rfl) (by kernel_rfl) (by kernel_rfl) (by kernel_rfl) (by kernel_rfl) (fun _ _ _ h => h) (Or.inl ⟨by rfl, ?_⟩) (by assumption) ?_
     rotate_left 1
     ·(intro w0 hSw; (try dsimp only at hSw); go_simp; try with_reducible rfl)
     try simp only [Act.put, setIfInBounds_toArray, set_cons_zero, set_cons_succ, getElem_toArray, getElem_cons_zero, getElem_cons_succ]
     refine AnyT.call (i := 2) (by kernel_rfl) rfl (fun K hK => ?_)
     try simp only [Act.put, setIfInBounds_toArray, set_cons_zero, set_cons_succ, getElem_toArray, getElem_cons_zero, getElem_cons_succ]
     rw [if_pos (by rfl)]
     go_simp
     (go_at_call 57; refine LI.out.mono ?_; rintro e v1 ⟨rfl, b1⟩; have B1 : Below wr.heap.size wr v1 := next_trans (Below.refl wr.heap.size wr).drew b1; have hv1a := (B1.cell (p := ⟨w.heap.size, 0, none⟩) zA).trans cA; have hv1b := (B1.cell (p := ⟨PB, 0, none⟩) zPr).trans cP; have hv1c := (B1.cell (p := ⟨b, off + k, none⟩) hbB).trans hcU; go_wp2_with fail)
     refine hK.out _ _ (fun _ _ => ?_) (fun hKeep => ?_)
     ·exact ⟨hv1a, hv1b, hv1c⟩
     replace hHeld := hKeep (by first | rfl | trivial) hHeld
     clear hK K hKeep
     try simp only [Act.put, setIfInBounds_toArray, set_cons_zero, set_cons_succ, getElem_toArray, getElem_cons_zero, getElem_cons_succ]
     refine AnyT.takeA (i := 3) (v := ?_) rfl (by kernel_rfl) (by kernel_rfl) (by kernel_rfl) (fun _ _ _ h => h) (Or.inl ⟨by rfl, ?_⟩) ?_
     rotate_left 1
     ·(intro w0 _; go_simp; try with_reducible rfl)
     try simp only [Act.put, setIfInBounds_toArray, set_cons_zero, set_cons_succ, getElem_toArray, getElem_cons_zero, getElem_cons_succ]
     refine AnyT.takeA (i := 4) (v := ?_) rfl (by kernel_rfl) (by kernel_rfl) (by kernel_rfl) (fun _ _ _ h => h) (Or.inl ⟨by rfl, ?_⟩) ?_
     rotate_left 1
     ·(intro w0 _; go_simp; try with_reducible rfl)
     try simp only [Act.put, setIfInBounds_toArray, set_cons_zero, set_cons_succ, getElem_toArray, getElem_cons_zero, getElem_cons_succ]
     refine AnyT.call (i := 11) (by kernel_rfl) rfl (fun K hK => ?_)
     try simp only [Act.put, setIfInBounds_toArray, set_cons_zero, set_cons_succ, getElem_toArray, getElem_cons_zero, getElem_cons_succ]
     rw [if_pos (by rfl)]
     go_simp
     (go_at_call 35; refine (LT.out v1 B1).mono ?_; rintro e v2 ⟨rfl, b2⟩; have B2 : Below wr.heap.size wr v2 := next_trans B1 b2; have hv2a := (B2.cell (p := ⟨w.heap.size, 0, none⟩) zA).trans cA; have hv2b := (B2.cell (p := ⟨PB, 0, none⟩) zPr).trans cP; have hv2c := (B2.cell (p := ⟨b, off + k, none⟩) hbB).trans hcU; go_wp2_with fail)
     refine hK.out _ _ (fun _ _ => ?_) (fun hKeep => ?_)
     ·exact ⟨hv2a, hv2b, hv2c⟩
     replace hHeld := hKeep (by first | rfl | trivial) hHeld
     clear hK K hKeep
     try simp only [Act.put, setIfInBounds_toArray, set_cons_zero, set_cons_succ, getElem_toArray, getElem_cons_zero, getElem_cons_succ]
     refine AnyT.takeA (i := 12) (v := ?_) rfl (by kernel_rfl) (by kernel_rfl) (by kernel_rfl) (fun _ _ _ h => h) (Or.inl ⟨by rfl, ?_⟩) ?_
     rotate_left 1
     ·(intro w0 _; go_simp; try with_reducible rfl)
     try simp only [Act.put, setIfInBounds_toArray, set_cons_zero, set_cons_succ, getElem_toArray, getElem_cons_zero, getElem_cons_succ]
     refine AnyT.call (i := 13) (by kernel_rfl) rfl (fun K hK => ?_)
     try simp only [Act.put, setIfInBounds_toArray, set_cons_zero, set_cons_succ, getElem_toArray, getElem_cons_zero, getElem_cons_succ]
     rw [if_pos (by rfl)]
     go_simp
     refine hK.out _ _ (fun h => by cases h) (fun _ => ?_)
     clear hK K
     try simp only [Act.put, setIfInBounds_toArray, set_cons_zero, set_cons_succ, getElem_toArray, getElem_cons_zero, getElem_cons_succ]
     refine AnyT.call (i := 14) (by kernel_rfl) rfl (fun K hK => ?_)
     try simp only [Act.put, setIfInBounds_toArray, set_cons_zero, set_cons_succ, getElem_toArray, getElem_cons_zero, getElem_cons_succ]
     rw [if_pos (by rfl)]
     have hbs : w3.heap.size ≤ v2.heap.size := Nat.le_trans HB.out.size B2.size
     have hap : OwnS (v2.alloc (.cells #[.string (bs Z3)] 9)) w3.heap.size (.slice O on oc) (subW sg ps k) := ((HO.out.next B2).next ((Below.refl _ _).alloc (Nat.le_refl _) _))
     refine wpApp1S _ _ rfl w3.heap.size O on oc (subW sg ps k) rfl hap v2.heap.size 1 Z3 rfl ((Row.new _ _ _).cell 0) (by omega) (by simp; omega) ?_
     intro g' oc' v3 ho3 b3
     have hb3 : Below w3.heap.size w3 v3 := ((HB.out.trans (B2.mono HB.out.size)).alloc hbs _).trans b3
     refine hK.out _ _ (fun h => by cases h) (fun _ => ?_)
     clear hK K
     try simp only [Act.put, setIfInBounds_toArray, set_cons_zero, set_cons_succ, getElem_toArray, getElem_cons_zero, getElem_cons_succ]
     refine AnyT.takeA (i := 15) (v := ?_) rfl (by kernel_rfl) (by kernel_rfl) (by kernel_rfl) (fun _ _ _ h => h) (Or.inl ⟨by rfl, ?_⟩) ?_
     rotate_left 1
     ·(intro w0 _; go_simp; try with_reducible rfl)
     try simp only [Act.put, setIfInBounds_toArray, set_cons_zero, set_cons_succ, getElem_toArray, getElem_cons_zero, getElem_cons_succ]
     refine AnyT.done (by kernel_rfl) ?_ _
     have S := hid (show HeadSu w w3 sg ps PB (.slice (some ⟨g', 0, none⟩) (on + 1) oc') (.int .i64 ((k : Int) + 1)) v3 from ⟨k + 1, _, _, _, by have := HPN.out; omega, by simp, rfl, by rw [HSY.out]; exact ho3, hb3⟩)
     clear ho3 hb3 B1 B2 b1 b2 LI LT
     go_wp2
     go_roundw
     case rel => exact S.out
     case measure => simp [intOf]; omega
   ·have hkn : k = ps.length := by have := HPN.out; omega
    subst hkn
    have HB := hid (next_trans BEL.out hb)
    by_cases h0 : on = 0
    ·have hz : subW sg ps ps.length = [] := List.length_eq_zero_iff.1 (by omega)
     have F := hid (show substT sg ss = [45] by rw [HT.out]; unfold substW; rw [if_pos hz])
     have EK : ((on : Int) == 0) = true := by rw [h0]; rfl
     clear ho hb hol h0 hz
     go_wp2
     go_ret
     exact ⟨by rw [F.out]; rfl, HB.out⟩
    ·have hz : subW sg ps ps.length ≠ [] := fun e => h0 (by rw [← hol, e]; rfl)
     have F := hid (show substT sg ss = Lib.join (subW sg ps ps.length) [32] by rw [HT.out]; unfold substW; rw [if_neg hz])
     have EK : ((on : Int) == 0) = false := by simp; omega
     have LW := hid (l1Words O on oc (subW sg ps ps.length) [32] wr ho.at (by omega) (HSL.out ps.length HP24).2 (by simp))
     clear ho hb hol h0 hz
     go_wp2_with fail
     refine LW.out.mono ?_
     rintro e w5 ⟨rfl, bb⟩
     have F2 := hid (next_trans HB.out bb)
     clear bb
     go_wp2
     go_ret
     exact ⟨by rw [F.out]; rfl, F2.out⟩
theorem specSubstText (v u : Value) (d : Dat sSig) (ss : Dat sSubst) (w : World) (h : Rd w w.heap.size sSig [v] d) (h' : Rd w w.heap.size sSubst [u] ss) (hz : sz sSig d ≤ 1048576) (hz' : sz sSubst ss ≤ 1048576) :
  Calls Tryd.prog 28 #[.agg #[v], .agg #[u]] w fun e w' => e = .returned (.string (bs (substT d ss))) ∧ Below w.heap.size w w' := by
 obtain ⟨A, n, c, rfl, hA, -⟩ := rd_ints.1 h
 obtain ⟨S, m, c', rfl, hS, ht, -⟩ := rd_subst h' hz'
 exact specSubst0 A S n c m c' d ss w hA hS (by have h1 := hA.1; rw [sz_ints] at hz; omega) ht
set_option maxHeartbeats 1000000 in
theorem implSubst0 (A S : Option Addr) (n c m c' : Nat) (sg : List Int) (ss : List (List Int)) (w : World) (h : Seg w w.heap.size A n sg) (h' : Segs w w.heap.size S m ss) (hn : n ≤ 1048576) (ht : tot ss ≤ 1048576) :
  Calls Tryd.prog 30 #[.agg #[.slice A n c], .agg #[.slice S m c']] w fun e w' => e = .returned (.string (bs (substT sg ss))) ∧ Below w.heap.size w w' := by
 obtain ⟨W, hW, rA, rS, bel⟩ := boxes2 w A n c S m c'
 have HW := hid hW
 have HL := hid h'.1
 have LS := hid (implSubstOk A S n c m c' sg ss W (h.next bel) (h'.next bel) hn ht)
 have H := hid h
 have H' := hid h'
 clear hW h h'
 cases ok : substOkB sg ss with
 | false =>
  have HS := hid ok
  have HT := hid (show substT sg ss = [] by unfold substT; rw [if_neg (by rw [ok]; simp)])
  clear ok
  go_enter Tryd.func30, Tryd.ntmps30
  go_wp2_with fail
  rw [← HW.out]
  refine LS.out.mono ?_
  rintro e w1 ⟨he, bb⟩
  rw [HS.out] at he
  subst he
  have F := hid (next_trans bel bb)
  clear bel bb rA rS LS
  go_wp2
  go_ret
  exact ⟨by rw [HT.out]; rfl, F.out⟩
 | true =>
  have HS := hid ok
  have hparts := substOk_parts ok
  obtain ⟨ps, hps⟩ : ∃ z, plainL (givesL ss) ss.length = z := ⟨_, rfl⟩
  have HT := hid (show substT sg ss = substW sg ps by unfold substT; rw [if_pos ok, hps])
  have HP24 : ps.length ≤ 24 := by rw [← hps]; exact Nat.le_trans (plain_len _ _) hparts.2.1
  have HPE := hid (fun i => (show (ps.getD i []).length ≤ 60 by rw [← hps]; exact plain_each (gives_len ok) i))
  have HPI := hid (show plainI sg ss = ps by rw [plain_yes ok, hps])
  have HPM := hid (show plainL (givesL ss) m = ps by rw [← HL.out]; exact hps)
  have HSL := hid (fun k hk => sub_len (sg := sg) (ps := ps) k hk)
  clear ok hps hparts
  go_enter Tryd.func30, Tryd.ntmps30
  go_wp2_with fail
  rw [← HW.out]
  refine LS.out.mono ?_
  rintro e w1 ⟨he, bb⟩
  rw [HS.out] at he
  subst he
  replace rA := rA.next bb
  replace rS := rS.next bb
  replace bel := next_trans bel bb
  clear bb LS
  have a0 : w1.cell? ⟨w.heap.size, 0, none⟩ = some (.slice A n c) := rA.cell 0
  have s0 : w1.cell? ⟨w.heap.size + 1, 0, none⟩ = some (.slice S m c') := rS.cell 0
  have LP := hid (implPlainOf A S n c m c' sg ss w1 (H.out.next bel) (H'.out.next bel) hn ht)
  rw [HPI.out] at LP
  go_wp2_with fail
  refine LP.out.mono ?_
  rintro e w3 ⟨P, pn, pc, rfl, oP0, bb⟩
  have RA := hid (rA.next bb)
  have BEL := hid (next_trans bel bb)
  have SP := hid oP0.segs
  have HPN := hid oP0.segs.1
  have S0 := hid (show HeadSu w w3 sg ps 0 (.slice none 0 0) (.int .i64 0) w3 from ⟨0, none, 0, 0, Nat.zero_le _, rfl, rfl, OwnS.nil _ _, Below.refl _ _⟩)
  have hfd : (Instr.field 53 (.agg #[.slice P pn pc]) 0).run Tryd.prog w3 = .ok (.slice P pn pc) w3 := field_subst _ _ _ _
  clear rA rS bel bb oP0 a0 s0 LP
  go_wp2_with fail
  clear hfd
  go_loopw [5, 17] (fun out i wr => HeadSu w w3 sg ps 0 out i wr) (fun _ i _ => pn - (intOf i).toNat)
  case atStart => exact S0.out
  case round =>
   clear S0
   obtain ⟨k, O, on, oc, hk, rfl, rfl, ho, hb⟩ := hrel
   have zw := hb.size
   have cA : wr.cell? ⟨w.heap.size, 0, none⟩ = some (.slice A n c) := (RA.out.next hb).cell 0
   have zA : w.heap.size < wr.heap.size := (RA.out.next hb).lt
   have hol : (subW sg ps k).length = on := ho.at.1
   have hon : on ≤ 24 := by have := (HSL.out k (by omega)).1; omega
   by_cases hlt : k < pn
   ·obtain ⟨b, off, U, un, uc, rfl, hbB, hcU, sU, -⟩ := (SP.out.next hb).spot hlt
    have hun : un = (ps.getD k []).length := sU.1.symm
    have hu60 : un ≤ 60 := by rw [hun]; exact HPE.out k
    have i0 : (0 : Int) ≤ (k : Int) := by omega
    have i1 : (k : Int) < (pn : Int) := by omega
    have i24 : (k : Int) ≤ 24 := by have := HPN.out; omega
    by_cases hu0 : un = 0
    ·have S := hid (show HeadSu w w3 sg ps 0 (.slice O on oc) (.int .i64 ((k : Int) + 1)) wr from ⟨k + 1, O, on, oc, by have := HPN.out; omega, by simp, rfl, by rw [sub_no (by omega)]; exact ho, hb⟩)
     have hg0 : ¬ (0 : Int) < (un : Int) := by omega
     clear ho hb sU hun hol
     go_wp2
     go_roundw
     case rel => exact S.out
     case measure => simp [intOf]; omega
    ·have hg0 : (0 : Int) < (un : Int) := by omega
     have HSY := hid (sub_yes (sg := sg) (ps := ps) (k := k) (by omega))
     have LI := hid (headText (-1 - (k : Int)) wr.drew (by have := HPN.out; omega))
     have hwr : IntKind.i64.wrap (-1 - (k : Int)) = -1 - (k : Int) := wrap_small (by omega) (by omega)
     have hhd : hdT (-1 - (k : Int)) = [120] ++ dg k := by
      unfold hdT
      rw [if_pos (by omega), show -1 - (-1 - (k : Int)) = (k : Int) by omega, Int.toNat_natCast]
      rfl
     have LT := hid (fun (w1 : World) (bb : Below wr.heap.size wr w1) => implTermText0 A U n c un uc sg (ps.getD k []) w1 ((H.out.next (next_trans BEL.out hb)).next bb) (sU.next bb) hn (by omega))
     obtain ⟨X, hX⟩ : ∃ z, termT sg (ps.getD k []) = z := ⟨_, rfl⟩
     have hXl : X.length ≤ 420 := by rw [← hX]; exact termT_len _ _
     simp only [hX] at LT
     rw [hX] at HSY
     have hdl := dg_len (n := k) (by omega)
     obtain ⟨Z1, hZ1⟩ : ∃ z, [120] ++ dg k = z := ⟨_, rfl⟩
     obtain ⟨Z2, hZ2⟩ : ∃ z, Z1 ++ [61] = z := ⟨_, rfl⟩
     obtain ⟨Z3, hZ3⟩ : ∃ z, Z2 ++ X = z := ⟨_, rfl⟩
     rw [hZ1, hZ2, hZ3] at HSY
     rw [hhd, hZ1] at LI
     have q1 : Z1.length ≤ 3 := by rw [← hZ1, List.length_append]; show 1 + _ ≤ _; omega
     have q2 : (bs X).size ≤ 420 := by rw [bs_size]; exact hXl
     have e1 : (bs Z1).size ≤ 3 := by rw [bs_size]; exact q1
     have p2 : ∀ (v : World), (Op.stringOp .add (bs Z1) (⟨#[61]⟩ : ByteArray)).run Tryd.prog v = .ok (.string (bs Z2)) v := fun v => by rw [← hZ2, ← bs_app Z1 [61]]; exact run_string_add_sum v _ _ (by show _ + 1 ≤ _; omega)
     have e2 : (bs Z2).size ≤ 4 := by rw [bs_size, ← hZ2, List.length_append]; show _ + 1 ≤ _; omega
     have p3 : ∀ (v : World), (Op.stringOp .add (bs Z2) (bs X)).run Tryd.prog v = .ok (.string (bs Z3)) v := fun v => by rw [← hZ3, ← bs_app Z2 X]; exact run_string_add_sum v _ _ (by omega)
     clear hZ1 hZ2 hZ3 hhd
     have HO := hid ho
     have HB := hid hb
     clear hX hdl hXl hun sU hol ho hb e1 e2 q1 q2
     go_upto_region 8 with fail
     refine AnyT.start (S := (fun w' => w'.cell? ⟨w.heap.size, 0, none⟩ = some (.slice A n c))) (fun j => j == 9 || j == 10) (by kernel_rfl) cA (fun hHeld => ?_)
     refine AnyT.takeA (i := 0) (v := ?_) rfl (by kernel_rfl) (by kernel_rfl) (by kernel_rfl) (fun _ _ _ h => h) (Or.inl ⟨by rfl, ?_⟩) ?_
     rotate_left 1
     ·(intro w0 _; go_simp; try with_reducible rfl)
     try simp only [Act.put, setIfInBounds_toArray, set_cons_zero, set_cons_succ, getElem_toArray, getElem_cons_zero, getElem_cons_succ]
     refine AnyT.takeA (i := 1) (v := ?_) rfl (by kernel_rfl) (by kernel_rfl) (by kernel_rfl) (fun _ _ _ h => h) (Or.inl ⟨by rfl, ?_⟩) ?_
     rotate_left 1
     ·(intro w0 _; go_simp; try with_reducible rfl)
     try simp only [Act.put, setIfInBounds_toArray, set_cons_zero, set_cons_succ, getElem_toArray, getElem_cons_zero, getElem_cons_succ]
     refine AnyT.takeA (i := 2) (v := ?_) rfl (by kernel_rfl) (by kernel_rfl) (by kernel_rfl) (fun _ _ _ h => h) (Or.inl ⟨by rfl, ?_⟩) ?_
     rotate_left 1
     ·(intro w0 _; go_simp; try with_reducible rfl)
     try simp only [Act.put, setIfInBounds_toArray, set_cons_zero, set_cons_succ, getElem_toArray, getElem_cons_zero, getElem_cons_succ]
     refine AnyT.takeU (i := 5) (v := ?_) rfl (by kernel_rfl) (by kernel_rfl) (by kernel_rfl) (by kernel_rfl) (by kernel_rfl) (fun _ _ _ h => h) (Or.inl ⟨by rfl, ?_⟩) (by assumption) ?_
     rotate_left 1
     ·(intro w0 hSw; (try dsimp only at hSw); go_simp; try with_reducible rfl)
     try simp only [Act.put, setIfInBounds_toArray, set_cons_zero, set_cons_succ, getElem_toArray, getElem_cons_zero, getElem_cons_succ]
     refine AnyT.takeA (i := 6) (v := ?_) rfl (by kernel_rfl) (by kernel_rfl) (by kernel_rfl) (fun _ _ _ h => h) (Or.inl ⟨by rfl, ?_⟩) ?_
     rotate_left 1
     ·(intro w0 _; go_simp; try with_reducible rfl)
     try simp only [Act.put, setIfInBounds_toArray, set_cons_zero, set_cons_succ, getElem_toArray, getElem_cons_zero, getElem_cons_succ]
     refine AnyT.call (i := 3) (by kernel_rfl) rfl (fun K hK => ?_)
     try simp only [Act.put, setIfInBounds_toArray, set_cons_zero, set_cons_succ, getElem_toArray, getElem_cons_zero, getElem_cons_succ]
     rw [if_pos (by rfl)]
     go_simp
     (go_at_call 62; refine LI.out.mono ?_; rintro e v1 ⟨rfl, hv1⟩; have B1 : Below wr.heap.size wr v1 := (by rw [hv1]; exact (Below.refl wr.heap.size wr).drew); clear hv1; have hv1a := (B1.cell (p := ⟨w.heap.size, 0, none⟩) zA).trans cA; go_wp2_with fail)
     refine hK.out _ _ (fun _ _ => ?_) (fun hKeep => ?_)
     ·exact hv1a
     replace hHeld := hKeep (by first | rfl | trivial) hHeld
     clear hK K hKeep
     try simp only [Act.put, setIfInBounds_toArray, set_cons_zero, set_cons_succ, getElem_toArray, getElem_cons_zero, getElem_cons_succ]
     refine AnyT.takeA (i := 4) (v := ?_) rfl (by kernel_rfl) (by kernel_rfl) (by kernel_rfl) (fun _ _ _ h => h) (Or.inl ⟨by rfl, ?_⟩) ?_
     rotate_left 1
     ·(intro w0 _; go_simp; try with_reducible rfl)
     try simp only [Act.put, setIfInBounds_toArray, set_cons_zero, set_cons_succ, getElem_toArray, getElem_cons_zero, getElem_cons_succ]
     refine AnyT.call (i := 7) (by kernel_rfl) rfl (fun K hK => ?_)
     try simp only [Act.put, setIfInBounds_toArray, set_cons_zero, set_cons_succ, getElem_toArray, getElem_cons_zero, getElem_cons_succ]
     rw [if_pos (by rfl)]
     go_simp
     (go_at_call 42; refine (LT.out v1 B1).mono ?_; rintro e v2 ⟨rfl, b2⟩; have B2 : Below wr.heap.size wr v2 := next_trans B1 b2; have hv2a := (B2.cell (p := ⟨w.heap.size, 0, none⟩) zA).trans cA; go_wp2_with fail)
     refine hK.out _ _ (fun _ _ => ?_) (fun hKeep => ?_)
     ·exact hv2a
     replace hHeld := hKeep (by first | rfl | trivial) hHeld
     clear hK K hKeep
     try simp only [Act.put, setIfInBounds_toArray, set_cons_zero, set_cons_succ, getElem_toArray, getElem_cons_zero, getElem_cons_succ]
     refine AnyT.takeA (i := 8) (v := ?_) rfl (by kernel_rfl) (by kernel_rfl) (by kernel_rfl) (fun _ _ _ h => h) (Or.inl ⟨by rfl, ?_⟩) ?_
     rotate_left 1
     ·(intro w0 _; go_simp; try with_reducible rfl)
     try simp only [Act.put, setIfInBounds_toArray, set_cons_zero, set_cons_succ, getElem_toArray, getElem_cons_zero, getElem_cons_succ]
     refine AnyT.call (i := 9) (by kernel_rfl) rfl (fun K hK => ?_)
     try simp only [Act.put, setIfInBounds_toArray, set_cons_zero, set_cons_succ, getElem_toArray, getElem_cons_zero, getElem_cons_succ]
     rw [if_pos (by rfl)]
     go_simp
     refine hK.out _ _ (fun h => by cases h) (fun _ => ?_)
     clear hK K
     try simp only [Act.put, setIfInBounds_toArray, set_cons_zero, set_cons_succ, getElem_toArray, getElem_cons_zero, getElem_cons_succ]
     refine AnyT.call (i := 10) (by kernel_rfl) rfl (fun K hK => ?_)
     try simp only [Act.put, setIfInBounds_toArray, set_cons_zero, set_cons_succ, getElem_toArray, getElem_cons_zero, getElem_cons_succ]
     rw [if_pos (by rfl)]
     have hbs : w3.heap.size ≤ v2.heap.size := Nat.le_trans HB.out.size B2.size
     have hap : OwnS (v2.alloc (.cells #[.string (bs Z3)] 9)) w3.heap.size (.slice O on oc) (subW sg ps k) := ((HO.out.next B2).next ((Below.refl _ _).alloc (Nat.le_refl _) _))
     refine wpApp1S _ _ rfl w3.heap.size O on oc (subW sg ps k) rfl hap v2.heap.size 1 Z3 rfl ((Row.new _ _ _).cell 0) (by omega) (by simp; omega) ?_
     intro g' oc' v3 ho3 b3
     have hb3 : Below w3.heap.size w3 v3 := ((HB.out.trans (B2.mono HB.out.size)).alloc hbs _).trans b3
     refine hK.out _ _ (fun h => by cases h) (fun _ => ?_)
     clear hK K
     try simp only [Act.put, setIfInBounds_toArray, set_cons_zero, set_cons_succ, getElem_toArray, getElem_cons_zero, getElem_cons_succ]
     refine AnyT.takeA (i := 11) (v := ?_) rfl (by kernel_rfl) (by kernel_rfl) (by kernel_rfl) (fun _ _ _ h => h) (Or.inl ⟨by rfl, ?_⟩) ?_
     rotate_left 1
     ·(intro w0 _; go_simp; try with_reducible rfl)
     try simp only [Act.put, setIfInBounds_toArray, set_cons_zero, set_cons_succ, getElem_toArray, getElem_cons_zero, getElem_cons_succ]
     refine AnyT.done (by kernel_rfl) ?_ _
     have S := hid (show HeadSu w w3 sg ps 0 (.slice (some ⟨g', 0, none⟩) (on + 1) oc') (.int .i64 ((k : Int) + 1)) v3 from ⟨k + 1, _, _, _, by have := HPN.out; omega, by simp, rfl, by rw [HSY.out]; exact ho3, hb3⟩)
     clear ho3 hb3 B1 B2 b2 LI LT
     go_wp2
     go_roundw
     case rel => exact S.out
     case measure => simp [intOf]; omega
   ·have hkn : k = ps.length := by have := HPN.out; omega
    subst hkn
    have HB := hid (next_trans BEL.out hb)
    by_cases h0 : on = 0
    ·have hz : subW sg ps ps.length = [] := List.length_eq_zero_iff.1 (by omega)
     have F := hid (show substT sg ss = [45] by rw [HT.out]; unfold substW; rw [if_pos hz])
     have EK : ((on : Int) == 0) = true := by rw [h0]; rfl
     clear ho hb hol h0 hz
     go_wp2
     go_ret
     exact ⟨by rw [F.out]; rfl, HB.out⟩
    ·have hz : subW sg ps ps.length ≠ [] := fun e => h0 (by rw [← hol, e]; rfl)
     have F := hid (show substT sg ss = Lib.join (subW sg ps ps.length) [32] by rw [HT.out]; unfold substW; rw [if_neg hz])
     have EK : ((on : Int) == 0) = false := by simp; omega
     have LW := hid (joinOwn O on oc (subW sg ps ps.length) [32] wr ho (by omega) (HSL.out ps.length HP24).2 (by simp))
     clear ho hb hol h0 hz
     go_wp2_with fail
     refine LW.out.mono ?_
     rintro e w5 ⟨rfl, bb⟩
     have F2 := hid (next_trans HB.out bb)
     clear bb
     go_wp2
     go_ret
     exact ⟨by rw [F.out]; rfl, F2.out⟩
theorem implSubstText (v u : Value) (d : Dat sSig) (ss : Dat sSubst) (w : World) (h : Rd w w.heap.size sSig [v] d) (h' : Rd w w.heap.size sSubst [u] ss) (hz : sz sSig d ≤ 1048576) (hz' : sz sSubst ss ≤ 1048576) :
  Calls Tryd.prog 30 #[.agg #[v], .agg #[u]] w fun e w' => e = .returned (.string (bs (substT d ss))) ∧ Below w.heap.size w w' := by
 obtain ⟨A, n, c, rfl, hA, -⟩ := rd_ints.1 h
 obtain ⟨S, m, c', rfl, hS, ht, -⟩ := rd_subst h' hz'
 exact implSubst0 A S n c m c' d ss w hA hS (by have h1 := hA.1; rw [sz_ints] at hz; omega) ht
end substText
end
section
open Go.Lib (hid)
namespace wSubstText
open Go.RowKit base ints sig cursor marks app sym appAt segs segsHelp segsMark kinds shape kindsR kindsT text textL termText ruleText substText
set_option maxRecDepth 100000
set_option maxHeartbeats 8000000 in
theorem law (v0_0 : Value) (d0 : Dat sSig) (v1_0 : Value) (d1 : Dat sSubst) (w : World) (s0 : Rd w w.heap.size sSig [v0_0] d0) (s1 : Rd w w.heap.size sSubst [v1_0] d1) :
  Calls Tryd.prog 7 #[.agg #[v0_0], .agg #[v1_0]] w (Fine w) := by
 obtain ⟨W, hW⟩ : ∃ W, W = (w.alloc (.cells #[v0_0] 24)).alloc (.cells #[v1_0] 50) := ⟨_, rfl⟩
 have rA0 : Row W (w.heap.size) 24 #[v0_0] := by rw [hW]; have := (Row.new (w) 24 #[v0_0]).alloc (.cells #[v1_0] 50); simpa using this
 have rA1 : Row W (w.heap.size + 1) 50 #[v1_0] := by rw [hW]; have := Row.new (w.alloc (.cells #[v0_0] 24)) 50 #[v1_0]; simpa using this
 have bW : Below w.heap.size w W := by rw [hW]; exact ((Below.refl w.heap.size w).alloc (by simp) (.cells #[v0_0] 24)).alloc (by simp) (.cells #[v1_0] 50)
 have zA0 := rA0.lt
 have zA1 := rA1.lt
 replace s0 := s0.next bW
 replace s1 := s1.next bW
 have HW := hid hW
 clear hW
 obtain ⟨t0, ht0⟩ : ∃ z, sz sSig d0 = z := ⟨_, rfl⟩
 have HT0 := hid ht0
 clear ht0
 obtain ⟨t1, ht1⟩ : ∃ z, sz sSubst d1 = z := ⟨_, rfl⟩
 have HT1 := hid ht1
 clear ht1
 obtain ⟨v, hv⟩ : ∃ v, bs (substT d0 d1) = v := ⟨_, rfl⟩
 have HV := hid hv
 clear hv
 have ev : (v != v) = false := Go.Proofs.YtlaloakegajheabDoor.text.str_ne _
 go_enter Tryd.func7, Tryd.ntmps7
 go_wp2_with fail
 rw [← HW.out]
 clear HW
 have bel := Below.refl W.heap.size W
 have cA0_0 : W.cell? ⟨w.heap.size, 0, none⟩ = some (v0_0) := (rA0.next bel).cell 0
 have cA1_0 : W.cell? ⟨w.heap.size + 1, 0, none⟩ = some (v1_0) := (rA1.next bel).cell 0
 refine (szK_Sig _ d0 (1048576) _ (s0.next bel) (by omega) (by omega)).mono ?_
 rintro e w1 ⟨he, bb⟩
 rw [HT0.out] at he
 replace bel := next_trans bel bb
 have zw1 := bb.size
 clear bb
 by_cases q0 : t0 ≤ 1048576
 case neg =>
  rw [if_pos (by omega)] at he
  subst he
  have F := hid (bW.trans (bel.mono bW.size))
  clear bel bW cA0_0 cA1_0
  go_wp2
  go_ret
  exact ⟨rfl, F.out⟩
 rw [if_neg (by omega)] at he
 subst he
 have h0 : Hid (sz sSig d0 ≤ 1048576) := hid (by rw [HT0.out]; omega)
 clear cA0_0 cA1_0
 have cA0_0 : w1.cell? ⟨w.heap.size, 0, none⟩ = some (v0_0) := (rA0.next bel).cell 0
 have cA1_0 : w1.cell? ⟨w.heap.size + 1, 0, none⟩ = some (v1_0) := (rA1.next bel).cell 0
 go_wp2_with fail
 refine (szK_Subst _ d1 (1048576 - (t0 : Int)) _ (s1.next bel) (by omega) (by omega)).mono ?_
 rintro e w2 ⟨he, bb⟩
 rw [HT1.out] at he
 replace bel := next_trans bel bb
 have zw2 := bb.size
 clear bb
 by_cases q1 : t0 + t1 ≤ 1048576
 case neg =>
  rw [if_pos (by omega)] at he
  subst he
  have F := hid (bW.trans (bel.mono bW.size))
  clear bel bW cA0_0 cA1_0
  go_wp2
  go_ret
  exact ⟨rfl, F.out⟩
 rw [if_neg (by omega)] at he
 subst he
 have h1 : Hid (sz sSubst d1 ≤ 1048576) := hid (by rw [HT1.out]; omega)
 clear cA0_0 cA1_0
 have cA0_0 : w2.cell? ⟨w.heap.size, 0, none⟩ = some (v0_0) := (rA0.next bel).cell 0
 have cA1_0 : w2.cell? ⟨w.heap.size + 1, 0, none⟩ = some (v1_0) := (rA1.next bel).cell 0
 go_wp2_with fail
 replace bel := bel.drew
 have zdw2 := (drew_below w2).size
 go_region_held3 (fun w' => w'.cell? ⟨w.heap.size, 0, none⟩ = some (v0_0) ∧ w'.cell? ⟨w.heap.size + 1, 0, none⟩ = some (v1_0))
  (go_keep)
  (first
   | (go_at_call_of 10 (Value.agg #[v0_0]); refine (toK_Sig _ d0 _ (s0.next bel) h0.out).mono ?_; rintro e w3 ⟨p0A0, p0n0, p0c0, rfl, op0, bb⟩; replace bel := next_trans bel bb; have cA0_0w3 : w3.cell? ⟨w.heap.size, 0, none⟩ = some (v0_0) := (rA0.next bel).cell 0; have cA1_0w3 : w3.cell? ⟨w.heap.size + 1, 0, none⟩ = some (v1_0) := (rA1.next bel).cell 0; have zqw3 := bb.size; clear bb)
   | (go_at_call_of 29 (Value.agg #[v1_0]); refine (toK_Subst _ d1 _ (s1.next bel) h1.out).mono ?_; rintro e w4 ⟨p1A0, p1n0, p1c0, rfl, op1, bb⟩; replace op0 := op0.next bb; replace bel := next_trans bel bb; have cA0_0w4 : w4.cell? ⟨w.heap.size, 0, none⟩ = some (v0_0) := (rA0.next bel).cell 0; have cA1_0w4 : w4.cell? ⟨w.heap.size + 1, 0, none⟩ = some (v1_0) := (rA1.next bel).cell 0; have zqw4 := bb.size; clear bb)
   | (go_at_call 28; refine (specSubstText _ _ d0 d1 _ op0.rd op1.rd h0.out h1.out).mono ?_; rintro e w5 ⟨he, bb⟩; rw [HV.out] at he; subst he; replace bel := next_trans bel bb; have cA0_0w5 : w5.cell? ⟨w.heap.size, 0, none⟩ = some (v0_0) := (rA0.next bel).cell 0; have cA1_0w5 : w5.cell? ⟨w.heap.size + 1, 0, none⟩ = some (v1_0) := (rA1.next bel).cell 0; have zqw5 := bb.size; clear bb op0 op1))
 clear cA0_0 cA1_0 cA0_0w5 cA1_0w5
 have cA0_0 : w5.cell? ⟨w.heap.size, 0, none⟩ = some (v0_0) := (rA0.next bel).cell 0
 have cA1_0 : w5.cell? ⟨w.heap.size + 1, 0, none⟩ = some (v1_0) := (rA1.next bel).cell 0
 go_wp2_with fail
 refine (toK_Sig _ d0 _ (s0.next bel) h0.out).mono ?_
 rintro e w6 ⟨x0A0, x0n0, x0c0, rfl, ox0, bb⟩
 replace bel := next_trans bel bb
 have zw6 := bb.size
 clear bb
 clear cA0_0 cA1_0
 have cA0_0 : w6.cell? ⟨w.heap.size, 0, none⟩ = some (v0_0) := (rA0.next bel).cell 0
 have cA1_0 : w6.cell? ⟨w.heap.size + 1, 0, none⟩ = some (v1_0) := (rA1.next bel).cell 0
 have dA0_0 : (w6.alloc (.cells #[.slice x0A0 x0n0 x0c0] 28)).cell? ⟨w.heap.size, 0, none⟩ = some (v0_0) := ((rA0.next bel).alloc _).cell 0
 have dA1_0 : (w6.alloc (.cells #[.slice x0A0 x0n0 x0c0] 28)).cell? ⟨w.heap.size + 1, 0, none⟩ = some (v1_0) := ((rA1.next bel).alloc _).cell 0
 go_wp2_with fail
 obtain ⟨w7, hw⟩ : ∃ W, W = w6.alloc (.cells #[.slice x0A0 x0n0 x0c0] 28) := ⟨_, rfl⟩
 rw [← hw]
 have rx0 : Row w7 w6.heap.size 28 #[.slice x0A0 x0n0 x0c0] := by rw [hw]; exact Row.new _ _ _
 have bb : Below w6.heap.size w6 w7 := by rw [hw]; exact (Below.refl _ _).alloc (Nat.le_refl _) _
 have yrx0 : w6.heap.size < w7.heap.size := by rw [hw]; simp
 clear hw
 replace ox0 := ox0.next bb
 replace bel := next_trans bel bb
 have zw7 := bb.size
 clear bb
 clear dA0_0 dA1_0
 clear cA0_0 cA1_0
 have cA0_0 : w7.cell? ⟨w.heap.size, 0, none⟩ = some (v0_0) := (rA0.next bel).cell 0
 have cA1_0 : w7.cell? ⟨w.heap.size + 1, 0, none⟩ = some (v1_0) := (rA1.next bel).cell 0
 have cx0_0 : w7.cell? ⟨w6.heap.size, 0, none⟩ = some (.slice x0A0 x0n0 x0c0) := (rx0).cell 0
 refine (toK_Subst _ d1 _ (s1.next bel) h1.out).mono ?_
 rintro e w8 ⟨x1A0, x1n0, x1c0, rfl, ox1, bb⟩
 replace ox0 := ox0.next bb
 replace rx0 := rx0.next bb
 replace bel := next_trans bel bb
 have zw8 := bb.size
 clear bb
 clear cA0_0 cA1_0 cx0_0
 have cA0_0 : w8.cell? ⟨w.heap.size, 0, none⟩ = some (v0_0) := (rA0.next bel).cell 0
 have cA1_0 : w8.cell? ⟨w.heap.size + 1, 0, none⟩ = some (v1_0) := (rA1.next bel).cell 0
 have cx0_0 : w8.cell? ⟨w6.heap.size, 0, none⟩ = some (.slice x0A0 x0n0 x0c0) := (rx0).cell 0
 have dA0_0 : (w8.alloc (.cells #[.slice x1A0 x1n0 x1c0] 53)).cell? ⟨w.heap.size, 0, none⟩ = some (v0_0) := ((rA0.next bel).alloc _).cell 0
 have dA1_0 : (w8.alloc (.cells #[.slice x1A0 x1n0 x1c0] 53)).cell? ⟨w.heap.size + 1, 0, none⟩ = some (v1_0) := ((rA1.next bel).alloc _).cell 0
 have dx0_0 : (w8.alloc (.cells #[.slice x1A0 x1n0 x1c0] 53)).cell? ⟨w6.heap.size, 0, none⟩ = some (.slice x0A0 x0n0 x0c0) := ((rx0).alloc _).cell 0
 go_wp2_with fail
 obtain ⟨w9, hw⟩ : ∃ W, W = w8.alloc (.cells #[.slice x1A0 x1n0 x1c0] 53) := ⟨_, rfl⟩
 rw [← hw]
 have rx1 : Row w9 w8.heap.size 53 #[.slice x1A0 x1n0 x1c0] := by rw [hw]; exact Row.new _ _ _
 have bb : Below w8.heap.size w8 w9 := by rw [hw]; exact (Below.refl _ _).alloc (Nat.le_refl _) _
 have yrx1 : w8.heap.size < w9.heap.size := by rw [hw]; simp
 clear hw
 replace ox0 := ox0.next bb
 replace rx0 := rx0.next bb
 replace ox1 := ox1.next bb
 replace bel := next_trans bel bb
 have zw9 := bb.size
 clear bb
 clear dA0_0 dA1_0 dx0_0
 clear cA0_0 cA1_0 cx0_0
 have cA0_0 : w9.cell? ⟨w.heap.size, 0, none⟩ = some (v0_0) := (rA0.next bel).cell 0
 have cA1_0 : w9.cell? ⟨w.heap.size + 1, 0, none⟩ = some (v1_0) := (rA1.next bel).cell 0
 have cx0_0 : w9.cell? ⟨w6.heap.size, 0, none⟩ = some (.slice x0A0 x0n0 x0c0) := (rx0).cell 0
 have cx1_0 : w9.cell? ⟨w8.heap.size, 0, none⟩ = some (.slice x1A0 x1n0 x1c0) := (rx1).cell 0
 refine (implSubstText _ _ d0 d1 _ ox0.rd ox1.rd h0.out h1.out).mono ?_
 rintro e w10 ⟨he, bb⟩
 rw [HV.out] at he
 subst he
 replace ox0 := ox0.next bb
 replace rx0 := rx0.next bb
 replace ox1 := ox1.next bb
 replace rx1 := rx1.next bb
 replace bel := next_trans bel bb
 have zw10 := bb.size
 clear bb
 clear cA0_0 cA1_0 cx0_0 cx1_0
 have cA0_0 : w10.cell? ⟨w.heap.size, 0, none⟩ = some (v0_0) := (rA0.next bel).cell 0
 have cA1_0 : w10.cell? ⟨w.heap.size + 1, 0, none⟩ = some (v1_0) := (rA1.next bel).cell 0
 have cx0_0 : w10.cell? ⟨w6.heap.size, 0, none⟩ = some (.slice x0A0 x0n0 x0c0) := (rx0).cell 0
 have cx1_0 : w10.cell? ⟨w8.heap.size, 0, none⟩ = some (.slice x1A0 x1n0 x1c0) := (rx1).cell 0
 go_wp2_with fail
 replace ox0 := ox0.drew
 replace rx0 := rx0.drew
 replace ox1 := ox1.drew
 replace rx1 := rx1.drew
 replace bel := bel.drew
 have zdw10 := (drew_below w10).size
 go_region_held3 (fun w' => w'.cell? ⟨w6.heap.size, 0, none⟩ = some (.slice x0A0 x0n0 x0c0) ∧ w'.cell? ⟨w.heap.size, 0, none⟩ = some (v0_0))
  (go_keep)
  (first
   | (go_at_call 10; refine (toK_Sig _ d0 _ (s0.next bel) h0.out).mono ?_; rintro e w11 ⟨t0A0, t0n0, t0c0, rfl, ot, bb⟩; replace ox0 := ox0.next bb; replace rx0 := rx0.next bb; replace ox1 := ox1.next bb; replace rx1 := rx1.next bb; replace bel := next_trans bel bb; have k0_0w11 : w11.cell? ⟨w.heap.size, 0, none⟩ = some (v0_0) := (rA0.next bel).cell 0; have l0_0w11 : w11.cell? ⟨w6.heap.size, 0, none⟩ = some (.slice x0A0 x0n0 x0c0) := rx0.cell 0; have zqw11 := bb.size; clear bb)
   | (go_at_call 13; refine (eqK_Sig _ _ d0 _ ox0.rd ot.rd h0.out).mono ?_; rintro e w12 ⟨rfl, bb⟩; replace ox0 := ox0.next bb; replace rx0 := rx0.next bb; replace ox1 := ox1.next bb; replace rx1 := rx1.next bb; replace bel := next_trans bel bb; have k0_0w12 : w12.cell? ⟨w.heap.size, 0, none⟩ = some (v0_0) := (rA0.next bel).cell 0; have l0_0w12 : w12.cell? ⟨w6.heap.size, 0, none⟩ = some (.slice x0A0 x0n0 x0c0) := rx0.cell 0; have zqw12 := bb.size; clear bb ot))
 clear k0_0w11 l0_0w11 k0_0w12 l0_0w12
 clear ox0 rx0
 clear cA0_0 cA1_0 cx0_0 cx1_0
 have cA0_0 : w12.cell? ⟨w.heap.size, 0, none⟩ = some (v0_0) := (rA0.next bel).cell 0
 have cA1_0 : w12.cell? ⟨w.heap.size + 1, 0, none⟩ = some (v1_0) := (rA1.next bel).cell 0
 have cx1_0 : w12.cell? ⟨w8.heap.size, 0, none⟩ = some (.slice x1A0 x1n0 x1c0) := (rx1).cell 0
 go_wp2_with fail
 replace ox1 := ox1.drew
 replace rx1 := rx1.drew
 replace bel := bel.drew
 have zdw12 := (drew_below w12).size
 go_region_held3 (fun w' => w'.cell? ⟨w8.heap.size, 0, none⟩ = some (.slice x1A0 x1n0 x1c0) ∧ w'.cell? ⟨w.heap.size + 1, 0, none⟩ = some (v1_0))
  (go_keep)
  (first
   | (go_at_call 29; refine (toK_Subst _ d1 _ (s1.next bel) h1.out).mono ?_; rintro e w13 ⟨t1A0, t1n0, t1c0, rfl, ot, bb⟩; replace ox1 := ox1.next bb; replace rx1 := rx1.next bb; replace bel := next_trans bel bb; have k1_0w13 : w13.cell? ⟨w.heap.size + 1, 0, none⟩ = some (v1_0) := (rA1.next bel).cell 0; have l1_0w13 : w13.cell? ⟨w8.heap.size, 0, none⟩ = some (.slice x1A0 x1n0 x1c0) := rx1.cell 0; have zqw13 := bb.size; clear bb)
   | (go_at_call 31; refine (eqK_Subst _ _ d1 _ ox1.rd ot.rd h1.out).mono ?_; rintro e w14 ⟨rfl, bb⟩; replace ox1 := ox1.next bb; replace rx1 := rx1.next bb; replace bel := next_trans bel bb; have k1_0w14 : w14.cell? ⟨w.heap.size + 1, 0, none⟩ = some (v1_0) := (rA1.next bel).cell 0; have l1_0w14 : w14.cell? ⟨w8.heap.size, 0, none⟩ = some (.slice x1A0 x1n0 x1c0) := rx1.cell 0; have zqw14 := bb.size; clear bb ot))
 clear k1_0w13 l1_0w13 k1_0w14 l1_0w14
 clear ox1 rx1
 clear cA0_0 cA1_0 cx1_0
 have cA0_0 : w14.cell? ⟨w.heap.size, 0, none⟩ = some (v0_0) := (rA0.next bel).cell 0
 have cA1_0 : w14.cell? ⟨w.heap.size + 1, 0, none⟩ = some (v1_0) := (rA1.next bel).cell 0
 have F := hid (bW.trans (bel.mono bW.size))
 clear bel bW cA0_0 cA1_0
 go_wp2
 go_ret
 exact ⟨rfl, F.out⟩
end wSubstText
end
section
namespace openX
open Go.ChangeShapes Go.WideShapes Go.ChangeAt Go.RowKit base segs shape
def Wf : (s : Sh) → Dat s → Prop
 | .num, (x : Int) => -9223372036854775808 ≤ x ∧ x ≤ 9223372036854775807
 | .bit, _ => True
 | .row _ s, (d : List (Dat s)) => ∀ j, j < d.length → Wf s (d.getD j (dft s))
 | .cat a b, d => Wf a d.1 ∧ Wf b d.2
mutual
def fitsB (P : Program) : Nat → Sh → TypeId → Bool
 | 0, _, _ => false
 | n + 1, s, t => match P.underlying t with
  | some (.struct fs) => P.cellsOf t == nc s && fitsL P n fs.toList 0 s
  | some (.int .i64) => match s with | .num => true | _ => false
  | some .bool => match s with | .bit => true | _ => false
  | some (.slice e) => match s with | .row _ s' => P.cellsOf e == nc s' && fitsB P n s' e | _ => false
  | _ => false
def fitsL (P : Program) : Nat → List Field → Nat → Sh → Bool
 | 0, _, _, _ => false
 | _ + 1, [], _, _ => false
 | n + 1, [f], k, s => f.offset == k && (P.cellsOf f.type == nc s && fitsB P n s f.type)
 | n + 1, f :: g :: fs, k, s => match s with | .cat a b => f.offset == k && (P.cellsOf f.type == nc a && (fitsB P n a f.type && fitsL P n (g :: fs) (k + nc a) b)) | _ => false
end
section
variable {H : Type} {enc : TypeId × Value → H} {P : Program} {w : World} {held : Bool}
theorem addr_add {b off i : Nat} : (⟨b, off, none⟩ : Addr).add i = ⟨b, off + i, none⟩ := by unfold Addr.add; split <;> simp_all
theorem rd_trod : ∀ n : Nat, (∀ (s : Sh) (t : TypeId) (fuel : Nat) (cs : List Value) (x : DataW H × List MemPlace), fitsB P n s t = true → DataW.trod enc P w 0 (fun _ => true) held fuel t cs = some x → ∃ d, Rd w w.heap.size s cs d ∧ Wf s d) ∧
  (∀ (fs : List Field) (k : Nat) (s : Sh) (cs : List Value) (m : Nat), fitsL P n fs k s = true → (∀ (i : Nat) (f : Field), fs[i]? = some f → ∃ x, DataW.trod enc P w 0 (fun _ => true) held m f.type ((cs.drop f.offset).take (P.cellsOf f.type)) = some x) →
   ∃ d, Rd w w.heap.size s ((cs.drop k).take (nc s)) d ∧ Wf s d) := by
 intro n
 induction n with
 | zero => exact ⟨fun _ _ _ _ _ h => by simp [fitsB] at h, fun _ _ _ _ _ h => by simp [fitsL] at h⟩
 | succ n ih =>
  refine ⟨fun s t fuel cs x hf h => ?_, fun fs k s cs m hf h => ?_⟩
  ·unfold fitsB at hf
   split at hf
   ·rename_i fs hu
    simp only [Bool.and_eq_true, beq_iff_eq] at hf
    obtain ⟨xs, n', hfu, hx, hlen, hxl, hg⟩ := DataW.trod_struct hu h
    obtain ⟨d, hr, hw⟩ := ih.2 fs.toList 0 s cs n' hf.2 (fun i f hi => by
     have hi' : fs[i]? = some f := by simpa using hi
     have h1 := hg i f hi'
     have hlt : i < fs.size := (Array.getElem?_eq_some_iff.1 hi').1
     exact ⟨xs[i]'(by omega), by rw [h1]; exact List.getElem?_eq_getElem (by omega)⟩)
    rw [List.drop_zero, List.take_of_length_le (by omega)] at hr
    exact ⟨d, hr, hw⟩
   ·rename_i hu
    split at hf
    ·obtain ⟨z, e1, _, hw⟩ := DataW.trod_int hu h
     refine ⟨z, e1, ?_⟩
     show -9223372036854775808 ≤ z ∧ z ≤ 9223372036854775807
     simpa [Lit.wf, IntKind.min, IntKind.max, IntKind.signed, IntKind.bits] using hw
    ·cases hf
   ·rename_i hu
    split at hf
    ·obtain ⟨z, e1, _⟩ := DataW.trod_bool hu h
     exact ⟨z, e1, trivial⟩
    ·cases hf
   ·rename_i e hu
    split at hf
    ·rename_i e0 s'
     simp only [Bool.and_eq_true, beq_iff_eq] at hf
     rcases Go.Deep.open_slice hu h with ⟨hcs, _⟩ | ⟨a, len, cap, m, n', D, Pl, hcs, _, hl, hm, hmm, _, hi⟩
     ·exact ⟨[], ⟨none, 0, 0, hcs, ⟨by omega, by omega, fun _ => rfl⟩, rfl, fun h => absurd h (by omega)⟩, fun j hj => absurd hj (Nat.not_lt_zero _)⟩
     ·have hmc : m = cap := by simpa using hmm
      subst hmc
      have hd : ∀ j, j < len → ∃ (es : List Value) (dj : Dat s'), es.length = nc s' ∧ (∀ i, i < nc s' → w.cell? ((a.add (j * nc s')).add i) = es[i]?) ∧ Rd w w.heap.size s' es dj ∧ Wf s' dj := fun j hj => by
       obtain ⟨cs', hc, ht⟩ := hi j (by omega)
       obtain ⟨dj, hr, hw⟩ := ih.1 s' e n' cs' _ hf.2 ht
       rw [hf.1] at hc
       obtain ⟨_, hcl, hat⟩ := World.cells?_some hc
       exact ⟨cs', dj, hcl, hat, hr, hw⟩
      have hspot : 0 < len → a.spot = none := fun h0 => by
       obtain ⟨es, dj, h1, h2, _⟩ := hd 0 h0
       have hp := nc_pos s'
       have h3 := h2 0 (by omega)
       rw [List.getElem?_eq_getElem (by omega)] at h3
       have := World.cell?_spot h3
       simpa [Addr.add] using this
      obtain ⟨ds, hdl, hds⟩ : ∃ ds : List (Dat s'), ds.length = len ∧ ∀ j, j < len → ∃ es : List Value, es.length = nc s' ∧ (∀ i, i < nc s' → w.cell? ((a.add (j * nc s')).add i) = es[i]?) ∧ Rd w w.heap.size s' es (ds.getD j (dft s')) ∧ Wf s' (ds.getD j (dft s')) := by
       refine ⟨(List.range len).map fun j => if hj : j < len then Classical.choose (Classical.choose_spec (hd j hj)) else dft s', by simp, fun j hj => ?_⟩
       refine ⟨Classical.choose (hd j hj), ?_⟩
       have h1 := Classical.choose_spec (Classical.choose_spec (hd j hj))
       have e1 : ((List.range len).map fun j => if hj : j < len then Classical.choose (Classical.choose_spec (hd j hj)) else dft s').getD j (dft s') = Classical.choose (Classical.choose_spec (hd j hj)) := by simp [List.getD, hj]
       rw [e1]
       exact h1
      refine ⟨ds, ⟨some a, len, m, hcs, ⟨hl, by unfold maxLen at hm; omega, fun e => by cases e⟩, hdl, fun h0 => ?_⟩, fun j hj => by
       obtain ⟨es, _, _, _, hw⟩ := hds j (by rw [← hdl]; exact hj)
       exact hw⟩
      obtain ⟨b, off, spot⟩ := a
      have hs := hspot h0
      simp only at hs
      subst hs
      refine ⟨b, off, rfl, ?_, fun j hj => ?_⟩
      ·obtain ⟨es, h1, h2, _⟩ := hds 0 h0
       have hp := nc_pos s'
       have h3 := h2 0 (by omega)
       rw [List.getElem?_eq_getElem (by omega)] at h3
       have h4 := World.block_lt_of_cell? _ _ h3
       simpa [addr_add] using h4
      ·obtain ⟨es, h1, h2, h3, _⟩ := hds j hj
       refine ⟨es, h1, fun i hi2 => ?_, h3⟩
       have := h2 i (by omega)
       rw [addr_add, addr_add] at this
       exact this
    ·cases hf
   ·cases hf
  ·match fs, hf, h with
   | [], hf, _ => simp [fitsL] at hf
   | [f], hf, h =>
    unfold fitsL at hf
    simp only [Bool.and_eq_true, beq_iff_eq] at hf
    obtain ⟨h1, h2, h3⟩ := hf
    obtain ⟨x, hx⟩ := h 0 f rfl
    rw [h1, h2] at hx
    exact ih.1 s f.type m _ x h3 hx
   | f :: g :: fs, hf, h =>
    cases s with
    | cat a b =>
     unfold fitsL at hf
     simp only [Bool.and_eq_true, beq_iff_eq] at hf
     obtain ⟨h1, h2, h3, h4⟩ := hf
     obtain ⟨x, hx⟩ := h 0 f rfl
     rw [h1, h2] at hx
     obtain ⟨d1, r1, w1⟩ := ih.1 a f.type m _ x h3 hx
     obtain ⟨d2, r2, w2⟩ := ih.2 (g :: fs) (k + nc a) b cs m h4 (fun i f' hi => h (i + 1) f' hi)
     refine ⟨(d1, d2), ⟨_, _, ?_, r1, r2⟩, w1, w2⟩
     show List.take (nc a + nc b) (List.drop k cs) = _
     rw [List.take_add, List.drop_drop]
    | num => simp [fitsL] at hf
    | bit => simp [fitsL] at hf
    | row e s' => simp [fitsL] at hf
theorem open_val {s : Sh} {t : TypeId} {v : Value} {d : DataW H} {p : List MemPlace} {n : Nat} (hf : fitsB P n s t = true) (h : DataW.Trod enc P w 0 (fun _ => true) held t v d p) : ∃ x, Rd w w.heap.size s v.cells.toList x ∧ Wf s x := by
 obtain ⟨fuel, hfu⟩ := h
 exact (rd_trod n).1 s t fuel _ _ hf hfu
end
end openX
end
end Go.Proofs.YtlaloakegajheabDoor
