/-
  MERGED: my texts ThenOv, PkFacts, PeakRun, PkLink, PeakAtImpl, KindsQ, Shelf, Sorted, VarsSort, VarsImpl, RuleImplC, RuleImplD, one behind the other, as they are. By an AI agent.
-/
import Derived.Test.YtlmofkeemlfpgaaGreatMFnExactClosedIn10
import Derived.Deep.RegionHeld3
import Derived.Deep.DeepCutAuto
import Derived.Shelf.SlGeneric
import Derived.Ground.SlgnProg
import Derived.Shelf.SortG.Plain
import Derived.Shelf.SortG.SortNone
import Derived.Shelf.SlicesG.CompactI
import Derived.Test.YtlmofkeemlfpgaaGreatProg
namespace Go.Proofs.YtlmofkeemlfpgaaGreat
section
open Go.Lib (hid)
open List (setIfInBounds_toArray set_cons_zero set_cons_succ getElem_toArray getElem_cons_zero getElem_cons_succ)
namespace thenOv
open Go.RowKit base ints sig cursor marks app appAt sym segs fillMath Go.Proofs.YtlmofkeemlfpgaaGreat.look renMath rename renImpl renWide matchMath unifMath pathSpec
set_option maxRecDepth 100000
theorem ordF_app (o a b : List Int) : ordF o (a ++ b) = ordF (ordF o a) b := by unfold ordF; rw [List.foldl_append]
theorem ren_ordF {n : Int} : ∀ {b o : List Int}, (n < 0 → n ∈ o) → ren (ordF o b) n = ren o n
 | [], _, _ => rfl
 | x :: r, o, h => by
  have e : ordF o (x :: r) = ordF (extV o x) r := rfl
  rw [e, ren_ordF fun h0 => extV_mem.2 (.inr (h h0))]
  exact ren_ext h
theorem renF_app (o a b : List Int) : renF o (a ++ b) = renF o a ++ renF (ordF o a) b := by
 unfold renF
 rw [ordF_app, List.map_append]
 congr 1
 refine List.map_congr_left fun n hn => ren_ordF fun h0 => ?_
 exact fold_ext_mem.2 (.inl ⟨hn, h0⟩)
structure Fz (w0 : World) (z0 B : Nat) (W : World) : Prop where
 os : W.os = w0.os
 tape : W.tape = w0.tape
 output : W.output = w0.output
 size : w0.heap.size ≤ W.heap.size
 blk : ∀ k, k < z0 → k ≠ B → W.heap[k]? = w0.heap[k]?
theorem Fz.refl (w0 : World) (z0 B : Nat) : Fz w0 z0 B w0 := ⟨rfl, rfl, rfl, Nat.le_refl _, fun _ _ _ => rfl⟩
theorem Fz.side {w0 : World} {z0 B : Nat} {W W' : World} {r : Option Nat} (h : Fz w0 z0 B W) (hz : z0 ≤ W.heap.size) (hs : Side B r W W') (hr : ∀ k, r = some k → z0 ≤ k) : Fz w0 z0 B W' :=
 ⟨hs.os.trans h.os, hs.tape.trans h.tape, hs.output.trans h.output, Nat.le_trans h.size hs.size, fun k hk hb => (hs.block k (by omega) hb (fun e => by have := hr k e.symm; omega)).trans (h.blk k hk hb)⟩
theorem Fz.below {w0 : World} {z0 B : Nat} {W W' : World} (h : Fz w0 z0 B W) (hz : z0 ≤ W.heap.size) (hb : Below W.heap.size W W') : Fz w0 z0 B W' := h.side (r := none) hz (Side.of_below hb) (fun k e => by cases e)
theorem Fz.drew {w0 : World} {z0 B : Nat} {W : World} (h : Fz w0 z0 B W) : Fz w0 z0 B W.drew := ⟨h.os, h.tape, h.output, h.size, h.blk⟩
theorem Fz.cell {w0 : World} {z0 B : Nat} {W : World} (h : Fz w0 z0 B W) {b i : Nat} (hb : b < z0) (hB : b ≠ B) : W.cell? ⟨b, i, none⟩ = w0.cell? ⟨b, i, none⟩ := World.cell?_of_block (h.blk b hb hB)
def LookR (w0 : World) (z0 B : Nat) (g : Nat) (lb : Array Value) (T : Nat → List Int) (dom : Nat → Prop) : Prop :=
 ∀ (W : World) (i : Nat), Fz w0 z0 B W → dom i → Calls Tryz.prog g (#[.int .i64 (i : Int)] ++ lb) W (AnsList W (T i))
set_option maxHeartbeats 4000000 in
theorem thenRen (w0 : World) (z0 B b1 b2 g1 : Nat) (lb1 : Array Value) (e1 : ∀ args w, (callFunc g1 args).run Tryz.prog w = .ok (.enter g1 args) w) (T : Nat → List Int) (dom : Nat → Prop) (hz : z0 ≤ w0.heap.size) (hB : B < z0) (z1 : b1 < z0) (z2 : b2 < z0) (n1 : b1 ≠ B) (n2 : b2 ≠ B)
  (c1 : w0.cell? ⟨b1, 0, none⟩ = some (.func (.func g1) #[] lb1)) (c2 : w0.cell? ⟨b2, 0, none⟩ = some (.func (.func 132) #[] #[.pointer (some ⟨B, 0, none⟩)])) (hl : LookR w0 z0 B g1 lb1 T dom)
  (W : World) (i : Nat) (o : List Int) (S : Option Addr) (sn sc : Nat) (hF : Fz w0 z0 B W) (hr : Row W B 22 #[.slice S sn sc]) (hS : Own W z0 (.slice S sn sc) (o.map vn)) (hi : dom i) (h61 : (T i).length ≤ 61) (hv : ∀ x ∈ T i, -100000 ≤ x) (ho : o.length ≤ 50000) :
  Calls Tryz.prog 137 #[.int .i64 (i : Int), .pointer (some ⟨b2, 0, none⟩), .pointer (some ⟨b1, 0, none⟩)] W (AnsRGW W B z0 o (T i) S) := by
 have hsz := hF.size
 have p1 : W.cell? ⟨b1, 0, none⟩ = some (.func (.func g1) #[] lb1) := (hF.cell z1 n1).trans c1
 have p2 : W.cell? ⟨b2, 0, none⟩ = some (.func (.func 132) #[] #[.pointer (some ⟨B, 0, none⟩)]) := (hF.cell z2 n2).trans c2
 have HL1 := hid (hl W.drew i hF.drew hi)
 have hSl := own_lt hS
 have L2 := hid (fun (w3 : World) (X : Option Addr) (xn xc : Nat) (b3 : Below W.heap.size W.drew w3) (oX : Own w3 W.heap.size (.slice X xn xc) (T i)) => (show Calls Tryz.prog 104 #[.func (.func 132) #[] #[.pointer (some ⟨B, 0, none⟩)], .slice X xn xc] w3 (AnsRGW w3 B z0 o (T i) S) from by
  have b3' : Below W.heap.size W w3 := (Below.refl _ W).drew.trans b3
  have hx := Own.len oX
  have hs3 := b3'.size
  refine fillRenW B z0 X xn xc o (T i) S sn sc w3 (hr.next b3') (hS.next b3') (Own.seg oX) (fun k hk => ?_) (by omega) ho hv hB (by omega)
  have h1 := Own.ge oX k hk
  exact ⟨by omega, fun e => by have := (hSl k e).2; omega⟩))
 have FIN := hid (fun (w3 w4 : World) (e : Ending) (b3 : Below W.heap.size W.drew w3) (h : AnsRGW w3 B z0 o (T i) S e w4) => (show AnsRGW W B z0 o (T i) S e w4 from by
  obtain ⟨O, on, oc, S', sn', sc', rfl, h1, h2, h3, h4, h5, h6⟩ := h
  have b3' : Below W.heap.size W w3 := (Below.refl _ W).drew.trans b3
  have hs3 := b3'.size
  refine ⟨O, on, oc, S', sn', sc', rfl, Own.lower h1 hs3, h2, h3, h4.imp id fun ⟨q, e, hq⟩ => ⟨q, e, by omega⟩, h5, (Side.of_below b3').trans h6⟩))
 have HZ := hid (fun (w3 w4 : World) (b3 : Below W.heap.size W.drew w3) (h : Side B (blk S) w3 w4) => (show w4.cell? ⟨b1, 0, none⟩ = some (.func (.func g1) #[] lb1) ∧ w4.cell? ⟨b2, 0, none⟩ = some (.func (.func 132) #[] #[.pointer (some ⟨B, 0, none⟩)]) from by
  have hF4 := (hF.drew.below (by show z0 ≤ W.heap.size; omega) b3).side (by have h9 : W.heap.size ≤ w3.heap.size := b3.size; omega) h (fun k e => (hSl k e).1)
  exact ⟨(hF4.cell z1 n1).trans c1, (hF4.cell z2 n2).trans c2⟩))
 clear hF hr hS hl hi c1 c2
 go_enter Tryz.func137, Tryz.ntmps137
 go_wp2_with fail
 refine wp_region_held_drew (S := (fun w' => w'.cell? ⟨b1, 0, none⟩ = some (.func (.func g1) #[] lb1) ∧ w'.cell? ⟨b2, 0, none⟩ = some (.func (.func 132) #[] #[.pointer (some ⟨B, 0, none⟩)]))) (by kernel_rfl) ⟨p1, p2⟩ (fun hHeld => ?_)
 refine wpAnyH_take (i := 0) (v := ?_) rfl (by kernel_rfl) (by kernel_rfl) (by kernel_rfl) (fun _ _ _ h => h) (Or.inl ⟨by rfl, ?_⟩) (by assumption) ?_
 rotate_left 1
 ·(intro w0 hSw; (try dsimp only at hSw); go_simp; try with_reducible rfl)
 try simp only [Act.put, setIfInBounds_toArray, set_cons_zero, set_cons_succ, getElem_toArray, getElem_cons_zero, getElem_cons_succ]
 refine wpAnyH_take (i := 1) (v := ?_) rfl (by kernel_rfl) (by kernel_rfl) (by kernel_rfl) (fun _ _ _ h => h) (Or.inl ⟨by rfl, ?_⟩) (by assumption) ?_
 rotate_left 1
 ·(intro w0 hSw; (try dsimp only at hSw); go_simp; try with_reducible rfl)
 try simp only [Act.put, setIfInBounds_toArray, set_cons_zero, set_cons_succ, getElem_toArray, getElem_cons_zero, getElem_cons_succ]
 refine wpAnyH_take (i := 2) (v := ?_) rfl (by kernel_rfl) (by kernel_rfl) (by kernel_rfl) (fun _ _ _ h => h) (Or.inl ⟨by rfl, ?_⟩) (by assumption) ?_
 rotate_left 1
 ·(intro w0 hSw; (try dsimp only at hSw); go_simp; try with_reducible rfl)
 try simp only [Act.put, setIfInBounds_toArray, set_cons_zero, set_cons_succ, getElem_toArray, getElem_cons_zero, getElem_cons_succ]
 refine wpAnyH_ready (rs := [3]) (by kernel_rfl) (by simp) (AllReadyH.cons rfl (fun K hK => ?_) AllReadyH.nil)
 go_simp
 refine HL1.out.mono ?_
 rintro e w3 ⟨X, xn, xc, rfl, oX, b3⟩
 have x1 : w3.cell? ⟨b1, 0, none⟩ = some (.func (.func g1) #[] lb1) := (b3.cell (p := ⟨b1, 0, none⟩) (World.block_lt_of_cell? _ _ p1)).trans p1
 have x2 : w3.cell? ⟨b2, 0, none⟩ = some (.func (.func 132) #[] #[.pointer (some ⟨B, 0, none⟩)]) := (b3.cell (p := ⟨b2, 0, none⟩) (World.block_lt_of_cell? _ _ p2)).trans p2
 have LF := hid (L2.out w3 X xn xc b3 oX)
 have HB3 := hid b3
 clear oX b3
 go_wp2_with fail
 refine hK.out _ _ ?_ (fun hHeld => ?_)
 ·first | assumption | (dsimp only; assumption) | exact ⟨by assumption, by assumption⟩
 clear hK K
 try simp only [Act.put, setIfInBounds_toArray, set_cons_zero, set_cons_succ, getElem_toArray, getElem_cons_zero, getElem_cons_succ]
 refine wpAnyH_ready (rs := [4]) (by kernel_rfl) (by simp) (AllReadyH.cons rfl (fun K hK => ?_) AllReadyH.nil)
 go_simp
 refine LF.out.mono ?_
 rintro e w4 hans
 have hans2 := hans
 obtain ⟨Y, yn, yc, S', sn', sc', rfl, -, -, -, -, -, h6⟩ := hans2
 obtain ⟨y1, y2⟩ := HZ.out w3 w4 HB3.out h6
 have HANS := hid hans
 clear hans h6
 go_wp2_with fail
 refine hK.out _ _ ?_ (fun hHeld => ?_)
 ·first | assumption | (dsimp only; assumption) | exact ⟨by assumption, by assumption⟩
 clear hK K
 try simp only [Act.put, setIfInBounds_toArray, set_cons_zero, set_cons_succ, getElem_toArray, getElem_cons_zero, getElem_cons_succ]
 refine wpAnyH_take (i := 5) (v := ?_) rfl (by kernel_rfl) (by kernel_rfl) (by kernel_rfl) (fun _ _ _ h => h) (Or.inl ⟨by rfl, ?_⟩) (by assumption) ?_
 rotate_left 1
 ·(intro w0 hSw; (try dsimp only at hSw); go_simp; try with_reducible rfl)
 try simp only [Act.put, setIfInBounds_toArray, set_cons_zero, set_cons_succ, getElem_toArray, getElem_cons_zero, getElem_cons_succ]
 refine wpAnyH_done (by kernel_rfl) ?_ _
 have HF := hid (FIN.out w3 w4 _ HB3.out HANS.out)
 clear HL1 LF L2 FIN HZ HANS p1 p2 x1 x2
 go_wp2
 go_ret
 exact HF.out
theorem fill_len61 {L : Nat → List Int} : ∀ {t : List Int}, (∀ x ∈ t, x < 0 → (L (vr x)).length ≤ 61) → (fillL L t).length ≤ 61 * t.length
 | [], _ => Nat.le_refl _
 | x :: r, h => by
  have h1 := fill_len61 (t := r) fun y hy => h y (List.mem_cons_of_mem _ hy)
  rw [fill_cons, List.length_append, List.length_cons]
  have h2 : (rep L x).length ≤ 61 := by
   by_cases h0 : x < 0
   ·rw [rep_vr h0]; exact h x (List.mem_cons_self ..) h0
   ·rw [rep_sym (by omega)]; simp
  omega
def HeadFT (w : World) (B z0 m : Nat) (o t : List Int) (L : Nat → List Int) (S0 : Option Addr) (out i : Value) (wr : World) : Prop :=
 ∃ (k : Nat) (O : Option Addr) (on oc : Nat) (S : Option Addr) (sn sc : Nat), k ≤ m ∧ i = .int .i64 k ∧ out = .slice O on oc ∧ Own wr w.heap.size (.slice O on oc) (renF o (fillL L (t.take k))) ∧ Row wr B 22 #[.slice S sn sc] ∧
  Own wr z0 (.slice S sn sc) ((ordF o (fillL L (t.take k))).map vn) ∧ (blk S = blk S0 ∨ ∃ q, blk S = some q ∧ w.heap.size ≤ q) ∧ (blk O = none ∨ blk O ≠ blk S) ∧ Side B (blk S0) w wr
set_option maxHeartbeats 4000000 in
theorem fillThen (w0 : World) (z0 B b1 b2 g1 : Nat) (lb1 : Array Value) (e1 : ∀ args w, (callFunc g1 args).run Tryz.prog w = .ok (.enter g1 args) w) (L : Nat → List Int) (dom : Nat → Prop) (hz : z0 ≤ w0.heap.size) (hB : B < z0) (z1 : b1 < z0) (z2 : b2 < z0) (n1 : b1 ≠ B) (n2 : b2 ≠ B)
  (c1 : w0.cell? ⟨b1, 0, none⟩ = some (.func (.func g1) #[] lb1)) (c2 : w0.cell? ⟨b2, 0, none⟩ = some (.func (.func 132) #[] #[.pointer (some ⟨B, 0, none⟩)])) (hl : LookR w0 z0 B g1 lb1 L dom) (hdb : ∀ i, dom i → i ≤ 1000) (hT : ∀ i, dom i → 1 ≤ (L i).length ∧ (L i).length ≤ 61 ∧ ∀ x ∈ L i, -100000 ≤ x)
  (A : Option Addr) (m c : Nat) (t o : List Int) (S0 : Option Addr) (n0 c0 : Nat) (w : World) (hF : Fz w0 z0 B w) (hr : Row w B 22 #[.slice S0 n0 c0]) (hS : Own w z0 (.slice S0 n0 c0) (o.map vn)) (h : Seg w w.heap.size A m t) (hA : ∀ k, blk A = some k → k ≠ B ∧ blk S0 ≠ some k) (hm : m ≤ 60) (hd : ∀ x ∈ t, x < 0 → dom (vr x)) (ho : o.length ≤ 40000) :
  Calls Tryz.prog 104 #[.func (.func 137) #[] #[.pointer (some ⟨b2, 0, none⟩), .pointer (some ⟨b1, 0, none⟩)], .slice A m c] w (AnsRGW w B z0 o (fillL L t) S0) := by
 have HL := hid h.1
 have HD := hid hd
 have HT := hid hT
 have hBw := hr.lt
 have hzw : z0 ≤ w.heap.size := by have := hF.size; omega
 have HSL := hid (own_lt hS)
 have HFZ := hid hF
 have LC := hid (fun (W : World) (i : Nat) (o : List Int) (S : Option Addr) (sn sc : Nat) hF hr hS hi ho => thenRen w0 z0 B b1 b2 g1 lb1 e1 L dom hz hB z1 z2 n1 n2 c1 c2 hl W i o S sn sc hF hr hS hi (hT i hi).2.1 (hT i hi).2.2 ho)
 have S1 : HeadFT w B z0 m o t L S0 (.slice none 0 0) (.int .i64 0) w := ⟨0, none, 0, 0, S0, n0, c0, Nat.zero_le _, rfl, rfl, by simpa [renF, fillL] using Own.nil w w.heap.size, hr, by simpa [ordF, fillL] using hS, .inl rfl, .inl rfl, Side.of_below (Below.refl _ _)⟩
 have HS0 := hid S1
 have HBD := hid (fun k => (show (fillL L (t.take k)).length ≤ 3660 from by
  have h1 := fill_len61 (L := L) (t := t.take k) fun x hx h0 => (hT _ (hd x (List.mem_of_mem_take hx) h0)).2.1
  have h2 : (t.take k).length ≤ 60 := by rw [List.length_take, h.1]; omega
  omega))
 clear S1 hd hr hS hF hT hl c1 c2 e1
 go_enter Tryz.func104, Tryz.ntmps104
 go_wp2
 go_loopw [5, 10] (fun out i wr => HeadFT w B z0 m o t L S0 out i wr) (fun _ i _ => m - (intOf i).toNat)
 case atStart => exact HS0.out
 case round =>
  obtain ⟨k, O, on, oc, S, sn, sc, hk, rfl, rfl, hO, hr, hs, hat0, hne, hsd⟩ := hrel
  clear HS0
  have hon : on ≤ 10000 := by have h1 := HBD.out k; rw [Own.len hO]; unfold renF; simp; omega
  have hord : (ordF o (fillL L (t.take k))).length ≤ 50000 := by have h1 := HBD.out k; have h2 := ordF_len o (fillL L (t.take k)); omega
  have hBlt := hr.lt
  have hwz := hsd.size
  by_cases hlt : k < m
  ·obtain ⟨b, off, x, rfl, hbb, hx, ex⟩ := h.spot hlt
   have hx1 : wr.cell? ⟨b, off + k, none⟩ = some (.int .i64 x) := by
    have hA1 := hA b rfl
    have hneS : some b ≠ blk S0 := fun e => hA1.2 e.symm
    exact (World.cell?_of_block (hsd.block b hbb hA1.1 hneS)).trans hx
   have hmem := mem_of_get (by rw [HL.out]; exact hlt) ex.out
   have E := hid (fill_take (L := L) (t := t) (k := k) (by rw [HL.out]; exact hlt) ex.out)
   by_cases hpos : 0 ≤ x
   ·have R := hid (show renF o (fillL L (t.take (k + 1))) = renF o (fillL L (t.take k)) ++ [x] ∧ ordF o (fillL L (t.take (k + 1))) = ordF o (fillL L (t.take k)) from by
     have e2 : ordF (ordF o (fillL L (t.take k))) [x] = ordF o (fillL L (t.take k)) := by
      show extV (ordF o (fillL L (t.take k))) x = _
      unfold extV
      rw [if_neg (by omega)]
     rw [E.out, rep_sym hpos, renF_app, ordF_app, e2]
     refine ⟨?_, rfl⟩
     congr 1
     unfold renF
     rw [e2]
     show [ren _ x] = [x]
     unfold ren
     rw [if_neg (by omega)])
    have ho1 := Own.alloc hO (.cells #[.int .i64 x] 2)
    have hs1 := Own.alloc hs (.cells #[.int .i64 x] 2)
    have hr1 := hr.alloc (.cells #[.int .i64 x] 2)
    clear hmem hx ex
    go_wp2_with (at_builtin; refine appAllAt rfl _ _ rfl w.heap.size O on oc _ rfl ho1 (some ⟨wr.heap.size, 0, none⟩) 1 1 (wr.heap.size + 1) [x] rfl (by simpa using one_seg wr x) (by omega) (by omega) (by omega) (by simp; omega) ?_; intro O' oc' w2 ho2 hg hat)
    have S1 : HeadFT w B z0 m o t L S0 (.slice O' (on + 1) oc') (.int .i64 ((k : Int) + 1)) w2 := by
     refine ⟨k + 1, O', on + 1, oc', S, sn, sc, hlt, by simp, rfl, by rw [R.out.1]; exact ho2, Row.away hr1 hg (own_ne ho1 hr1), by rw [R.out.2]; exact Own.kept hs1 hg (ne_flip hne), hat0, ?_, ?_⟩
     ·rcases hat with h | h
      ·rw [h]; exact hne
      ·exact ne_new hs1 _ (Nat.le_refl _) h
     ·exact (hsd.allocs _).grow hg (fun q hq => (blk_lt hO q hq).1)
    have S := hid S1
    clear S1 ho2 hg hat ho1 hs1 hr1 hO hs hr hne hsd R E hat0
    go_wp2
    go_roundw
    case rel => exact S.out
    case measure => simp [intOf]; omega
   ·have hneg : x < 0 := by omega
    have hdom := HD.out x hmem hneg
    have hTi := HT.out (vr x) hdom
    have R := hid (show renF o (fillL L (t.take (k + 1))) = renF o (fillL L (t.take k)) ++ renF (ordF o (fillL L (t.take k))) (L (vr x)) ∧ ordF o (fillL L (t.take (k + 1))) = ordF (ordF o (fillL L (t.take k))) (L (vr x)) from by
     rw [E.out, rep_vr hneg, renF_app, ordF_app]
     exact ⟨rfl, rfl⟩)
    have hFr := HFZ.out.side hzw hsd (fun q hq => (HSL.out q hq).1)
    have hcall := LC.out wr (vr x) _ S sn sc hFr hr hs hdom hord
    have evr : ((vr x : Nat) : Int) = -1 - x := by unfold vr; omega
    have hx9 : -1001 ≤ x := by have := hdb _ hdom; unfold vr at this; omega
    rw [evr] at hcall
    have LX := hid hcall
    have hlen : (renF (ordF o (fillL L (t.take k))) (L (vr x))).length = (L (vr x)).length := by unfold renF; rw [List.length_map]
    obtain ⟨n', hn'⟩ : ∃ n', (L (vr x)).length = n' := ⟨_, rfl⟩
    rw [hn'] at hlen hTi
    have HLEN := hid hlen
    have hTi1 := hTi.1
    have hTi2 := hTi.2.1
    clear hmem hx ex hcall hdom hFr evr hTi hn' hlen
    go_wp2_with (first
     | (go_at_call 137; go_must (refine LX.out.mono ?_); rintro e w1 ⟨A1, n1', cc1, S1, sn1, sc1, rfl, o1, r1, os1, hat1, hne0, sd⟩; have ho1 := Own.side hO sd hr hne; have hz1 := sd.size; have en : n1' = n' := (by have hl1 := Own.len o1; have hnn := HLEN.out; omega); cases en; have hne1 : blk O = none ∨ blk O ≠ blk S1 := (by rcases hat1 with h | ⟨q, h, hq⟩; (rw [h]; exact hne); (right; intro e; rw [h] at e; have := (blk_lt hO q e).2; omega)))
     | (at_builtin; go_must (refine appAllAt rfl _ _ rfl w.heap.size O on oc _ rfl ho1 A1 n' cc1 w1.heap.size _ rfl (Own.seg o1) (by omega) (by omega) (by omega) (by omega) ?_); intro O' oc' w2 ho2 hg hat))
    have SS : HeadFT w B z0 m o t L S0 (.slice O' (on + n') oc') (.int .i64 ((k : Int) + 1)) w2 := by
     refine ⟨k + 1, O', on + n', oc', S1, sn1, sc1, hlt, by simp, rfl, by rw [R.out.1]; exact ho2, Row.away r1 hg (own_ne ho1 r1), by rw [R.out.2]; exact Own.kept os1 hg (ne_flip hne1), ?_, ?_, ?_⟩
     ·rcases hat1 with h | ⟨q, h, hq⟩
      ·rw [h]; exact hat0
      ·exact .inr ⟨q, h, by omega⟩
     ·rcases hat with h | h
      ·rw [h]; exact hne1
      ·exact ne_new os1 _ (Nat.le_refl _) h
     ·exact (hsd.on hat0 sd).grow hg (fun q hq => (blk_lt ho1 q hq).1)
    have HSS := hid SS
    clear SS ho2 hg hat ho1 o1 r1 os1 hat1 sd hne1 hne0 hO hs hr hne hsd R E LX hat0
    go_wp2
    go_roundw
    case rel => exact HSS.out
    case measure => simp [intOf]; omega
  ·rw [List.take_of_length_le (by rw [HL.out]; omega)] at hO hs
   have F : AnsRGW w B z0 o (fillL L t) S0 (.returned (.slice O on oc)) wr := ⟨O, on, oc, S, sn, sc, rfl, hO, hr, hs, hat0, hne, hsd⟩
   have HF := hid F
   clear F hO hs hr hne hsd h
   go_wp2
   go_ret
   exact HF.out
end thenOv
end
section
namespace pkFacts
open Go.RowKit base ints sig term termOk termFacts args sym marks app segs shape drawX renMath renImpl matchMath fillMath unifMath forest triMath ufMath nodes ruleMath trySpec ovImpl linkImpl ovStart ovAt put thenOv
set_option maxRecDepth 100000
def numsO (rs : List Rl) (o u : Nat) : List Int := lh rs o ++ lh rs u
def rdO (sg : List Int) (rs : List Rl) (o u : Nat) (rt : Nat → Nat) (D : List Nat) : Nat → List Int := rnd (fun i => (numsO rs o u).getD i 0) (chN sg (numsO rs o u)) rt D
def Tl (sg : List Int) (rs : List Rl) (o u : Nat) (rt : Nat → Nat) (D : List Nat) (s i : Nat) : List Int := (rdO sg rs o u rt D (s + idx ((numsO rs o u).drop s) (-1 - (i : Int)))).take 61
def topI (sg : List Int) (rs : List Rl) (o u : Nat) (rt : Nat → Nat) (D : List Nat) : List Int := fillL (Tl sg rs o u rt D 0) (lh rs o)
def rightI (sg : List Int) (rs : List Rl) (o u : Nat) (rt : Nat → Nat) (D : List Nat) : List Int := fillL (Tl sg rs o u rt D 0) (rh rs o)
def frontI (sg : List Int) (rs : List Rl) (o a u : Nat) (rt : Nat → Nat) (D : List Nat) : List Int := fillL (Tl sg rs o u rt D 0) ((lh rs o).take a)
def midI (sg : List Int) (rs : List Rl) (o u : Nat) (rt : Nat → Nat) (D : List Nat) : List Int := fillL (Tl sg rs o u rt D (lh rs o).length) (rh rs u)
def o1I (sg : List Int) (rs : List Rl) (o u : Nat) (rt : Nat → Nat) (D : List Nat) : List Int := ordF [] (topI sg rs o u rt D)
def o2I (sg : List Int) (rs : List Rl) (o u : Nat) (rt : Nat → Nat) (D : List Nat) : List Int := ordF (o1I sg rs o u rt D) (rightI sg rs o u rt D)
def o3I (sg : List Int) (rs : List Rl) (o a u : Nat) (rt : Nat → Nat) (D : List Nat) : List Int := ordF (o2I sg rs o u rt D) (frontI sg rs o a u rt D)
def topR (sg : List Int) (rs : List Rl) (o u : Nat) (rt : Nat → Nat) (D : List Nat) : List Int := renF [] (topI sg rs o u rt D)
def rightR (sg : List Int) (rs : List Rl) (o u : Nat) (rt : Nat → Nat) (D : List Nat) : List Int := renF (o1I sg rs o u rt D) (rightI sg rs o u rt D)
def midR (sg : List Int) (rs : List Rl) (o a u : Nat) (rt : Nat → Nat) (D : List Nat) : List Int := renF (o3I sg rs o a u rt D) (midI sg rs o u rt D)
def placeR (sg : List Int) (rs : List Rl) (o a u : Nat) (rt : Nat → Nat) (D : List Nat) : Nat := (frontI sg rs o a u rt D).length
def okI (sg : List Int) (rs : List Rl) (o a u : Nat) (rt : Nat → Nat) (D : List Nat) : Bool := putB sg (topR sg rs o u rt D) (midR sg rs o a u rt D) (placeR sg rs o a u rt D : Nat) && termOkB sg (rightR sg rs o u rt D)
def leftR (sg : List Int) (rs : List Rl) (o a u : Nat) (rt : Nat → Nat) (D : List Nat) : List Int := putR sg (topR sg rs o u rt D) (midR sg rs o a u rt D) (placeR sg rs o a u rt D : Nat)
theorem rsv_low {n : Nat} {nm : Nat → Int} {ch : Nat → List Nat} {rt : Nat → Nat} (hch : ∀ i, i < n → 0 ≤ nm i → ∀ c ∈ ch i, c < n) (hrt : ∀ i, i < n → rt i < n) : ∀ (f r : Nat), r < n → ∀ x ∈ rsv nm ch rt f r, -1 - (n : Int) ≤ x
 | 0, r, hr, x, hx => by
  unfold rsv at hx
  rw [List.mem_singleton] at hx
  omega
 | f + 1, r, hr, x, hx => by
  unfold rsv at hx
  split at hx
  ·rw [List.mem_singleton] at hx
   omega
  ·rename_i h0
   rcases List.mem_cons.1 hx with e | e
   ·omega
   ·obtain ⟨l, hl, hxl⟩ := List.mem_flatten.1 e
    obtain ⟨c, hc, rfl⟩ := List.mem_map.1 hl
    exact rsv_low hch hrt f _ (hrt c (hch r hr (by omega) c hc)) x hxl
theorem lookMade (p : Nat) (s : Int) (w : World) : Calls Tryz.prog 101 #[.pointer (some ⟨p, 0, none⟩), .int .i64 s] w fun e w' => e = .returned (.func (.func 135) #[] #[.pointer (some ⟨w.heap.size, 0, none⟩), .pointer (some ⟨w.heap.size + 1, 0, none⟩)]) ∧
  w' = (w.alloc (.cells #[.pointer (some ⟨p, 0, none⟩)] 90)).alloc (.cells #[.int .i64 s] 2) := by
 have hmf : ∀ (fn : Fn) (first cap : Array Value) (w : World), (Instr.makeFunc fn first cap).run Tryz.prog w = .ok (.func fn first cap) w := fun _ _ _ _ => rfl
 go_enter Tryz.func101, Tryz.ntmps101
 go_wp2
 go_ret
 exact ⟨rfl, rfl⟩
section
variable {sg : List Int} {rs : List Rl} {o a u : Nat} {lk : List Nat} {rt rk : Nat → Nat} {D : List Nat}
theorem tl_facts (h : Whole sg ((lh rs o).length + (lh rs u).length) (fun i => (lh rs o ++ lh rs u).getD i 0) (nodes.nd sg (lh rs o ++ lh rs u) (lh rs o ++ shiftL 24 (lh rs u))) (chN sg (lh rs o ++ lh rs u)) (inn sg (lh rs o) a) a (lh rs o).length lk rt rk D) (h1 : (lh rs o).length ≤ 60) (h2 : (lh rs u).length ≤ 60) {s i : Nat} (hs : s ≤ (lh rs o).length) (hm : (-1 - (i : Int)) ∈ (numsO rs o u).drop s) :
  1 ≤ (Tl sg rs o u rt D s i).length ∧ (Tl sg rs o u rt D s i).length ≤ 61 ∧ ∀ x ∈ Tl sg rs o u rt D s i, -100000 ≤ x := by
 have hl : (numsO rs o u).length = (lh rs o).length + (lh rs u).length := by unfold numsO; rw [List.length_append]
 have hlt : s + idx ((numsO rs o u).drop s) (-1 - (i : Int)) < (lh rs o).length + (lh rs u).length := by
  have := idx_lt hm
  rw [List.length_drop, hl] at this
  omega
 have hneg : (numsO rs o u).getD (s + idx ((numsO rs o u).drop s) (-1 - (i : Int))) 0 < 0 := by
  have h1 := idx_get hm
  rw [List.getD_eq_getElem?_getD, List.getElem?_drop] at h1
  rw [List.getD_eq_getElem?_getD, h1]
  omega
 have hd : rt (s + idx ((numsO rs o u).drop s) (-1 - (i : Int))) ∈ D ∨ (fun i => (lh rs o ++ lh rs u).getD i 0) (rt (s + idx ((numsO rs o u).drop s) (-1 - (i : Int)))) < 0 := by
  by_cases h0 : (fun i => (lh rs o ++ lh rs u).getD i 0) (rt (s + idx ((numsO rs o u).drop s) (-1 - (i : Int)))) < 0
  ·exact .inr h0
  ·exact .inl (h.hasD hlt (Int.not_lt.1 h0) (.inl hneg))
 have hfo := (h.fo hd).pos
 unfold Tl
 refine ⟨by rw [List.length_take]; show 1 ≤ min 61 (rdO sg rs o u rt D _).length; have : 1 ≤ (rdO sg rs o u rt D (s + idx ((numsO rs o u).drop s) (-1 - (i : Int)))).length := hfo; omega, by rw [List.length_take]; omega, fun x hx => ?_⟩
 have h3 := rsv_low (nm := fun i => (lh rs o ++ lh rs u).getD i 0) (ch := chN sg (lh rs o ++ lh rs u)) (rt := rt) h.gr.lt (fun i hi => (h.lk.lt i hi).2) D.length _ ((h.lk.lt _ hlt).2) x (List.mem_of_mem_take hx)
 omega
end
end pkFacts
end
section
open Go.Lib (hid)
namespace peakRun
open Go.RowKit base ints sig term termOk termFacts args sym varsOf marks app appAt segs kinds shape kindsR kindsP drawX renMath renImpl renWide matchMath fillMath Go.Proofs.YtlmofkeemlfpgaaGreat.look thn unifMath forest triMath ufMath nodes ruleMath ruleSpec peakMath trySpec ovImpl linkImpl ovStart ovAt put thenOv pkFacts pathSpec pkAns
set_option maxRecDepth 100000
def pkI (sg : List Int) (rs : List Rl) (o a u : Nat) (rt : Nat → Nat) (D : List Nat) : Pk := if okI sg rs o a u rt D = true then (topR sg rs o u rt D, leftR sg rs o a u rt D, rightR sg rs o u rt D, (a : Int), (u : Int), (o : Int)) else ([], [], [], 0, 0, 0)
def Bx (w : World) (LO RO LU RU : Value) (p4 p5 : Nat) (wx : World) : Prop := Row wx p4 69 #[LO, RO] ∧ Row wx p5 69 #[LU, RU] ∧ Row wx w.heap.size 38 #[.slice none 0 0, .slice none 0 0, .slice none 0 0, .int .i64 0, .int .i64 0, .int .i64 0] ∧ Below w.heap.size w wx ∧ (w.heap.size < p4 ∧ w.heap.size < p5 ∧ p4 ≠ p5)
theorem bx_new {w W1 : World} {LO RO LU RU : Value} (hr : Row W1 w.heap.size 38 #[.slice none 0 0, .slice none 0 0, .slice none 0 0, .int .i64 0, .int .i64 0, .int .i64 0]) (hb : Below w.heap.size w W1) (hz : W1.heap.size = w.heap.size + 1) :
  Bx w LO RO LU RU (w.heap.size + 1) (w.heap.size + 1 + 1) ((W1.alloc (.cells #[LO, RO] 69)).alloc (.cells #[LU, RU] 69)).drew ∧ Bx w LO RO LU RU (w.heap.size + 1 + 1) (w.heap.size + 1) ((W1.alloc (.cells #[LU, RU] 69)).alloc (.cells #[LO, RO] 69)).drew := by
 have h1 := fun (x y : Array Value) => Row.new (W1.alloc (.cells x 69)) 69 y
 have h2 := fun (x y : Array Value) => (Row.new W1 69 x).alloc (.cells y 69)
 have e : ∀ x : Array Value, (W1.alloc (.cells x 69)).heap.size = w.heap.size + 1 + 1 := fun x => by simp [hz]
 have h3 := fun (x y : Array Value) => ((hb.alloc (by omega) (.cells x 69)).alloc (by simp; omega) (.cells y 69)).drew
 refine ⟨⟨?_, ?_, ((hr.alloc _).alloc _).drew, h3 _ _, by omega, by omega, by omega⟩, ⟨?_, ?_, ((hr.alloc _).alloc _).drew, h3 _ _, by omega, by omega, by omega⟩⟩
 ·have := (h2 #[LO, RO] #[LU, RU]).drew
  rw [hz] at this
  exact this
 ·have := (h1 #[LO, RO] #[LU, RU]).drew
  rw [e] at this
  exact this
 ·have := (h1 #[LU, RU] #[LO, RO]).drew
  rw [e] at this
  exact this
 ·have := (h2 #[LU, RU] #[LO, RO]).drew
  rw [hz] at this
  exact this
structure Rs (w0 : World) (z0 B : Nat) (o : List Int) (S : Option Addr) (sn sc : Nat) (W : World) : Prop where
 fz : Fz w0 z0 B W
 row : Row W B 22 #[.slice S sn sc]
 own : Own W z0 (.slice S sn sc) (o.map vn)
theorem Rs.next {w0 : World} {z0 B : Nat} {o : List Int} {S : Option Addr} {sn sc : Nat} {W W' : World} (h : Rs w0 z0 B o S sn sc W) (hz : z0 ≤ w0.heap.size) (hb : Below W.heap.size W W') : Rs w0 z0 B o S sn sc W' := ⟨h.fz.below (by have := h.fz.size; omega) hb, h.row.next hb, h.own.next hb⟩
theorem rs_step {w0 : World} {z0 B : Nat} {o t : List Int} {S : Option Addr} {sn sc : Nat} {W w' : World} {e : Ending} (hR : Rs w0 z0 B o S sn sc W) (hz : z0 ≤ w0.heap.size) (h : AnsRGW W B z0 o t S e w') :
  ∃ (O : Option Addr) (on oc : Nat) (S' : Option Addr) (sn' sc' : Nat), e = .returned (.slice O on oc) ∧ Own w' W.heap.size (.slice O on oc) (renF o t) ∧ Rs w0 z0 B (ordF o t) S' sn' sc' w' ∧ (∀ k, blk O = some k → blk S' ≠ some k) ∧ W.heap.size ≤ w'.heap.size ∧
   (∀ (base : Nat) (X : Option Addr) (xn xc : Nat) (xs : List Int), Own W base (.slice X xn xc) xs → (∀ k, blk X = some k → blk S ≠ some k) → Own w' base (.slice X xn xc) xs ∧ ∀ k, blk X = some k → blk S' ≠ some k) := by
 obtain ⟨O, on, oc, S', sn', sc', rfl, h1, h2, h3, h4, h5, h6⟩ := h
 have hSl := own_lt hR.own
 refine ⟨O, on, oc, S', sn', sc', rfl, h1, ⟨hR.fz.side (by have := hR.fz.size; omega) h6 (fun k hk => (hSl k hk).1), h2, h3⟩, fun k hk e => ?_, h6.size, fun base X xn xc xs hX hne => ⟨Own.side hX h6 hR.row ?_, fun k hk e => ?_⟩⟩
 ·rcases h5 with h5 | h5
  ·rw [h5] at hk; cases hk
  ·exact h5 (hk.trans e.symm)
 ·cases hb : blk X with
  | none => exact .inl rfl
  | some k => exact .inr fun e => hne k hb e.symm
 ·rcases h4 with h4 | ⟨q, h4, hq⟩
  ·exact hne k hk (h4 ▸ e)
  ·rw [h4] at e
   injection e with e
   have := (own_lt hX k hk).2
   omega
def AnsLkM (w : World) (p : Nat) (s : Int) (e : Ending) (w' : World) : Prop := ∃ bo bs, e = .returned (.func (.func 135) #[] #[.pointer (some ⟨bo, 0, none⟩), .pointer (some ⟨bs, 0, none⟩)]) ∧ (w.heap.size ≤ bo ∧ bo < w'.heap.size) ∧ (w.heap.size ≤ bs ∧ bs < w'.heap.size) ∧ w'.cell? ⟨bo, 0, none⟩ = some (.pointer (some ⟨p, 0, none⟩)) ∧ w'.cell? ⟨bs, 0, none⟩ = some (.int .i64 s) ∧ Below w.heap.size w w'
theorem lookE (p : Nat) (s : Int) (w : World) : Calls Tryz.prog 101 #[.pointer (some ⟨p, 0, none⟩), .int .i64 s] w (AnsLkM w p s) := by
 refine (lookMade p s w).mono ?_
 rintro e w' ⟨rfl, rfl⟩
 have h1 := (Row.new w 90 #[.pointer (some ⟨p, 0, none⟩)]).alloc (.cells #[.int .i64 s] 2)
 have h2 := Row.new (w.alloc (.cells #[.pointer (some ⟨p, 0, none⟩)] 90)) 2 #[.int .i64 s]
 rw [World.size_alloc] at h2
 exact ⟨_, _, rfl, ⟨Nat.le_refl _, h1.lt⟩, ⟨by omega, h2.lt⟩, h1.cell 0, h2.cell 0, ((Below.refl _ _).alloc (Nat.le_refl _) _).alloc (by simp) _⟩
theorem fz_below {w w0 W : World} {N z0 B : Nat} (hb : Below N w w0) (hF : Fz w0 z0 B W) (h1 : N ≤ z0) (h2 : N ≤ B) : Below N w W :=
 ⟨hF.os.trans hb.os, hF.tape.trans hb.tape, hF.output.trans hb.output, Nat.le_trans hb.size hF.size, fun k hk => (hF.blk k (by omega) (by omega)).trans (hb.block k hk)⟩
theorem pk_off {sg : List Int} {rs : List Rl} {o a u : Nat} {rt : Nat → Nat} {D : List Nat} (h : okI sg rs o a u rt D = false) : pkI sg rs o a u rt D = ([], [], [], 0, 0, 0) ∧ okI sg rs o a u rt D = false := ⟨by unfold pkI; rw [if_neg (by rw [h]; simp)], h⟩
set_option maxHeartbeats 4000000 in
theorem peakRun (p lb : Nat) (A V X : Option Addr) (n c q cv xc lc N : Nat) (d : Dat sSystem) (o a u : Nat) (lk : List Nat) (rt rk : Nat → Nat) (D : List Nat) (w : World) (h : Rd w w.heap.size sSystem [.slice A n c, .slice V q cv] d) (hz : sz sSystem d ≤ 1048576) (hok : ∀ k, k < d.2.length → ruleOkB d.1 (d.2.getD k ([], [])) = true) (ho : o < d.2.length) (hu : u < d.2.length) (ha : a < (lh d.2 o).length)
  (hO : Ov w (Qb N p lb) p lb A n c (.slice V q cv) (o : Int) (a : Int) (u : Int) X ((lh d.2 o).length + (lh d.2 u).length) xc lc d.1 (lh d.2 o ++ lh d.2 u) lk)
  (hWh : Whole d.1 ((lh d.2 o).length + (lh d.2 u).length) (fun i => (lh d.2 o ++ lh d.2 u).getD i 0) (nodes.nd d.1 (lh d.2 o ++ lh d.2 u) (lh d.2 o ++ shiftL 24 (lh d.2 u))) (chN d.1 (lh d.2 o ++ lh d.2 u)) (inn d.1 (lh d.2 o) a) a (lh d.2 o).length lk rt rk D) :
  Calls Tryz.prog 71 #[.pointer (some ⟨p, 0, none⟩)] w (AnsPk w (pkI d.1 d.2 o a u rt D) (okI d.1 d.2 o a u rt D)) := by
 have hterm : ∀ k, k < d.2.length → termOkB d.1 (lh d.2 k) = true ∧ termOkB d.1 (rh d.2 k) = true ∧ ∀ x, x ∈ rh d.2 k → x < 0 → x ∈ lh d.2 k := fun k hk => ⟨(rule_parts (hok k hk)).1, (rule_parts (hok k hk)).2.1, (rule_parts (hok k hk)).2.2.2⟩
 obtain ⟨A1, n1, c1, A2, n2, c2, ea, ev, hA, kA, kV, hlen, hn, hn2, hr, hsg, hrs⟩ := rd_sys h hz
 injection ea with e1 e2 e3
 subst e1 e2 e3
 injection ev with e1 e2 e3
 subst e1 e2 e3
 have hr9 := hr
 obtain ⟨bV, oV, lo, ro, xo, rfl, hbV, hxo, cLo, cRo, rdo⟩ := rd_at hr (Below.refl _ _) hlen (show o < q by omega)
 obtain ⟨bV2, oV2, lu, ru, xu, eV2, -, hxu, cLu, cRu, rdu⟩ := rd_at hr (Below.refl _ _) hlen (show u < q by omega)
 injection eV2 with eV2
 injection eV2 with eb eo
 subst eb eo
 have hsz9 := hrs o (by omega)
 obtain ⟨LA, ln, lc2, RA, rn, rc, rfl, rfl, sLo, kLo, sRo, kRo, hln, hrn⟩ := rd_rule rdo (by have := hrs o (by omega); rw [hxo.out] at this; exact this)
 obtain ⟨MA, mn, mc, NA, nn, nc', rfl, rfl, sLu, kLu, sRu, kRu, hmn, hnn⟩ := rd_rule rdu (by have := hrs u (by omega); rw [hxu.out] at this; exact this)
 have eLo : xo.1 = lh d.2 o := by unfold lh; rw [hxo.out]
 have eRo : xo.2 = rh d.2 o := by unfold rh; rw [hxo.out]
 have eLu : xu.1 = lh d.2 u := by unfold lh; rw [hxu.out]
 have eRu : xu.2 = rh d.2 u := by unfold rh; rw [hxu.out]
 rw [eLo] at sLo
 rw [eRo] at sRo
 rw [eLu] at sLu
 rw [eRu] at sRu
 have j1 : (0 : Int) ≤ (o : Int) := by omega
 have j2 : (o : Int) < (q : Int) := by omega
 have j3 : (0 : Int) ≤ (u : Int) := by omega
 have j4 : (u : Int) < (q : Int) := by omega
 have hpl := hO.lt.1
 have p1 : w.cell? ⟨p, 1, none⟩ = some (.slice (some ⟨bV, oV, none⟩) q cv) := hO.row.cell 1
 have p2 : w.cell? ⟨p, 2, none⟩ = some (.int .i64 (o : Int)) := hO.row.cell 2
 have p4 : w.cell? ⟨p, 4, none⟩ = some (.int .i64 (u : Int)) := hO.row.cell 4
 obtain ⟨W1, hW1⟩ : ∃ W1, W1 = w.alloc (.cells #[.slice none 0 0, .slice none 0 0, .slice none 0 0, .int .i64 0, .int .i64 0, .int .i64 0] 38) := ⟨_, rfl⟩
 have b1 : Below w.heap.size w W1 := by rw [hW1]; exact (Below.refl _ _).alloc (Nat.le_refl _) _
 have r1 : Row W1 w.heap.size 38 #[.slice none 0 0, .slice none 0 0, .slice none 0 0, .int .i64 0, .int .i64 0, .int .i64 0] := by rw [hW1]; exact Row.new _ _ _
 have z1 : W1.heap.size = w.heap.size + 1 := by rw [hW1]; simp
 have g1 := (b1.cell (p := ⟨p, 1, none⟩) hpl).trans p1
 have g2 := (b1.cell (p := ⟨p, 2, none⟩) hpl).trans p2
 have g3 := (b1.cell (p := ⟨p, 4, none⟩) hpl).trans p4
 have g4 := (b1.cell (p := ⟨bV, oV + o * 2, none⟩) hbV).trans cLo
 have g5 := (b1.cell (p := ⟨bV, oV + o * 2 + 1, none⟩) hbV).trans cRo
 have g6 := (b1.cell (p := ⟨bV, oV + u * 2, none⟩) hbV).trans cLu
 have g7 := (b1.cell (p := ⟨bV, oV + u * 2 + 1, none⟩) hbV).trans cRu
 have HW1 := hid hW1
 have HD := hid (And.intro hterm (And.intro hO (And.intro hWh (And.intro hA (And.intro kA (And.intro hr9 (And.intro hlen (And.intro hsz9 (And.intro sLo (And.intro kLo (And.intro sRo (And.intro kRo (And.intro sLu (And.intro sRu (And.intro kRu (And.intro ho (And.intro hu (And.intro ha trivial))))))))))))))))))
 have HC := hid (bx_new (LO := .slice LA ln lc2) (RO := .slice RA rn rc) (LU := .slice MA mn mc) (RU := .slice NA nn nc') r1 b1 z1)
 clear h hz hok hO hWh hA kA kV hlen hr hsg hrs hr9 hxo hxu cLo cRo cLu cRu rdo rdu eLo eRo eLu eRu sLo sRo sLu sRu kLo kRo kLu kRu hsz9 hterm p1 p2 p4 hW1 r1 b1 ho hu ha
 go_enter Tryz.func71, Tryz.ntmps71
 go_wp2_with fail
 rw [← HW1.out]
 go_cut [4, 5] (fun x4 x5 wx => ∃ p4 p5, x4 = .pointer (some ⟨p4, 0, none⟩) ∧ x5 = .pointer (some ⟨p5, 0, none⟩) ∧ Bx w (.slice LA ln lc2) (.slice RA rn rc) (.slice MA mn mc) (.slice NA nn nc') p4 p5 wx)
 case first =>
  go_region_held3 (fun w' => w'.cell? ⟨p, 1, none⟩ = some (.slice (some ⟨bV, oV, none⟩) q cv) ∧ w'.cell? ⟨p, 2, none⟩ = some (.int .i64 (o : Int)) ∧ w'.cell? ⟨p, 4, none⟩ = some (.int .i64 (u : Int)) ∧ w'.cell? ⟨bV, oV + o * 2, none⟩ = some (.slice LA ln lc2) ∧ w'.cell? ⟨bV, oV + o * 2 + 1, none⟩ = some (.slice RA rn rc) ∧ w'.cell? ⟨bV, oV + u * 2, none⟩ = some (.slice MA mn mc) ∧ w'.cell? ⟨bV, oV + u * 2 + 1, none⟩ = some (.slice NA nn nc')) (go_keep) ((fail))
  all_goals
   go_wp2_with fail
   go_meet
   first
    | exact ⟨_, _, rfl, rfl, HC.out.1⟩
    | exact ⟨_, _, rfl, rfl, HC.out.2⟩
 case rest =>
  rename World => wc
  obtain ⟨p4, p5, rfl, rfl, rp4, rp5, rb0, bwc, hp4w, hp5w, hp45⟩ := hcut
  clear g1 g2 g3 g4 g5 g6 g7 HC z1 HW1
  obtain ⟨hterm, hO, hWh, hA, kA, hr9, hlen, hsz9, sLo, kLo, sRo, kRo, sLu, sRu, kRu, ho, hu, ha, -⟩ := HD.out
  have hpc := rp4.lt
  have hpc5 := rp5.lt
  have hb0c := rb0.lt
  have zwc := bwc.size
  have HBX := hid (And.intro rp4 (And.intro rp5 (And.intro rb0 bwc)))
  have HOc := hid (hO.next bwc)
  have hplc := (hO.next bwc).lt
  clear hterm hO hWh hA kA hr9 hlen hsz9 sLo kLo sRo kRo sLu sRu kRu ho hu ha rp4 rp5 rb0 bwc
  go_wp2_with fail
  refine (renaming_ wc).mono ?_
  rintro e wa ⟨rfl, hwa⟩
  have rBa : Row wa wc.heap.size 22 #[.slice none 0 0] := by rw [hwa]; exact Row.new _ _ _
  have ba : Below wc.heap.size wc wa := by rw [hwa]; exact (Below.refl _ _).alloc (Nat.le_refl _) _
  have za := rBa.lt
  have HA := hid (And.intro rBa ba)
  clear hwa rBa ba
  go_wp2_with fail
  refine (lookE p 0 wa).mono ?_
  rintro e wb ⟨bo1, bs1, rfl, hbo1, hbs1, ko1, ks1, bb⟩
  have zb := bb.size
  have HB := hid (And.intro ko1 (And.intro ks1 bb))
  clear ko1 ks1 bb
  go_wp2_with fail
  refine (thenB 135 132 #[.pointer (some ⟨bo1, 0, none⟩), .pointer (some ⟨bs1, 0, none⟩)] #[.pointer (some ⟨wc.heap.size, 0, none⟩)] wb).mono ?_
  rintro e wd ⟨b1, b2, rfl, hb1, hb2, c1, c2, bd⟩
  have zd := bd.size
  have hb1d := World.block_lt_of_cell? _ _ c1
  have hb2d := World.block_lt_of_cell? _ _ c2
  have HDD := hid (And.intro c1 (And.intro c2 bd))
  clear c1 c2 bd
  have bcd : Below wc.heap.size wc wd := (HA.out.2.trans (HB.out.2.2.mono (Nat.le_of_lt za))).trans (HDD.out.2.2.mono (by omega))
  have LU := hid (show Calls Tryz.prog 103 #[.pointer (some ⟨p, 0, none⟩)] wd fun e w' => e = .returned (.int .i64 ((lh d.2 o).length : Int)) ∧ Below wd.heap.size wd w' from by
   obtain ⟨hterm, hO, hWh, hA, kA, hr9, hlen, hsz9, sLo, kLo, sRo, kRo, sLu, sRu, kRu, ho, hu, ha, -⟩ := HD.out
   exact underStart p A _ n c q cv o _ _ _ _ d.2 w.heap.size wd (HOc.out.next bcd).row ((hr9.below HBX.out.2.2.2).below (bcd.mono zwc)) hlen (by omega) (by omega) hsz9)
  have HCD := hid bcd
  clear bcd
  go_wp2_with fail
  refine LU.out.mono ?_
  rintro e we ⟨rfl, be⟩
  have ze := be.size
  have HE := hid be
  clear be LU
  go_wp2_with fail
  refine (lookE p ((lh d.2 o).length : Int) we).mono ?_
  rintro e wf ⟨bo2, bs2, rfl, hbo2, hbs2, ko2, ks2, bf⟩
  have zf := bf.size
  have HF := hid (And.intro ko2 (And.intro ks2 bf))
  clear ko2 ks2 bf
  go_wp2_with fail
  refine (thenB 135 132 #[.pointer (some ⟨bo2, 0, none⟩), .pointer (some ⟨bs2, 0, none⟩)] #[.pointer (some ⟨wc.heap.size, 0, none⟩)] wf).mono ?_
  rintro e wg ⟨b3, b4, rfl, hb3, hb4, c3, c4, bg⟩
  have zg := bg.size
  have hb3g := World.block_lt_of_cell? _ _ c3
  have hb4g := World.block_lt_of_cell? _ _ c4
  have HG := hid (And.intro c3 (And.intro c4 bg))
  clear c3 c4 bg
  obtain ⟨-, hO, hWh, hA, kA, -, -, -, sLo, kLo, sRo, kRo, sLu, sRu, kRu, ho, hu, ha, -⟩ := HD.out
  obtain ⟨tLo, tRo, vRo⟩ := HD.out.1 o ho
  obtain ⟨tLu, tRu, vRu⟩ := HD.out.1 u hu
  have bwg : Below wc.heap.size wc wg := ((HCD.out.trans (HE.out.mono (by omega))).trans (HF.out.2.2.mono (by omega))).trans (HG.out.2.2.mono (by omega))
  have bag : Below wa.heap.size wa wg := ((((HB.out.2.2).trans (HDD.out.2.2.mono (by omega))).trans (HE.out.mono (by omega))).trans (HF.out.2.2.mono (by omega))).trans (HG.out.2.2.mono (by omega))
  have bbg : Below wb.heap.size wb wg := ((HDD.out.2.2.trans (HE.out.mono (by omega))).trans (HF.out.2.2.mono (by omega))).trans (HG.out.2.2.mono (by omega))
  have bdg : Below wd.heap.size wd wg := (HE.out.trans (HF.out.2.2.mono (by omega))).trans (HG.out.2.2.mono (by omega))
  have bwwg : Below w.heap.size w wg := HBX.out.2.2.2.trans (bwg.mono (by omega))
  have hOg : Ov wg (Qb N p lb) p lb A n c (.slice (some ⟨bV, oV, none⟩) q cv) (o : Int) (a : Int) (u : Int) X ((lh d.2 o).length + (lh d.2 u).length) xc lc d.1 (lh d.2 o ++ lh d.2 u) lk := hO.next bwwg
  have c1 : wg.cell? ⟨b1, 0, none⟩ = some (.func (.func 135) #[] #[.pointer (some ⟨bo1, 0, none⟩), .pointer (some ⟨bs1, 0, none⟩)]) := (bdg.cell (p := ⟨b1, 0, none⟩) hb1d).trans HDD.out.1
  have c2 : wg.cell? ⟨b2, 0, none⟩ = some (.func (.func 132) #[] #[.pointer (some ⟨wc.heap.size, 0, none⟩)]) := (bdg.cell (p := ⟨b2, 0, none⟩) hb2d).trans HDD.out.2.1
  have ko1 := (bbg.cell (p := ⟨bo1, 0, none⟩) hbo1.2).trans HB.out.1
  have ks1 := (bbg.cell (p := ⟨bs1, 0, none⟩) hbs1.2).trans HB.out.2.1
  have ko2 := (HG.out.2.2.cell (p := ⟨bo2, 0, none⟩) hbo2.2).trans HF.out.1
  have ks2 := (HG.out.2.2.cell (p := ⟨bs2, 0, none⟩) hbs2.2).trans HF.out.2.1
  have rBg := HA.out.1.next bag
  have scO := (term_parts tLo).2.2
  have scU := (term_parts tLu).2.2
  have lO := term_len tLo
  have lU := term_len tLu
  have hars := (sig_arities (term_parts tLo).1).1
  have hN := gr0 (lu := lh d.2 u) scO scU (fun z hz => (term_mem tLo hz).1) ha
  have hroot : ∀ j, j < (lh d.2 o).length + (lh d.2 u).length → (lh d.2 o ++ lh d.2 u).getD j 0 < 0 → (lh d.2 o ++ lh d.2 u).getD (rt j) 0 < 0 ∨ rt j ∈ D := fun j hj h0 => by
   by_cases h1 : (lh d.2 o ++ lh d.2 u).getD (rt j) 0 < 0
   ·exact .inl h1
   ·exact .inr (hWh.hasD hj (Int.not_lt.1 h1) (.inl h0))
  have hov : ∀ W, Fz wg wg.heap.size wc.heap.size W → Ov W (Qb N p lb) p lb A n c (.slice (some ⟨bV, oV, none⟩) q cv) (o : Int) (a : Int) (u : Int) X ((lh d.2 o).length + (lh d.2 u).length) xc lc d.1 (lh d.2 o ++ lh d.2 u) lk := fun W hF => lookOv.ov_blocks hOg hF.size fun k hk => by
   have h1 := hO.lt
   have h2 : k < w.heap.size := by
    rcases hk with e | e | e
    ·omega
    ·omega
    ·exact (hO.q k e).2.2
   exact hF.blk k (by omega) (by omega)
  have hvO : ∀ i : Nat, (-1 - (i : Int)) ∈ lh d.2 o → i ≤ 1000 := fun i hi => by have := (term_mem tLo hi).1; omega
  have hvU : ∀ i : Nat, (-1 - (i : Int)) ∈ lh d.2 u → i ≤ 1000 := fun i hi => by have := (term_mem tLu hi).1; omega
  have LO1 : LookR wg wg.heap.size wc.heap.size 135 #[.pointer (some ⟨bo1, 0, none⟩), .pointer (some ⟨bs1, 0, none⟩)] (Tl d.1 d.2 o u rt D 0) (fun i => (-1 - (i : Int)) ∈ lh d.2 o) := fun W i hF hi =>
   lookOv.lookOv (Qb N p lb) p lb A n c _ _ _ _ X _ xc lc d.1 _ _ _ _ _ hN hars hn (by omega) lk rt rk hWh.lk D hWh.good bo1 bs1 0 i W (hov W hF) ((hF.cell (by omega) (by omega)).trans ko1) ((hF.cell (by omega) (by omega)).trans ks1) (by omega) (hvO i hi) (List.mem_append_left _ hi) hroot
  have LO2 : LookR wg wg.heap.size wc.heap.size 135 #[.pointer (some ⟨bo2, 0, none⟩), .pointer (some ⟨bs2, 0, none⟩)] (Tl d.1 d.2 o u rt D (lh d.2 o).length) (fun i => (-1 - (i : Int)) ∈ lh d.2 u) := fun W i hF hi =>
   lookOv.lookOv (Qb N p lb) p lb A n c _ _ _ _ X _ xc lc d.1 _ _ _ _ _ hN hars hn (by omega) lk rt rk hWh.lk D hWh.good bo2 bs2 (lh d.2 o).length i W (hov W hF) ((hF.cell (by omega) (by omega)).trans ko2) ((hF.cell (by omega) (by omega)).trans ks2) (by omega) (hvU i hi) (by rw [List.drop_left]; exact hi) hroot
  have hT1 : ∀ i : Nat, (-1 - (i : Int)) ∈ lh d.2 o → 1 ≤ (Tl d.1 d.2 o u rt D 0 i).length ∧ (Tl d.1 d.2 o u rt D 0 i).length ≤ 61 ∧ ∀ x ∈ Tl d.1 d.2 o u rt D 0 i, -100000 ≤ x := fun i hi => tl_facts hWh lO.2 lU.2 (Nat.zero_le _) (List.mem_append_left _ hi)
  have hT2 : ∀ i : Nat, (-1 - (i : Int)) ∈ lh d.2 u → 1 ≤ (Tl d.1 d.2 o u rt D (lh d.2 o).length i).length ∧ (Tl d.1 d.2 o u rt D (lh d.2 o).length i).length ≤ 61 ∧ ∀ x ∈ Tl d.1 d.2 o u rt D (lh d.2 o).length i, -100000 ≤ x := fun i hi => tl_facts hWh lO.2 lU.2 (Nat.le_refl _) (by unfold numsO; rw [List.drop_left]; exact hi)
  have c3 := HG.out.1
  have c4 := HG.out.2.1
  have FO1 := hid (fun (A' : Option Addr) (m c' : Nat) (t o' : List Int) (S0 : Option Addr) (n0 c0 : Nat) (W : World) (hR : Rs wg wg.heap.size wc.heap.size o' S0 n0 c0 W) (hs : Seg W W.heap.size A' m t) (hA' : ∀ k, blk A' = some k → k ≠ wc.heap.size ∧ blk S0 ≠ some k) (hm : m ≤ 60) (hd : ∀ x ∈ t, x < 0 → x ∈ lh d.2 o) (ho' : o'.length ≤ 40000) =>
   fillThen wg wg.heap.size wc.heap.size b1 b2 135 _ (enters_of Tryz.func135 (by kernel_rfl) rfl) _ _ (Nat.le_refl _) (by omega) (by omega) (by omega) (by omega) (by omega) c1 c2 LO1 hvO hT1 A' m c' t o' S0 n0 c0 W hR.fz hR.row hR.own hs hA' hm (fun x hx h0 => by show (-1 - ((vr x : Nat) : Int)) ∈ _; rw [at_vr h0]; exact hd x hx h0) ho')
  have FO2 := hid (fun (A' : Option Addr) (m c' : Nat) (t o' : List Int) (S0 : Option Addr) (n0 c0 : Nat) (W : World) (hR : Rs wg wg.heap.size wc.heap.size o' S0 n0 c0 W) (hs : Seg W W.heap.size A' m t) (hA' : ∀ k, blk A' = some k → k ≠ wc.heap.size ∧ blk S0 ≠ some k) (hm : m ≤ 60) (hd : ∀ x ∈ t, x < 0 → x ∈ lh d.2 u) (ho' : o'.length ≤ 40000) =>
   fillThen wg wg.heap.size wc.heap.size b3 b4 135 _ (enters_of Tryz.func135 (by kernel_rfl) rfl) _ _ (Nat.le_refl _) (by omega) (by omega) (by omega) (by omega) (by omega) c3 c4 LO2 hvU hT2 A' m c' t o' S0 n0 c0 W hR.fz hR.row hR.own hs hA' hm (fun x hx h0 => by show (-1 - ((vr x : Nat) : Int)) ∈ _; rw [at_vr h0]; exact hd x hx h0) ho')
  have R0 : Rs wg wg.heap.size wc.heap.size [] none 0 0 wg := ⟨Fz.refl _ _ _, rBg, Own.nil _ _⟩
  have hplw := hO.lt
  obtain ⟨bl, ol, -, rfl, hbl, -, -⟩ := sLo.spot (show 0 < ln by have := sLo.1; omega)
  have lLo := sLo.1
  have lRo := sRo.1
  have lRu := sRu.1
  have SG := hid (fun (W : World) (hF : Fz wg wg.heap.size wc.heap.size W) => (show Seg W W.heap.size (some ⟨bl, ol, none⟩) ln (lh d.2 o) ∧ Seg W W.heap.size RA rn (rh d.2 o) ∧ Seg W W.heap.size NA nn (rh d.2 u) ∧ Seg W W.heap.size A n d.1 from by
   have hk : ∀ p : Addr, p.block < w.heap.size → W.cell? p = wg.cell? p := fun p hp => World.cell?_of_block (hF.blk p.block (by omega) (by omega))
   have hsz := hF.size
   exact ⟨((sLo.below bwwg).keep hk).more (by omega), ((sRo.below bwwg).keep hk).more (by omega), ((sRu.below bwwg).keep hk).more (by omega), (((hA.below bwwg)).keep hk).more (by omega)⟩))
  have SB := hid (show (∀ k, blk RA = some k → rn ≠ 0 → k < w.heap.size) from fun k hk hn0 => by
   obtain ⟨b9, o9, e9, h9, -⟩ := sRo.2 (by omega)
   rw [e9] at hk
   unfold blk at hk
   simp at hk
   omega)
  have SB2 := hid (show (∀ k, blk NA = some k → nn ≠ 0 → k < w.heap.size) from fun k hk hn0 => by
   obtain ⟨b9, o9, e9, h9, -⟩ := sRu.2 (by omega)
   rw [e9] at hk
   unfold blk at hk
   simp at hk
   omega)
  have rowO := (hOg).row
  have rp4 := HBX.out.1.next bwg
  have rp5 := HBX.out.2.1.next bwg
  have rb0 := HBX.out.2.2.1.next bwg
  have KC := hid (fun (W : World) (hF : Fz wg wg.heap.size wc.heap.size W) => (show W.cell? ⟨p4, 0, none⟩ = some (.slice (some ⟨bl, ol, none⟩) ln lc2) ∧ W.cell? ⟨p4, 1, none⟩ = some (.slice RA rn rc) ∧ W.cell? ⟨p5, 1, none⟩ = some (.slice NA nn nc') ∧ W.cell? ⟨p, 0, none⟩ = some (.slice A n c) ∧ W.cell? ⟨p, 2, none⟩ = some (.int .i64 (o : Int)) ∧ W.cell? ⟨p, 3, none⟩ = some (.int .i64 (a : Int)) ∧ W.cell? ⟨p, 4, none⟩ = some (.int .i64 (u : Int)) ∧
    Row W w.heap.size 38 #[.slice none 0 0, .slice none 0 0, .slice none 0 0, .int .i64 0, .int .i64 0, .int .i64 0] from
   ⟨(hF.cell (by omega) (by omega)).trans (rp4.cell 0), (hF.cell (by omega) (by omega)).trans (rp4.cell 1), (hF.cell (by omega) (by omega)).trans (rp5.cell 1), (hF.cell (by omega) (by omega)).trans (rowO.cell 0), (hF.cell (by omega) (by omega)).trans (rowO.cell 2), (hF.cell (by omega) (by omega)).trans (rowO.cell 3), (hF.cell (by omega) (by omega)).trans (rowO.cell 4), (hF.blk _ (by omega) (by omega)).trans rb0⟩))
  have HV := hid (And.intro vRo vRu)
  have HTT := hid (And.intro tRo (And.intro tRu (And.intro kLo (And.intro kRo (And.intro kRu kA)))))
  have HBW := hid bwwg
  have HLL := hid (And.intro lLo (And.intro lRo (And.intro lRu ha)))
  have hln6 : 1 ≤ ln ∧ ln ≤ 60 := by omega
  have hrn6 : 1 ≤ rn ∧ rn ≤ 60 := by have := term_len tRo; omega
  have hnn6 : 1 ≤ nn ∧ nn ≤ 60 := by have := term_len tRu; omega
  have L4 := hid (FO1.out (some ⟨bl, ol, none⟩) ln lc2 (lh d.2 o) [] none 0 0 wg R0 (SG.out wg (Fz.refl _ _ _)).1 (fun k hk => by injection hk with hk; exact ⟨by simp only at hk; omega, fun e => by cases e⟩) hln6.2 (fun x hx _ => hx) (by simp))
  have k0 := (KC.out wg (Fz.refl _ _ _)).1
  have BD1 := hid (fun (t : List Int) (ht : t.length ≤ 60) (hd : ∀ x ∈ t, x < 0 → x ∈ lh d.2 o) => (show (fillL (Tl d.1 d.2 o u rt D 0) t).length ≤ 3660 from by
   have h1 := fill_len61 (L := Tl d.1 d.2 o u rt D 0) (t := t) fun x hx h0 => (hT1 (vr x) (by rw [at_vr h0]; exact hd x hx h0)).2.1
   omega))
  have BD2 := hid (fun (t : List Int) (ht : t.length ≤ 60) (hd : ∀ x ∈ t, x < 0 → x ∈ lh d.2 u) => (show (fillL (Tl d.1 d.2 o u rt D (lh d.2 o).length) t).length ≤ 3660 from by
   have h1 := fill_len61 (L := Tl d.1 d.2 o u rt D (lh d.2 o).length) (t := t) fun x hx h0 => (hT2 (vr x) (by rw [at_vr h0]; exact hd x hx h0)).2.1
   omega))
  have HR0 := hid R0
  clear hO hWh hA kA sLo kLo sRo kRo sLu sRu kRu ho hu ha tLo tRo vRo tLu tRu vRu bwg bag bbg bdg bwwg hOg c1 c2 ko1 ks1 ko2 ks2 rBg scO scU lO lU hars hN hroot hov hvO hvU LO1 LO2 hT1 hT2 c3 c4 R0 rowO rp4 rp5 rb0 lLo lRo lRu
  go_wp2_with fail
  refine L4.out.mono ?_
  rintro e w4 hans
  obtain ⟨O1, on1, oc1, S1, sn1, sc1, rfl, oT, R1, hs1, z4, keep1⟩ := rs_step HR0.out (Nat.le_refl _) hans
  have UB1 := hid (fun k (hk : blk O1 = some k) => (own_lt oT k hk).2)
  clear hans L4 k0
  have q1 := ordF_len [] (fillL (Tl d.1 d.2 o u rt D 0) (lh d.2 o))
  have q1b := BD1.out (lh d.2 o) (by have := HLL.out.1; omega) (fun x hx _ => hx)
  have L5 := hid (FO1.out RA rn rc (rh d.2 o) _ S1 sn1 sc1 w4 R1 (SG.out w4 R1.fz).2.1 (fun k hk => by have h1 := SB.out k hk (by omega); exact ⟨by omega, fun e => by have := (own_lt R1.own k e).1; omega⟩) hrn6.2 HV.out.1 (by simp only [List.length_nil] at q1; omega))
  have k1 := (KC.out w4 R1.fz).2.1
  have HT4 := hid (And.intro oT (And.intro R1 (And.intro hs1 q1)))
  have HQ1 := hid q1b
  clear oT R1 hs1 keep1 q1 q1b
  go_wp2_with fail
  refine L5.out.mono ?_
  rintro e w5 hans
  obtain ⟨oT, R1, hs1, q1⟩ := HT4.out
  obtain ⟨O2, on2, oc2, S2, sn2, sc2, rfl, oR, R2, hs2, z5, keep2⟩ := rs_step R1 (Nat.le_refl _) hans
  have UB2 := hid (fun k (hk : blk O2 = some k) => (own_lt oR k hk).2)
  obtain ⟨oT5, sT5⟩ := keep2 _ _ _ _ _ oT hs1
  have q2 := ordF_len (ordF [] (fillL (Tl d.1 d.2 o u rt D 0) (lh d.2 o))) (fillL (Tl d.1 d.2 o u rt D 0) (rh d.2 o))
  have q2b := BD1.out (rh d.2 o) (by have := HLL.out.2.1; omega) HV.out.1
  have R2d : Rs wg wg.heap.size wc.heap.size (ordF (ordF [] (fillL (Tl d.1 d.2 o u rt D 0) (lh d.2 o))) (fillL (Tl d.1 d.2 o u rt D 0) (rh d.2 o))) S2 sn2 sc2 w5.drew := R2.next (Nat.le_refl _) ((Below.refl _ _).drew)
  have L6 := hid (FO1.out (some ⟨bl, ol, none⟩) a lc2 ((lh d.2 o).take a) _ S2 sn2 sc2 w5.drew R2d (put.Seg.front (SG.out w5.drew R2d.fz).1 (by have := HLL.out.1; have := HLL.out.2.2.2; omega)) (fun k hk => by injection hk with hk; exact ⟨by simp only at hk; omega, fun e => by have := (own_lt R2.own k e).1; simp only at hk; omega⟩) (by have := HLL.out.1; have := HLL.out.2.2.2; omega) (fun x hx _ => List.mem_of_mem_take hx) (by simp only [List.length_nil] at q1; have := HQ1.out; omega))
  have k0 := (KC.out w5 R2.fz).1
  have k3 := (KC.out w5 R2.fz).2.2.2.2.2.1
  have k0d := (KC.out w5.drew R2d.fz).1
  have k3d := (KC.out w5.drew R2d.fz).2.2.2.2.2.1
  have zn : wg.heap.size ≤ w5.heap.size := by omega
  have HT5 := hid (And.intro oT5 (And.intro sT5 (And.intro oR (And.intro hs2 (And.intro R2d (And.intro q1 (And.intro q2 q2b)))))))
  have i1 : (0 : Int) ≤ (a : Int) := by omega
  have i2 : (a : Int) ≤ (lc2 : Int) := by have := HLL.out.1; have := HLL.out.2.2.2; have := HTT.out.2.2.1.1; omega
  clear oT R1 hs1 keep2 q1 hans L5 k1 R2 R2d oT5 sT5 oR hs2 q2 q2b
  go_wp2_with fail
  go_region_held3 (fun w' => w'.cell? ⟨p4, 0, none⟩ = some (.slice (some ⟨bl, ol, none⟩) ln lc2) ∧ w'.cell? ⟨p, 3, none⟩ = some (.int .i64 (a : Int)))
   (go_keep)
   (first
    | (go_at_call 104; refine L6.out.mono ?_; rintro e w6 hans; obtain ⟨O3, on3, oc3, S3, sn3, sc3, rfl, oF, R3, hs3, z6, keep3⟩ := rs_step HT5.out.2.2.2.2.1 (Nat.le_refl _) hans; have x0 := (KC.out w6 R3.fz).1; have x3 := (KC.out w6 R3.fz).2.2.2.2.2.1))
  obtain ⟨oT5, sT5, oR, hs2, -, q1, q2, q2b⟩ := HT5.out
  obtain ⟨oT6, sT6⟩ := keep3 _ _ _ _ _ (Own.drew oT5) sT5
  obtain ⟨oR6, sR6⟩ := keep3 _ _ _ _ _ (Own.drew oR) hs2
  have e3 := Own.len oF
  have hon3 : on3 = placeR d.1 d.2 o a u rt D := by rw [e3]; unfold renF placeR frontI; rw [List.length_map]
  have q3 := ordF_len (ordF (ordF [] (fillL (Tl d.1 d.2 o u rt D 0) (lh d.2 o))) (fillL (Tl d.1 d.2 o u rt D 0) (rh d.2 o))) (fillL (Tl d.1 d.2 o u rt D 0) ((lh d.2 o).take a))
  have q3b := BD1.out ((lh d.2 o).take a) (by rw [List.length_take]; have := HLL.out.1; omega) (fun x hx _ => List.mem_of_mem_take hx)
  have zw6 : w5.heap.size ≤ w6.heap.size := z6
  have R3d : Rs wg wg.heap.size wc.heap.size (ordF (ordF (ordF [] (fillL (Tl d.1 d.2 o u rt D 0) (lh d.2 o))) (fillL (Tl d.1 d.2 o u rt D 0) (rh d.2 o))) (fillL (Tl d.1 d.2 o u rt D 0) ((lh d.2 o).take a))) S3 sn3 sc3 w6.drew := R3.next (Nat.le_refl _) ((Below.refl _ _).drew)
  have L7 := hid (FO2.out NA nn nc' (rh d.2 u) _ S3 sn3 sc3 w6.drew R3d (SG.out w6.drew R3d.fz).2.2.1 (fun k hk => by have h1 := SB2.out k hk (by omega); exact ⟨by omega, fun e => by have := (own_lt R3.own k e).1; omega⟩) hnn6.2 HV.out.2 (by simp only [List.length_nil] at q1; have := HQ1.out; omega))
  have k0 := (KC.out w6 R3.fz).2.2.2.1
  have k1 := (KC.out w6 R3.fz).2.2.1
  have k0d := (KC.out w6.drew R3d.fz).2.2.2.1
  have k1d := (KC.out w6.drew R3d.fz).2.2.1
  have HR3 := hid R3d
  have HT6 := hid (And.intro oT6 (And.intro sT6 (And.intro oR6 sR6)))
  have HON := hid hon3
  have hon3b : on3 ≤ 3660 := by rw [e3]; unfold renF; rw [List.length_map]; exact q3b
  have LPF := hid (fun (w7 : World) (O4 : Option Addr) (on4 oc4 : Nat) (hF : Fz wg wg.heap.size wc.heap.size w7) (oT7 : Own w7 wg.heap.size (.slice O1 on1 oc1) (renF [] (fillL (Tl d.1 d.2 o u rt D 0) (lh d.2 o)))) (oU : Own w7 w6.heap.size (.slice O4 on4 oc4) (renF (ordF (ordF (ordF [] (fillL (Tl d.1 d.2 o u rt D 0) (lh d.2 o))) (fillL (Tl d.1 d.2 o u rt D 0) (rh d.2 o))) (fillL (Tl d.1 d.2 o u rt D 0) ((lh d.2 o).take a))) (fillL (Tl d.1 d.2 o u rt D (lh d.2 o).length) (rh d.2 u)))) =>
   (show Calls Tryz.prog 105 #[.agg #[.slice A n c], .slice O1 on1 oc1, .int .i64 (on3 : Int), .slice O4 on4 oc4] w7 (AnsPut w7 (leftR d.1 d.2 o a u rt D) (putB d.1 (topR d.1 d.2 o u rt D) (midR d.1 d.2 o a u rt D) (placeR d.1 d.2 o a u rt D : Nat))) from by
    have l1 := Own.len oT7
    have l4 := Own.len oU
    have b1 := HQ1.out
    have b4 := BD2.out (rh d.2 u) (by have := HLL.out.2.2.1; omega) HV.out.2
    have cT := own_cap oT7
    have l1' : on1 ≤ 1048576 := by rw [l1]; unfold renF; rw [List.length_map]; omega
    have l4' : on4 ≤ 1048576 := by rw [l4]; unfold renF; rw [List.length_map]; omega
    have hp := implPutAt A O1 O4 n c on1 oc1 on4 oc4 d.1 (topR d.1 d.2 o u rt D) (on3 : Int) (midR d.1 d.2 o a u rt D) w7 (SG.out w7 hF).2.2.2 (Own.seg oT7) (Own.seg oU) hn l1' l4' (by omega) (by omega) (own_cap oU) cT.1 cT.2.1
    have e9 : ((on3 : Nat) : Int) = ((placeR d.1 d.2 o a u rt D : Nat) : Int) := by rw [HON.out]
    unfold leftR
    rw [← e9]
    exact hp))
  have zwg6 : wg.heap.size ≤ w6.heap.size := by omega
  clear oT5 sT5 oR hs2 q1 q2 q2b oT6 sT6 oR6 sR6 e3 hon3 q3 q3b R3 R3d keep3 oF hs3 hans L6 k0d k3 k3d x0 x3
  go_wp2_with fail
  go_region_held3 (fun w' => w'.cell? ⟨p, 0, none⟩ = some (.slice A n c) ∧ w'.cell? ⟨p5, 1, none⟩ = some (.slice NA nn nc'))
   (go_keep)
   (first
    | (go_at_call 104; refine L7.out.mono ?_; rintro e w7 hans; obtain ⟨O4, on4, oc4, S4, sn4, sc4, rfl, oU, R4, hs4, z7, keep4⟩ := rs_step HR3.out (Nat.le_refl _) hans; have x0 := (KC.out w7 R4.fz).2.2.2.1; have x1 := (KC.out w7 R4.fz).2.2.1; have oT7 := (keep4 _ _ _ _ _ HT6.out.1 HT6.out.2.1).1; have oR7 := (keep4 _ _ _ _ _ HT6.out.2.2.1 HT6.out.2.2.2).1; have LP := LPF.out w7 O4 on4 oc4 R4.fz oT7 oU)
    | (go_at_call 105; refine LP.mono ?_; rintro e w8 ⟨O5, on5, oc5, rfl, oL, b8⟩; have R8 := R4.next (Nat.le_refl _) b8; have y0 := (KC.out w8 R8.fz).2.2.2.1; have y1 := (KC.out w8 R8.fz).2.2.1))
  have HFIN := hid (And.intro oT7 (And.intro oR7 (And.intro oL (And.intro b8 (And.intro R4 R8)))))
  have rb8 := (KC.out w8 R8.fz).2.2.2.2.2.2.2
  have bel8 : Below w.heap.size w w8 := fz_below HBW.out R8.fz (by omega) (by omega)
  obtain ⟨bp, hbp⟩ : ∃ b, putB d.1 (topR d.1 d.2 o u rt D) (midR d.1 d.2 o a u rt D) (placeR d.1 d.2 o a u rt D : Nat) = b := ⟨_, rfl⟩
  rw [hbp]
  have HBP := hid hbp
  clear hbp oT7 oR7 oL b8 R4 R8 LP hans keep4 oU hs4 x0 x1 L7 LPF y1 k0 k0d k1 k1d
  cases bp with
  | false =>
   clear y0
   have y0 : w8.cell? ⟨w.heap.size, 0, none⟩ = some (.slice none 0 0) := rb8.cell 0
   have g0 := rb8.free 0
   have rr0 := rb8.put 0 (.slice none 0 0)
   have y1 : (w8.setCell ⟨w.heap.size, 0, none⟩ (.slice none 0 0)).cell? ⟨w.heap.size, 1, none⟩ = some (.slice none 0 0) := rr0.cell 1
   have g1 := rr0.free 1
   have rr1 := rr0.put 1 (.slice none 0 0)
   have y2 : ((w8.setCell ⟨w.heap.size, 0, none⟩ (.slice none 0 0)).setCell ⟨w.heap.size, 1, none⟩ (.slice none 0 0)).cell? ⟨w.heap.size, 2, none⟩ = some (.slice none 0 0) := rr1.cell 2
   have g2 := rr1.free 2
   have rr2 := rr1.put 2 (.slice none 0 0)
   have y3 : (((w8.setCell ⟨w.heap.size, 0, none⟩ (.slice none 0 0)).setCell ⟨w.heap.size, 1, none⟩ (.slice none 0 0)).setCell ⟨w.heap.size, 2, none⟩ (.slice none 0 0)).cell? ⟨w.heap.size, 3, none⟩ = some (.int .i64 0) := rr2.cell 3
   have g3 := rr2.free 3
   have rr3 := rr2.put 3 (.int .i64 0)
   have y4 : ((((w8.setCell ⟨w.heap.size, 0, none⟩ (.slice none 0 0)).setCell ⟨w.heap.size, 1, none⟩ (.slice none 0 0)).setCell ⟨w.heap.size, 2, none⟩ (.slice none 0 0)).setCell ⟨w.heap.size, 3, none⟩ (.int .i64 0)).cell? ⟨w.heap.size, 4, none⟩ = some (.int .i64 0) := rr3.cell 4
   have g4 := rr3.free 4
   have rr4 := rr3.put 4 (.int .i64 0)
   have y5 : (((((w8.setCell ⟨w.heap.size, 0, none⟩ (.slice none 0 0)).setCell ⟨w.heap.size, 1, none⟩ (.slice none 0 0)).setCell ⟨w.heap.size, 2, none⟩ (.slice none 0 0)).setCell ⟨w.heap.size, 3, none⟩ (.int .i64 0)).setCell ⟨w.heap.size, 4, none⟩ (.int .i64 0)).cell? ⟨w.heap.size, 5, none⟩ = some (.int .i64 0) := rr4.cell 5
   have g5 := rr4.free 5
   have rr5 := rr4.put 5 (.int .i64 0)
   have u0 : ((((((w8.setCell ⟨w.heap.size, 0, none⟩ (.slice none 0 0)).setCell ⟨w.heap.size, 1, none⟩ (.slice none 0 0)).setCell ⟨w.heap.size, 2, none⟩ (.slice none 0 0)).setCell ⟨w.heap.size, 3, none⟩ (.int .i64 0)).setCell ⟨w.heap.size, 4, none⟩ (.int .i64 0)).setCell ⟨w.heap.size, 5, none⟩ (.int .i64 0)).cell? ⟨w.heap.size, 0, none⟩ = some (.slice none 0 0) := rr5.cell 0
   have u1 : ((((((w8.setCell ⟨w.heap.size, 0, none⟩ (.slice none 0 0)).setCell ⟨w.heap.size, 1, none⟩ (.slice none 0 0)).setCell ⟨w.heap.size, 2, none⟩ (.slice none 0 0)).setCell ⟨w.heap.size, 3, none⟩ (.int .i64 0)).setCell ⟨w.heap.size, 4, none⟩ (.int .i64 0)).setCell ⟨w.heap.size, 5, none⟩ (.int .i64 0)).cell? ⟨w.heap.size, 1, none⟩ = some (.slice none 0 0) := rr5.cell 1
   have u2 : ((((((w8.setCell ⟨w.heap.size, 0, none⟩ (.slice none 0 0)).setCell ⟨w.heap.size, 1, none⟩ (.slice none 0 0)).setCell ⟨w.heap.size, 2, none⟩ (.slice none 0 0)).setCell ⟨w.heap.size, 3, none⟩ (.int .i64 0)).setCell ⟨w.heap.size, 4, none⟩ (.int .i64 0)).setCell ⟨w.heap.size, 5, none⟩ (.int .i64 0)).cell? ⟨w.heap.size, 2, none⟩ = some (.slice none 0 0) := rr5.cell 2
   have u3 : ((((((w8.setCell ⟨w.heap.size, 0, none⟩ (.slice none 0 0)).setCell ⟨w.heap.size, 1, none⟩ (.slice none 0 0)).setCell ⟨w.heap.size, 2, none⟩ (.slice none 0 0)).setCell ⟨w.heap.size, 3, none⟩ (.int .i64 0)).setCell ⟨w.heap.size, 4, none⟩ (.int .i64 0)).setCell ⟨w.heap.size, 5, none⟩ (.int .i64 0)).cell? ⟨w.heap.size, 3, none⟩ = some (.int .i64 0) := rr5.cell 3
   have u4 : ((((((w8.setCell ⟨w.heap.size, 0, none⟩ (.slice none 0 0)).setCell ⟨w.heap.size, 1, none⟩ (.slice none 0 0)).setCell ⟨w.heap.size, 2, none⟩ (.slice none 0 0)).setCell ⟨w.heap.size, 3, none⟩ (.int .i64 0)).setCell ⟨w.heap.size, 4, none⟩ (.int .i64 0)).setCell ⟨w.heap.size, 5, none⟩ (.int .i64 0)).cell? ⟨w.heap.size, 4, none⟩ = some (.int .i64 0) := rr5.cell 4
   have u5 : ((((((w8.setCell ⟨w.heap.size, 0, none⟩ (.slice none 0 0)).setCell ⟨w.heap.size, 1, none⟩ (.slice none 0 0)).setCell ⟨w.heap.size, 2, none⟩ (.slice none 0 0)).setCell ⟨w.heap.size, 3, none⟩ (.int .i64 0)).setCell ⟨w.heap.size, 4, none⟩ (.int .i64 0)).setCell ⟨w.heap.size, 5, none⟩ (.int .i64 0)).cell? ⟨w.heap.size, 5, none⟩ = some (.int .i64 0) := rr5.cell 5
   have FZ : AnsPk w (pkI d.1 d.2 o a u rt D) (okI d.1 d.2 o a u rt D) (.returned (.tuple #[.agg #[.slice none 0 0, .slice none 0 0, .slice none 0 0, .int .i64 0, .int .i64 0, .int .i64 0], .bool false])) ((((((w8.setCell ⟨w.heap.size, 0, none⟩ (.slice none 0 0)).setCell ⟨w.heap.size, 1, none⟩ (.slice none 0 0)).setCell ⟨w.heap.size, 2, none⟩ (.slice none 0 0)).setCell ⟨w.heap.size, 3, none⟩ (.int .i64 0)).setCell ⟨w.heap.size, 4, none⟩ (.int .i64 0)).setCell ⟨w.heap.size, 5, none⟩ (.int .i64 0)) := ansPk_no (pk_off (by unfold okI; rw [HBP.out]; rfl)) (Below.setCell (Below.setCell (Below.setCell (Below.setCell (Below.setCell (Below.setCell bel8 (show w.heap.size ≤ w.heap.size from Nat.le_refl _) _) (show w.heap.size ≤ w.heap.size from Nat.le_refl _) _) (show w.heap.size ≤ w.heap.size from Nat.le_refl _) _) (show w.heap.size ≤ w.heap.size from Nat.le_refl _) _) (show w.heap.size ≤ w.heap.size from Nat.le_refl _) _) (show w.heap.size ≤ w.heap.size from Nat.le_refl _) _)
   have HFZ := hid FZ
   clear FZ rr0 rr1 rr2 rr3 rr4 rr5 rb8 bel8
   go_wp2
   exact bodyPost_ret (v := .tuple #[.agg #[.slice none 0 0, .slice none 0 0, .slice none 0 0, .int .i64 0, .int .i64 0, .int .i64 0], .bool false]) (by simp [results, Tryz.results71, go_sem, u0, u1, u2, u3, u4, u5]) rfl HFZ.out
  | true =>
   have zbb : w.heap.size < w8.heap.size := rb8.lt
   have LT := hid (show Calls Tryz.prog 63 #[.agg #[.slice A n c], .slice O2 on2 oc2] w8 (AnsTerm w8 d.1 (rightR d.1 d.2 o u rt D)) from by
    obtain ⟨oT7, oR7, oL, b8, R4, R8⟩ := HFIN.out
    have oR8 := oR7.next b8
    have l2 := Own.len oR8
    have b2 := BD1.out (rh d.2 o) (by have := HLL.out.2.1; omega) HV.out.1
    exact implTermOk A O2 n c on2 oc2 d.1 (rightR d.1 d.2 o u rt D) w8 (SG.out w8 R8.fz).2.2.2 (Own.seg oR8) hn (by rw [l2]; unfold renF; rw [List.length_map]; omega))
   go_wp2_with fail
   refine LT.out.mono ?_
   rintro e w9 ⟨rfl, b9⟩
   have rb9 := rb8.next b9
   have bel9 := next_trans bel8 b9
   obtain ⟨bt, hbt⟩ : ∃ b, termOkB d.1 (rightR d.1 d.2 o u rt D) = b := ⟨_, rfl⟩
   rw [hbt]
   have HBT := hid hbt
   have HB9 := hid b9
   have z9 := b9.size
   have zw8 := HFIN.out.2.2.2.1.size
   clear hbt LT rb8 bel8 b9 y0
   cases bt with
   | false =>
    have y0 : w9.cell? ⟨w.heap.size, 0, none⟩ = some (.slice none 0 0) := rb9.cell 0
    have g0 := rb9.free 0
    have rr0 := rb9.put 0 (.slice none 0 0)
    have y1 : (w9.setCell ⟨w.heap.size, 0, none⟩ (.slice none 0 0)).cell? ⟨w.heap.size, 1, none⟩ = some (.slice none 0 0) := rr0.cell 1
    have g1 := rr0.free 1
    have rr1 := rr0.put 1 (.slice none 0 0)
    have y2 : ((w9.setCell ⟨w.heap.size, 0, none⟩ (.slice none 0 0)).setCell ⟨w.heap.size, 1, none⟩ (.slice none 0 0)).cell? ⟨w.heap.size, 2, none⟩ = some (.slice none 0 0) := rr1.cell 2
    have g2 := rr1.free 2
    have rr2 := rr1.put 2 (.slice none 0 0)
    have y3 : (((w9.setCell ⟨w.heap.size, 0, none⟩ (.slice none 0 0)).setCell ⟨w.heap.size, 1, none⟩ (.slice none 0 0)).setCell ⟨w.heap.size, 2, none⟩ (.slice none 0 0)).cell? ⟨w.heap.size, 3, none⟩ = some (.int .i64 0) := rr2.cell 3
    have g3 := rr2.free 3
    have rr3 := rr2.put 3 (.int .i64 0)
    have y4 : ((((w9.setCell ⟨w.heap.size, 0, none⟩ (.slice none 0 0)).setCell ⟨w.heap.size, 1, none⟩ (.slice none 0 0)).setCell ⟨w.heap.size, 2, none⟩ (.slice none 0 0)).setCell ⟨w.heap.size, 3, none⟩ (.int .i64 0)).cell? ⟨w.heap.size, 4, none⟩ = some (.int .i64 0) := rr3.cell 4
    have g4 := rr3.free 4
    have rr4 := rr3.put 4 (.int .i64 0)
    have y5 : (((((w9.setCell ⟨w.heap.size, 0, none⟩ (.slice none 0 0)).setCell ⟨w.heap.size, 1, none⟩ (.slice none 0 0)).setCell ⟨w.heap.size, 2, none⟩ (.slice none 0 0)).setCell ⟨w.heap.size, 3, none⟩ (.int .i64 0)).setCell ⟨w.heap.size, 4, none⟩ (.int .i64 0)).cell? ⟨w.heap.size, 5, none⟩ = some (.int .i64 0) := rr4.cell 5
    have g5 := rr4.free 5
    have rr5 := rr4.put 5 (.int .i64 0)
    have u0 : ((((((w9.setCell ⟨w.heap.size, 0, none⟩ (.slice none 0 0)).setCell ⟨w.heap.size, 1, none⟩ (.slice none 0 0)).setCell ⟨w.heap.size, 2, none⟩ (.slice none 0 0)).setCell ⟨w.heap.size, 3, none⟩ (.int .i64 0)).setCell ⟨w.heap.size, 4, none⟩ (.int .i64 0)).setCell ⟨w.heap.size, 5, none⟩ (.int .i64 0)).cell? ⟨w.heap.size, 0, none⟩ = some (.slice none 0 0) := rr5.cell 0
    have u1 : ((((((w9.setCell ⟨w.heap.size, 0, none⟩ (.slice none 0 0)).setCell ⟨w.heap.size, 1, none⟩ (.slice none 0 0)).setCell ⟨w.heap.size, 2, none⟩ (.slice none 0 0)).setCell ⟨w.heap.size, 3, none⟩ (.int .i64 0)).setCell ⟨w.heap.size, 4, none⟩ (.int .i64 0)).setCell ⟨w.heap.size, 5, none⟩ (.int .i64 0)).cell? ⟨w.heap.size, 1, none⟩ = some (.slice none 0 0) := rr5.cell 1
    have u2 : ((((((w9.setCell ⟨w.heap.size, 0, none⟩ (.slice none 0 0)).setCell ⟨w.heap.size, 1, none⟩ (.slice none 0 0)).setCell ⟨w.heap.size, 2, none⟩ (.slice none 0 0)).setCell ⟨w.heap.size, 3, none⟩ (.int .i64 0)).setCell ⟨w.heap.size, 4, none⟩ (.int .i64 0)).setCell ⟨w.heap.size, 5, none⟩ (.int .i64 0)).cell? ⟨w.heap.size, 2, none⟩ = some (.slice none 0 0) := rr5.cell 2
    have u3 : ((((((w9.setCell ⟨w.heap.size, 0, none⟩ (.slice none 0 0)).setCell ⟨w.heap.size, 1, none⟩ (.slice none 0 0)).setCell ⟨w.heap.size, 2, none⟩ (.slice none 0 0)).setCell ⟨w.heap.size, 3, none⟩ (.int .i64 0)).setCell ⟨w.heap.size, 4, none⟩ (.int .i64 0)).setCell ⟨w.heap.size, 5, none⟩ (.int .i64 0)).cell? ⟨w.heap.size, 3, none⟩ = some (.int .i64 0) := rr5.cell 3
    have u4 : ((((((w9.setCell ⟨w.heap.size, 0, none⟩ (.slice none 0 0)).setCell ⟨w.heap.size, 1, none⟩ (.slice none 0 0)).setCell ⟨w.heap.size, 2, none⟩ (.slice none 0 0)).setCell ⟨w.heap.size, 3, none⟩ (.int .i64 0)).setCell ⟨w.heap.size, 4, none⟩ (.int .i64 0)).setCell ⟨w.heap.size, 5, none⟩ (.int .i64 0)).cell? ⟨w.heap.size, 4, none⟩ = some (.int .i64 0) := rr5.cell 4
    have u5 : ((((((w9.setCell ⟨w.heap.size, 0, none⟩ (.slice none 0 0)).setCell ⟨w.heap.size, 1, none⟩ (.slice none 0 0)).setCell ⟨w.heap.size, 2, none⟩ (.slice none 0 0)).setCell ⟨w.heap.size, 3, none⟩ (.int .i64 0)).setCell ⟨w.heap.size, 4, none⟩ (.int .i64 0)).setCell ⟨w.heap.size, 5, none⟩ (.int .i64 0)).cell? ⟨w.heap.size, 5, none⟩ = some (.int .i64 0) := rr5.cell 5
    have FZ : AnsPk w (pkI d.1 d.2 o a u rt D) (okI d.1 d.2 o a u rt D) (.returned (.tuple #[.agg #[.slice none 0 0, .slice none 0 0, .slice none 0 0, .int .i64 0, .int .i64 0, .int .i64 0], .bool false])) ((((((w9.setCell ⟨w.heap.size, 0, none⟩ (.slice none 0 0)).setCell ⟨w.heap.size, 1, none⟩ (.slice none 0 0)).setCell ⟨w.heap.size, 2, none⟩ (.slice none 0 0)).setCell ⟨w.heap.size, 3, none⟩ (.int .i64 0)).setCell ⟨w.heap.size, 4, none⟩ (.int .i64 0)).setCell ⟨w.heap.size, 5, none⟩ (.int .i64 0)) := ansPk_no (pk_off (by unfold okI; rw [HBP.out, HBT.out]; rfl)) (Below.setCell (Below.setCell (Below.setCell (Below.setCell (Below.setCell (Below.setCell bel9 (show w.heap.size ≤ w.heap.size from Nat.le_refl _) _) (show w.heap.size ≤ w.heap.size from Nat.le_refl _) _) (show w.heap.size ≤ w.heap.size from Nat.le_refl _) _) (show w.heap.size ≤ w.heap.size from Nat.le_refl _) _) (show w.heap.size ≤ w.heap.size from Nat.le_refl _) _) (show w.heap.size ≤ w.heap.size from Nat.le_refl _) _)
    have HFZ := hid FZ
    clear FZ rr0 rr1 rr2 rr3 rr4 rr5 rb9 bel9
    go_wp2
    exact bodyPost_ret (v := .tuple #[.agg #[.slice none 0 0, .slice none 0 0, .slice none 0 0, .int .i64 0, .int .i64 0, .int .i64 0], .bool false]) (by simp [results, Tryz.results71, go_sem, u0, u1, u2, u3, u4, u5]) rfl HFZ.out
   | true =>
    have R9 := HFIN.out.2.2.2.2.2.next (Nat.le_refl _) HB9.out
    have k2 := (KC.out w9 R9.fz).2.2.2.2.1
    have k3 := (KC.out w9 R9.fz).2.2.2.2.2.1
    have k4 := (KC.out w9 R9.fz).2.2.2.2.2.2.1
    have zz4 : wg.heap.size ≤ w4.heap.size := z4
    have zz7 : w6.heap.size ≤ w7.heap.size := z7
    have y0 : w9.cell? ⟨w.heap.size, 0, none⟩ = some (.slice none 0 0) := rb9.cell 0
    have g0 := rb9.free 0
    have rr0 := rb9.put 0 (.slice O1 on1 oc1)
    have y1 : (w9.setCell ⟨w.heap.size, 0, none⟩ (.slice O1 on1 oc1)).cell? ⟨w.heap.size, 1, none⟩ = some (.slice none 0 0) := rr0.cell 1
    have g1 := rr0.free 1
    have rr1 := rr0.put 1 (.slice O5 on5 oc5)
    have y2 : ((w9.setCell ⟨w.heap.size, 0, none⟩ (.slice O1 on1 oc1)).setCell ⟨w.heap.size, 1, none⟩ (.slice O5 on5 oc5)).cell? ⟨w.heap.size, 2, none⟩ = some (.slice none 0 0) := rr1.cell 2
    have g2 := rr1.free 2
    have rr2 := rr1.put 2 (.slice O2 on2 oc2)
    have y3 : (((w9.setCell ⟨w.heap.size, 0, none⟩ (.slice O1 on1 oc1)).setCell ⟨w.heap.size, 1, none⟩ (.slice O5 on5 oc5)).setCell ⟨w.heap.size, 2, none⟩ (.slice O2 on2 oc2)).cell? ⟨w.heap.size, 3, none⟩ = some (.int .i64 0) := rr2.cell 3
    have g3 := rr2.free 3
    have rr3 := rr2.put 3 (.int .i64 (a : Int))
    have y4 : ((((w9.setCell ⟨w.heap.size, 0, none⟩ (.slice O1 on1 oc1)).setCell ⟨w.heap.size, 1, none⟩ (.slice O5 on5 oc5)).setCell ⟨w.heap.size, 2, none⟩ (.slice O2 on2 oc2)).setCell ⟨w.heap.size, 3, none⟩ (.int .i64 (a : Int))).cell? ⟨w.heap.size, 4, none⟩ = some (.int .i64 0) := rr3.cell 4
    have g4 := rr3.free 4
    have rr4 := rr3.put 4 (.int .i64 (u : Int))
    have y5 : (((((w9.setCell ⟨w.heap.size, 0, none⟩ (.slice O1 on1 oc1)).setCell ⟨w.heap.size, 1, none⟩ (.slice O5 on5 oc5)).setCell ⟨w.heap.size, 2, none⟩ (.slice O2 on2 oc2)).setCell ⟨w.heap.size, 3, none⟩ (.int .i64 (a : Int))).setCell ⟨w.heap.size, 4, none⟩ (.int .i64 (u : Int))).cell? ⟨w.heap.size, 5, none⟩ = some (.int .i64 0) := rr4.cell 5
    have g5 := rr4.free 5
    have rr5 := rr4.put 5 (.int .i64 (o : Int))
    have u0 : ((((((w9.setCell ⟨w.heap.size, 0, none⟩ (.slice O1 on1 oc1)).setCell ⟨w.heap.size, 1, none⟩ (.slice O5 on5 oc5)).setCell ⟨w.heap.size, 2, none⟩ (.slice O2 on2 oc2)).setCell ⟨w.heap.size, 3, none⟩ (.int .i64 (a : Int))).setCell ⟨w.heap.size, 4, none⟩ (.int .i64 (u : Int))).setCell ⟨w.heap.size, 5, none⟩ (.int .i64 (o : Int))).cell? ⟨w.heap.size, 0, none⟩ = some (.slice O1 on1 oc1) := rr5.cell 0
    have u1 : ((((((w9.setCell ⟨w.heap.size, 0, none⟩ (.slice O1 on1 oc1)).setCell ⟨w.heap.size, 1, none⟩ (.slice O5 on5 oc5)).setCell ⟨w.heap.size, 2, none⟩ (.slice O2 on2 oc2)).setCell ⟨w.heap.size, 3, none⟩ (.int .i64 (a : Int))).setCell ⟨w.heap.size, 4, none⟩ (.int .i64 (u : Int))).setCell ⟨w.heap.size, 5, none⟩ (.int .i64 (o : Int))).cell? ⟨w.heap.size, 1, none⟩ = some (.slice O5 on5 oc5) := rr5.cell 1
    have u2 : ((((((w9.setCell ⟨w.heap.size, 0, none⟩ (.slice O1 on1 oc1)).setCell ⟨w.heap.size, 1, none⟩ (.slice O5 on5 oc5)).setCell ⟨w.heap.size, 2, none⟩ (.slice O2 on2 oc2)).setCell ⟨w.heap.size, 3, none⟩ (.int .i64 (a : Int))).setCell ⟨w.heap.size, 4, none⟩ (.int .i64 (u : Int))).setCell ⟨w.heap.size, 5, none⟩ (.int .i64 (o : Int))).cell? ⟨w.heap.size, 2, none⟩ = some (.slice O2 on2 oc2) := rr5.cell 2
    have u3 : ((((((w9.setCell ⟨w.heap.size, 0, none⟩ (.slice O1 on1 oc1)).setCell ⟨w.heap.size, 1, none⟩ (.slice O5 on5 oc5)).setCell ⟨w.heap.size, 2, none⟩ (.slice O2 on2 oc2)).setCell ⟨w.heap.size, 3, none⟩ (.int .i64 (a : Int))).setCell ⟨w.heap.size, 4, none⟩ (.int .i64 (u : Int))).setCell ⟨w.heap.size, 5, none⟩ (.int .i64 (o : Int))).cell? ⟨w.heap.size, 3, none⟩ = some (.int .i64 (a : Int)) := rr5.cell 3
    have u4 : ((((((w9.setCell ⟨w.heap.size, 0, none⟩ (.slice O1 on1 oc1)).setCell ⟨w.heap.size, 1, none⟩ (.slice O5 on5 oc5)).setCell ⟨w.heap.size, 2, none⟩ (.slice O2 on2 oc2)).setCell ⟨w.heap.size, 3, none⟩ (.int .i64 (a : Int))).setCell ⟨w.heap.size, 4, none⟩ (.int .i64 (u : Int))).setCell ⟨w.heap.size, 5, none⟩ (.int .i64 (o : Int))).cell? ⟨w.heap.size, 4, none⟩ = some (.int .i64 (u : Int)) := rr5.cell 4
    have u5 : ((((((w9.setCell ⟨w.heap.size, 0, none⟩ (.slice O1 on1 oc1)).setCell ⟨w.heap.size, 1, none⟩ (.slice O5 on5 oc5)).setCell ⟨w.heap.size, 2, none⟩ (.slice O2 on2 oc2)).setCell ⟨w.heap.size, 3, none⟩ (.int .i64 (a : Int))).setCell ⟨w.heap.size, 4, none⟩ (.int .i64 (u : Int))).setCell ⟨w.heap.size, 5, none⟩ (.int .i64 (o : Int))).cell? ⟨w.heap.size, 5, none⟩ = some (.int .i64 (o : Int)) := rr5.cell 5
    have oT9 : Owned w9 wg.heap.size w4.heap.size sI [.slice O1 on1 oc1] (topR d.1 d.2 o u rt D) := ow_ints.2 ⟨((HFIN.out.1.next HFIN.out.2.2.2.1).next HB9.out), UB1.out⟩
    have oR9 : Owned w9 w4.heap.size w5.heap.size sI [.slice O2 on2 oc2] (rightR d.1 d.2 o u rt D) := ow_ints.2 ⟨((HFIN.out.2.1.next HFIN.out.2.2.2.1).next HB9.out), UB2.out⟩
    have oL9 : Owned w9 w7.heap.size w9.heap.size sI [.slice O5 on5 oc5] (leftR d.1 d.2 o a u rt D) := ow_ints.2 ⟨(HFIN.out.2.2.1.next HB9.out), fun k hk => by have := (own_lt HFIN.out.2.2.1 k hk).2; omega⟩
    have poT9 := (Owned.put (g := w.heap.size) (i := 5) (u := .int .i64 (o : Int)) (Owned.put (g := w.heap.size) (i := 4) (u := .int .i64 (u : Int)) (Owned.put (g := w.heap.size) (i := 3) (u := .int .i64 (a : Int)) (Owned.put (g := w.heap.size) (i := 2) (u := .slice O2 on2 oc2) (Owned.put (g := w.heap.size) (i := 1) (u := .slice O5 on5 oc5) (Owned.put (g := w.heap.size) (i := 0) (u := .slice O1 on1 oc1) oT9 (by omega)) (by omega)) (by omega)) (by omega)) (by omega)) (by omega))
    have poR9 := (Owned.put (g := w.heap.size) (i := 5) (u := .int .i64 (o : Int)) (Owned.put (g := w.heap.size) (i := 4) (u := .int .i64 (u : Int)) (Owned.put (g := w.heap.size) (i := 3) (u := .int .i64 (a : Int)) (Owned.put (g := w.heap.size) (i := 2) (u := .slice O2 on2 oc2) (Owned.put (g := w.heap.size) (i := 1) (u := .slice O5 on5 oc5) (Owned.put (g := w.heap.size) (i := 0) (u := .slice O1 on1 oc1) oR9 (by omega)) (by omega)) (by omega)) (by omega)) (by omega)) (by omega))
    have poL9 := (Owned.put (g := w.heap.size) (i := 5) (u := .int .i64 (o : Int)) (Owned.put (g := w.heap.size) (i := 4) (u := .int .i64 (u : Int)) (Owned.put (g := w.heap.size) (i := 3) (u := .int .i64 (a : Int)) (Owned.put (g := w.heap.size) (i := 2) (u := .slice O2 on2 oc2) (Owned.put (g := w.heap.size) (i := 1) (u := .slice O5 on5 oc5) (Owned.put (g := w.heap.size) (i := 0) (u := .slice O1 on1 oc1) oL9 (by omega)) (by omega)) (by omega)) (by omega)) (by omega)) (by omega))
    have rest := Owned.cat poR9 (Owned.cat (Owned.num ((((((w9.setCell ⟨w.heap.size, 0, none⟩ (.slice O1 on1 oc1)).setCell ⟨w.heap.size, 1, none⟩ (.slice O5 on5 oc5)).setCell ⟨w.heap.size, 2, none⟩ (.slice O2 on2 oc2)).setCell ⟨w.heap.size, 3, none⟩ (.int .i64 (a : Int))).setCell ⟨w.heap.size, 4, none⟩ (.int .i64 (u : Int))).setCell ⟨w.heap.size, 5, none⟩ (.int .i64 (o : Int))) w5.heap.size w5.heap.size (a : Int)) (Owned.cat (Owned.num ((((((w9.setCell ⟨w.heap.size, 0, none⟩ (.slice O1 on1 oc1)).setCell ⟨w.heap.size, 1, none⟩ (.slice O5 on5 oc5)).setCell ⟨w.heap.size, 2, none⟩ (.slice O2 on2 oc2)).setCell ⟨w.heap.size, 3, none⟩ (.int .i64 (a : Int))).setCell ⟨w.heap.size, 4, none⟩ (.int .i64 (u : Int))).setCell ⟨w.heap.size, 5, none⟩ (.int .i64 (o : Int))) w5.heap.size w5.heap.size (u : Int)) (Owned.num ((((((w9.setCell ⟨w.heap.size, 0, none⟩ (.slice O1 on1 oc1)).setCell ⟨w.heap.size, 1, none⟩ (.slice O5 on5 oc5)).setCell ⟨w.heap.size, 2, none⟩ (.slice O2 on2 oc2)).setCell ⟨w.heap.size, 3, none⟩ (.int .i64 (a : Int))).setCell ⟨w.heap.size, 4, none⟩ (.int .i64 (u : Int))).setCell ⟨w.heap.size, 5, none⟩ (.int .i64 (o : Int))) w5.heap.size w5.heap.size (o : Int)) (Nat.le_refl _) (Nat.le_refl _) (Nat.le_refl _)) (Nat.le_refl _) (Nat.le_refl _) (Nat.le_refl _)) (Nat.le_refl _) (by omega) (Nat.le_refl _)
    have whole := Owned.cat poT9 (owned_catR poL9 rest (by omega) (by omega) (by omega)) (Nat.le_refl _) (by omega) (by omega)
    have HFZ := hid (show AnsPk w (pkI d.1 d.2 o a u rt D) (okI d.1 d.2 o a u rt D) (.returned (.tuple #[.agg #[.slice O1 on1 oc1, .slice O5 on5 oc5, .slice O2 on2 oc2, .int .i64 (a : Int), .int .i64 (u : Int), .int .i64 (o : Int)], .bool true])) (((((((w9.setCell ⟨w.heap.size, 0, none⟩ (.slice O1 on1 oc1)).setCell ⟨w.heap.size, 1, none⟩ (.slice O5 on5 oc5)).setCell ⟨w.heap.size, 2, none⟩ (.slice O2 on2 oc2)).setCell ⟨w.heap.size, 3, none⟩ (.int .i64 (a : Int))).setCell ⟨w.heap.size, 4, none⟩ (.int .i64 (u : Int))).setCell ⟨w.heap.size, 5, none⟩ (.int .i64 (o : Int)))).drew from by
     have e1 : okI d.1 d.2 o a u rt D = true := by unfold okI; rw [HBP.out, HBT.out]; rfl
     have e2 : pkI d.1 d.2 o a u rt D = (topR d.1 d.2 o u rt D, leftR d.1 d.2 o a u rt D, rightR d.1 d.2 o u rt D, (a : Int), (u : Int), (o : Int)) := by unfold pkI; rw [if_pos e1]
     rw [e1, e2]
     exact ⟨O1, on1, oc1, O5, on5, oc5, O2, on2, oc2, rfl, (whole.wider (by omega) (by simp)).drew, ((Below.setCell (Below.setCell (Below.setCell (Below.setCell (Below.setCell (Below.setCell bel9 (show w.heap.size ≤ w.heap.size from Nat.le_refl _) _) (show w.heap.size ≤ w.heap.size from Nat.le_refl _) _) (show w.heap.size ≤ w.heap.size from Nat.le_refl _) _) (show w.heap.size ≤ w.heap.size from Nat.le_refl _) _) (show w.heap.size ≤ w.heap.size from Nat.le_refl _) _) (show w.heap.size ≤ w.heap.size from Nat.le_refl _) _)).drew⟩)
    clear oT9 oR9 oL9 poT9 poR9 poL9 rest whole rr0 rr1 rr2 rr3 rr4 rr5 rb9 bel9 R9
    have hne9 : ¬ p = w.heap.size := by omega
    have hne8 : ¬ w.heap.size = p := by omega
    go_wp2_with fail
    go_region_held3 (fun w' => w'.cell? ⟨p, 2, none⟩ = some (.int .i64 (o : Int)) ∧ w'.cell? ⟨p, 3, none⟩ = some (.int .i64 (a : Int)) ∧ w'.cell? ⟨p, 4, none⟩ = some (.int .i64 (u : Int))) (go_keep) ((fail))
    go_wp2_with fail
    exact bodyPost_ret (v := .tuple #[.agg #[.slice O1 on1 oc1, .slice O5 on5 oc5, .slice O2 on2 oc2, .int .i64 (a : Int), .int .i64 (u : Int), .int .i64 (o : Int)], .bool true]) (by simp [results, Tryz.results71, go_sem, u0, u1, u2, u3, u4, u5]) rfl HFZ.out
end peakRun
end
section
namespace pkLink
open sig term termOk termFacts sub endAt fillMath renMath renImpl matchMath unifMath forest triMath ufMath nodes ruleMath pkMath putMath put trySpec ovStart pkVars pkMgu pkFacts peakRun
set_option maxRecDepth 100000
theorem part_len {L : Nat → List Int} : ∀ {t : List Int} {y : Int}, y ∈ t → (rep L y).length ≤ (fillL L t).length
 | x :: r, y, hy => by
  rw [fill_cons, List.length_append]
  rcases List.mem_cons.1 hy with e | e
  ·rw [e]; omega
  ·have := part_len (L := L) e; omega
def t61 (F : Nat → List Int) (i : Nat) : List Int := (F i).take 61
theorem t61_same {F : Nat → List Int} {t : List Int} (h : ∀ x ∈ t, x < 0 → (F (vr x)).length ≤ 61) : fillL (t61 F) t = fillL F t := fill_ext fun x hx h0 => List.take_of_length_le (h x hx h0)
theorem t61_long {F : Nat → List Int} {t : List Int} (h : 60 < (fillL F t).length) : 60 < (fillL (t61 F) t).length := by
 by_cases hb : ∀ x ∈ t, x < 0 → (F (vr x)).length ≤ 61
 ·rw [t61_same hb]; exact h
 ·have : ∃ x, x ∈ t ∧ x < 0 ∧ ¬ (F (vr x)).length ≤ 61 := Classical.byContradiction fun hc => hb fun x hx h0 => Classical.byContradiction fun h1 => hc ⟨x, hx, h0, h1⟩
  obtain ⟨x, hx, h0, h1⟩ := this
  have h2 := part_len (L := t61 F) hx
  rw [rep_vr h0] at h2
  unfold t61 at h2
  rw [List.length_take] at h2
  unfold t61
  omega
section
variable {sg : List Int} {o t : List Int}
theorem by_len : (byL o t).length = t.length := by unfold byL; rw [List.length_map]
theorem by_fo {q : Nat} (h : Fo sg q t) : Fo sg q (byL o t) := by
 unfold byL
 rw [← renPure.ren_fill]
 exact h.fill fun i => Fo.vt _
theorem by_low (h24 : o.length ≤ 24) (hv : ∀ x ∈ t, x < 0 → x ∈ o) : ∀ x ∈ byL o t, -24 ≤ x := fun x hx => by
 unfold byL at hx
 obtain ⟨y, hy, rfl⟩ := List.mem_map.1 hx
 unfold ren
 split
 ·rename_i h0
  have := idx_lt (hv y hy h0)
  omega
 ·omega
theorem by_ok (hs : sigOkB sg = true) (h : Fo sg 1 t) (h24 : o.length ≤ 24) (hv : ∀ x ∈ t, x < 0 → x ∈ o) : termOkB sg (byL o t) = decide (t.length ≤ 60) := by
 by_cases h60 : t.length ≤ 60
 ·rw [decide_eq_true h60]
  exact term_mk hs (by rw [by_len]; exact h60) (scan_fo (by_fo h) (by_low h24 hv))
 ·rw [decide_eq_false h60]
  cases hb : termOkB sg (byL o t) with
  | false => rfl
  | true =>
   have := (term_len hb).2
   rw [by_len] at this
   omega
theorem by_app (a b : List Int) : byL o (a ++ b) = byL o a ++ byL o b := by unfold byL; rw [List.map_append]
theorem ren_same {R : List Int} (h : ∀ x ∈ R, x < 0 → x ∈ o) : renF o R = byL o R := by
 unfold renF byL
 rw [ordF_same h]
end
section
variable {sg : List Int} {rs : List Rl} {o a u : Nat} {lk : List Nat} {rt rk : Nat → Nat} {D : List Nat}
noncomputable def fF (sg : List Int) (rs : List Rl) (o u : Nat) (rt : Nat → Nat) (D : List Nat) : Nat → List Int := ufMath.wL ((lh rs o).length + (lh rs u).length) (fun i => (lh rs o ++ lh rs u).getD i 0) (nodes.nd sg (lh rs o ++ lh rs u) (lh rs o ++ shiftL 24 (lh rs u))) (chN sg (lh rs o ++ lh rs u)) rt D
structure Hy (sg : List Int) (rs : List Rl) (o a u : Nat) (lk : List Nat) (rt rk : Nat → Nat) (D : List Nat) : Prop where
 lo : termOkB sg (lh rs o) = true
 ro : termOkB sg (rh rs o) = true
 lu : termOkB sg (lh rs u) = true
 ru : termOkB sg (rh rs u) = true
 vo : ∀ x, x ∈ rh rs o → x < 0 → x ∈ lh rs o
 vu : ∀ x, x ∈ rh rs u → x < 0 → x ∈ lh rs u
 ha : a < (lh rs o).length
 wh : Whole sg ((lh rs o).length + (lh rs u).length) (fun i => (lh rs o ++ lh rs u).getD i 0) (nodes.nd sg (lh rs o ++ lh rs u) (lh rs o ++ shiftL 24 (lh rs u))) (chN sg (lh rs o ++ lh rs u)) (inn sg (lh rs o) a) a (lh rs o).length lk rt rk D
theorem Hy.uni (h : Hy sg rs o a u lk rt rk D) : Unis sg (oS sg rs o a) (oT rs u) (fF sg rs o u rt D) := by
 have := h.wh.unis
 rw [nd_lo (term_parts h.lo).2.2 h.ha, nd_lu (term_parts h.lu).2.2] at this
 exact this
theorem nd_var (h : Hy sg rs o a u lk rt rk D) {i : Nat} (hi : i < (lh rs o).length + (lh rs u).length) (h0 : (lh rs o ++ lh rs u).getD i 0 < 0) : nodes.nd sg (lh rs o ++ lh rs u) (lh rs o ++ shiftL 24 (lh rs u)) i = [(lh rs o ++ shiftL 24 (lh rs u)).getD i 0] := by
 obtain ⟨j, hj⟩ := sc_all (sg := sg) (term_parts h.lo).2.2 (term_parts h.lu).2.2 hi
 exact (nd_all (twin _ _) _ i j hj (Nat.le_refl _)).2.2 h0
theorem at_lo (h : Hy sg rs o a u lk rt rk D) {x : Int} (hx : x ∈ lh rs o) (h0 : x < 0) : idx (lh rs o) x < (lh rs o).length + (lh rs u).length ∧ (lh rs o ++ lh rs u).getD (idx (lh rs o) x) 0 = x ∧ nodes.nd sg (lh rs o ++ lh rs u) (lh rs o ++ shiftL 24 (lh rs u)) (idx (lh rs o) x) = [x] := by
 have hl := idx_lt hx
 have e1 : (lh rs o ++ lh rs u).getD (idx (lh rs o) x) 0 = x := by rw [get_lo hl]; exact idx_get hx
 refine ⟨by omega, e1, ?_⟩
 rw [nd_var h (by omega) (by rw [e1]; exact h0), get_lo hl, idx_get hx]
theorem at_lu (h : Hy sg rs o a u lk rt rk D) {y : Int} (hy : y ∈ lh rs u) (h0 : y < 0) : (lh rs o).length + idx (lh rs u) y < (lh rs o).length + (lh rs u).length ∧ (lh rs o ++ lh rs u).getD ((lh rs o).length + idx (lh rs u) y) 0 = y ∧ nodes.nd sg (lh rs o ++ lh rs u) (lh rs o ++ shiftL 24 (lh rs u)) ((lh rs o).length + idx (lh rs u) y) = [y - 24] := by
 have hl := idx_lt hy
 have e1 : (lh rs o ++ lh rs u).getD ((lh rs o).length + idx (lh rs u) y) 0 = y := by rw [get_lu]; exact idx_get hy
 refine ⟨by omega, e1, ?_⟩
 rw [nd_var h (by omega) (by rw [e1]; exact h0), get_lu, get_sh hl, idx_get hy]
 unfold sh
 rw [if_pos h0]
theorem occ_lo (h : Hy sg rs o a u lk rt rk D) {x : Int} (hx : x ∈ lh rs o) (h0 : x < 0) : Occ ((lh rs o).length + (lh rs u).length) (fun i => (lh rs o ++ lh rs u).getD i 0) (nodes.nd sg (lh rs o ++ lh rs u) (lh rs o ++ shiftL 24 (lh rs u))) (vr x) := by
 obtain ⟨h1, h2, h3⟩ := at_lo h hx h0
 exact ⟨_, h1, by show (lh rs o ++ lh rs u).getD _ 0 < 0; rw [h2]; exact h0, by rw [h3, at_vr h0]⟩
theorem occ_lu (h : Hy sg rs o a u lk rt rk D) {x : Int} (hx : x ∈ shiftL 24 (lh rs u)) (h0 : x < 0) : Occ ((lh rs o).length + (lh rs u).length) (fun i => (lh rs o ++ lh rs u).getD i 0) (nodes.nd sg (lh rs o ++ lh rs u) (lh rs o ++ shiftL 24 (lh rs u))) (vr x) := by
 obtain ⟨y, hy, rfl⟩ := List.mem_map.1 hx
 have hy0 : y < 0 := by
  unfold sh at h0
  split at h0
  ·assumption
  ·omega
 have e : sh 24 y = y - 24 := by unfold sh; rw [if_pos hy0]
 obtain ⟨h1, h2, h3⟩ := at_lu h hy hy0
 exact ⟨_, h1, by show (lh rs o ++ lh rs u).getD _ 0 < 0; rw [h2]; exact hy0, by rw [h3, at_vr h0, e]⟩
theorem tl_lo (h : Hy sg rs o a u lk rt rk D) {x : Int} (hx : x ∈ lh rs o) (h0 : x < 0) : Tl sg rs o u rt D 0 (vr x) = t61 (fF sg rs o u rt D) (vr x) := by
 obtain ⟨h1, h2, h3⟩ := at_lo h hx h0
 have hw := h.wh.wL _ x h1 (by show (lh rs o ++ lh rs u).getD _ 0 < 0; rw [h2]; exact h0) h3
 unfold Tl t61 fF
 rw [hw, at_vr h0, List.drop_zero, Nat.zero_add]
 unfold numsO
 rw [idx_app_mem hx]
 rfl
theorem tl_lu (h : Hy sg rs o a u lk rt rk D) {y : Int} (hy : y ∈ lh rs u) (h0 : y < 0) : Tl sg rs o u rt D (lh rs o).length (vr y) = t61 (fF sg rs o u rt D) (vr y + 24) := by
 obtain ⟨h1, h2, h3⟩ := at_lu h hy h0
 have hw := h.wh.wL _ _ h1 (by show (lh rs o ++ lh rs u).getD _ 0 < 0; rw [h2]; exact h0) h3
 have ev : vr (y - 24) = vr y + 24 := by unfold vr; omega
 rw [ev] at hw
 unfold Tl t61 fF
 rw [hw, at_vr h0]
 unfold numsO
 rw [List.drop_left]
 rfl
theorem fill_shift (F : Nat → List Int) (t : List Int) : fillL F (shiftL 24 t) = fillL (fun i => F (i + 24)) t := by
 have := shift_fill (k := 24) t
 rw [show ((24 : Nat) : Int) = 24 from rfl] at this
 rw [← this, fill_fill]
 exact fill_ext fun x _ _ => fill_vti F _
theorem link_F (h : Hy sg rs o a u lk rt rk D) : pk3 (fillL (fF sg rs o u rt D) (lh rs o)) (fillL (fF sg rs o u rt D) (leftA sg rs o a u)) (fillL (fF sg rs o u rt D) (rh rs o)) = pkV sg rs o a u := by
 have ns := nd_lo (sg := sg) (lu := lh rs u) (term_parts h.lo).2.2 h.ha
 have nt := nd_lu (sg := sg) (lo := lh rs o) (term_parts h.lu).2.2
 have oS_in : ∀ x ∈ oS sg rs o a, x ∈ lh rs o := fun x hx => List.mem_of_mem_drop (List.mem_of_mem_take hx)
 have hm := lF_mgu h.wh (fun x hx h0 => by rw [ns] at hx; exact occ_lo h (oS_in x hx) h0) (fun x hx h0 => by rw [nt] at hx; exact occ_lu h hx h0)
 rw [ns, nt] at hm
 rw [← pkV_of h.lo h.ha h.vo h.vu hm]
 have oA : ∀ x ∈ leftA sg rs o a u, x < 0 → Occ ((lh rs o).length + (lh rs u).length) (fun i => (lh rs o ++ lh rs u).getD i 0) (nodes.nd sg (lh rs o ++ lh rs u) (lh rs o ++ shiftL 24 (lh rs u))) (vr x) := fun x hx h0 => by
  unfold leftA at hx
  rcases List.mem_append.1 hx with hx | hx
  ·exact occ_lo h (List.mem_of_mem_take hx) h0
  ·rcases List.mem_append.1 hx with hx | hx
   ·obtain ⟨y, hy, rfl⟩ := List.mem_map.1 hx
    have hy0 : y < 0 := by
     unfold sh at h0
     split at h0
     ·assumption
     ·omega
    exact occ_lu h (List.mem_map.2 ⟨y, h.vu y hy hy0, rfl⟩) h0
   ·exact occ_lo h (List.mem_of_mem_drop hx) h0
 have back : ∀ X : List Int, fillL (fF sg rs o u rt D) X = fillL (fF sg rs o u rt D) (fillL (lF ((lh rs o).length + (lh rs u).length) (fun i => (lh rs o ++ lh rs u).getD i 0) (nodes.nd sg (lh rs o ++ lh rs u) (lh rs o ++ shiftL 24 (lh rs u))) (chN sg (lh rs o ++ lh rs u)) rt D) X) := fun X => by
  rw [fill_fill]
  exact fill_ext fun x _ _ => (hm.gen _ h.uni _).symm
 exact pk_same (fun i => (nu_fo h.wh i).pos) (fun i => (h.uni.1 i).pos) (lF_fill fun x hx h0 => occ_lo h hx h0) (lF_fill oA) (lF_fill fun x hx h0 => occ_lo h (h.vo x hx h0) h0) (back _) (back _) (back _) (left_vars h.lo h.ha h.vu h.uni.2) (right_vars h.vo)
theorem top_long (h : Hy sg rs o a u lk rt rk D) (hl : 60 < (fillL (fF sg rs o u rt D) (lh rs o)).length) : okI sg rs o a u rt D = false := by
 have e : topI sg rs o u rt D = fillL (t61 (fF sg rs o u rt D)) (lh rs o) := fill_ext fun x hx h0 => tl_lo h hx h0
 have h1 := t61_long hl
 rw [← e] at h1
 have h2 : termOkB sg (topR sg rs o u rt D) = false := by
  cases hb : termOkB sg (topR sg rs o u rt D) with
  | false => rfl
  | true =>
   have := (term_len hb).2
   unfold topR renF at this
   rw [List.length_map] at this
   omega
 unfold okI putB thereB
 rw [h2]
 rfl
theorem link_short (h : Hy sg rs o a u lk rt rk D) (hl : (fillL (fF sg rs o u rt D) (lh rs o)).length ≤ 60) : pkI sg rs o a u rt D = pkO (pk3 (fillL (fF sg rs o u rt D) (lh rs o)) (fillL (fF sg rs o u rt D) (leftA sg rs o a u)) (fillL (fF sg rs o u rt D) (rh rs o))) o a u ∧ okI sg rs o a u rt D = (pk3 (fillL (fF sg rs o u rt D) (lh rs o)) (fillL (fF sg rs o u rt D) (leftA sg rs o a u)) (fillL (fF sg rs o u rt D) (rh rs o))).isSome := by
 have hun := h.uni
 obtain ⟨F, hF⟩ : ∃ F, fF sg rs o u rt D = F := ⟨_, rfl⟩
 have tlo : ∀ {x : Int}, x ∈ lh rs o → x < 0 → Tl sg rs o u rt D 0 (vr x) = t61 F (vr x) := fun hx h0 => by rw [← hF]; exact tl_lo h hx h0
 have tlu : ∀ {y : Int}, y ∈ lh rs u → y < 0 → Tl sg rs o u rt D (lh rs o).length (vr y) = t61 F (vr y + 24) := fun hx h0 => by rw [← hF]; exact tl_lu h hx h0
 rw [hF] at hl hun ⊢
 -- what is filled
 have p60 : ∀ x ∈ lh rs o, x < 0 → (F (vr x)).length ≤ 61 := fun x hx h0 => by
  have := part_len (L := F) hx
  rw [rep_vr h0] at this
  omega
 have eL := fill_lo (θ := F) h.lo h.ha
 have hS : (fillL F (oS sg rs o a)).length ≤ 60 := by
  rw [eL, List.length_append, List.length_append] at hl
  omega
 have q60 : ∀ y ∈ lh rs u, y < 0 → (F (vr y + 24)).length ≤ 61 := fun y hy h0 => by
  have h1 : sh 24 y ∈ shiftL 24 (lh rs u) := List.mem_map.2 ⟨y, hy, rfl⟩
  have h2 := part_len (L := F) h1
  have e : sh 24 y = y - 24 := by unfold sh; rw [if_pos h0]
  rw [e, rep_vr (by omega), show vr (y - 24) = vr y + 24 by unfold vr; omega] at h2
  have h3 := hun.2
  unfold oT at h3
  rw [← h3] at h2
  omega
 have eT : topI sg rs o u rt D = fillL F (lh rs o) := (fill_ext fun x hx h0 => tlo hx h0).trans (t61_same p60)
 have eR : rightI sg rs o u rt D = fillL F (rh rs o) := (fill_ext fun x hx h0 => tlo (h.vo x hx h0) h0).trans (t61_same fun x hx h0 => p60 x (h.vo x hx h0) h0)
 have eF : frontI sg rs o a u rt D = fillL F ((lh rs o).take a) := (fill_ext fun x hx h0 => tlo (List.mem_of_mem_take hx) h0).trans (t61_same fun x hx h0 => p60 x (List.mem_of_mem_take hx) h0)
 have eM : midI sg rs o u rt D = fillL F (shiftL 24 (rh rs u)) := by
  rw [fill_shift]
  unfold midI
  refine fill_ext fun x hx h0 => ?_
  show Tl sg rs o u rt D (lh rs o).length (vr x) = F (vr x + 24)
  rw [tlu (h.vu x hx h0) h0]
  exact List.take_of_length_le (q60 x (h.vu x hx h0) h0)
 -- the variables
 obtain ⟨od, hod⟩ : ∃ od, orderL (fillL F (lh rs o)) = od := ⟨_, rfl⟩
 have inO : ∀ {x : Int}, x ∈ fillL F (lh rs o) → x < 0 → x ∈ od := fun hx h0 => by rw [← hod]; exact order_mem.2 ⟨hx, h0⟩
 have vR : ∀ x ∈ fillL F (rh rs o), x < 0 → x ∈ od := fun x hx h0 => inO (right_vars h.vo x hx h0) h0
 have vA : ∀ x ∈ fillL F (leftA sg rs o a u), x < 0 → x ∈ od := fun x hx h0 => inO (left_vars h.lo h.ha h.vu hun.2 x hx h0) h0
 have vF : ∀ x ∈ fillL F ((lh rs o).take a), x < 0 → x ∈ od := fun x hx h0 => inO (by rw [eL]; exact List.mem_append_left _ hx) h0
 have vM : ∀ x ∈ fillL F (shiftL 24 (rh rs u)), x < 0 → x ∈ od := fun x hx h0 => vA x (by rw [fill_left]; exact List.mem_append_right _ (List.mem_append_left _ hx)) h0
 have eo1 : o1I sg rs o u rt D = od := by unfold o1I; rw [eT, ← hod]; rfl
 have eo2 : o2I sg rs o u rt D = od := by unfold o2I; rw [eo1, eR, ordF_same vR]
 have eo3 : o3I sg rs o a u rt D = od := by unfold o3I; rw [eo2, eF, ordF_same vF]
 have rT : topR sg rs o u rt D = byL od (fillL F (lh rs o)) := by
  unfold topR renF byL
  rw [eT, ← hod]
  rfl
 have rR : rightR sg rs o u rt D = byL od (fillL F (rh rs o)) := by unfold rightR; rw [eo1, eR, ren_same vR]
 have rM : midR sg rs o a u rt D = byL od (fillL F (shiftL 24 (rh rs u))) := by unfold midR; rw [eo3, eM, ren_same vM]
 have rP : placeR sg rs o a u rt D = (fillL F ((lh rs o).take a)).length := by unfold placeR; rw [eF]
 have hsig := (term_parts h.lo).1
 have foT : Fo sg 1 (fillL F (lh rs o)) := (fo_term h.lo).fill hun.1
 have foR : Fo sg 1 (fillL F (rh rs o)) := (fo_term h.ro).fill hun.1
 have foM : Fo sg 1 (fillL F (shiftL 24 (rh rs u))) := (fo_shift h.ru).fill hun.1
 have foS : Fo sg 1 (fillL F (oS sg rs o a)) := (fo_term (sub_ok h.lo h.ha)).fill hun.1
 have pS := foS.pos
 by_cases h24 : od.length ≤ 24
 ·have okT : termOkB sg (byL od (fillL F (lh rs o))) = true := by rw [by_ok hsig foT h24 fun x hx h0 => inO hx h0]; exact decide_eq_true hl
  have okR := by_ok hsig foR h24 vR
  have okM := by_ok hsig foM h24 vM
  have hlt : (fillL F ((lh rs o).take a)).length < (byL od (fillL F (lh rs o))).length := by rw [by_len, eL, List.length_append, List.length_append]; omega
  have hth : thereB sg (byL od (fillL F (lh rs o))) ((fillL F ((lh rs o).take a)).length : Nat) = true := by
   unfold thereB endAt.inB
   rw [okT]
   exact decide_eq_true ⟨by omega, by omega⟩
  have eB : byL od (fillL F (lh rs o)) = byL od (fillL F ((lh rs o).take a)) ++ (byL od (fillL F (oS sg rs o a)) ++ byL od (fillL F ((lh rs o).drop (a + (oS sg rs o a).length)))) := by rw [eL, by_app, by_app]
  have hl1 : len1 sg (byL od (fillL F (lh rs o))) (fillL F ((lh rs o).take a)).length = (fillL F (oS sg rs o a)).length := by
   refine len1_eq ?_
   rw [eB]
   have e9 : (fillL F ((lh rs o).take a)).length = (byL od (fillL F ((lh rs o).take a))).length := by rw [by_len]
   rw [e9, List.drop_left]
   have := scan_fo (by_fo (o := od) foS) (by_low h24 fun x hx h0 => inO (by rw [eL]; exact List.mem_append_right _ (List.mem_append_left _ hx)) h0)
   rw [by_len] at this
   exact termMath.scan_append this
  have ePut : putI sg (byL od (fillL F (lh rs o))) (byL od (fillL F (shiftL 24 (rh rs u)))) (fillL F ((lh rs o).take a)).length = byL od (fillL F (leftA sg rs o a u)) := by
   unfold putI putL
   rw [hl1, fill_left, by_app, by_app, eB]
   have e9 : (fillL F ((lh rs o).take a)).length = (byL od (fillL F ((lh rs o).take a))).length := by rw [by_len]
   have e8 : (fillL F (oS sg rs o a)).length = (byL od (fillL F (oS sg rs o a))).length := by rw [by_len]
   rw [e9, e8, List.take_left, ← List.drop_drop, List.drop_left, List.drop_left]
  have hA60 : (fillL F (shiftL 24 (rh rs u))).length ≤ (fillL F (leftA sg rs o a u)).length := by rw [fill_left, List.length_append, List.length_append]; omega
  have eput : putB sg (byL od (fillL F (lh rs o))) (byL od (fillL F (shiftL 24 (rh rs u)))) ((fillL F ((lh rs o).take a)).length : Nat) = decide ((fillL F (leftA sg rs o a u)).length ≤ 60) := by
   unfold putB fitB
   rw [hth, okM, Int.toNat_natCast, ePut, by_len]
   by_cases hA : (fillL F (leftA sg rs o a u)).length ≤ 60
   ·rw [decide_eq_true hA, decide_eq_true (show (fillL F (shiftL 24 (rh rs u))).length ≤ 60 by omega)]
    rfl
   ·rw [decide_eq_false hA, Bool.and_false]
  have eok : okI sg rs o a u rt D = (decide ((fillL F (leftA sg rs o a u)).length ≤ 60) && decide ((fillL F (rh rs o)).length ≤ 60)) := by
   unfold okI
   rw [rT, rM, rP, rR, eput, okR]
  by_cases hA : (fillL F (leftA sg rs o a u)).length ≤ 60
  ·by_cases hR : (fillL F (rh rs o)).length ≤ 60
   ·have e1 : okI sg rs o a u rt D = true := by rw [eok, decide_eq_true hA, decide_eq_true hR]; rfl
    have e2 : pk3 (fillL F (lh rs o)) (fillL F (leftA sg rs o a u)) (fillL F (rh rs o)) = some (byL od (fillL F (lh rs o)), byL od (fillL F (leftA sg rs o a u)), byL od (fillL F (rh rs o))) := by
     unfold pk3
     rw [hod, if_pos ⟨hl, hA, hR, h24⟩]
    have e3 : leftR sg rs o a u rt D = byL od (fillL F (leftA sg rs o a u)) := by
     unfold leftR putR
     rw [rT, rM, rP, eput, if_pos (decide_eq_true hA), Int.toNat_natCast, ePut]
    refine ⟨?_, by rw [e1, e2]; rfl⟩
    unfold pkI
    rw [if_pos e1, e2, rT, rR, e3]
    rfl
   ·have e1 : okI sg rs o a u rt D = false := by rw [eok, decide_eq_false hR, Bool.and_false]
    have e2 : pk3 (fillL F (lh rs o)) (fillL F (leftA sg rs o a u)) (fillL F (rh rs o)) = none := by unfold pk3; rw [if_neg fun h => hR h.2.2.1]
    exact ⟨by rw [(pk_off e1).1, e2]; rfl, by rw [e1, e2]; rfl⟩
  ·have e1 : okI sg rs o a u rt D = false := by rw [eok, decide_eq_false hA, Bool.false_and]
   have e2 : pk3 (fillL F (lh rs o)) (fillL F (leftA sg rs o a u)) (fillL F (rh rs o)) = none := by unfold pk3; rw [if_neg fun h => hA h.2.1]
   exact ⟨by rw [(pk_off e1).1, e2]; rfl, by rw [e1, e2]; rfl⟩
 ·have okT : termOkB sg (byL od (fillL F (lh rs o))) = false := by
   cases hb : termOkB sg (byL od (fillL F (lh rs o))) with
   | false => rfl
   | true =>
    exfalso
    have h25 : 24 < od.length := by omega
    have hm : od.getD 24 0 ∈ od := by rw [List.getD_eq_getElem?_getD, List.getElem?_eq_getElem h25]; exact List.getElem_mem _
    have hm2 := hm
    rw [← hod] at hm2
    obtain ⟨hx, h0⟩ := order_mem.1 hm2
    have hi : idx od (od.getD 24 0) = 24 := idx_nodup (by rw [← hod]; exact order_nodup _) h25 rfl
    rw [hod] at hx h0
    have : ren od (od.getD 24 0) ∈ byL od (fillL F (lh rs o)) := List.mem_map.2 ⟨_, hx, rfl⟩
    have h1 := (term_mem hb this).1
    unfold ren at h1
    rw [if_pos h0, hi] at h1
    omega
  have e1 : okI sg rs o a u rt D = false := by
   unfold okI putB thereB
   rw [rT, okT]
   rfl
  have e2 : pk3 (fillL F (lh rs o)) (fillL F (leftA sg rs o a u)) (fillL F (rh rs o)) = none := by unfold pk3; rw [hod, if_neg fun h => h24 h.2.2.2]
  exact ⟨by rw [(pk_off e1).1, e2]; rfl, by rw [e1, e2]; rfl⟩
theorem link (h : Hy sg rs o a u lk rt rk D) : pkI sg rs o a u rt D = pkO (pkV sg rs o a u) o a u ∧ okI sg rs o a u rt D = (pkV sg rs o a u).isSome := by
 rw [← link_F h]
 by_cases hl : (fillL (fF sg rs o u rt D) (lh rs o)).length ≤ 60
 ·exact link_short h hl
 ·have e1 := top_long h (by omega)
  have e2 : pk3 (fillL (fF sg rs o u rt D) (lh rs o)) (fillL (fF sg rs o u rt D) (leftA sg rs o a u)) (fillL (fF sg rs o u rt D) (rh rs o)) = none := by unfold pk3; rw [if_neg fun h => hl h.1]
  exact ⟨by rw [(pk_off e1).1, e2]; rfl, by rw [e1, e2]; rfl⟩
end
end pkLink
end
section
namespace peakAtImpl
open Go.RowKit base ints sig term termOk termFacts sym varsOf marks app appAt segs kinds shape kindsR kindsP drawX fillMath matchMath unifMath forest triMath Go.Proofs.YtlmofkeemlfpgaaGreat.look ruleMath ruleSpec peakMath ruleImpl ovImpl linkImpl nodes ufMath finMath finImpl ovStart ovAdd ovAt trySpec pkMath pkVars pkMgu pkAns pkAll
set_option maxRecDepth 100000
theorem hy_of {w : World} {lo : Nat} {A : Option Addr} {n c : Nat} {v : Value} {sg : List Int} {rs : List Rl} {o a u : Nat} {lk : List Nat} {rt rk : Nat → Nat} {D : List Nat} (hok : ∀ k, k < rs.length → ruleOkB sg (rs.getD k ([], [])) = true) (ho : o < rs.length) (hu : u < rs.length) (ha : a < (lh rs o).length)
  (hW : Whole sg ((lh rs o).length + (lh rs u).length) (fun i => (lh rs o ++ lh rs u).getD i 0) (nodes.nd sg (lh rs o ++ lh rs u) (lh rs o ++ shiftL 24 (lh rs u))) (chN sg (lh rs o ++ lh rs u)) (inn sg (lh rs o) a) a (lh rs o).length lk rt rk D) : pkLink.Hy sg rs o a u lk rt rk D :=
 ⟨(rule_parts (hok o ho)).1, (rule_parts (hok o ho)).2.1, (rule_parts (hok u hu)).1, (rule_parts (hok u hu)).2.1, (rule_parts (hok o ho)).2.2.2, (rule_parts (hok u hu)).2.2.2, ha, hW⟩
theorem peakMade (A V : Option Addr) (n c q cv : Nat) (d : Dat sSystem) (o a u lo p : Nat) (w : World) (h : Rd w w.heap.size sSystem [.slice A n c, .slice V q cv] d) (hz : sz sSystem d ≤ 1048576) (hs : sysOkB d.1 d.2 = true) (ho : o < d.2.length) (hu : u < d.2.length) (ha : a < (lh d.2 o).length) (hm : metB d.1 d.2 (o : Int) (a : Int) (u : Int) = true)
  (hM : Made w lo A n c (.slice V q cv) d.1 d.2 o a u p) : Calls Tryz.prog 71 #[.pointer (some ⟨p, 0, none⟩)] w (AnsPk w (pkA d.1 d.2 (o : Int) (a : Int) (u : Int)) (okA d.1 d.2 (o : Int) (a : Int) (u : Int))) := by
 obtain ⟨lb, xc, lc, X, N, lk, rt, rk, D, hOv, hWh⟩ := hM.ex
 obtain ⟨e1, e2⟩ := pkLink.link (hy_of (w := w) (lo := 0) (A := A) (n := n) (c := c) (v := .slice V q cv) (fun k hk => trySpec.sys_rule hs hk) ho hu ha hWh)
 obtain ⟨f1, f2⟩ := pa_yes (o := (o : Int)) (x := (a : Int)) (u := (u : Int)) hs hm
 rw [f1, f2]
 show Calls _ _ _ _ (AnsPk w (pkO (pkV d.1 d.2 o a u) o a u) (pkV d.1 d.2 o a u).isSome)
 rw [← e1, ← e2]
 exact peakRun.peakRun p lb A V X n c q cv xc lc N d o a u lk rt rk D w h hz (fun k hk => trySpec.sys_rule hs hk) ho hu ha hOv hWh
end peakAtImpl
end
section
namespace kindsQ
open Go.RowKit base ints sig cursor marks app sym appAt segs segsHelp segsMark kinds shape kindsP
set_option maxRecDepth 100000
end kindsQ
end
end Go.Proofs.YtlmofkeemlfpgaaGreat
section
namespace Go.Proofs
open Go.Shelf
def Tryz.laysSlgn53_ren : Go.Shelf.Ren := ⟨fun | 53 => 170 | 64 => 179 | 63 => 178 | 78 => 191 | 79 => 192 | 70 => 182 | 71 => 183 | 72 => 184 | 73 => 185 | 74 => 186 | 75 => 187 | 59 => 188 | 76 => 189 | 77 => 190 | 88 => 194 | 89 => 195 | 90 => 196 | 91 => 197 | 92 => 198 | 68 => 199 | 96 => 200 | n => n, fun | 22 => 22 | 23 => 2 | 3 => 3 | 51 => 200 | 0 => 0 | 67 => 214 | 69 => 216 | 4 => 4 | 61 => 208 | 60 => 207 | 44 => 195 | 5 => 5 | 9 => 9 | 75 => 217 | 79 => 221 | 83 => 223 | 84 => 224 | n => n, fun | n => n⟩
theorem Tryz.laysSlgn53 : Go.Proofs.SlLaysN.n53 Tryz.prog Tryz.laysSlgn53_ren := {
 mixed := by kernel_rfl
 f53 := ⟨Tryz.f170.name, by decide, Tryz.func170.trans (congrArg some (by kernel_rfl))⟩
 f59 := ⟨Tryz.f188.name, by decide, Tryz.func188.trans (congrArg some (by kernel_rfl))⟩
 f63 := ⟨Tryz.f178.name, by decide, Tryz.func178.trans (congrArg some (by kernel_rfl))⟩
 f64 := Tryz.func179.trans (congrArg some (by kernel_rfl))
 f68 := ⟨Tryz.f199.name, by decide, Tryz.func199.trans (congrArg some (by kernel_rfl))⟩
 f70 := ⟨Tryz.f182.name, by decide, Tryz.func182.trans (congrArg some (by kernel_rfl))⟩
 f71 := ⟨Tryz.f183.name, by decide, Tryz.func183.trans (congrArg some (by kernel_rfl))⟩
 f72 := ⟨Tryz.f184.name, by decide, Tryz.func184.trans (congrArg some (by kernel_rfl))⟩
 f73 := ⟨Tryz.f185.name, by decide, Tryz.func185.trans (congrArg some (by kernel_rfl))⟩
 f74 := ⟨Tryz.f186.name, by decide, Tryz.func186.trans (congrArg some (by kernel_rfl))⟩
 f75 := ⟨Tryz.f187.name, by decide, Tryz.func187.trans (congrArg some (by kernel_rfl))⟩
 f76 := ⟨Tryz.f189.name, by decide, Tryz.func189.trans (congrArg some (by kernel_rfl))⟩
 f77 := ⟨Tryz.f190.name, by decide, Tryz.func190.trans (congrArg some (by kernel_rfl))⟩
 f78 := Tryz.func191.trans (congrArg some (by kernel_rfl))
 f79 := Tryz.func192.trans (congrArg some (by kernel_rfl))
 f88 := ⟨Tryz.f194.name, by decide, Tryz.func194.trans (congrArg some (by kernel_rfl))⟩
 f89 := Tryz.func195.trans (congrArg some (by kernel_rfl))
 f90 := Tryz.func196.trans (congrArg some (by kernel_rfl))
 f91 := ⟨Tryz.f197.name, by decide, Tryz.func197.trans (congrArg some (by kernel_rfl))⟩
 f92 := ⟨Tryz.f198.name, by decide, Tryz.func198.trans (congrArg some (by kernel_rfl))⟩
 f96 := ⟨Tryz.f200.name, by decide, Tryz.func200.trans (congrArg some (by kernel_rfl))⟩
 t0 := Tryz.underlying0
 a0 := Tryz.isAgg0
 z0 := Tryz.sizeOf0
 v0 := Tryz.zeroValue0
 t3 := Tryz.underlying3
 a3 := Tryz.isAgg3
 z3 := Tryz.sizeOf3
 v3 := Tryz.zeroValue3
 t4 := Tryz.underlying4
 a4 := Tryz.isAgg4
 z4 := Tryz.sizeOf4
 v4 := Tryz.zeroValue4
 t5 := Tryz.underlying5
 a5 := Tryz.isAgg5
 z5 := Tryz.sizeOf5
 v5 := Tryz.zeroValue5
 t9 := Tryz.underlying9
 a9 := Tryz.isAgg9
 z9 := Tryz.sizeOf9
 v9 := Tryz.zeroValue9
 t22 := Tryz.underlying22
 a22 := Tryz.isAgg22
 z22 := Tryz.sizeOf22
 v22 := Tryz.zeroValue22
 t23 := Tryz.underlying2
 a23 := Tryz.isAgg2
 z23 := Tryz.sizeOf2
 v23 := Tryz.zeroValue2
 t44 := Tryz.underlying195
 a44 := Tryz.isAgg195
 z44 := Tryz.sizeOf195
 v44 := Tryz.zeroValue195
 t51 := Tryz.underlying200
 a51 := Tryz.isAgg200
 z51 := Tryz.sizeOf200
 v51 := Tryz.zeroValue200
 t60 := Tryz.underlying207
 a60 := Tryz.isAgg207
 z60 := Tryz.sizeOf207
 v60 := Tryz.zeroValue207
 t61 := Tryz.underlying208
 a61 := Tryz.isAgg208
 z61 := Tryz.sizeOf208
 v61 := Tryz.zeroValue208
 t67 := Tryz.underlying214
 a67 := Tryz.isAgg214
 z67 := Tryz.sizeOf214
 v67 := Tryz.zeroValue214
 t69 := Tryz.underlying216
 a69 := Tryz.isAgg216
 z69 := Tryz.sizeOf216
 v69 := Tryz.zeroValue216
 t75 := Tryz.underlying217
 a75 := Tryz.isAgg217
 z75 := Tryz.sizeOf217
 v75 := Tryz.zeroValue217
 t79 := Tryz.underlying221
 a79 := Tryz.isAgg221
 z79 := Tryz.sizeOf221
 v79 := Tryz.zeroValue221
 t83 := Tryz.underlying223
 a83 := Tryz.isAgg223
 z83 := Tryz.sizeOf223
 v83 := Tryz.zeroValue223
 t84 := Tryz.underlying224
 a84 := Tryz.isAgg224
 z84 := Tryz.sizeOf224
 v84 := Tryz.zeroValue224 }
open Go.Sort Go.RowKit in
theorem Tryz.slices_Sort_int (blk off cap : Nat) (zs : List Int) (w : World) (hH : Holds (Value.int .i64) w blk off zs.toArray) (hblk : blk < w.heap.size) (hsz : zs.length < 4611686018427387904) :
  Calls Tryz.prog 170 #[.slice (some ⟨blk, off, none⟩) zs.length cap] w fun e w' => e = .returned (.tuple #[]) ∧ ∃ n os, w' = grow (putRow (Value.int .i64) (Sort.ahead w n) blk off (zs.mergeSort fun x y => decide (x ≤ y)).toArray) os := AnyG.slices_Sort_int Tryz.laysSlgn53 blk off cap zs w hH hblk hsz
open Go.Sort Go.RowKit in
theorem Tryz.slices_Sort_int_none (p : Option Addr) (cap : Nat) (w : World) :
  Calls Tryz.prog 170 #[.slice p 0 cap] w fun e w' => e = .returned (.tuple #[]) ∧ w' = w := AnyG.slices_Sort_int_none Tryz.laysSlgn53 p cap w
def Tryz.laysSlgn43_ren : Go.Shelf.Ren := ⟨fun | 43 => 171 | n => n, fun | 22 => 22 | 23 => 2 | 3 => 3 | 4 => 4 | 0 => 0 | n => n, fun | n => n⟩
theorem Tryz.laysSlgn43 : Go.Proofs.SlLaysN.n43 Tryz.prog Tryz.laysSlgn43_ren := {
 mixed := by kernel_rfl
 f43 := ⟨Tryz.f171.name, by decide, Tryz.func171.trans (congrArg some (by kernel_rfl))⟩
 t0 := Tryz.underlying0
 a0 := Tryz.isAgg0
 z0 := Tryz.sizeOf0
 v0 := Tryz.zeroValue0
 t3 := Tryz.underlying3
 a3 := Tryz.isAgg3
 z3 := Tryz.sizeOf3
 v3 := Tryz.zeroValue3
 t4 := Tryz.underlying4
 a4 := Tryz.isAgg4
 z4 := Tryz.sizeOf4
 v4 := Tryz.zeroValue4
 t22 := Tryz.underlying22
 a22 := Tryz.isAgg22
 z22 := Tryz.sizeOf22
 v22 := Tryz.zeroValue22
 t23 := Tryz.underlying2
 a23 := Tryz.isAgg2
 z23 := Tryz.sizeOf2
 v23 := Tryz.zeroValue2
 i23 := by kernel_rfl }
open Go.Sort Go.RowKit in
theorem Tryz.slices_Compact_int (blk off cap : Nat) (zs : List Int) (w : World) (hH : Holds (Value.int .i64) w blk off zs.toArray) (hsz : zs.length ≤ 9223372036854775807) (hcap : zs.length ≤ cap) :
  Calls Tryz.prog 171 #[.slice (some ⟨blk, off, none⟩) zs.length cap] w fun e w' => e = .returned (.slice (some ⟨blk, off, none⟩) (Lib.compact zs).length cap) ∧ ∃ q, w' = putRow (Value.int .i64) (Sort.ahead w q) blk off (Lib.compact zs ++ List.replicate (zs.length - (Lib.compact zs).length) 0).toArray := AnyG.slices_Compact_int Tryz.laysSlgn43 blk off cap zs w hH hsz hcap
open Go.Sort Go.RowKit in
theorem Tryz.slices_Compact_int_empty (a : Option Addr) (cap : Nat) (w : World) :
  Calls Tryz.prog 171 #[.slice a 0 cap] w fun e w' => e = .returned (.slice a 0 cap) ∧ w' = w := AnyG.slices_Compact_int_empty Tryz.laysSlgn43 a cap w
end Go.Proofs
end
namespace Go.Proofs.YtlmofkeemlfpgaaGreat
section
namespace sorted
open Go.RowKit base marks app sym appAt segs
set_option maxRecDepth 100000
theorem row_put {w : World} {g : Nat} {t : TypeId} {cs : Array Value} (h : Row w g t cs) (d : Array Int) : Row (Sort.putRow (Value.int .i64) w g 0 d) g t (Sort.putCells (Value.int .i64) 0 d cs) := by
 unfold Row at h ⊢
 show (w.heap.modify g (Sort.onCells (Sort.putCells (Value.int .i64) 0 d)))[g]? = _
 rw [Array.getElem?_modify, if_pos rfl, h]
 rfl
theorem grown_putRow (w : World) (g q : Nat) (d : Array Int) : w.grownBy (Sort.putRow (Value.int .i64) (Sort.ahead w q) g 0 d) (some g) := by
 refine ⟨rfl, rfl, rfl, ?_, fun i hi hne => ?_⟩
 ·show w.heap.size ≤ (w.heap.modify g _).size
  simp
 ·show (w.heap.modify g _)[i]? = _
  rw [Array.getElem?_modify, if_neg (fun e => hne (by rw [e]))]
theorem grown_grow {w w' : World} {r : Option Nat} (h : w.grownBy w' r) (os : Array Obj) : w.grownBy (Sort.grow w' os) r := by
 refine ⟨h.os, h.tape, h.output, by rw [Sort.size_grow]; have := h.size; omega, fun i hi hne => ?_⟩
 rw [Sort.heap_grow_old w' os (Nat.lt_of_lt_of_le hi h.size)]
 exact h.block i hi hne
theorem holds_own {w : World} {g : Nat} {t : TypeId} {cs : Array Value} {xs : List Int} (h : Row w g t cs) (hc : ∀ j, j < xs.length → cs[j]? = some ((xs.map (Value.int .i64)).getD j undef)) : Sort.Holds (Value.int .i64) w g 0 xs.toArray := by
 intro j hj
 have hj' : j < xs.length := by simpa using hj
 refine ⟨?_, by rw [Nat.zero_add]; exact h.free j⟩
 rw [Nat.zero_add, h.cell j, hc j hj']
 simp [List.getD, hj']
theorem putCells_get {cs : Array Value} {d : List Int} {j : Nat} (hj : j < d.length) (hs : d.length ≤ cs.size) : (Sort.putCells (Value.int .i64) 0 d.toArray cs)[j]? = some (.int .i64 (d.getD j 0)) := by
 unfold Sort.putCells
 rw [Array.getElem?_mapIdx, Array.getElem?_eq_getElem (by omega)]
 simp [hj, List.getD]
def AnsSort (w : World) (base : Nat) (A : Option Addr) (n c : Nat) (ys : List Int) (e : Ending) (w' : World) : Prop := e = .returned (.tuple #[]) ∧ Own w' base (.slice A n c) ys ∧ w.grownBy w' (blk A)
def up (xs : List Int) : List Int := xs.mergeSort fun x y => decide (x ≤ y)
theorem sortOwn (base : Nat) (A : Option Addr) (n c : Nat) (xs : List Int) (w : World) (h : Own w base (.slice A n c) xs) (hn : n ≤ 1048576) :
  Calls Tryz.prog 170 #[.slice A n c] w (AnsSort w base A n c (up xs)) := by
 have hl := Own.len h
 subst hl
 rcases own_form (n := xs.length) h with ⟨rfl, h0, rfl, _⟩ | ⟨g, cs, rfl, hb, hr, hnc, hz, hmax, _, hc⟩
 ·have hx : xs = [] := List.eq_nil_of_length_eq_zero h0
  subst hx
  refine (Tryz.slices_Sort_int_none none 0 w).mono ?_
  rintro e w' ⟨rfl, rfl⟩
  exact ⟨rfl, by simpa [up] using h, World.grownBy.refl _ _⟩
 ·have hH := holds_own hr hc
  refine (Tryz.slices_Sort_int g 0 c xs w hH hr.lt (by omega)).mono ?_
  rintro e w' ⟨rfl, n, os, rfl⟩
  have hyl : (up xs).length = xs.length := List.length_mergeSort _
  refine ⟨rfl, ?_, grown_grow (grown_putRow w g n _) os⟩
  have r1 : Row (Sort.ahead w n) g 2 cs := hr
  have r2 := row_put r1 (up xs).toArray
  have r3 : Row (Sort.grow (Sort.putRow (Value.int .i64) (Sort.ahead w n) g 0 (up xs).toArray) os) g 2 _ := (Sort.heap_grow_old _ os r2.lt).trans r2
  exact Own.of_row r3 hyl (by simp [Sort.putCells, hz]) hnc hmax hb (fun j hj => putCells_get (by omega) (by omega))
theorem compact_le (zs : List Int) : (Lib.compact zs).length ≤ zs.length := by
 unfold Lib.compact Lib.compactUpTo
 rw [List.length_map]
 exact Nat.le_trans (List.length_filter_le _ _) (by simp)
def AnsCompact (w : World) (base : Nat) (A : Option Addr) (ys : List Int) (e : Ending) (w' : World) : Prop := ∃ c, e = .returned (.slice A ys.length c) ∧ Own w' base (.slice A ys.length c) ys ∧ w.grownBy w' (blk A)
theorem compactOwn (base : Nat) (A : Option Addr) (n c : Nat) (xs : List Int) (w : World) (h : Own w base (.slice A n c) xs) (hn : n ≤ 1048576) :
  Calls Tryz.prog 171 #[.slice A n c] w (AnsCompact w base A (Lib.compact xs)) := by
 have hl := Own.len h
 subst hl
 rcases own_form (n := xs.length) h with ⟨rfl, h0, rfl, _⟩ | ⟨g, cs, rfl, hb, hr, hnc, hz, hmax, _, hc⟩
 ·have hx : xs = [] := List.eq_nil_of_length_eq_zero h0
  subst hx
  refine (Tryz.slices_Compact_int_empty none 0 w).mono ?_
  rintro e w' ⟨rfl, rfl⟩
  exact ⟨0, rfl, h, World.grownBy.refl _ _⟩
 ·have hH := holds_own hr hc
  have hle : (Lib.compact xs).length ≤ xs.length := compact_le xs
  refine (Tryz.slices_Compact_int g 0 c xs w hH (by omega) hnc).mono ?_
  rintro e w' ⟨rfl, q, rfl⟩
  refine ⟨c, rfl, ?_, grown_putRow w g q _⟩
  have r1 : Row (Sort.ahead w q) g 2 cs := hr
  have r2 := row_put r1 (Lib.compact xs ++ List.replicate (xs.length - (Lib.compact xs).length) 0).toArray
  refine Own.of_row r2 rfl (by simp [Sort.putCells, hz]) (by omega) hmax hb (fun j hj => ?_)
  rw [putCells_get (by simp; omega) (by simp; omega)]
  simp [List.getD, List.getElem?_append_left hj]
end sorted
end
section
namespace varsMath
open term termOk sorted
theorem compact_cons_cons (x y : Int) (r : List Int) : Lib.compact (x :: y :: r) = if x = y then Lib.compact (y :: r) else x :: Lib.compact (y :: r) := by
 unfold Lib.compact Lib.compactUpTo
 have hr : List.range (x :: y :: r).length = 0 :: (List.range (y :: r).length).map (· + 1) := by
  rw [List.length_cons, List.range_succ_eq_map]
 have hr2 : List.range (y :: r).length = 0 :: (List.range r.length).map (· + 1) := by
  rw [List.length_cons, List.range_succ_eq_map]
 have k0 : Lib.keeps (x :: y :: r).toArray 0 = true := by simp [Lib.keeps]
 have k0' : Lib.keeps (y :: r).toArray 0 = true := by simp [Lib.keeps]
 have ks : ∀ j, Lib.keeps (x :: y :: r).toArray (j + 1 + 1) = Lib.keeps (y :: r).toArray (j + 1) := fun j => by
  simp [Lib.keeps]
 have gs : ∀ j, (x :: y :: r).toArray[j + 1]! = (y :: r).toArray[j]! := fun j => by simp
 rw [hr, hr2]
 simp only [List.map_cons, List.filter_cons, k0, k0', if_true, List.filter_map, List.map_map]
 have e1 : Lib.keeps (x :: y :: r).toArray ∘ (fun (j : Nat) => j + 1) ∘ (fun (j : Nat) => j + 1) = Lib.keeps (y :: r).toArray ∘ fun (j : Nat) => j + 1 := by
  funext j
  exact ks j
 have k1 : Lib.keeps (x :: y :: r).toArray (0 + 1) = decide (¬ x = y) := by
  simp [Lib.keeps, eq_comm]
 rw [e1, k1]
 have e2 : (fun j => (x :: y :: r).toArray[j]!) ∘ (fun (j : Nat) => j + 1) ∘ (fun (j : Nat) => j + 1) = (fun j => (y :: r).toArray[j]!) ∘ fun (j : Nat) => j + 1 := by
  funext j
  exact gs (j + 1)
 by_cases h : x = y
 ·subst h
  simp [List.map_map, e2]
 ·simp [h, List.map_map, e2]
theorem compact_one (x : Int) : Lib.compact [x] = [x] := by simp [Lib.compact, Lib.compactUpTo, Lib.keeps, List.range_succ]
theorem compact_nil : Lib.compact ([] : List Int) = [] := rfl
theorem compact_sorted : ∀ {l : List Int}, l.Pairwise (· ≤ ·) → Rises (Lib.compact l) ∧ (∀ x, x ∈ Lib.compact l ↔ x ∈ l)
 | [], _ => ⟨List.Pairwise.nil, fun x => by rw [compact_nil]⟩
 | [y], _ => ⟨by rw [compact_one]; simp [Rises], fun x => by rw [compact_one]⟩
 | x :: y :: r, h => by
  have h1 := List.pairwise_cons.1 h
  obtain ⟨h2, h3⟩ := compact_sorted h1.2
  rw [compact_cons_cons]
  by_cases e : x = y
  ·subst e
   rw [if_pos rfl]
   exact ⟨h2, fun z => by rw [h3]; simp⟩
  ·rw [if_neg e]
   refine ⟨List.pairwise_cons.2 ⟨fun z hz => ?_, h2⟩, fun z => by rw [List.mem_cons, h3, List.mem_cons (a := z) (b := x)]⟩
   have h4 := h1.1 y (List.mem_cons_self ..)
   rcases List.mem_cons.1 ((h3 z).1 hz) with e2 | e2
   ·omega
   ·have := (List.pairwise_cons.1 h1.2).1 z e2
    omega
theorem up_sorted (l : List Int) : (up l).Pairwise (· ≤ ·) := by
 have := List.pairwise_mergeSort (le := fun x y => decide (x ≤ y)) (fun a b c h1 h2 => by simp at *; omega) (fun a b => by simp; omega) l
 refine this.imp (fun h => ?_)
 simpa using h
theorem up_mem {l : List Int} {x : Int} : x ∈ up l ↔ x ∈ l := by unfold up; exact List.mem_mergeSort
theorem sorted_vars (t : List Int) : Lib.compact (up (negs t)) = vars t := by
 have h := compact_sorted (up_sorted (negs t))
 refine rises_unique h.1 (vars_rises t) (fun x => ?_)
 rw [h.2, up_mem, vars_mem]
end varsMath
end
end Go.Proofs.YtlmofkeemlfpgaaGreat
section
open Go.Lib (hid)
namespace Go.Proofs.YtlmofkeemlfpgaaGreat.varsOf
open Go.RowKit base ints sig term termOk marks app sym sub segs sorted varsMath termFacts
set_option maxRecDepth 100000
def HeadNegs (w : World) (A : Option Addr) (n c m : Nat) (t : List Int) (out i : Value) (wr : World) : Prop :=
 ∃ (k : Nat) (O : Option Addr) (on oc : Nat), k ≤ m ∧ i = .int .i64 k ∧ out = .slice O on oc ∧ Own wr (w.heap.size + 1) (.slice O on oc) (negs (t.take k)) ∧ Row wr w.heap.size 30 #[.slice A n c] ∧ Below w.heap.size w wr
set_option maxHeartbeats 2000000 in
theorem implVarsOf (A A' : Option Addr) (n c m c' : Nat) (sg t : List Int) (w : World) (h : Seg w w.heap.size A n sg) (h' : Seg w w.heap.size A' m t) (hn : n ≤ 1048576) (hm : m ≤ 1048576) :
  Calls Tryz.prog 149 #[.agg #[.slice A n c], .slice A' m c'] w (AnsList w (varsI sg t)) := by
 obtain ⟨W, hW⟩ : ∃ W, W = w.alloc (.cells #[.slice A n c] 30) := ⟨_, rfl⟩
 have rA : Row W w.heap.size 30 #[.slice A n c] := by rw [hW]; exact Row.new _ _ _
 have bel : Below w.heap.size w W := by rw [hW]; exact (Below.refl _ _).alloc (Nat.le_refl _) _
 have s := (h.below bel).more bel.size
 have s' := (h'.below bel).more bel.size
 have HW := hid hW
 have HL := hid h'.1
 have L := hid (implTermOk A A' n c m c' sg t W s s' hn hm)
 clear hW h s
 cases hok : termOkB sg t with
 | false =>
  have HS := hid hok
  clear hok s' h'
  go_enter Tryz.func149, Tryz.ntmps149
  go_wp2_with fail
  rw [← HW.out]
  refine L.out.mono ?_
  rintro e w1 ⟨he, bb⟩
  rw [HS.out] at he
  subst he
  have F : AnsList w (varsI sg t) (.returned (.slice none 0 0)) w1 := ⟨_, _, _, rfl, by unfold varsI; rw [if_neg (by rw [HS.out]; simp)]; exact Own.nil _ _, next_trans bel bb⟩
  have HF := hid F
  clear F bb bel rA
  go_wp2
  go_ret
  exact HF.out
 | true =>
  have HS := hid hok
  have HV := hid (fun x hx => (term_mem (x := x) hok hx).1)
  clear hok s'
  go_enter Tryz.func149, Tryz.ntmps149
  go_wp2_with fail
  rw [← HW.out]
  refine L.out.mono ?_
  rintro e w1 ⟨he, bb⟩
  rw [HS.out] at he
  subst he
  have S0 : HeadNegs w A n c m t (.slice none 0 0) (.int .i64 0) w1 := ⟨0, _, _, _, Nat.zero_le _, rfl, rfl, by simpa [negs] using Own.nil w1 (w.heap.size + 1), rA.next bb, next_trans bel bb⟩
  have HS0 := hid S0
  clear S0 bb bel rA L
  go_wp2_with fail
  go_loopw [5, 14] (fun out i wr => HeadNegs w A n c m t out i wr) (fun _ i _ => m - (intOf i).toNat)
  case atStart => exact HS0.out
  case round =>
   obtain ⟨k, O, on, oc, hk, rfl, rfl, ho, hr, hb⟩ := hrel
   clear HS0
   have hon : on ≤ m := by have h1 := Own.len ho; have h2 := negs_len (t.take k); simp at h2; have h3 := HL.out; omega
   by_cases hlt : k < m
   ·obtain ⟨b, off, x, rfl, hbb, hx, ex⟩ := h'.spot hlt
    have hx1 : wr.cell? ⟨b, off + k, none⟩ = some (.int .i64 x) := (hb.cell (p := ⟨b, off + k, none⟩) hbb).trans hx
    have hsz := hr.lt
    have hmem : x ∈ t := by
     have hkl : k < t.length := by rw [HL.out]; exact hlt
     have := ex.out
     rw [← this]
     simp [List.getD, hkl]
    have hx24 : -24 ≤ x := HV.out x hmem
    clear hmem hx h'
    by_cases hneg : x < 0
    ·have E := hid (negs_yes (t := t) (k := k) (by rw [HL.out]; exact hlt) ex.out hneg)
     clear ex
     go_wp2_with (at_builtin; refine app1 rfl _ _ rfl (w.heap.size + 1) O on oc (negs (t.take k)) rfl (Own.alloc ho _) wr.heap.size 1 (-1 - x) rfl ((Row.new _ _ _).cell 0) (by omega) (by simp; omega) ?_; intro O' oc' w2 ho2 b2)
     have S : HeadNegs w A n c m t (.slice O' (on + 1) oc') (.int .i64 ((k : Int) + 1)) w2 := ⟨k + 1, O', on + 1, oc', hlt, by simp, rfl, by rw [E.out]; exact ho2, ((hr.alloc _).below b2 (Nat.lt_succ_self _)), ((hb.alloc (Nat.le_of_lt hsz) _).trans (b2.mono (Nat.le_succ _)))⟩
     replace S := hid S
     clear ho2 b2 ho hr hb
     go_wp2
     go_roundw
     case rel => exact S.out
     case measure => simp [intOf]; omega
    ·rw [← negs_no (t := t) (k := k) (by rw [HL.out]; exact hlt) ex.out hneg] at ho
     have S : HeadNegs w A n c m t (.slice O on oc) (.int .i64 ((k : Int) + 1)) wr := ⟨k + 1, O, on, oc, hlt, by simp, rfl, ho, hr, hb⟩
     replace S := hid S
     clear ho hr hb ex
     go_wp2
     go_roundw
     case rel => exact S.out
     case measure => simp [intOf]; omega
   ·rw [List.take_of_length_le (by rw [HL.out]; omega)] at ho
    have hge := Own.ge ho
    have hsz := hr.lt
    have L2 := hid (sortOwn (w.heap.size + 1) O on oc (negs t) wr ho (by omega))
    clear ho hr h'
    go_wp2_with fail
    refine L2.out.mono ?_
    rintro e w2 ⟨rfl, o2, g2⟩
    have b2 := hb.grown g2 hb.size (fun k hk => by have := hge k hk; omega)
    have L3 := hid (compactOwn (w.heap.size + 1) O on oc (up (negs t)) w2 o2 (by omega))
    clear o2 g2 L2 hb
    go_wp2_with fail
    refine L3.out.mono ?_
    rintro e w3 ⟨c3, rfl, o3, g3⟩
    have b3 := b2.grown g3 b2.size (fun k hk => by have := hge k hk; omega)
    have F : AnsList w (varsI sg t) (.returned (.slice O (Lib.compact (up (negs t))).length c3)) w3 := ⟨O, _, c3, rfl, by unfold varsI; rw [if_pos HS.out, ← sorted_vars t]; exact Own.lower o3 (Nat.le_succ _), b3⟩
    have HF := hid F
    clear F o3 g3 b2 b3 L3 hge
    go_wp2
    go_ret
    exact HF.out
end Go.Proofs.YtlmofkeemlfpgaaGreat.varsOf
namespace Go.Proofs.YtlmofkeemlfpgaaGreat.linear
open Go.RowKit base ints sig term termOk marks sym count varsMath termFacts varsOf
def HeadLinV (w : World) (A : Option Addr) (n c : Nat) (V : Option Addr) (vn : Nat) (t : List Int) (i : Value) (wr : World) : Prop :=
 ∃ k : Nat, k ≤ vn ∧ i = .int .i64 k ∧ (∀ j, j < k → many t (-1 - (vars t).getD j 0) ≤ 1) ∧ Seg wr wr.heap.size V vn (vars t) ∧ Row wr w.heap.size 30 #[.slice A n c] ∧ Below w.heap.size w wr
theorem vars_neg {t : List Int} {x : Int} : x ∈ vars t ↔ (-1 - x ∈ t ∧ 0 ≤ x) := by
 rw [vars_mem]
 unfold negs
 rw [List.mem_map]
 constructor
 ·rintro ⟨y, hy, rfl⟩
  rw [List.mem_filter] at hy
  have h1 : y < 0 := by simpa using hy.2
  exact ⟨by rw [show -1 - (-1 - y) = y by omega]; exact hy.1, by omega⟩
 ·rintro ⟨h1, h2⟩
  exact ⟨-1 - x, List.mem_filter.2 ⟨h1, by simp; omega⟩, by omega⟩
set_option maxHeartbeats 2000000 in
theorem implLinearIn (A A' : Option Addr) (n c m c' : Nat) (sg t : List Int) (w : World) (h : Seg w w.heap.size A n sg) (h' : Seg w w.heap.size A' m t) (hn : n ≤ 1048576) (hm : m ≤ 1048576) :
  Calls Tryz.prog 118 #[.agg #[.slice A n c], .slice A' m c'] w (AnsB w (linearB sg t)) := by
 obtain ⟨W, hW⟩ : ∃ W, W = w.alloc (.cells #[.slice A n c] 30) := ⟨_, rfl⟩
 have rA : Row W w.heap.size 30 #[.slice A n c] := by rw [hW]; exact Row.new _ _ _
 have bel : Below w.heap.size w W := by rw [hW]; exact (Below.refl _ _).alloc (Nat.le_refl _) _
 have s := (h.below bel).more bel.size
 have s' := (h'.below bel).more bel.size
 have HW := hid hW
 have HL := hid h'.1
 have L := hid (implTermOk A A' n c m c' sg t W s s' hn hm)
 clear hW
 cases hok : termOkB sg t with
 | false =>
  have HS := hid hok
  clear hok s s' h h'
  go_enter Tryz.func118, Tryz.ntmps118
  go_wp2_with fail
  rw [← HW.out]
  refine L.out.mono ?_
  rintro e w1 ⟨he, bb⟩
  rw [HS.out] at he
  subst he
  have F := hid (ansB (b := linearB sg t) (a := false) (by unfold linearB; rw [HS.out]; rfl) (next_trans bel bb))
  clear bb bel rA
  go_wp2
  go_ret
  exact F.out
 | true =>
  have HS := hid hok
  have HT := hid (fun x hx => term_mem (x := x) hok hx)
  have H60 := (term_len hok).2
  clear hok
  go_enter Tryz.func118, Tryz.ntmps118
  go_wp2_with fail
  rw [← HW.out]
  refine L.out.mono ?_
  rintro e w1 ⟨he, bb⟩
  rw [HS.out] at he
  subst he
  have L2 := hid (implVarsOf A A' n c m c' sg t w1 (s.next bb) (s'.next bb) hn hm)
  have cA : w1.cell? ⟨w.heap.size, 0, none⟩ = some (.slice A n c) := (rA.next bb).cell 0
  clear L s s'
  go_wp2_with fail
  refine L2.out.mono ?_
  rintro e w2 ⟨V, vn, vc, rfl, o2, b2⟩
  rw [show varsI sg t = vars t from if_pos HS.out] at o2
  have hvn : vn ≤ 60 := by have h1 := Own.len o2; have h2 := vars_len t; omega
  have S0 : HeadLinV w A n c V vn t (.int .i64 0) w2 := ⟨0, Nat.zero_le _, rfl, fun j hj => absurd hj (Nat.not_lt_zero _), Own.seg o2, (rA.next bb).next b2, next_trans (next_trans bel bb) b2⟩
  have HS0 := hid S0
  clear S0 o2 b2 L2 bb bel rA cA
  go_wp2_with fail
  go_loopw [15] (fun i wr => HeadLinV w A n c V vn t i wr) (fun i _ => vn - (intOf i).toNat)
  case atStart => exact HS0.out
  case round =>
   obtain ⟨k, hk, rfl, hlow, sv, hr, hb⟩ := hrel
   have HLOW := hid hlow
   clear hlow HS0
   have HSV := hid sv.1
   by_cases hlt : k < vn
   ·obtain ⟨b, off, x, rfl, -, hx, ex⟩ := sv.spot hlt
    have hmem : x ∈ vars t := by
     have hkl : k < (vars t).length := by rw [HSV.out]; exact hlt
     have := ex.out
     rw [← this]
     simp [List.getD, hkl]
    have hmem2 := vars_neg.1 hmem
    have hx24 := HT.out _ hmem2.1
    have hx0 : 0 ≤ x := hmem2.2
    have hx1 : x ≤ 23 := by omega
    have cA : wr.cell? ⟨w.heap.size, 0, none⟩ = some (.slice A n c) := hr.cell 0
    have L3 := hid (implCountOf A A' n c m c' sg t (-1 - x) wr ((h.below hb).more hb.size) ((h'.below hb).more hb.size) hn hm (by omega) (by omega))
    have EC := hid (show countI sg t (-1 - x) = (many t (-1 - x) : Int) from if_pos HS.out)
    obtain ⟨z, hz⟩ : ∃ z, many t (-1 - x) = z := ⟨_, rfl⟩
    have HZ := hid hz
    clear hz
    have hzl : z ≤ 60 := by rw [← HZ.out]; unfold many; have := cnt_le t (-1 - x) t.length; omega
    have F1 := hid (fun (h1 : 1 < z) => lin_no hmem2.1 (by omega) (by rw [HZ.out]; exact h1))
    clear hmem hmem2 hx24 h h'
    go_wp2_with fail
    refine L3.out.mono ?_
    rintro e w3 ⟨he, b3⟩
    rw [EC.out, HZ.out] at he
    subst he
    have hb3 := next_trans hb b3
    by_cases h1 : 1 < z
    ·have F := hid (ansB (b := linearB sg t) (a := false) (by unfold linearB; rw [HS.out, F1.out h1]; rfl) hb3)
     clear hb3 b3 hb hr sv ex L3 cA
     go_wp2
     go_ret
     exact F.out
    ·have S : HeadLinV w A n c (some ⟨b, off, none⟩) vn t (.int .i64 ((k : Int) + 1)) w3 := ⟨k + 1, hlt, by simp, fun j hj => by
      by_cases e : j = k
      ·subst e; rw [ex.out, HZ.out]; omega
      ·exact HLOW.out j (by omega), sv.next b3, hr.next b3, hb3⟩
     replace S := hid S
     clear hb3 b3 hb hr sv ex L3 cA
     go_wp2
     go_roundw
     case rel => exact S.out
     case measure => simp [intOf]; omega
   ·have F : linB t = true := lin_yes (fun x hx h0 => by
     have h1 : -1 - x ∈ vars t := vars_neg.2 ⟨by rw [show -1 - (-1 - x) = x by omega]; exact hx, by omega⟩
     obtain ⟨j, hj, e⟩ := List.getElem_of_mem h1
     have e2 : (vars t).getD j 0 = -1 - x := by simp [List.getD, hj, e]
     have h3 := HLOW.out j (by rw [HSV.out] at hj; omega)
     rw [e2, show -1 - (-1 - x) = x by omega] at h3
     exact h3)
    have HF := hid (ansB (b := linearB sg t) (a := true) (by unfold linearB; rw [HS.out, F]; rfl) hb)
    clear F hb hr sv h h'
    go_wp2
    go_ret
    exact HF.out
end Go.Proofs.YtlmofkeemlfpgaaGreat.linear
end
namespace Go.Proofs.YtlmofkeemlfpgaaGreat
section
namespace ruleImpl
open Go.RowKit base ints sig term termOk marks app appAt sym segs termFacts varsMath varsOf rename same count linear shape kindsR ruleMath ruleSpec anyR
set_option maxRecDepth 100000
theorem sz_mem {rs : List Rl} {x : Rl} (h : sz sRuleS rs ≤ 1048576) (hx : x ∈ rs) : sz sRule x ≤ 1048576 := by
 obtain ⟨i, hi, rfl⟩ := List.getElem_of_mem hx
 have := sz_each h hi
 have e : rs.getD i (dft sRule) = rs[i] := by simp [List.getD, hi]
 rw [e] at this; exact this
theorem tests_next {g : Nat} {fa lb : Array Value} {w w' : World} {rs : List Rl} {f : Rl → Bool} (h : TestsRule g fa lb w rs f) (hb : Below w.heap.size w w') : TestsRule g fa lb w' rs f := fun W l r x hW hx hr => h W l r x (next_trans hb hW) hx hr
theorem makeFn : ∀ (fn : Fn) (first cap : Array Value) (w : World), (Instr.makeFunc fn first cap).run Tryz.prog w = .ok (.func fn first cap) w := fun _ _ _ _ => rfl
set_option maxHeartbeats 2000000 in
theorem some_ (g : Nat) (fa lb : Array Value) (eg : ∀ args w, (callFunc g args).run Tryz.prog w = .ok (.enter g args) w) (f : Rl → Bool) (a v : Value) (d : Dat sSystem) (w : World) (hT : TestsRule g fa lb w d.2 f) (h : Rd w w.heap.size sSystem [a, v] d) (hz : sz sSystem d ≤ 1048576) :
  Calls Tryz.prog 81 #[.agg #[a, v], .func (.func g) fa lb] w (AnsB w (d.2.any f)) := by
 have hv := (parts_System h).2
 obtain ⟨A, n, c, V, m, cv, rfl, rfl, hs, hc, hcv, hm, hn, hm1, hrs, hsg, hE⟩ := rd_sys h hz
 obtain ⟨W, hW, rA, bel⟩ := box1 w 76 #[.slice A n c, .slice V m cv]
 have HW := Lib.hid hW
 have L := Lib.hid (containsFuncRule g fa lb eg f V m cv d.2 W (tests_next hT bel) (hv.next bel) hm hm1)
 clear hW h hz hT hs hc hcv hm hrs hsg hE hv
 go_enter Tryz.func81, Tryz.ntmps81
 go_wp2_with fail
 rw [← HW.out]
 refine L.out.mono ?_
 rintro e w1 ⟨rfl, bb⟩
 have F := Lib.hid (next_trans bel bb)
 clear bel bb rA L
 generalize List.any d.2 f = z at *
 go_wp2
 go_ret
 exact ⟨rfl, F.out⟩
end ruleImpl
end
section
namespace ruleImpl
open Go.RowKit base ints sig term termOk marks app appAt sym segs termFacts varsMath varsOf rename same count linear shape kindsR ruleMath ruleSpec anyR
set_option maxRecDepth 100000
set_option maxHeartbeats 1000000 in
theorem repeats_ (a l r : Value) (sg : List Int) (x : Dat sRule) (w : World) (h0 : Rd w w.heap.size sI [a] sg) (hz0 : sz sI sg ≤ 1048576) (h : Rd w w.heap.size sRule [l, r] x) (hz : sz sRule x ≤ 1048576) :
  Calls Tryz.prog 82 #[.agg #[a], .agg #[l, r]] w (AnsB w (!linearB sg x.1)) := by
 obtain ⟨A, n, c, rfl, hs, hc⟩ := rd_ints.1 h0
 have hn := len_ints hs.1 hz0
 obtain ⟨A1, n1, c1, A2, n2, c2, rfl, rfl, s1, k1, s2, k2, hn1, hn2⟩ := rd_rule h hz
 obtain ⟨W, hW, rA, rB, bel⟩ := box2 w 30 69 #[.slice A n c] #[.slice A1 n1 c1, .slice A2 n2 c2]
 have L := Lib.hid (implLinearIn A A1 n c n1 c1 sg x.1 W (hs.next bel) (s1.next bel) hn hn1)
 have HW := Lib.hid hW
 clear h0 hz0 h hz hs hc s1 k1 s2 k2 hW
 go_enter Tryz.func82, Tryz.ntmps82
 go_wp2_with fail
 rw [← HW.out]
 refine L.out.mono ?_
 rintro e w1 ⟨rfl, bb⟩
 have F := Lib.hid (next_trans bel bb)
 clear bel bb rA rB L
 generalize linearB sg x.1 = z at *
 go_wp2
 go_ret
 exact ⟨rfl, F.out⟩
end ruleImpl
end
end Go.Proofs.YtlmofkeemlfpgaaGreat
