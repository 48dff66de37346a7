/-
  MERGED: my texts RenImpl, Same, Variant, Big, WFnRenamed, one behind the other, as they are. By an AI agent.
-/
import Derived.Test.YtfclafbdbdmlhaaMFnRenamed2
import Derived.Deep.RegionHeld3
namespace Go.Proofs.Ytfclafbdbdmlhaa
section
open Go.Lib (hid)
namespace renImpl
open Go.RowKit base ints sig cursor term termOk marks app appAt sym segs termFacts varsMath fillMath Go.Proofs.Ytfclafbdbdmlhaa.look renMath rename
set_option maxRecDepth 100000
def vn (n : Int) : Int := -1 - n
theorem vn_inj : ∀ a b : Int, vn a = vn b → a = b := fun a b h => by unfold vn at h; omega
structure Side (p : Nat) (r : Option Nat) (a b : World) : Prop where
 os : b.os = a.os
 tape : b.tape = a.tape
 output : b.output = a.output
 size : a.heap.size ≤ b.heap.size
 block : ∀ k, k < a.heap.size → k ≠ p → some k ≠ r → b.heap[k]? = a.heap[k]?
section
variable {p : Nat} {r : Option Nat} {a b c : World}
theorem Side.of_below (h : Below a.heap.size a b) : Side p r a b := ⟨h.os, h.tape, h.output, h.size, fun k hk _ _ => h.block k hk⟩
theorem Side.of_grown (h : a.grownBy b r) : Side p r a b := ⟨h.os, h.tape, h.output, h.size, fun k hk _ hr => h.block k hk hr⟩
theorem Side.of_var (h : a.grownBy b (some p)) : Side p r a b := ⟨h.os, h.tape, h.output, h.size, fun k hk hp _ => h.block k hk (fun e => by injection e with e; exact hp e)⟩
theorem Side.trans (h : Side p r a b) (k : Side p r b c) : Side p r a c :=
 ⟨k.os.trans h.os, k.tape.trans h.tape, k.output.trans h.output, Nat.le_trans h.size k.size, fun i hi hp hr => (k.block i (Nat.lt_of_lt_of_le hi h.size) hp hr).trans (h.block i hi hp hr)⟩
theorem Side.below (h : Side p r a b) (hr : ∀ k, r = some k → p ≤ k) (hp : p ≤ a.heap.size) : Below p a b :=
 ⟨h.os, h.tape, h.output, h.size, fun k hk => h.block k (by omega) (by omega) (fun e => by have := hr k e.symm; omega)⟩
theorem Own.side {base n cc : Nat} {O : Option Addr} {xs : List Int} {cs : Array Value} (h : Own a base (.slice O n cc) xs) (hs : Side p r a b) (hv : Row a p 24 cs) (hne : blk O = none ∨ blk O ≠ r) : Own b base (.slice O n cc) xs := by
 obtain ⟨q1, q2⟩ := h
 refine ⟨q1, ?_⟩
 rcases q2 with q2 | ⟨g, cap, cur, e, hg, hh, rest⟩
 ·exact .inl q2
 ·refine .inr ⟨g, cap, cur, e, hg, ?_, rest⟩
  have hlt : g < a.heap.size := (Array.getElem?_eq_some_iff.1 hh).1
  have hb : blk O = some g := by rw [← blk_own O n cc, e]; rfl
  have hgp : g ≠ p := Row.ne_ (t := 2) (t' := 24) hh hv (by decide)
  exact (hs.block g hlt hgp (by rw [hb] at hne; rcases hne with h | h; cases h; exact h)).trans hh
end
theorem own_ne {w : World} {base B n c : Nat} {S : Option Addr} {xs : List Int} {cs : Array Value} (h : Own w base (.slice S n c) xs) (hr : Row w B 24 cs) : blk S ≠ some B := by
 have hl := Own.len h
 rcases own_form (n := n) (vs := xs.map (Value.int .i64)) (by rw [hl]; rw [hl] at h; exact h) with ⟨rfl, _⟩ | ⟨g, cur, rfl, _, hrow, _⟩
 ·intro e; cases e
 ·intro e
  have e2 : g = B := Option.some.inj e
  exact Row.ne_ hr hrow (by decide) e2.symm
theorem one_seg (w : World) (y : Int) : Seg (w.alloc (.cells #[.int .i64 y] 2)) (w.alloc (.cells #[.int .i64 y] 2)).heap.size (some ⟨w.heap.size, 0, none⟩) 1 [y] :=
 (Row.new w 2 #[.int .i64 y]).seg rfl (by simp) (fun j hj => by
  have e : j = 0 := by omega
  subst e
  rfl)
def AnsRen (W : World) (B : Nat) (S : Option Addr) (o : List Int) (x : Int) (e : Ending) (w' : World) : Prop :=
 ∃ A c S' sn' sc', e = .returned (.slice A 1 c) ∧ Seg w' w'.heap.size A 1 [-1 - (idx (ext o x) x : Int)] ∧ (A = none → c = 0) ∧ Row w' B 24 #[.slice S' sn' sc'] ∧
  Own w' (B + 1) (.slice S' sn' sc') ((ext o x).map vn) ∧ (blk S' = blk S ∨ ∃ k, blk S' = some k ∧ W.heap.size ≤ k) ∧ Side B (blk S) W w'
set_option maxHeartbeats 4000000 in
theorem ren1 (B : Nat) (S : Option Addr) (sn sc : Nat) (o : List Int) (x : Int) (W : World) (hr : Row W B 24 #[.slice S sn sc]) (ho : Own W (B + 1) (.slice S sn sc) (o.map vn)) (hx0 : -24 ≤ x) (hx1 : x < 0) (hsn : sn ≤ 1000) :
  Calls Try.prog 105 #[.int .i64 (-1 - x), .pointer (some ⟨B, 0, none⟩)] W (AnsRen W B S o x) := by
 have hl := Own.len ho
 simp only [List.length_map] at hl
 have hlt := hr.lt
 have cB : W.cell? ⟨B, 0, none⟩ = some (.slice S sn sc) := hr.cell 0
 have fB : W.frozen? ⟨B, 0, none⟩ = false := hr.free 0
 have LI := hid (indexOf S sn sc (o.map vn) (-1 - x) W (Own.seg ho) (by omega))
 by_cases hin : x ∈ o
 ·have hi : idx o x < o.length := idx_lt hin
  obtain ⟨q, hq⟩ : ∃ q, idx o x = q := ⟨_, rfl⟩
  have EI := hid (show indexI (o.map vn) (-1 - x) = (q : Int) by
   unfold indexI
   rw [show (-1 - x : Int) = vn x from rfl, if_pos ((mem_map_inj vn_inj).2 hin), idx_map vn_inj, hq])
  have EX := hid (show ext o x = o by unfold ext; rw [if_pos hin])
  have LV := hid (varTerm (q : Int) W (by omega) (by omega))
  have HQ := hid hq
  have hq60 : q ≤ 1000 := by omega
  have HR := hid hr
  have HO := hid ho
  clear hin hi hq hl hr ho
  go_enter Try.func105, Try.ntmps105
  go_wp2_with fail
  refine LI.out.mono ?_
  rintro e w' ⟨rfl, he⟩
  rw [EI.out] at he
  subst he
  clear LI
  go_wp2_with fail
  refine LV.out.mono ?_
  rintro e w1 ⟨A, n, c, rfl, oq, bb⟩
  have hn1 := Own.len oq
  simp only [List.length_cons, List.length_nil] at hn1
  subst hn1
  have F : AnsRen W B S o x (.returned (.slice A 1 c)) w1 :=
   ⟨A, c, S, sn, sc, rfl, by rw [EX.out, HQ.out]; exact Own.seg oq, (own_cap oq).2.2, HR.out.next bb, by rw [EX.out]; exact HO.out.next bb, .inl rfl, Side.of_below bb⟩
  have HF := hid F
  clear F oq bb LV cB fB
  go_wp2
  go_ret
  exact HF.out
 ·have EI := hid (show indexI (o.map vn) (-1 - x) = -1 by
   unfold indexI
   rw [show (-1 - x : Int) = vn x from rfl, if_neg (fun h => hin ((mem_map_inj vn_inj).1 h))])
  have EX := hid (show (ext o x).map vn = o.map vn ++ [-1 - x] by unfold ext; rw [if_neg hin, List.map_append]; rfl)
  have EQ := hid (show idx (ext o x) x = sn by unfold ext; rw [if_neg hin, idx_app_new hin, hl])
  have hne := own_ne ho hr
  have hr1 := hr.alloc (.cells #[.int .i64 (-1 - x)] 2)
  have ho1 := Own.alloc ho (.cells #[.int .i64 (-1 - x)] 2)
  have HNE := hid hne
  have HN := hid hl
  clear hin hl hr ho hne
  go_enter Try.func105, Try.ntmps105
  go_wp2_with fail
  refine LI.out.mono ?_
  rintro e w' ⟨rfl, he⟩
  rw [EI.out] at he
  subst he
  clear LI
  go_wp2_with (first
   | (at_builtin; refine appAllAt rfl _ _ rfl (B + 1) S sn sc (o.map vn) rfl ho1 (some ⟨W.heap.size, 0, none⟩) 1 1 (W.heap.size + 1) [-1 - x] rfl (by simpa using one_seg W (-1 - x)) (by omega) (by omega) (by omega) (by simp; omega) ?_; intro S' sc' w2 ho2 hg hat; have r2 := Row.away hr1 hg HNE.out; have cB2 : w2.cell? ⟨B, 0, none⟩ = some (.slice S sn sc) := r2.cell 0; have fB2 : w2.frozen? ⟨B, 0, none⟩ = false := r2.free 0)
   | (go_at_call 107; refine (varTerm (sn : Int) _ (by omega) (by omega)).mono ?_; rintro e w3 ⟨A, n, c, rfl, oq, bb⟩))
  have hn1 := Own.len oq
  simp only [List.length_cons, List.length_nil] at hn1
  subst hn1
  have r3 := r2.put 0 (.slice S' (sn + 1) sc')
  have hg3 : w2.grownBy (w2.setCell ⟨B, 0, none⟩ (.slice S' (sn + 1) sc')) (some B) := grown_put (World.grownBy.refl _ _) _ _
  have o3 := Own.far ho2 hg3 (fun k hk => by injection hk; omega)
  have sd : Side B (blk S) W w3 := (((Side.of_below ((Below.refl _ _).alloc (Nat.le_refl _) _)).trans (Side.of_grown hg)).trans (Side.of_var hg3)).trans (Side.of_below bb)
  have F : AnsRen W B S o x (.returned (.slice A 1 c)) w3 := by
   refine ⟨A, c, S', sn + 1, sc', rfl, by rw [EQ.out]; exact Own.seg oq, (own_cap oq).2.2, r3.next bb, by rw [EX.out]; exact o3.next bb, ?_, sd⟩
   rcases hat with h | h
   ·exact .inl h
   ·exact .inr ⟨_, h, by simp⟩
  have HF := hid F
  clear F oq bb r3 hg3 o3 sd hat hg ho2 r2 cB2 fB2 cB fB hr1 ho1
  go_wp2
  go_ret
  exact HF.out
theorem ne_flip {a b : Option Nat} (h : a = none ∨ a ≠ b) : b = none ∨ b ≠ a := by
 cases b with
 | none => exact .inl rfl
 | some k =>
  right
  rintro rfl
  rcases h with h | h
  ·cases h
  ·exact h rfl
theorem blk_lt {w : World} {base : Nat} {A : Option Addr} {n c : Nat} {xs : List Int} (h : Own w base (.slice A n c) xs) : ∀ k, blk A = some k → base ≤ k ∧ k < w.heap.size := fun k hk => World.ownsRow.lt h k (by rw [blk_own]; exact hk)
theorem ne_new {w : World} {base : Nat} {S : Option Addr} {n c : Nat} {xs : List Int} {a : Option Nat} (h : Own w base (.slice S n c) xs) (q : Nat) (hq : w.heap.size ≤ q) (ha : a = some q) : a = none ∨ a ≠ blk S := by
 right
 rintro rfl
 have := (blk_lt h q ha).2
 omega
def ordF (o t : List Int) : List Int := t.foldl extV o
theorem ordF_take {o t : List Int} {k : Nat} {x : Int} (hk : k < t.length) (hx : t.getD k 0 = x) : ordF o (t.take (k + 1)) = extV (ordF o (t.take k)) x := by
 unfold ordF
 rw [take_snoc hk hx, List.foldl_append]
 rfl
theorem ordF_len (o t : List Int) : (ordF o t).length ≤ o.length + t.length := fold_ext_len t o
def renF (o t : List Int) : List Int := t.map (ren (ordF o t))
theorem renF_take {o t : List Int} {k : Nat} {x : Int} (hk : k < t.length) (hx : t.getD k 0 = x) : renF o (t.take (k + 1)) = renF o (t.take k) ++ [ren (extV (ordF o (t.take k)) x) x] := by
 unfold renF
 rw [ordF_take hk hx, take_snoc hk hx, List.map_append]
 congr 1
 refine List.map_congr_left fun n hn => ren_ext fun h0 => ?_
 exact fold_ext_mem.2 (.inl ⟨hn, h0⟩)
theorem Side.on {B : Nat} {r r' : Option Nat} {a b c : World} (h : Side B r a b) (hr : r' = r ∨ ∃ k, r' = some k ∧ a.heap.size ≤ k) (k : Side B r' b c) : Side B r a c :=
 ⟨k.os.trans h.os, k.tape.trans h.tape, k.output.trans h.output, Nat.le_trans h.size k.size, fun i hi hp hne => (k.block i (Nat.lt_of_lt_of_le hi h.size) hp (fun e => by
  rcases hr with e2 | ⟨q, e2, hq⟩
  ·exact hne (by rw [e, e2])
  ·rw [e2] at e; injection e with e; omega)).trans (h.block i hi hp hne)⟩
theorem Side.grow {B : Nat} {r q : Option Nat} {a b c : World} (h : Side B r a b) (hg : b.grownBy c q) (hq : ∀ k, q = some k → a.heap.size ≤ k) : Side B r a c :=
 ⟨hg.os.trans h.os, hg.tape.trans h.tape, hg.output.trans h.output, Nat.le_trans h.size hg.size, fun i hi hp hne => (hg.block i (Nat.lt_of_lt_of_le hi h.size) (fun e => by have := hq i e.symm; omega)).trans (h.block i hi hp hne)⟩
theorem Side.allocs {B : Nat} {r : Option Nat} {a b : World} (h : Side B r a b) (o : Obj) : Side B r a (b.alloc o) :=
 ⟨h.os, h.tape, h.output, by have := h.size; simp; omega, fun i hi hp hne => (Below.heap_alloc b o i (Nat.lt_of_lt_of_le hi h.size)).trans (h.block i hi hp hne)⟩
def HeadRG (w : World) (B m : Nat) (o t : List Int) (S0 : Option Addr) (out i : Value) (wr : World) : Prop :=
 ∃ (k : Nat) (O : Option Addr) (on oc : Nat) (S : Option Addr) (sn sc : Nat), k ≤ m ∧ i = .int .i64 k ∧ out = .slice O on oc ∧ Own wr w.heap.size (.slice O on oc) (renF o (t.take k)) ∧ Row wr B 24 #[.slice S sn sc] ∧
  Own wr (B + 1) (.slice S sn sc) ((ordF o (t.take k)).map vn) ∧ (blk S = blk S0 ∨ ∃ q, blk S = some q ∧ w.heap.size ≤ q) ∧ (blk O = none ∨ blk O ≠ blk S) ∧ Side B (blk S0) w wr
def AnsRG (w : World) (B : Nat) (o t : List Int) (S0 : Option Addr) (e : Ending) (w' : World) : Prop :=
 ∃ O on oc S sn sc, e = .returned (.slice O on oc) ∧ Own w' w.heap.size (.slice O on oc) (renF o t) ∧ Row w' B 24 #[.slice S sn sc] ∧ Own w' (B + 1) (.slice S sn sc) ((ordF o t).map vn) ∧ (blk O = none ∨ blk O ≠ blk S) ∧ Side B (blk S0) w w'
set_option maxHeartbeats 4000000 in
theorem fillRen (B : Nat) (A : Option Addr) (m c : Nat) (o t : List Int) (S0 : Option Addr) (n0 c0 : Nat) (w : World) (hr : Row w B 24 #[.slice S0 n0 c0]) (hS : Own w (B + 1) (.slice S0 n0 c0) (o.map vn)) (h : Seg w B A m t) (hm : m ≤ 60) (ho : o.length ≤ 60) (hv : ∀ x ∈ t, -24 ≤ x) :
  Calls Try.prog 63 #[.func (.func 105) #[] #[.pointer (some ⟨B, 0, none⟩)], .slice A m c] w (AnsRG w B o t S0) := by
 have HL := hid h.1
 have HV := hid hv
 have hBw := hr.lt
 have HG := hid (fun k hk => (blk_lt hS k hk).1)
 have S1 : HeadRG w B m o t S0 (.slice none 0 0) (.int .i64 0) w := ⟨0, none, 0, 0, S0, n0, c0, Nat.zero_le _, rfl, rfl, by simpa [renF] using Own.nil w w.heap.size, hr, by simpa [ordF] using hS, .inl rfl, .inl rfl, Side.of_below (Below.refl _ _)⟩
 have HS0 := hid S1
 clear S1 hv hr hS
 go_enter Try.func63, Try.ntmps63
 go_wp2
 go_loopw [5, 10] (fun out i wr => HeadRG w B m o t S0 out i wr) (fun _ i _ => m - (intOf i).toNat)
 case atStart => exact HS0.out
 case round =>
  obtain ⟨k, O, on, oc, S, sn, sc, hk, rfl, rfl, hO, hr, hs, hat0, hne, hsd⟩ := hrel
  clear HS0
  have hon : on ≤ 60 := by rw [Own.len hO]; unfold renF; simp; omega
  have hsn : sn ≤ 1000 := by have h1 := Own.len hs; have h2 := ordF_len o (t.take k); simp at h1 h2; omega
  have hBlt := hr.lt
  have hwz := hsd.size
  by_cases hlt : k < m
  ·obtain ⟨b, off, x, rfl, hbb, hx, ex⟩ := h.spot hlt
   have hx1 : wr.cell? ⟨b, off + k, none⟩ = some (.int .i64 x) := by
    have hneS : some b ≠ blk S0 := fun e => by have := HG.out b e.symm; omega
    exact (World.cell?_of_block (hsd.block b (by omega) (by omega) hneS)).trans hx
   have hmem := mem_of_get (by rw [HL.out]; exact hlt) ex.out
   have hx24 : -24 ≤ x := HV.out x hmem
   have E := hid (renF_take (o := o) (t := t) (k := k) (by rw [HL.out]; exact hlt) ex.out)
   have EO := hid (ordF_take (o := o) (t := t) (k := k) (by rw [HL.out]; exact hlt) ex.out)
   clear hmem hx h ex
   by_cases hpos : 0 ≤ x
   ·have R := hid (show ren (extV (ordF o (t.take k)) x) x = x by unfold ren; rw [if_neg (by omega)])
    have R2 := hid (show extV (ordF o (t.take k)) x = ordF o (t.take k) by unfold extV; rw [if_neg (by omega)])
    have ho1 := Own.alloc hO (.cells #[.int .i64 x] 2)
    have hs1 := Own.alloc hs (.cells #[.int .i64 x] 2)
    have hr1 := hr.alloc (.cells #[.int .i64 x] 2)
    go_wp2_with (at_builtin; refine appAllAt rfl _ _ rfl w.heap.size O on oc (renF o (t.take k)) rfl ho1 (some ⟨wr.heap.size, 0, none⟩) 1 1 (wr.heap.size + 1) [x] rfl (by simpa using one_seg wr x) (by omega) (by omega) (by omega) (by simp; omega) ?_; intro O' oc' w2 ho2 hg hat)
    have S1 : HeadRG w B m o t S0 (.slice O' (on + 1) oc') (.int .i64 ((k : Int) + 1)) w2 := by
     refine ⟨k + 1, O', on + 1, oc', S, sn, sc, hlt, by simp, rfl, by rw [E.out, R.out]; exact ho2, Row.away hr1 hg (own_ne ho1 hr1), by rw [EO.out, R2.out]; exact Own.kept hs1 hg (ne_flip hne), hat0, ?_, ?_⟩
     ·rcases hat with h | h
      ·rw [h]; exact hne
      ·exact ne_new hs1 _ (Nat.le_refl _) h
     ·exact (hsd.allocs _).grow hg (fun q hq => (blk_lt hO q hq).1)
    have S := hid S1
    clear S1 ho2 hg hat ho1 hs1 hr1 hO hs hr hne hsd R R2 E EO hat0
    go_wp2
    go_roundw
    case rel => exact S.out
    case measure => simp [intOf]; omega
   ·have hneg : x < 0 := by omega
    have R := hid (show ren (extV (ordF o (t.take k)) x) x = -1 - (idx (ext (ordF o (t.take k)) x) x : Int) by unfold ren extV; rw [if_pos hneg, if_pos hneg])
    have R2 := hid (show extV (ordF o (t.take k)) x = ext (ordF o (t.take k)) x by unfold extV; rw [if_pos hneg])
    have L := hid (ren1 B S sn sc _ x wr hr hs hx24 hneg hsn)
    go_wp2_with (first
     | (go_at_call 105; refine L.out.mono ?_; rintro e w1 ⟨A1, c1, S1, sn1, sc1, rfl, s1, hc1, r1, os1, hat1, sd⟩; have ho1 := Own.side hO sd hr hne; have hz1 := sd.size; have hne1 : blk O = none ∨ blk O ≠ blk S1 := (by rcases hat1 with h | ⟨q, h, hq⟩; (rw [h]; exact hne); (rw [h]; exact (by cases e : blk O with | none => exact .inl rfl | some z => exact .inr (fun e2 => by injection e2 with e2; have := (blk_lt hO z e).2; omega)))))
     | (at_builtin; refine appAllAt rfl _ _ rfl w.heap.size O on oc (renF o (t.take k)) rfl ho1 A1 1 c1 w1.heap.size _ rfl s1 (by omega) (by omega) (by omega) (by omega) ?_; intro O' oc' w2 ho2 hg hat))
    have SS : HeadRG w B m o t S0 (.slice O' (on + 1) oc') (.int .i64 ((k : Int) + 1)) w2 := by
     refine ⟨k + 1, O', on + 1, oc', S1, sn1, sc1, hlt, by simp, rfl, by rw [E.out, R.out]; exact ho2, Row.away r1 hg (own_ne ho1 r1), by rw [EO.out, R2.out]; exact Own.kept os1 hg (ne_flip hne1), ?_, ?_, ?_⟩
     ·rcases hat1 with h | ⟨q, h, hq⟩
      ·rw [h]; exact hat0
      ·exact .inr ⟨q, h, by omega⟩
     ·rcases hat with h | h
      ·rw [h]; exact hne1
      ·exact ne_new os1 _ (Nat.le_refl _) h
     ·exact (hsd.on hat0 sd).grow hg (fun q hq => (blk_lt ho1 q hq).1)
    have HSS := hid SS
    clear SS ho2 hg hat ho1 s1 r1 os1 hat1 sd hne1 hO hs hr hne hsd R R2 E EO L hat0
    go_wp2
    go_roundw
    case rel => exact HSS.out
    case measure => simp [intOf]; omega
  ·rw [List.take_of_length_le (by rw [HL.out]; omega)] at hO hs
   have F : AnsRG w B o t S0 (.returned (.slice O on oc)) wr := ⟨O, on, oc, S, sn, sc, rfl, hO, hr, hs, hne, hsd⟩
   have HF := hid F
   clear F hO hs hr hne hsd h
   go_wp2
   go_ret
   exact HF.out
theorem renaming_ (w : World) : Calls Try.prog 62 #[] w fun e w' => e = .returned (.func (.func 105) #[] #[.pointer (some ⟨w.heap.size, 0, none⟩)]) ∧ w' = w.alloc (.cells #[.slice none 0 0] 24) := by
 have hmf : ∀ (fn : Fn) (first cap : Array Value) (w : World), (Instr.makeFunc fn first cap).run Try.prog w = .ok (.func fn first cap) w := fun _ _ _ _ => rfl
 go_enter Try.func62, Try.ntmps62
 go_wp2
 go_ret
 exact ⟨rfl, rfl⟩
set_option maxHeartbeats 4000000 in
theorem implRenamed (A A' : Option Addr) (n c m c' : Nat) (sg t : List Int) (w : World) (h : Seg w w.heap.size A n sg) (h' : Seg w w.heap.size A' m t) (hn : n ≤ 1048576) (hm : m ≤ 1048576) :
  Calls Try.prog 13 #[.agg #[.slice A n c], .slice A' m c'] w (AnsList w (renI sg t)) := by
 obtain ⟨W, hW⟩ : ∃ W, W = w.alloc (.cells #[.slice A n c] 26) := ⟨_, rfl⟩
 have bel : Below w.heap.size w W := by rw [hW]; exact (Below.refl _ _).alloc (Nat.le_refl _) _
 have s := (h.below bel).more bel.size
 have s' := (h'.below bel).more bel.size
 have HW := hid hW
 have HL := hid h'.1
 have L := hid (implTermOk A A' n c m c' sg t W s s' hn hm)
 clear hW h h' s
 cases hok : termOkB sg t with
 | false =>
  have HS := hid hok
  clear hok s'
  go_enter Try.func13, Try.ntmps13
  go_wp2_with fail
  rw [← HW.out]
  refine L.out.mono ?_
  rintro e w1 ⟨he, bb⟩
  rw [HS.out] at he
  subst he
  have F : AnsList w (renI sg t) (.returned (.slice none 0 0)) w1 := ⟨_, _, _, rfl, by unfold renI; rw [if_neg (by rw [HS.out]; simp)]; exact Own.nil _ _, next_trans bel bb⟩
  have HF := hid F
  clear F bb bel
  go_wp2
  go_ret
  exact HF.out
 | true =>
  have HS := hid hok
  have HV := hid (fun x hx => (term_mem (x := x) hok hx).1)
  have H60 : m ≤ 60 := by rw [← HL.out]; exact (term_len hok).2
  clear hok
  go_enter Try.func13, Try.ntmps13
  go_wp2_with fail
  rw [← HW.out]
  refine L.out.mono ?_
  rintro e w1 ⟨he, bb⟩
  rw [HS.out] at he
  subst he
  replace bel := next_trans bel bb
  have s1 := (s'.next bb)
  have s2 := s1.alloc (Nat.le_refl _) (.cells #[.slice none 0 0] 24)
  have hz := bel.size
  have L2 := hid (fillRen w1.heap.size A' m c' [] t none 0 0 _ (Row.new w1 24 #[.slice none 0 0]) (by simpa using Own.nil _ _) s2 H60 (by simp) HV.out)
  have LR := hid (renaming_ w1)
  clear bb L s' s1 s2
  go_wp2_with fail
  refine LR.out.mono ?_
  rintro e w2 ⟨rfl, rfl⟩
  go_wp2_with fail
  refine L2.out.mono ?_
  rintro e w3 ⟨O, on, oc, S, sn, sc, rfl, ho, -, -, -, sd⟩
  have F : AnsList w (renI sg t) (.returned (.slice O on oc)) w3 := ⟨O, on, oc, rfl, by unfold renI; rw [if_pos HS.out]; exact Own.lower ho (by simp; omega), (bel.alloc hz _).trans ((sd.below (fun k hk => by cases hk) (by simp)).mono hz)⟩
  have HF := hid F
  clear F ho sd bel L2 LR
  go_wp2
  go_ret
  exact HF.out
end renImpl
end
section
open Go.Lib (hid)
namespace same
open Go.RowKit base ints
set_option maxHeartbeats 400000 in
theorem specSame (A A' : Option Addr) (n m c c' : Nat) (xs ys : List Int) (w : World) (h : Seg w w.heap.size A n xs) (h' : Seg w w.heap.size A' m ys) (hn : n ≤ 1048576) (hm : m ≤ 1048576) :
  Calls Try.prog 64 #[.slice A n c, .slice A' m c'] w (AnsSame w xs ys) := by
 by_cases hnm : n = m
 ·subst hnm
  go_enter Try.func64, Try.ntmps64
  go_wp2
  go_loopw [5] (fun i wr => HeadSame w n xs ys i wr) (fun i _ => n - (intOf i).toNat)
  case atStart => exact ⟨0, 0, Nat.zero_le _, rfl, rfl, fun j h => absurd h (Nat.not_lt_zero _)⟩
  case round =>
   obtain ⟨k, d, hk, rfl, rfl, hc⟩ := hrel
   by_cases hlt : k < n
   ·obtain ⟨b, off, x, rfl, -, hx, ex⟩ := h.spot hlt
    obtain ⟨b', off', y, rfl, -, hx', ey⟩ := h'.spot hlt
    by_cases he : x = y
    ·subst he
     have S := hid (alike_step (w := w) hlt hc ex ey)
     clear hc h h' ex ey
     go_wp2
     go_quiet (fail)
     go_wp2
     go_roundw
     case rel => exact S.out _
     case measure => simp [intOf]; omega
    ·have S := hid (same_not (w := w) ex ey he)
     have hne : (x != y) = true := by simp [he]
     clear hc h h' ex ey he
     go_wp2
     go_quiet (fail)
     go_wp2
     go_ret
     rw [World.drewN_drewN]
     exact S.out _
   ·have S := hid (same_yes (w := w) h.1 h'.1 hlt hc)
    clear hc h h'
    go_wp2
    go_ret
    exact S.out _
 ·have S := hid (same_len (w := w) h.1 h'.1 hnm)
  have hne : ((n : Int) != (m : Int)) = true := by simp; omega
  clear h h'
  go_enter Try.func64, Try.ntmps64
  go_wp2
  go_ret
  exact S.out
set_option maxHeartbeats 400000 in
theorem libEqual (A A' : Option Addr) (n m c c' : Nat) (xs ys : List Int) (w : World) (h : Seg w w.heap.size A n xs) (h' : Seg w w.heap.size A' m ys) (hn : n ≤ 1048576) (hm : m ≤ 1048576) :
  Calls Try.prog 66 #[.slice A n c, .slice A' m c'] w (AnsSame w xs ys) := by
 by_cases hnm : n = m
 ·subst hnm
  go_enter Try.func66, Try.ntmps66
  go_wp2
  go_loopw [13] (fun i wr => HeadSame w n xs ys i wr) (fun i _ => n - (intOf i).toNat)
  case atStart => exact ⟨0, 0, Nat.zero_le _, rfl, rfl, fun j h => absurd h (Nat.not_lt_zero _)⟩
  case round =>
   obtain ⟨k, d, hk, rfl, rfl, hc⟩ := hrel
   by_cases hlt : k < n
   ·obtain ⟨b, off, x, rfl, -, hx, ex⟩ := h.spot hlt
    obtain ⟨b', off', y, rfl, -, hx', ey⟩ := h'.spot hlt
    by_cases he : x = y
    ·subst he
     have S := hid (alike_step (w := w) hlt hc ex ey)
     clear hc h h' ex ey
     go_wp2
     go_quiet (fail)
     go_wp2
     go_roundw
     case rel => exact S.out _
     case measure => simp [intOf]; omega
    ·have S := hid (same_not (w := w) ex ey he)
     have hne : (x != y) = true := by simp [he]
     clear hc h h' ex ey he
     go_wp2
     go_quiet (fail)
     go_wp2
     go_ret
     rw [World.drewN_drewN]
     exact S.out _
   ·have S := hid (same_yes (w := w) h.1 h'.1 hlt hc)
    clear hc h h'
    go_wp2
    go_ret
    exact S.out _
 ·have S := hid (same_len (w := w) h.1 h'.1 hnm)
  have hne : ((n : Int) != (m : Int)) = true := by simp; omega
  clear h h'
  go_enter Try.func66, Try.ntmps66
  go_wp2
  go_ret
  exact S.out
theorem implSame (A A' : Option Addr) (n m c c' : Nat) (xs ys : List Int) (w : World) (h : Seg w w.heap.size A n xs) (h' : Seg w w.heap.size A' m ys) (hn : n ≤ 1048576) (hm : m ≤ 1048576) :
  Calls Try.prog 16 #[.slice A n c, .slice A' m c'] w (AnsSame w xs ys) := by
 have L := hid (libEqual A A' n m c c' xs ys w h h' hn hm)
 clear h h'
 go_enter Try.func16, Try.ntmps16
 go_wp2_with fail
 refine L.out.mono ?_
 rintro e w' ⟨rfl, d, rfl⟩
 go_wp2
 go_ret
 exact ⟨rfl, d, rfl⟩
end same
end
section
open Go.Lib (hid)
open List (setIfInBounds_toArray set_cons_zero set_cons_succ getElem_toArray getElem_cons_zero getElem_cons_succ)
namespace variant
open Go.RowKit base ints sig same term termOk marks sym termFacts varsOf renMath rename renImpl
set_option maxRecDepth 100000
def variantB (sg a b : List Int) : Bool := termOkB sg a && (termOkB sg b && decide (renL a = renL b))
theorem variant_a {sg a b : List Int} (h : termOkB sg a = false) : variantB sg a b = false := by unfold variantB; rw [h, Bool.false_and]
theorem variant_b {sg a b : List Int} (h : termOkB sg b = false) : variantB sg a b = false := by unfold variantB; rw [h, Bool.false_and, Bool.and_false]
theorem variant_ab {sg a b : List Int} (h : termOkB sg a = true) (h' : termOkB sg b = true) : variantB sg a b = decide (renL a = renL b) := by unfold variantB; rw [h, h', Bool.true_and, Bool.true_and]
set_option maxHeartbeats 4000000 in
theorem specVariantIn (A A' B' : Option Addr) (n c m c' q cq : Nat) (sg a b : List Int) (w : World) (h : Seg w w.heap.size A n sg) (h' : Seg w w.heap.size A' m a) (h2 : Seg w w.heap.size B' q b) (hn : n ≤ 1048576) (hm : m ≤ 1048576) (hq : q ≤ 1048576) :
  Calls Try.prog 15 #[.agg #[.slice A n c], .slice A' m c', .slice B' q cq] w (AnsB w (variantB sg a b)) := by
 obtain ⟨W, hW⟩ : ∃ W, W = w.alloc (.cells #[.slice A n c] 26) := ⟨_, rfl⟩
 have rA : Row W w.heap.size 26 #[.slice A n c] := by rw [hW]; exact Row.new _ _ _
 have bel : Below w.heap.size w W := by rw [hW]; exact (Below.refl _ _).alloc (Nat.le_refl _) _
 have s := h.next bel
 have s1 := h'.next bel
 have s2 := h2.next bel
 have HW := hid hW
 have L := hid (specTermOk A A' n c m c' sg a W s s1 hn hm)
 have H1 := hid h'.1
 have H2 := hid h2.1
 clear hW h h' h2
 cases hok : termOkB sg a with
 | false =>
  have HS := hid hok
  clear hok s s1 s2
  go_enter Try.func15, Try.ntmps15
  go_wp2_with fail
  rw [← HW.out]
  refine L.out.mono ?_
  rintro e w1 ⟨he, bb⟩
  rw [HS.out] at he
  subst he
  have F := hid (ansB (b := variantB sg a b) (a := false) (by rw [variant_a HS.out]) (next_trans bel bb))
  clear bb bel rA
  go_wp2
  go_ret
  exact F.out
 | true =>
  have HS := hid hok
  clear hok
  go_enter Try.func15, Try.ntmps15
  go_wp2_with fail
  rw [← HW.out]
  refine L.out.mono ?_
  rintro e w1 ⟨he, bb⟩
  rw [HS.out] at he
  subst he
  replace s := s.next bb
  replace s1 := s1.next bb
  replace s2 := s2.next bb
  have cA : w1.cell? ⟨w.heap.size, 0, none⟩ = some (.slice A n c) := (rA.next bb).cell 0
  replace bel := next_trans bel bb
  have L2 := hid (specTermOk A B' n c q cq sg b w1 s s2 hn hq)
  clear bb L rA
  cases hok2 : termOkB sg b with
  | false =>
   have HS2 := hid hok2
   clear hok2 s s1 s2
   go_wp2_with fail
   refine L2.out.mono ?_
   rintro e w2 ⟨he, bb⟩
   rw [HS2.out] at he
   subst he
   have F := hid (ansB (b := variantB sg a b) (a := false) (by rw [variant_b HS2.out]) (next_trans bel bb))
   clear bb bel cA
   go_wp2
   go_ret
   exact F.out
  | true =>
   have HS2 := hid hok2
   clear hok2
   go_wp2_with fail
   refine L2.out.mono ?_
   rintro e w2 ⟨he, bb⟩
   rw [HS2.out] at he
   subst he
   replace s1 := s1.next bb
   replace s2 := s2.next bb
   replace bel := next_trans bel bb
   clear bb cA L2 s
   go_wp2_with fail
   refine (l2Renamed A' m c' a _ s1 hm).mono ?_
   rintro e w3 ⟨X, xn, xc, rfl, ox, bb⟩
   replace s2 := s2.next bb
   replace bel := next_trans bel bb
   clear bb s1
   go_wp2_with fail
   refine (l2Renamed B' q cq b _ s2 hq).mono ?_
   rintro e w4 ⟨Y, yn, yc, rfl, oy, bb⟩
   have hxn : xn ≤ 1048576 := by rw [Own.len ox, ren_len, H1.out]; exact hm
   have hyn : yn ≤ 1048576 := by rw [Own.len oy, ren_len, H2.out]; exact hq
   have L3 := hid (specSame X Y xn yn xc yc (renL a) (renL b) w4 (Own.seg (ox.next bb)) (Own.seg oy) hxn hyn)
   replace bel := next_trans bel bb
   clear bb s2 ox oy
   go_wp2_with fail
   refine L3.out.mono ?_
   rintro e w5 ⟨rfl, d, rfl⟩
   have F := hid (ansB (b := variantB sg a b) (variant_ab HS.out HS2.out).symm (below_drewN bel d))
   clear bel L3
   generalize decide (renL a = renL b) = z at *
   go_wp2
   go_ret
   exact F.out
set_option maxHeartbeats 2000000 in
theorem implVariantIn (A A' B' : Option Addr) (n c m c' q cq : Nat) (sg a b : List Int) (w : World) (h : Seg w w.heap.size A n sg) (h' : Seg w w.heap.size A' m a) (h2 : Seg w w.heap.size B' q b) (hn : n ≤ 1048576) (hm : m ≤ 1048576) (hq : q ≤ 1048576) :
  Calls Try.prog 14 #[.agg #[.slice A n c], .slice A' m c', .slice B' q cq] w (AnsB w (variantB sg a b)) := by
 obtain ⟨W, hW⟩ : ∃ W, W = w.alloc (.cells #[.slice A n c] 26) := ⟨_, rfl⟩
 have rA : Row W w.heap.size 26 #[.slice A n c] := by rw [hW]; exact Row.new _ _ _
 have bel : Below w.heap.size w W := by rw [hW]; exact (Below.refl _ _).alloc (Nat.le_refl _) _
 have s := (h.next bel).drew
 have s1 := (h'.next bel).drew
 have s2 := (h2.next bel).drew
 have HW := hid hW
 have H1 := hid h'.1
 have H2 := hid h2.1
 have cA : W.cell? ⟨w.heap.size, 0, none⟩ = some (.slice A n c) := rA.cell 0
 replace rA := rA.drew
 replace bel := bel.drew
 have L := hid (implTermOk A A' n c m c' sg a W.drew s s1 hn hm)
 clear hW h h' h2
 cases hok : termOkB sg a with
 | false =>
  have HS := hid hok
  clear hok s s1 s2
  go_enter Try.func14, Try.ntmps14
  go_wp2_with fail
  rw [← HW.out]
  refine wp_region_held_drew (S := (fun w' => w'.cell? ⟨w.heap.size, 0, none⟩ = some (.slice A n c))) (by kernel_rfl) cA (fun hHeld => ?_)
  refine wpAnyH_take (i := 0) (v := ?_) rfl (by kernel_rfl) (by kernel_rfl) (by kernel_rfl) (fun _ _ _ h => h) (Or.inl ⟨by rfl, ?_⟩) (by assumption) ?_
  rotate_left 1
  ·(intro w0 hSw; (try dsimp only at hSw); go_simp; try with_reducible rfl)
  try simp only [Act.put, setIfInBounds_toArray, set_cons_zero, set_cons_succ, getElem_toArray, getElem_cons_zero, getElem_cons_succ]
  refine wpAnyH_take (i := 1) (v := ?_) rfl (by kernel_rfl) (by kernel_rfl) (by kernel_rfl) (fun _ _ _ h => h) (Or.inl ⟨by rfl, ?_⟩) (by assumption) ?_
  rotate_left 1
  ·(intro w0 hSw; (try dsimp only at hSw); go_simp; try with_reducible rfl)
  try simp only [Act.put, setIfInBounds_toArray, set_cons_zero, set_cons_succ, getElem_toArray, getElem_cons_zero, getElem_cons_succ]
  refine wpAnyH_ready (rs := [2]) (by kernel_rfl) (by simp) (AllReadyH.cons rfl (fun K hK => ?_) AllReadyH.nil)
  go_simp
  refine L.out.mono ?_; rintro e w1 ⟨he, bb⟩; rw [HS.out] at he; subst he; have c1 : w1.cell? ⟨w.heap.size, 0, none⟩ = some (.slice A n c) := (rA.next bb).cell 0; go_wp2_with fail
  refine hK.out _ _ ?_ (fun hHeld => ?_)
  ·first | assumption | (dsimp only; assumption)
  clear hK K
  try simp only [Act.put, setIfInBounds_toArray, set_cons_zero, set_cons_succ, getElem_toArray, getElem_cons_zero, getElem_cons_succ]
  refine wpAnyH_take (i := 3) (v := ?_) rfl (by kernel_rfl) (by kernel_rfl) (by kernel_rfl) (fun _ _ _ h => h) (Or.inl ⟨by rfl, ?_⟩) (by assumption) ?_
  rotate_left 1
  ·(intro w0 hSw; (try dsimp only at hSw); go_simp; try with_reducible rfl)
  try simp only [Act.put, setIfInBounds_toArray, set_cons_zero, set_cons_succ, getElem_toArray, getElem_cons_zero, getElem_cons_succ]
  refine wpAnyH_take (i := 4) (v := undef) rfl (by kernel_rfl) (by kernel_rfl) (by kernel_rfl) (fun _ _ _ h => h) (Or.inr ⟨by rfl, rfl⟩) (by assumption) ?_
  try simp only [Act.put, setIfInBounds_toArray, set_cons_zero, set_cons_succ, getElem_toArray, getElem_cons_zero, getElem_cons_succ]
  refine wpAnyH_take (i := 5) (v := undef) rfl (by kernel_rfl) (by kernel_rfl) (by kernel_rfl) (fun _ _ _ h => h) (Or.inr ⟨by rfl, rfl⟩) (by assumption) ?_
  try simp only [Act.put, setIfInBounds_toArray, set_cons_zero, set_cons_succ, getElem_toArray, getElem_cons_zero, getElem_cons_succ]
  refine wpAnyH_take (i := 6) (v := undef) rfl (by kernel_rfl) (by kernel_rfl) (by kernel_rfl) (fun _ _ _ h => h) (Or.inr ⟨by rfl, rfl⟩) (by assumption) ?_
  try simp only [Act.put, setIfInBounds_toArray, set_cons_zero, set_cons_succ, getElem_toArray, getElem_cons_zero, getElem_cons_succ]
  refine wpAnyH_take (i := 7) (v := ?_) rfl (by kernel_rfl) (by kernel_rfl) (by kernel_rfl) (fun _ _ _ h => h) (Or.inl ⟨by rfl, ?_⟩) (by assumption) ?_
  rotate_left 1
  ·(intro w0 hSw; (try dsimp only at hSw); go_simp; try with_reducible rfl)
  try simp only [Act.put, setIfInBounds_toArray, set_cons_zero, set_cons_succ, getElem_toArray, getElem_cons_zero, getElem_cons_succ]
  refine wpAnyH_take (i := 8) (v := ?_) rfl (by kernel_rfl) (by kernel_rfl) (by kernel_rfl) (fun _ _ _ h => h) (Or.inl ⟨by rfl, ?_⟩) (by assumption) ?_
  rotate_left 1
  ·(intro w0 hSw; (try dsimp only at hSw); go_simp; try with_reducible rfl)
  try simp only [Act.put, setIfInBounds_toArray, set_cons_zero, set_cons_succ, getElem_toArray, getElem_cons_zero, getElem_cons_succ]
  refine wpAnyH_take (i := 9) (v := undef) rfl (by kernel_rfl) (by kernel_rfl) (by kernel_rfl) (fun _ _ _ h => h) (Or.inr ⟨by rfl, rfl⟩) (by assumption) ?_
  try simp only [Act.put, setIfInBounds_toArray, set_cons_zero, set_cons_succ, getElem_toArray, getElem_cons_zero, getElem_cons_succ]
  refine wpAnyH_take (i := 10) (v := undef) rfl (by kernel_rfl) (by kernel_rfl) (by kernel_rfl) (fun _ _ _ h => h) (Or.inr ⟨by rfl, rfl⟩) (by assumption) ?_
  try simp only [Act.put, setIfInBounds_toArray, set_cons_zero, set_cons_succ, getElem_toArray, getElem_cons_zero, getElem_cons_succ]
  refine wpAnyH_take (i := 11) (v := undef) rfl (by kernel_rfl) (by kernel_rfl) (by kernel_rfl) (fun _ _ _ h => h) (Or.inr ⟨by rfl, rfl⟩) (by assumption) ?_
  try simp only [Act.put, setIfInBounds_toArray, set_cons_zero, set_cons_succ, getElem_toArray, getElem_cons_zero, getElem_cons_succ]
  refine wpAnyH_take (i := 12) (v := undef) rfl (by kernel_rfl) (by kernel_rfl) (by kernel_rfl) (fun _ _ _ h => h) (Or.inr ⟨by rfl, rfl⟩) (by assumption) ?_
  try simp only [Act.put, setIfInBounds_toArray, set_cons_zero, set_cons_succ, getElem_toArray, getElem_cons_zero, getElem_cons_succ]
  refine wpAnyH_take (i := 13) (v := undef) rfl (by kernel_rfl) (by kernel_rfl) (by kernel_rfl) (fun _ _ _ h => h) (Or.inr ⟨by rfl, rfl⟩) (by assumption) ?_
  try simp only [Act.put, setIfInBounds_toArray, set_cons_zero, set_cons_succ, getElem_toArray, getElem_cons_zero, getElem_cons_succ]
  refine wpAnyH_take (i := 14) (v := undef) rfl (by kernel_rfl) (by kernel_rfl) (by kernel_rfl) (fun _ _ _ h => h) (Or.inr ⟨by rfl, rfl⟩) (by assumption) ?_
  try simp only [Act.put, setIfInBounds_toArray, set_cons_zero, set_cons_succ, getElem_toArray, getElem_cons_zero, getElem_cons_succ]
  refine wpAnyH_take (i := 15) (v := undef) rfl (by kernel_rfl) (by kernel_rfl) (by kernel_rfl) (fun _ _ _ h => h) (Or.inr ⟨by rfl, rfl⟩) (by assumption) ?_
  try simp only [Act.put, setIfInBounds_toArray, set_cons_zero, set_cons_succ, getElem_toArray, getElem_cons_zero, getElem_cons_succ]
  refine wpAnyH_take (i := 16) (v := ?_) rfl (by kernel_rfl) (by kernel_rfl) (by kernel_rfl) (fun _ _ _ h => h) (Or.inl ⟨by rfl, ?_⟩) (by assumption) ?_
  rotate_left 1
  ·(intro w0 hSw; (try dsimp only at hSw); go_simp; try with_reducible rfl)
  try simp only [Act.put, setIfInBounds_toArray, set_cons_zero, set_cons_succ, getElem_toArray, getElem_cons_zero, getElem_cons_succ]
  refine wpAnyH_take (i := 17) (v := ?_) rfl (by kernel_rfl) (by kernel_rfl) (by kernel_rfl) (fun _ _ _ h => h) (Or.inl ⟨by rfl, ?_⟩) (by assumption) ?_
  rotate_left 1
  ·(intro w0 hSw; (try dsimp only at hSw); go_simp; try with_reducible rfl)
  try simp only [Act.put, setIfInBounds_toArray, set_cons_zero, set_cons_succ, getElem_toArray, getElem_cons_zero, getElem_cons_succ]
  refine wpAnyH_done (by kernel_rfl) ?_ _
  have F := hid (ansB (b := variantB sg a b) (a := false) (by rw [variant_a HS.out]) (next_trans bel bb))
  go_wp2
  go_ret
  exact F.out
 | true =>
  have HS := hid hok
  clear hok
  cases hok2 : termOkB sg b with
  | false =>
   have HS2 := hid hok2
   clear hok2
   go_enter Try.func14, Try.ntmps14
   go_wp2_with fail
   rw [← HW.out]
   refine wp_region_held_drew (S := (fun w' => w'.cell? ⟨w.heap.size, 0, none⟩ = some (.slice A n c))) (by kernel_rfl) cA (fun hHeld => ?_)
   refine wpAnyH_take (i := 0) (v := ?_) rfl (by kernel_rfl) (by kernel_rfl) (by kernel_rfl) (fun _ _ _ h => h) (Or.inl ⟨by rfl, ?_⟩) (by assumption) ?_
   rotate_left 1
   ·(intro w0 hSw; (try dsimp only at hSw); go_simp; try with_reducible rfl)
   try simp only [Act.put, setIfInBounds_toArray, set_cons_zero, set_cons_succ, getElem_toArray, getElem_cons_zero, getElem_cons_succ]
   refine wpAnyH_take (i := 1) (v := ?_) rfl (by kernel_rfl) (by kernel_rfl) (by kernel_rfl) (fun _ _ _ h => h) (Or.inl ⟨by rfl, ?_⟩) (by assumption) ?_
   rotate_left 1
   ·(intro w0 hSw; (try dsimp only at hSw); go_simp; try with_reducible rfl)
   try simp only [Act.put, setIfInBounds_toArray, set_cons_zero, set_cons_succ, getElem_toArray, getElem_cons_zero, getElem_cons_succ]
   refine wpAnyH_ready (rs := [2]) (by kernel_rfl) (by simp) (AllReadyH.cons rfl (fun K hK => ?_) AllReadyH.nil)
   go_simp
   refine L.out.mono ?_; rintro e w1 ⟨he, bb⟩; rw [HS.out] at he; subst he; have t0 := s.next bb; have t1 := s1.next bb; have t2 := s2.next bb; have tr := rA.next bb; have tb := next_trans bel bb; have c1 : w1.cell? ⟨w.heap.size, 0, none⟩ = some (.slice A n c) := tr.cell 0; clear s s1 s2 rA bel bb L; go_wp2_with fail
   refine hK.out _ _ ?_ (fun hHeld => ?_)
   ·first | assumption | (dsimp only; assumption)
   clear hK K
   try simp only [Act.put, setIfInBounds_toArray, set_cons_zero, set_cons_succ, getElem_toArray, getElem_cons_zero, getElem_cons_succ]
   refine wpAnyH_take (i := 3) (v := ?_) rfl (by kernel_rfl) (by kernel_rfl) (by kernel_rfl) (fun _ _ _ h => h) (Or.inl ⟨by rfl, ?_⟩) (by assumption) ?_
   rotate_left 1
   ·(intro w0 hSw; (try dsimp only at hSw); go_simp; try with_reducible rfl)
   try simp only [Act.put, setIfInBounds_toArray, set_cons_zero, set_cons_succ, getElem_toArray, getElem_cons_zero, getElem_cons_succ]
   refine wpAnyH_take (i := 4) (v := ?_) rfl (by kernel_rfl) (by kernel_rfl) (by kernel_rfl) (fun _ _ _ h => h) (Or.inl ⟨by rfl, ?_⟩) (by assumption) ?_
   rotate_left 1
   ·(intro w0 hSw; (try dsimp only at hSw); go_simp; try with_reducible rfl)
   try simp only [Act.put, setIfInBounds_toArray, set_cons_zero, set_cons_succ, getElem_toArray, getElem_cons_zero, getElem_cons_succ]
   refine wpAnyH_take (i := 5) (v := ?_) rfl (by kernel_rfl) (by kernel_rfl) (by kernel_rfl) (fun _ _ _ h => h) (Or.inl ⟨by rfl, ?_⟩) (by assumption) ?_
   rotate_left 1
   ·(intro w0 hSw; (try dsimp only at hSw); go_simp; try with_reducible rfl)
   try simp only [Act.put, setIfInBounds_toArray, set_cons_zero, set_cons_succ, getElem_toArray, getElem_cons_zero, getElem_cons_succ]
   refine wpAnyH_ready (rs := [6]) (by kernel_rfl) (by simp) (AllReadyH.cons rfl (fun K hK => ?_) AllReadyH.nil)
   go_simp
   refine (implTermOk A B' n c q cq sg b w1 t0 t2 hn hq).mono ?_; rintro e w2 ⟨he, bb2⟩; rw [HS2.out] at he; subst he; have u0 := t0.next bb2; have u1 := t1.next bb2; have u2 := t2.next bb2; have ur := tr.next bb2; have ub := next_trans tb bb2; have c2 : w2.cell? ⟨w.heap.size, 0, none⟩ = some (.slice A n c) := ur.cell 0; clear t0 t1 t2 tr tb bb2; go_wp2_with fail
   refine hK.out _ _ ?_ (fun hHeld => ?_)
   ·first | assumption | (dsimp only; assumption)
   clear hK K
   try simp only [Act.put, setIfInBounds_toArray, set_cons_zero, set_cons_succ, getElem_toArray, getElem_cons_zero, getElem_cons_succ]
   refine wpAnyH_take (i := 7) (v := ?_) rfl (by kernel_rfl) (by kernel_rfl) (by kernel_rfl) (fun _ _ _ h => h) (Or.inl ⟨by rfl, ?_⟩) (by assumption) ?_
   rotate_left 1
   ·(intro w0 hSw; (try dsimp only at hSw); go_simp; try with_reducible rfl)
   try simp only [Act.put, setIfInBounds_toArray, set_cons_zero, set_cons_succ, getElem_toArray, getElem_cons_zero, getElem_cons_succ]
   refine wpAnyH_take (i := 8) (v := ?_) rfl (by kernel_rfl) (by kernel_rfl) (by kernel_rfl) (fun _ _ _ h => h) (Or.inl ⟨by rfl, ?_⟩) (by assumption) ?_
   rotate_left 1
   ·(intro w0 hSw; (try dsimp only at hSw); go_simp; try with_reducible rfl)
   try simp only [Act.put, setIfInBounds_toArray, set_cons_zero, set_cons_succ, getElem_toArray, getElem_cons_zero, getElem_cons_succ]
   refine wpAnyH_take (i := 9) (v := undef) rfl (by kernel_rfl) (by kernel_rfl) (by kernel_rfl) (fun _ _ _ h => h) (Or.inr ⟨by rfl, rfl⟩) (by assumption) ?_
   try simp only [Act.put, setIfInBounds_toArray, set_cons_zero, set_cons_succ, getElem_toArray, getElem_cons_zero, getElem_cons_succ]
   refine wpAnyH_take (i := 10) (v := undef) rfl (by kernel_rfl) (by kernel_rfl) (by kernel_rfl) (fun _ _ _ h => h) (Or.inr ⟨by rfl, rfl⟩) (by assumption) ?_
   try simp only [Act.put, setIfInBounds_toArray, set_cons_zero, set_cons_succ, getElem_toArray, getElem_cons_zero, getElem_cons_succ]
   refine wpAnyH_take (i := 11) (v := undef) rfl (by kernel_rfl) (by kernel_rfl) (by kernel_rfl) (fun _ _ _ h => h) (Or.inr ⟨by rfl, rfl⟩) (by assumption) ?_
   try simp only [Act.put, setIfInBounds_toArray, set_cons_zero, set_cons_succ, getElem_toArray, getElem_cons_zero, getElem_cons_succ]
   refine wpAnyH_take (i := 12) (v := undef) rfl (by kernel_rfl) (by kernel_rfl) (by kernel_rfl) (fun _ _ _ h => h) (Or.inr ⟨by rfl, rfl⟩) (by assumption) ?_
   try simp only [Act.put, setIfInBounds_toArray, set_cons_zero, set_cons_succ, getElem_toArray, getElem_cons_zero, getElem_cons_succ]
   refine wpAnyH_take (i := 13) (v := undef) rfl (by kernel_rfl) (by kernel_rfl) (by kernel_rfl) (fun _ _ _ h => h) (Or.inr ⟨by rfl, rfl⟩) (by assumption) ?_
   try simp only [Act.put, setIfInBounds_toArray, set_cons_zero, set_cons_succ, getElem_toArray, getElem_cons_zero, getElem_cons_succ]
   refine wpAnyH_take (i := 14) (v := undef) rfl (by kernel_rfl) (by kernel_rfl) (by kernel_rfl) (fun _ _ _ h => h) (Or.inr ⟨by rfl, rfl⟩) (by assumption) ?_
   try simp only [Act.put, setIfInBounds_toArray, set_cons_zero, set_cons_succ, getElem_toArray, getElem_cons_zero, getElem_cons_succ]
   refine wpAnyH_take (i := 15) (v := undef) rfl (by kernel_rfl) (by kernel_rfl) (by kernel_rfl) (fun _ _ _ h => h) (Or.inr ⟨by rfl, rfl⟩) (by assumption) ?_
   try simp only [Act.put, setIfInBounds_toArray, set_cons_zero, set_cons_succ, getElem_toArray, getElem_cons_zero, getElem_cons_succ]
   refine wpAnyH_take (i := 16) (v := ?_) rfl (by kernel_rfl) (by kernel_rfl) (by kernel_rfl) (fun _ _ _ h => h) (Or.inl ⟨by rfl, ?_⟩) (by assumption) ?_
   rotate_left 1
   ·(intro w0 hSw; (try dsimp only at hSw); go_simp; try with_reducible rfl)
   try simp only [Act.put, setIfInBounds_toArray, set_cons_zero, set_cons_succ, getElem_toArray, getElem_cons_zero, getElem_cons_succ]
   refine wpAnyH_take (i := 17) (v := ?_) rfl (by kernel_rfl) (by kernel_rfl) (by kernel_rfl) (fun _ _ _ h => h) (Or.inl ⟨by rfl, ?_⟩) (by assumption) ?_
   rotate_left 1
   ·(intro w0 hSw; (try dsimp only at hSw); go_simp; try with_reducible rfl)
   try simp only [Act.put, setIfInBounds_toArray, set_cons_zero, set_cons_succ, getElem_toArray, getElem_cons_zero, getElem_cons_succ]
   refine wpAnyH_done (by kernel_rfl) ?_ _
   have F := hid (ansB (b := variantB sg a b) (a := false) (by rw [variant_b HS2.out]) ub)
   go_wp2
   go_ret
   exact F.out
  | true =>
   have HS2 := hid hok2
   clear hok2
   obtain ⟨z, hz⟩ : ∃ z, variantB sg a b = z := ⟨_, rfl⟩
   rw [hz]
   have EQ := hid (show decide (renI sg a = renI sg b) = z by rw [← hz, variant_ab HS.out HS2.out]; unfold renI; rw [if_pos HS.out, if_pos HS2.out])
   clear hz
   go_enter Try.func14, Try.ntmps14
   go_wp2_with fail
   rw [← HW.out]
   refine wp_region_held_drew (S := (fun w' => w'.cell? ⟨w.heap.size, 0, none⟩ = some (.slice A n c))) (by kernel_rfl) cA (fun hHeld => ?_)
   refine wpAnyH_take (i := 0) (v := ?_) rfl (by kernel_rfl) (by kernel_rfl) (by kernel_rfl) (fun _ _ _ h => h) (Or.inl ⟨by rfl, ?_⟩) (by assumption) ?_
   rotate_left 1
   ·(intro w0 hSw; (try dsimp only at hSw); go_simp; try with_reducible rfl)
   try simp only [Act.put, setIfInBounds_toArray, set_cons_zero, set_cons_succ, getElem_toArray, getElem_cons_zero, getElem_cons_succ]
   refine wpAnyH_take (i := 1) (v := ?_) rfl (by kernel_rfl) (by kernel_rfl) (by kernel_rfl) (fun _ _ _ h => h) (Or.inl ⟨by rfl, ?_⟩) (by assumption) ?_
   rotate_left 1
   ·(intro w0 hSw; (try dsimp only at hSw); go_simp; try with_reducible rfl)
   try simp only [Act.put, setIfInBounds_toArray, set_cons_zero, set_cons_succ, getElem_toArray, getElem_cons_zero, getElem_cons_succ]
   refine wpAnyH_ready (rs := [2]) (by kernel_rfl) (by simp) (AllReadyH.cons rfl (fun K hK => ?_) AllReadyH.nil)
   go_simp
   refine L.out.mono ?_; rintro e w1 ⟨he, bb⟩; rw [HS.out] at he; subst he; have t0 := s.next bb; have t1 := s1.next bb; have t2 := s2.next bb; have tr := rA.next bb; have tb := next_trans bel bb; have c1 : w1.cell? ⟨w.heap.size, 0, none⟩ = some (.slice A n c) := tr.cell 0; clear s s1 s2 rA bel bb L; go_wp2_with fail
   refine hK.out _ _ ?_ (fun hHeld => ?_)
   ·first | assumption | (dsimp only; assumption)
   clear hK K
   try simp only [Act.put, setIfInBounds_toArray, set_cons_zero, set_cons_succ, getElem_toArray, getElem_cons_zero, getElem_cons_succ]
   refine wpAnyH_take (i := 3) (v := ?_) rfl (by kernel_rfl) (by kernel_rfl) (by kernel_rfl) (fun _ _ _ h => h) (Or.inl ⟨by rfl, ?_⟩) (by assumption) ?_
   rotate_left 1
   ·(intro w0 hSw; (try dsimp only at hSw); go_simp; try with_reducible rfl)
   try simp only [Act.put, setIfInBounds_toArray, set_cons_zero, set_cons_succ, getElem_toArray, getElem_cons_zero, getElem_cons_succ]
   refine wpAnyH_take (i := 4) (v := ?_) rfl (by kernel_rfl) (by kernel_rfl) (by kernel_rfl) (fun _ _ _ h => h) (Or.inl ⟨by rfl, ?_⟩) (by assumption) ?_
   rotate_left 1
   ·(intro w0 hSw; (try dsimp only at hSw); go_simp; try with_reducible rfl)
   try simp only [Act.put, setIfInBounds_toArray, set_cons_zero, set_cons_succ, getElem_toArray, getElem_cons_zero, getElem_cons_succ]
   refine wpAnyH_take (i := 5) (v := ?_) rfl (by kernel_rfl) (by kernel_rfl) (by kernel_rfl) (fun _ _ _ h => h) (Or.inl ⟨by rfl, ?_⟩) (by assumption) ?_
   rotate_left 1
   ·(intro w0 hSw; (try dsimp only at hSw); go_simp; try with_reducible rfl)
   try simp only [Act.put, setIfInBounds_toArray, set_cons_zero, set_cons_succ, getElem_toArray, getElem_cons_zero, getElem_cons_succ]
   refine wpAnyH_ready (rs := [6]) (by kernel_rfl) (by simp) (AllReadyH.cons rfl (fun K hK => ?_) AllReadyH.nil)
   go_simp
   refine (implTermOk A B' n c q cq sg b w1 t0 t2 hn hq).mono ?_; rintro e w2 ⟨he, bb2⟩; rw [HS2.out] at he; subst he; have u0 := t0.next bb2; have u1 := t1.next bb2; have u2 := t2.next bb2; have ur := tr.next bb2; have ub := next_trans tb bb2; have c2 : w2.cell? ⟨w.heap.size, 0, none⟩ = some (.slice A n c) := ur.cell 0; clear t0 t1 t2 tr tb bb2; go_wp2_with fail
   refine hK.out _ _ ?_ (fun hHeld => ?_)
   ·first | assumption | (dsimp only; assumption)
   clear hK K
   try simp only [Act.put, setIfInBounds_toArray, set_cons_zero, set_cons_succ, getElem_toArray, getElem_cons_zero, getElem_cons_succ]
   refine wpAnyH_take (i := 7) (v := ?_) rfl (by kernel_rfl) (by kernel_rfl) (by kernel_rfl) (fun _ _ _ h => h) (Or.inl ⟨by rfl, ?_⟩) (by assumption) ?_
   rotate_left 1
   ·(intro w0 hSw; (try dsimp only at hSw); go_simp; try with_reducible rfl)
   try simp only [Act.put, setIfInBounds_toArray, set_cons_zero, set_cons_succ, getElem_toArray, getElem_cons_zero, getElem_cons_succ]
   refine wpAnyH_take (i := 8) (v := ?_) rfl (by kernel_rfl) (by kernel_rfl) (by kernel_rfl) (fun _ _ _ h => h) (Or.inl ⟨by rfl, ?_⟩) (by assumption) ?_
   rotate_left 1
   ·(intro w0 hSw; (try dsimp only at hSw); go_simp; try with_reducible rfl)
   try simp only [Act.put, setIfInBounds_toArray, set_cons_zero, set_cons_succ, getElem_toArray, getElem_cons_zero, getElem_cons_succ]
   refine wpAnyH_take (i := 9) (v := ?_) rfl (by kernel_rfl) (by kernel_rfl) (by kernel_rfl) (fun _ _ _ h => h) (Or.inl ⟨by rfl, ?_⟩) (by assumption) ?_
   rotate_left 1
   ·(intro w0 hSw; (try dsimp only at hSw); go_simp; try with_reducible rfl)
   try simp only [Act.put, setIfInBounds_toArray, set_cons_zero, set_cons_succ, getElem_toArray, getElem_cons_zero, getElem_cons_succ]
   refine wpAnyH_take (i := 10) (v := ?_) rfl (by kernel_rfl) (by kernel_rfl) (by kernel_rfl) (fun _ _ _ h => h) (Or.inl ⟨by rfl, ?_⟩) (by assumption) ?_
   rotate_left 1
   ·(intro w0 hSw; (try dsimp only at hSw); go_simp; try with_reducible rfl)
   try simp only [Act.put, setIfInBounds_toArray, set_cons_zero, set_cons_succ, getElem_toArray, getElem_cons_zero, getElem_cons_succ]
   refine wpAnyH_take (i := 12) (v := ?_) rfl (by kernel_rfl) (by kernel_rfl) (by kernel_rfl) (fun _ _ _ h => h) (Or.inl ⟨by rfl, ?_⟩) (by assumption) ?_
   rotate_left 1
   ·(intro w0 hSw; (try dsimp only at hSw); go_simp; try with_reducible rfl)
   try simp only [Act.put, setIfInBounds_toArray, set_cons_zero, set_cons_succ, getElem_toArray, getElem_cons_zero, getElem_cons_succ]
   refine wpAnyH_take (i := 13) (v := ?_) rfl (by kernel_rfl) (by kernel_rfl) (by kernel_rfl) (fun _ _ _ h => h) (Or.inl ⟨by rfl, ?_⟩) (by assumption) ?_
   rotate_left 1
   ·(intro w0 hSw; (try dsimp only at hSw); go_simp; try with_reducible rfl)
   try simp only [Act.put, setIfInBounds_toArray, set_cons_zero, set_cons_succ, getElem_toArray, getElem_cons_zero, getElem_cons_succ]
   refine wpAnyH_ready (rs := [11]) (by kernel_rfl) (by simp) (AllReadyH.cons rfl (fun K hK => ?_) AllReadyH.nil)
   go_simp
   refine (implRenamed A A' n c m c' sg a w2 u0 u1 hn hm).mono ?_; rintro e w3 ⟨X, xn, xc, rfl, ox, bb3⟩; have v0 := u0.next bb3; have v2 := u2.next bb3; have vr := ur.next bb3; have vb := next_trans ub bb3; have c3 : w3.cell? ⟨w.heap.size, 0, none⟩ = some (.slice A n c) := vr.cell 0; clear u0 u1 u2 ur ub bb3; go_wp2_with fail
   refine hK.out _ _ ?_ (fun hHeld => ?_)
   ·first | assumption | (dsimp only; assumption)
   clear hK K
   try simp only [Act.put, setIfInBounds_toArray, set_cons_zero, set_cons_succ, getElem_toArray, getElem_cons_zero, getElem_cons_succ]
   refine wpAnyH_ready (rs := [14]) (by kernel_rfl) (by simp) (AllReadyH.cons rfl (fun K hK => ?_) AllReadyH.nil)
   go_simp
   refine (implRenamed A B' n c q cq sg b w3 v0 v2 hn hq).mono ?_; rintro e w4 ⟨Y, yn, yc, rfl, oy, bb4⟩; have ox4 := ox.next bb4; have zr := vr.next bb4; have zb := next_trans vb bb4; have c4 : w4.cell? ⟨w.heap.size, 0, none⟩ = some (.slice A n c) := zr.cell 0; have hxn : xn ≤ 1048576 := (by rw [Own.len ox]; exact renI_len H1.out hm); have hyn : yn ≤ 1048576 := (by rw [Own.len oy]; exact renI_len H2.out hq); clear v0 v2 vr vb bb4 ox; go_wp2_with fail
   refine hK.out _ _ ?_ (fun hHeld => ?_)
   ·first | assumption | (dsimp only; assumption)
   clear hK K
   try simp only [Act.put, setIfInBounds_toArray, set_cons_zero, set_cons_succ, getElem_toArray, getElem_cons_zero, getElem_cons_succ]
   refine wpAnyH_ready (rs := [15]) (by kernel_rfl) (by simp) (AllReadyH.cons rfl (fun K hK => ?_) AllReadyH.nil)
   go_simp
   refine (implSame X Y xn yn xc yc (renI sg a) (renI sg b) w4 (Own.seg ox4) (Own.seg oy) hxn hyn).mono ?_; rintro e w5 ⟨he, d, rfl⟩; rw [EQ.out] at he; subst he; have c5 : (w4.drewN d).cell? ⟨w.heap.size, 0, none⟩ = some (.slice A n c) := (zr.drewN d).cell 0; go_wp2_with fail
   refine hK.out _ _ ?_ (fun hHeld => ?_)
   ·first | assumption | (dsimp only; assumption)
   clear hK K
   try simp only [Act.put, setIfInBounds_toArray, set_cons_zero, set_cons_succ, getElem_toArray, getElem_cons_zero, getElem_cons_succ]
   refine wpAnyH_take (i := 16) (v := ?_) rfl (by kernel_rfl) (by kernel_rfl) (by kernel_rfl) (fun _ _ _ h => h) (Or.inl ⟨by rfl, ?_⟩) (by assumption) ?_
   rotate_left 1
   ·(intro w0 hSw; (try dsimp only at hSw); go_simp; try with_reducible rfl)
   try simp only [Act.put, setIfInBounds_toArray, set_cons_zero, set_cons_succ, getElem_toArray, getElem_cons_zero, getElem_cons_succ]
   refine wpAnyH_take (i := 17) (v := ?_) rfl (by kernel_rfl) (by kernel_rfl) (by kernel_rfl) (fun _ _ _ h => h) (Or.inl ⟨by rfl, ?_⟩) (by assumption) ?_
   rotate_left 1
   ·(intro w0 hSw; (try dsimp only at hSw); go_simp; try with_reducible rfl)
   try simp only [Act.put, setIfInBounds_toArray, set_cons_zero, set_cons_succ, getElem_toArray, getElem_cons_zero, getElem_cons_succ]
   refine wpAnyH_done (by kernel_rfl) ?_ _
   have F := hid (ansB (b := z) (a := z) rfl (below_drewN zb d))
   clear ox4 oy zb zr c4 c5
   go_wp2
   go_ret
   exact F.out
end variant
end
section
namespace bigs
open Go.RowKit base ints
theorem bigAns (A : Option Addr) (n c : Nat) (b : Bool) (w : World) (hb : decide (4096 < n) = b) (hn : n ≤ 9223372036854775807) : Calls Try.prog 11 #[.slice A n c] w fun e w' => w = w' ∧ e = .returned (.bool b) := by
 cases b with
 | true =>
  have h : (4096 : Int) < (n : Int) := by have := of_decide_eq_true hb; omega
  clear hb
  go_enter Try.func11, Try.ntmps11
  go_wp2
  go_ret
  exact ⟨rfl, rfl⟩
 | false =>
  have h : ¬ (4096 : Int) < (n : Int) := by have := of_decide_eq_false hb; omega
  have h2 : decide (4096 < n) = false := hb
  clear hb
  go_enter Try.func11, Try.ntmps11
  go_wp2
  go_ret
  exact ⟨rfl, rfl⟩
end bigs
end
section
open Go.Lib (hid)
namespace wFnRenamed
open Go.RowKit base ints sig same term cursor termOk marks app sym dice drawVar varsMath varsOf renMath rename renImpl renFacts linear variant bigs
structure R3 (w : World) (v : Nat) (S : Option Addr) (sn sc : Nat) (sg : List Int) (O : Option Addr) (on : Nat) (xs : List Int) (Q : Option Addr) (qn : Nat) (ys : List Int) (wr : World) : Prop where
 s : Seg wr wr.heap.size S sn sg
 o : Seg wr wr.heap.size O on xs
 q : Seg wr wr.heap.size Q qn ys
 r : Row wr v 26 #[.slice S sn sc]
 bel : Below w.heap.size w wr
section
variable {w : World} {v : Nat} {S : Option Addr} {sn sc : Nat} {sg : List Int} {O : Option Addr} {on : Nat} {xs : List Int} {Q : Option Addr} {qn : Nat} {ys : List Int} {wr w' : World}
theorem R3.next (t : R3 w v S sn sc sg O on xs Q qn ys wr) (hb : Below wr.heap.size wr w') : R3 w v S sn sc sg O on xs Q qn ys w' := ⟨t.s.next hb, t.o.next hb, t.q.next hb, t.r.next hb, next_trans t.bel hb⟩
theorem drewN_below (w : World) (d : Nat) : Below w.heap.size w (w.drewN d) := ⟨rfl, rfl, rfl, Nat.le_refl _, fun _ _ => rfl⟩
theorem drew_below (w : World) : Below w.heap.size w w.drew := ⟨rfl, rfl, rfl, Nat.le_refl _, fun _ _ => rfl⟩
end
def HeadV (vn : Nat) (i : Value) : Prop := ∃ k : Nat, k ≤ vn ∧ i = .int .i64 k
set_option maxRecDepth 100000 in
set_option maxHeartbeats 8000000 in
theorem law (A : Option Addr) (n c : Nat) (_ : List Int) (w : World) (h : SegB w w.heap.size A n) (hN : n ≤ 9223372036854775807) :
  Calls Try.prog 3 #[.slice A n c] w (Fine w) := by
 by_cases hbig : n ≤ 4096
 ·have LB := hid (bigAns A n c false w (by simp; omega) hN)
  go_enter Try.func3, Try.ntmps3
  go_wp2_with fail
  refine LB.out.mono ?_
  rintro e w' ⟨rfl, rfl⟩
  clear LB
  go_wp2_with fail
  refine (drawVariantIn A n c w h hbig).mono ?_
  rintro e w2 ⟨S, sn, sc, sg, O, on, oc, xs, Q, qn, qc, ys, rfl, ss, so, sq, hsn, hon, hqn, b2⟩
  clear h
  obtain ⟨v, hv⟩ : ∃ v, w2.heap.size = v := ⟨_, rfl⟩
  obtain ⟨W, hW⟩ : ∃ W, W = w2.alloc (.cells #[.slice S sn sc] 26) := ⟨_, rfl⟩
  have T : R3 w v S sn sc sg O on xs Q qn ys W := by
   have bb : Below w2.heap.size w2 W := by rw [hW]; exact (Below.refl _ _).alloc (Nat.le_refl _) _
   exact ⟨ss.next bb, so.next bb, sq.next bb, by rw [hW, ← hv]; exact Row.new _ _ _, next_trans b2 bb⟩
  have HW := hid hW
  have HV := hid hv
  have HX := hid so.1
  have HY := hid sq.1
  clear ss so sq b2 hW hv
  have cV : W.cell? ⟨v, 0, none⟩ = some (.slice S sn sc) := T.r.cell 0
  obtain ⟨zs, hzs⟩ : ∃ zs, renI sg xs = zs := ⟨_, rfl⟩
  obtain ⟨us, hus⟩ : ∃ us, renI sg ys = us := ⟨_, rfl⟩
  obtain ⟨b, hb⟩ : ∃ b, variantB sg xs ys = b := ⟨_, rfl⟩
  have HZ := hid hzs
  have HU := hid hus
  have HB := hid hb
  have hzl : zs.length ≤ 65 := by rw [← hzs]; unfold renI; split; (rw [ren_len, HX.out]; exact hon); simp
  have hul : us.length ≤ 65 := by rw [← hus]; unfold renI; split; (rw [ren_len, HY.out]; exact hqn); simp
  have HBB := hid (show (b != b) = false by simp)
  clear hzs hus hb
  go_wp2_with fail
  rw [← HW.out, HV.out]
  refine (implRenamed S O sn sc on oc sg xs _ T.s T.o (by omega) (by omega)).mono ?_
  rintro e w3 ⟨X, xn, xc, rfl, ox, bb⟩
  rw [HZ.out] at ox
  have sx := Own.seg ox
  have hxn : xn ≤ 65 := by rw [Own.len ox]; exact hzl
  replace T := T.next bb
  clear bb ox
  replace cV : w3.cell? ⟨v, 0, none⟩ = some (.slice S sn sc) := T.r.cell 0
  go_wp2_with fail
  refine (implRenamed S Q sn sc qn qc sg ys _ T.s T.q (by omega) (by omega)).mono ?_
  rintro e w4 ⟨Y, yn, yc, rfl, oy, bb⟩
  rw [HU.out] at oy
  have sy := Own.seg oy
  have hyn : yn ≤ 65 := by rw [Own.len oy]; exact hul
  replace T := T.next bb
  replace sx := sx.next bb
  clear bb oy
  replace cV : w4.cell? ⟨v, 0, none⟩ = some (.slice S sn sc) := T.r.cell 0
  go_wp2_with fail
  refine (implVariantIn S O Q sn sc on oc qn qc sg xs ys _ T.s T.o T.q (by omega) (by omega) (by omega)).mono ?_
  rintro e w5 ⟨he, bb⟩
  rw [HB.out] at he
  subst he
  replace T := T.next bb
  replace sx := sx.next bb
  replace sy := sy.next bb
  clear bb
  replace cV : w5.cell? ⟨v, 0, none⟩ = some (.slice S sn sc) := T.r.cell 0
  go_wp2_with fail
  refine (specVariantIn S O Q sn sc on oc qn qc sg xs ys _ T.s T.o T.q (by omega) (by omega) (by omega)).mono ?_
  rintro e w6 ⟨he, bb⟩
  rw [HB.out] at he
  subst he
  replace T := T.next bb
  replace sx := sx.next bb
  replace sy := sy.next bb
  clear bb
  replace cV : w6.cell? ⟨v, 0, none⟩ = some (.slice S sn sc) := T.r.cell 0
  have ebb := HBB.out
  go_wp2_with fail
  refine (specRenamed S O sn sc on oc sg xs _ T.s T.o (by omega) (by omega)).mono ?_
  rintro e w7 ⟨P, pn, pc, rfl, sp, bb⟩
  rw [HZ.out] at sp
  have hpn : pn ≤ 65 := by rw [← sp.1]; exact hzl
  replace T := T.next bb
  replace sx := sx.next bb
  replace sy := sy.next bb
  clear bb
  replace cV : w7.cell? ⟨v, 0, none⟩ = some (.slice S sn sc) := T.r.cell 0
  go_wp2_with fail
  refine (implSame X P xn pn xc pc zs zs _ sx sp (by omega) (by omega)).mono ?_
  rintro e w8 ⟨he, d1, rfl⟩
  rw [decide_eq_true rfl] at he
  subst he
  have bb := drewN_below w7 d1
  replace T := T.next bb
  replace sx := sx.next bb
  replace sy := sy.next bb
  clear bb sp cV ebb
  generalize w7.drewN d1 = w8 at *
  have cV : w8.cell? ⟨v, 0, none⟩ = some (.slice S sn sc) := T.r.cell 0
  cases hok : termOkB sg xs with
  | false =>
   have HOK := hid hok
   have hb0 : b = false := by rw [← HB.out]; exact variant_a hok
   subst hb0
   clear hok
   go_wp2_with fail
   refine (specTermOk S O sn sc on oc sg xs _ T.s T.o (by omega) (by omega)).mono ?_
   rintro e w9 ⟨he, bb⟩
   rw [HOK.out] at he
   subst he
   have TB := hid (T.next bb).bel
   clear bb cV T sx sy
   go_wp2
   go_ret
   exact ⟨rfl, TB.out⟩
  | true =>
   have HOK := hid hok
   go_wp2_with fail
   refine (specTermOk S O sn sc on oc sg xs _ T.s T.o (by omega) (by omega)).mono ?_
   rintro e w9 ⟨he, bb⟩
   rw [HOK.out] at he
   subst he
   replace T := T.next bb
   replace sx := sx.next bb
   replace sy := sy.next bb
   clear bb
   replace cV : w9.cell? ⟨v, 0, none⟩ = some (.slice S sn sc) := T.r.cell 0
   cases hok2 : termOkB sg ys with
   | false =>
    have HOK2 := hid hok2
    have hb0 : b = false := by rw [← HB.out]; exact variant_b hok2
    subst hb0
    clear hok2 hok
    go_wp2_with fail
    refine (specTermOk S Q sn sc qn qc sg ys _ T.s T.q (by omega) (by omega)).mono ?_
    rintro e w10 ⟨he, bb⟩
    rw [HOK2.out] at he
    subst he
    have TB := hid (T.next bb).bel
    clear bb cV T sx sy
    go_wp2
    go_ret
    exact ⟨rfl, TB.out⟩
   | true =>
    have HOK2 := hid hok2
    have hz : zs = renL xs := by rw [← HZ.out]; unfold renI; rw [if_pos hok]
    have hu : us = renL ys := by rw [← HU.out]; unfold renI; rw [if_pos hok2]
    have F := ren_facts hok
    rw [← hz] at F
    have HZV := hid (show varsI sg zs = vars zs by unfold varsI; rw [if_pos F.1])
    have HVA := hid (show variantB sg zs xs = true by rw [variant_ab F.1 hok, F.2.1, hz]; simp)
    have HB2 := hid (show b = decide (zs = us) by rw [← HB.out, variant_ab hok hok2, hz, hu])
    have HL1 := hid (show linearB sg zs = linB xs by unfold linearB; rw [F.1, F.2.2.1]; simp)
    have HL2 := hid (show linearB sg xs = linB xs by unfold linearB; rw [hok]; simp)
    have HG := hid (show groundB sg zs = decide ((vars zs).length = 0) by unfold groundB; rw [F.1]; simp)
    have HF := hid F.2.2.2
    clear F hz hu hok hok2
    go_wp2_with fail
    refine (specTermOk S Q sn sc qn qc sg ys _ T.s T.q (by omega) (by omega)).mono ?_
    rintro e w10 ⟨he, bb⟩
    rw [HOK2.out] at he
    subst he
    replace T := T.next bb
    replace sx := sx.next bb
    replace sy := sy.next bb
    clear bb
    replace cV : w10.cell? ⟨v, 0, none⟩ = some (.slice S sn sc) := T.r.cell 0
    go_wp2_with fail
    refine (implVarsOf S X sn sc xn xc sg zs _ T.s sx (by omega) (by omega)).mono ?_
    rintro e w11 ⟨V, vn, vc, rfl, ov, bb⟩
    rw [HZV.out] at ov
    have sv := Own.seg ov
    have hvl := Own.len ov
    have HVN := hid hvl
    replace T := T.next bb
    replace sx := sx.next bb
    replace sy := sy.next bb
    have hv65 : vn ≤ 65 := by have := vars_len zs; have := sx.1; omega
    clear bb ov hvl
    replace cV : w11.cell? ⟨v, 0, none⟩ = some (.slice S sn sc) := T.r.cell 0
    go_wp2_with fail
    go_loop [10] (fun i => HeadV vn i) (fun i => vn - (intOf i).toNat)
    case atStart => exact ⟨0, Nat.zero_le _, rfl⟩
    case round =>
     obtain ⟨k, hk, rfl⟩ := hrel
     by_cases hlt : k < vn
     ·obtain ⟨bv, off, y, rfl, -, hy, ey⟩ := sv.spot hlt
      have hyk : y = (k : Int) := by rw [← ey.out]; exact HF.out k (by rw [← HVN.out]; exact hlt)
      subst hyk
      have e1 : ((k : Int) != (k : Int)) = false := by simp
      have S1 := hid (show HeadV vn (.int .i64 ((k : Int) + 1)) from ⟨k + 1, hlt, by simp⟩)
      clear ey sv sx sy T
      go_wp2
      go_round
      case rel => exact S1.out
      case measure => simp [intOf]; omega
     ·have hkv : k = vn := by omega
      obtain ⟨lv, hlv⟩ : ∃ lv, linB xs = lv := ⟨_, rfl⟩
      have HLV := hid hlv
      obtain ⟨g, hg⟩ : ∃ g, decide ((vn : Int) = 0) = g := ⟨_, rfl⟩
      have HG2 := hid (show groundB sg zs = g by rw [HG.out, ← hg, ← HVN.out]; simp)
      have hg0 : ((vn : Int) == 0) = g := by rw [← hg]; exact rfl
      have egg : (g == g) = true := by simp
      have ell : (lv == lv) = true := by simp
      have ebb : (b == b) = true := by simp
      have T1 := T.next (drew_below w11)
      have sx1 := sx.next (drew_below w11)
      have sy1 := sy.next (drew_below w11)
      clear hlv hg sv T sx sy hkv
      go_wp2_with fail
      go_region_held3 (fun w' => w'.cell? ⟨v, 0, none⟩ = some (.slice S sn sc))
       (go_keep)
       (first
        | (go_at_call 14; refine (implVariantIn S X O sn sc xn xc on oc sg zs xs _ T1.s sx1 T1.o (by omega) (by omega) (by omega)).mono ?_; rintro e w12 ⟨he, bb⟩; rw [HVA.out] at he; subst he; replace T1 := T1.next bb; replace sx1 := sx1.next bb; replace sy1 := sy1.next bb; clear bb; replace cV : w12.cell? ⟨v, 0, none⟩ = some (.slice S sn sc) := T1.r.cell 0)
        | (go_at_call 16; refine (implSame X Y xn yn xc yc zs us _ sx1 sy1 (by omega) (by omega)).mono ?_; rintro e w13 ⟨he, d1, hw⟩; rw [← HB2.out] at he; subst he; have bb := hw ▸ drewN_below _ d1; replace T1 := T1.next bb; replace sx1 := sx1.next bb; clear bb hw sy1; replace cV : w13.cell? ⟨v, 0, none⟩ = some (.slice S sn sc) := T1.r.cell 0)
        | (go_at_call 20; refine (implLinearIn S X sn sc xn xc sg zs _ T1.s sx1 (by omega) (by omega)).mono ?_; rintro e w14 ⟨he, bb⟩; rw [HL1.out, HLV.out] at he; subst he; replace T1 := T1.next bb; replace sx1 := sx1.next bb; clear bb; replace cV : w14.cell? ⟨v, 0, none⟩ = some (.slice S sn sc) := T1.r.cell 0)
        | (go_at_call 21; refine (specLinearIn S O sn sc on oc sg xs _ T1.s T1.o (by omega) (by omega)).mono ?_; rintro e w15 ⟨he, bb⟩; rw [HL2.out, HLV.out] at he; subst he; replace T1 := T1.next bb; replace sx1 := sx1.next bb; clear bb; replace cV : w15.cell? ⟨v, 0, none⟩ = some (.slice S sn sc) := T1.r.cell 0)
        | (go_at_call 22; refine (implGroundIn S X sn sc xn xc sg zs _ T1.s sx1 (by omega) (by omega)).mono ?_; rintro e w16 ⟨he, bb⟩; rw [HG2.out] at he; subst he; replace T1 := T1.next bb; replace sx1 := sx1.next bb; clear bb; replace cV : w16.cell? ⟨v, 0, none⟩ = some (.slice S sn sc) := T1.r.cell 0))
      have TB := hid T1.bel
      clear T1 sx1 cV
      go_wp2
      go_ret
      exact ⟨rfl, TB.out⟩
 ·have LB := hid (bigAns A n c true w (by simp; omega) hN)
  clear h
  go_enter Try.func3, Try.ntmps3
  go_wp2_with fail
  refine LB.out.mono ?_
  rintro e w' ⟨rfl, rfl⟩
  clear LB
  go_wp2
  go_ret
  exact ⟨rfl, Below.refl _ _⟩
end wFnRenamed
end
end Go.Proofs.Ytfclafbdbdmlhaa
