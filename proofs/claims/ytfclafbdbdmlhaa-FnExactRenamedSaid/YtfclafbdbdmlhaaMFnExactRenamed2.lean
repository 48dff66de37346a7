/-
  MERGED: my texts RenImpl, WRenamed, one behind the other, as they are. By an AI agent.
-/
import Derived.Test.YtfclafbdbdmlhaaMFnExactRenamed1
import Derived.Deep.RegionHeld3
namespace Go.Proofs.Ytfclafbdbdmlhaa
section
open Go.Lib (hid)
namespace renImpl
open Go.RowKit base ints sig cursor term termOk marks app appAt sym segs termFacts varsMath fillMath Go.Proofs.Ytfclafbdbdmlhaa.look renMath rename
set_option maxRecDepth 100000
def vn (n : Int) : Int := -1 - n
theorem vn_inj : ∀ a b : Int, vn a = vn b → a = b := fun a b h => by unfold vn at h; omega
structure Side (p : Nat) (r : Option Nat) (a b : World) : Prop where
 os : b.os = a.os
 tape : b.tape = a.tape
 output : b.output = a.output
 size : a.heap.size ≤ b.heap.size
 block : ∀ k, k < a.heap.size → k ≠ p → some k ≠ r → b.heap[k]? = a.heap[k]?
section
variable {p : Nat} {r : Option Nat} {a b c : World}
theorem Side.of_below (h : Below a.heap.size a b) : Side p r a b := ⟨h.os, h.tape, h.output, h.size, fun k hk _ _ => h.block k hk⟩
theorem Side.of_grown (h : a.grownBy b r) : Side p r a b := ⟨h.os, h.tape, h.output, h.size, fun k hk _ hr => h.block k hk hr⟩
theorem Side.of_var (h : a.grownBy b (some p)) : Side p r a b := ⟨h.os, h.tape, h.output, h.size, fun k hk hp _ => h.block k hk (fun e => by injection e with e; exact hp e)⟩
theorem Side.trans (h : Side p r a b) (k : Side p r b c) : Side p r a c :=
 ⟨k.os.trans h.os, k.tape.trans h.tape, k.output.trans h.output, Nat.le_trans h.size k.size, fun i hi hp hr => (k.block i (Nat.lt_of_lt_of_le hi h.size) hp hr).trans (h.block i hi hp hr)⟩
theorem Side.below (h : Side p r a b) (hr : ∀ k, r = some k → p ≤ k) (hp : p ≤ a.heap.size) : Below p a b :=
 ⟨h.os, h.tape, h.output, h.size, fun k hk => h.block k (by omega) (by omega) (fun e => by have := hr k e.symm; omega)⟩
theorem Own.side {base n cc : Nat} {O : Option Addr} {xs : List Int} {cs : Array Value} (h : Own a base (.slice O n cc) xs) (hs : Side p r a b) (hv : Row a p 24 cs) (hne : blk O = none ∨ blk O ≠ r) : Own b base (.slice O n cc) xs := by
 obtain ⟨q1, q2⟩ := h
 refine ⟨q1, ?_⟩
 rcases q2 with q2 | ⟨g, cap, cur, e, hg, hh, rest⟩
 ·exact .inl q2
 ·refine .inr ⟨g, cap, cur, e, hg, ?_, rest⟩
  have hlt : g < a.heap.size := (Array.getElem?_eq_some_iff.1 hh).1
  have hb : blk O = some g := by rw [← blk_own O n cc, e]; rfl
  have hgp : g ≠ p := Row.ne_ (t := 2) (t' := 24) hh hv (by decide)
  exact (hs.block g hlt hgp (by rw [hb] at hne; rcases hne with h | h; cases h; exact h)).trans hh
end
theorem own_ne {w : World} {base B n c : Nat} {S : Option Addr} {xs : List Int} {cs : Array Value} (h : Own w base (.slice S n c) xs) (hr : Row w B 24 cs) : blk S ≠ some B := by
 have hl := Own.len h
 rcases own_form (n := n) (vs := xs.map (Value.int .i64)) (by rw [hl]; rw [hl] at h; exact h) with ⟨rfl, _⟩ | ⟨g, cur, rfl, _, hrow, _⟩
 ·intro e; cases e
 ·intro e
  have e2 : g = B := Option.some.inj e
  exact Row.ne_ hr hrow (by decide) e2.symm
theorem one_seg (w : World) (y : Int) : Seg (w.alloc (.cells #[.int .i64 y] 2)) (w.alloc (.cells #[.int .i64 y] 2)).heap.size (some ⟨w.heap.size, 0, none⟩) 1 [y] :=
 (Row.new w 2 #[.int .i64 y]).seg rfl (by simp) (fun j hj => by
  have e : j = 0 := by omega
  subst e
  rfl)
def AnsRen (W : World) (B : Nat) (S : Option Addr) (o : List Int) (x : Int) (e : Ending) (w' : World) : Prop :=
 ∃ A c S' sn' sc', e = .returned (.slice A 1 c) ∧ Seg w' w'.heap.size A 1 [-1 - (idx (ext o x) x : Int)] ∧ (A = none → c = 0) ∧ Row w' B 24 #[.slice S' sn' sc'] ∧
  Own w' (B + 1) (.slice S' sn' sc') ((ext o x).map vn) ∧ (blk S' = blk S ∨ ∃ k, blk S' = some k ∧ W.heap.size ≤ k) ∧ Side B (blk S) W w'
set_option maxHeartbeats 4000000 in
theorem ren1 (B : Nat) (S : Option Addr) (sn sc : Nat) (o : List Int) (x : Int) (W : World) (hr : Row W B 24 #[.slice S sn sc]) (ho : Own W (B + 1) (.slice S sn sc) (o.map vn)) (hx0 : -24 ≤ x) (hx1 : x < 0) (hsn : sn ≤ 1000) :
  Calls Try.prog 105 #[.int .i64 (-1 - x), .pointer (some ⟨B, 0, none⟩)] W (AnsRen W B S o x) := by
 have hl := Own.len ho
 simp only [List.length_map] at hl
 have hlt := hr.lt
 have cB : W.cell? ⟨B, 0, none⟩ = some (.slice S sn sc) := hr.cell 0
 have fB : W.frozen? ⟨B, 0, none⟩ = false := hr.free 0
 have LI := hid (indexOf S sn sc (o.map vn) (-1 - x) W (Own.seg ho) (by omega))
 by_cases hin : x ∈ o
 ·have hi : idx o x < o.length := idx_lt hin
  obtain ⟨q, hq⟩ : ∃ q, idx o x = q := ⟨_, rfl⟩
  have EI := hid (show indexI (o.map vn) (-1 - x) = (q : Int) by
   unfold indexI
   rw [show (-1 - x : Int) = vn x from rfl, if_pos ((mem_map_inj vn_inj).2 hin), idx_map vn_inj, hq])
  have EX := hid (show ext o x = o by unfold ext; rw [if_pos hin])
  have LV := hid (varTerm (q : Int) W (by omega) (by omega))
  have HQ := hid hq
  have hq60 : q ≤ 1000 := by omega
  have HR := hid hr
  have HO := hid ho
  clear hin hi hq hl hr ho
  go_enter Try.func105, Try.ntmps105
  go_wp2_with fail
  refine LI.out.mono ?_
  rintro e w' ⟨rfl, he⟩
  rw [EI.out] at he
  subst he
  clear LI
  go_wp2_with fail
  refine LV.out.mono ?_
  rintro e w1 ⟨A, n, c, rfl, oq, bb⟩
  have hn1 := Own.len oq
  simp only [List.length_cons, List.length_nil] at hn1
  subst hn1
  have F : AnsRen W B S o x (.returned (.slice A 1 c)) w1 :=
   ⟨A, c, S, sn, sc, rfl, by rw [EX.out, HQ.out]; exact Own.seg oq, (own_cap oq).2.2, HR.out.next bb, by rw [EX.out]; exact HO.out.next bb, .inl rfl, Side.of_below bb⟩
  have HF := hid F
  clear F oq bb LV cB fB
  go_wp2
  go_ret
  exact HF.out
 ·have EI := hid (show indexI (o.map vn) (-1 - x) = -1 by
   unfold indexI
   rw [show (-1 - x : Int) = vn x from rfl, if_neg (fun h => hin ((mem_map_inj vn_inj).1 h))])
  have EX := hid (show (ext o x).map vn = o.map vn ++ [-1 - x] by unfold ext; rw [if_neg hin, List.map_append]; rfl)
  have EQ := hid (show idx (ext o x) x = sn by unfold ext; rw [if_neg hin, idx_app_new hin, hl])
  have hne := own_ne ho hr
  have hr1 := hr.alloc (.cells #[.int .i64 (-1 - x)] 2)
  have ho1 := Own.alloc ho (.cells #[.int .i64 (-1 - x)] 2)
  have HNE := hid hne
  have HN := hid hl
  clear hin hl hr ho hne
  go_enter Try.func105, Try.ntmps105
  go_wp2_with fail
  refine LI.out.mono ?_
  rintro e w' ⟨rfl, he⟩
  rw [EI.out] at he
  subst he
  clear LI
  go_wp2_with (first
   | (at_builtin; refine appAllAt rfl _ _ rfl (B + 1) S sn sc (o.map vn) rfl ho1 (some ⟨W.heap.size, 0, none⟩) 1 1 (W.heap.size + 1) [-1 - x] rfl (by simpa using one_seg W (-1 - x)) (by omega) (by omega) (by omega) (by simp; omega) ?_; intro S' sc' w2 ho2 hg hat; have r2 := Row.away hr1 hg HNE.out; have cB2 : w2.cell? ⟨B, 0, none⟩ = some (.slice S sn sc) := r2.cell 0; have fB2 : w2.frozen? ⟨B, 0, none⟩ = false := r2.free 0)
   | (go_at_call 107; refine (varTerm (sn : Int) _ (by omega) (by omega)).mono ?_; rintro e w3 ⟨A, n, c, rfl, oq, bb⟩))
  have hn1 := Own.len oq
  simp only [List.length_cons, List.length_nil] at hn1
  subst hn1
  have r3 := r2.put 0 (.slice S' (sn + 1) sc')
  have hg3 : w2.grownBy (w2.setCell ⟨B, 0, none⟩ (.slice S' (sn + 1) sc')) (some B) := grown_put (World.grownBy.refl _ _) _ _
  have o3 := Own.far ho2 hg3 (fun k hk => by injection hk; omega)
  have sd : Side B (blk S) W w3 := (((Side.of_below ((Below.refl _ _).alloc (Nat.le_refl _) _)).trans (Side.of_grown hg)).trans (Side.of_var hg3)).trans (Side.of_below bb)
  have F : AnsRen W B S o x (.returned (.slice A 1 c)) w3 := by
   refine ⟨A, c, S', sn + 1, sc', rfl, by rw [EQ.out]; exact Own.seg oq, (own_cap oq).2.2, r3.next bb, by rw [EX.out]; exact o3.next bb, ?_, sd⟩
   rcases hat with h | h
   ·exact .inl h
   ·exact .inr ⟨_, h, by simp⟩
  have HF := hid F
  clear F oq bb r3 hg3 o3 sd hat hg ho2 r2 cB2 fB2 cB fB hr1 ho1
  go_wp2
  go_ret
  exact HF.out
theorem ne_flip {a b : Option Nat} (h : a = none ∨ a ≠ b) : b = none ∨ b ≠ a := by
 cases b with
 | none => exact .inl rfl
 | some k =>
  right
  rintro rfl
  rcases h with h | h
  ·cases h
  ·exact h rfl
theorem blk_lt {w : World} {base : Nat} {A : Option Addr} {n c : Nat} {xs : List Int} (h : Own w base (.slice A n c) xs) : ∀ k, blk A = some k → base ≤ k ∧ k < w.heap.size := fun k hk => World.ownsRow.lt h k (by rw [blk_own]; exact hk)
theorem ne_new {w : World} {base : Nat} {S : Option Addr} {n c : Nat} {xs : List Int} {a : Option Nat} (h : Own w base (.slice S n c) xs) (q : Nat) (hq : w.heap.size ≤ q) (ha : a = some q) : a = none ∨ a ≠ blk S := by
 right
 rintro rfl
 have := (blk_lt h q ha).2
 omega
def ordF (o t : List Int) : List Int := t.foldl extV o
theorem ordF_take {o t : List Int} {k : Nat} {x : Int} (hk : k < t.length) (hx : t.getD k 0 = x) : ordF o (t.take (k + 1)) = extV (ordF o (t.take k)) x := by
 unfold ordF
 rw [take_snoc hk hx, List.foldl_append]
 rfl
theorem ordF_len (o t : List Int) : (ordF o t).length ≤ o.length + t.length := fold_ext_len t o
def renF (o t : List Int) : List Int := t.map (ren (ordF o t))
theorem renF_take {o t : List Int} {k : Nat} {x : Int} (hk : k < t.length) (hx : t.getD k 0 = x) : renF o (t.take (k + 1)) = renF o (t.take k) ++ [ren (extV (ordF o (t.take k)) x) x] := by
 unfold renF
 rw [ordF_take hk hx, take_snoc hk hx, List.map_append]
 congr 1
 refine List.map_congr_left fun n hn => ren_ext fun h0 => ?_
 exact fold_ext_mem.2 (.inl ⟨hn, h0⟩)
theorem Side.on {B : Nat} {r r' : Option Nat} {a b c : World} (h : Side B r a b) (hr : r' = r ∨ ∃ k, r' = some k ∧ a.heap.size ≤ k) (k : Side B r' b c) : Side B r a c :=
 ⟨k.os.trans h.os, k.tape.trans h.tape, k.output.trans h.output, Nat.le_trans h.size k.size, fun i hi hp hne => (k.block i (Nat.lt_of_lt_of_le hi h.size) hp (fun e => by
  rcases hr with e2 | ⟨q, e2, hq⟩
  ·exact hne (by rw [e, e2])
  ·rw [e2] at e; injection e with e; omega)).trans (h.block i hi hp hne)⟩
theorem Side.grow {B : Nat} {r q : Option Nat} {a b c : World} (h : Side B r a b) (hg : b.grownBy c q) (hq : ∀ k, q = some k → a.heap.size ≤ k) : Side B r a c :=
 ⟨hg.os.trans h.os, hg.tape.trans h.tape, hg.output.trans h.output, Nat.le_trans h.size hg.size, fun i hi hp hne => (hg.block i (Nat.lt_of_lt_of_le hi h.size) (fun e => by have := hq i e.symm; omega)).trans (h.block i hi hp hne)⟩
theorem Side.allocs {B : Nat} {r : Option Nat} {a b : World} (h : Side B r a b) (o : Obj) : Side B r a (b.alloc o) :=
 ⟨h.os, h.tape, h.output, by have := h.size; simp; omega, fun i hi hp hne => (Below.heap_alloc b o i (Nat.lt_of_lt_of_le hi h.size)).trans (h.block i hi hp hne)⟩
def HeadRG (w : World) (B m : Nat) (o t : List Int) (S0 : Option Addr) (out i : Value) (wr : World) : Prop :=
 ∃ (k : Nat) (O : Option Addr) (on oc : Nat) (S : Option Addr) (sn sc : Nat), k ≤ m ∧ i = .int .i64 k ∧ out = .slice O on oc ∧ Own wr w.heap.size (.slice O on oc) (renF o (t.take k)) ∧ Row wr B 24 #[.slice S sn sc] ∧
  Own wr (B + 1) (.slice S sn sc) ((ordF o (t.take k)).map vn) ∧ (blk S = blk S0 ∨ ∃ q, blk S = some q ∧ w.heap.size ≤ q) ∧ (blk O = none ∨ blk O ≠ blk S) ∧ Side B (blk S0) w wr
def AnsRG (w : World) (B : Nat) (o t : List Int) (S0 : Option Addr) (e : Ending) (w' : World) : Prop :=
 ∃ O on oc S sn sc, e = .returned (.slice O on oc) ∧ Own w' w.heap.size (.slice O on oc) (renF o t) ∧ Row w' B 24 #[.slice S sn sc] ∧ Own w' (B + 1) (.slice S sn sc) ((ordF o t).map vn) ∧ (blk O = none ∨ blk O ≠ blk S) ∧ Side B (blk S0) w w'
set_option maxHeartbeats 4000000 in
theorem fillRen (B : Nat) (A : Option Addr) (m c : Nat) (o t : List Int) (S0 : Option Addr) (n0 c0 : Nat) (w : World) (hr : Row w B 24 #[.slice S0 n0 c0]) (hS : Own w (B + 1) (.slice S0 n0 c0) (o.map vn)) (h : Seg w B A m t) (hm : m ≤ 60) (ho : o.length ≤ 60) (hv : ∀ x ∈ t, -24 ≤ x) :
  Calls Try.prog 63 #[.func (.func 105) #[] #[.pointer (some ⟨B, 0, none⟩)], .slice A m c] w (AnsRG w B o t S0) := by
 have HL := hid h.1
 have HV := hid hv
 have hBw := hr.lt
 have HG := hid (fun k hk => (blk_lt hS k hk).1)
 have S1 : HeadRG w B m o t S0 (.slice none 0 0) (.int .i64 0) w := ⟨0, none, 0, 0, S0, n0, c0, Nat.zero_le _, rfl, rfl, by simpa [renF] using Own.nil w w.heap.size, hr, by simpa [ordF] using hS, .inl rfl, .inl rfl, Side.of_below (Below.refl _ _)⟩
 have HS0 := hid S1
 clear S1 hv hr hS
 go_enter Try.func63, Try.ntmps63
 go_wp2
 go_loopw [5, 10] (fun out i wr => HeadRG w B m o t S0 out i wr) (fun _ i _ => m - (intOf i).toNat)
 case atStart => exact HS0.out
 case round =>
  obtain ⟨k, O, on, oc, S, sn, sc, hk, rfl, rfl, hO, hr, hs, hat0, hne, hsd⟩ := hrel
  clear HS0
  have hon : on ≤ 60 := by rw [Own.len hO]; unfold renF; simp; omega
  have hsn : sn ≤ 1000 := by have h1 := Own.len hs; have h2 := ordF_len o (t.take k); simp at h1 h2; omega
  have hBlt := hr.lt
  have hwz := hsd.size
  by_cases hlt : k < m
  ·obtain ⟨b, off, x, rfl, hbb, hx, ex⟩ := h.spot hlt
   have hx1 : wr.cell? ⟨b, off + k, none⟩ = some (.int .i64 x) := by
    have hneS : some b ≠ blk S0 := fun e => by have := HG.out b e.symm; omega
    exact (World.cell?_of_block (hsd.block b (by omega) (by omega) hneS)).trans hx
   have hmem := mem_of_get (by rw [HL.out]; exact hlt) ex.out
   have hx24 : -24 ≤ x := HV.out x hmem
   have E := hid (renF_take (o := o) (t := t) (k := k) (by rw [HL.out]; exact hlt) ex.out)
   have EO := hid (ordF_take (o := o) (t := t) (k := k) (by rw [HL.out]; exact hlt) ex.out)
   clear hmem hx h ex
   by_cases hpos : 0 ≤ x
   ·have R := hid (show ren (extV (ordF o (t.take k)) x) x = x by unfold ren; rw [if_neg (by omega)])
    have R2 := hid (show extV (ordF o (t.take k)) x = ordF o (t.take k) by unfold extV; rw [if_neg (by omega)])
    have ho1 := Own.alloc hO (.cells #[.int .i64 x] 2)
    have hs1 := Own.alloc hs (.cells #[.int .i64 x] 2)
    have hr1 := hr.alloc (.cells #[.int .i64 x] 2)
    go_wp2_with (at_builtin; refine appAllAt rfl _ _ rfl w.heap.size O on oc (renF o (t.take k)) rfl ho1 (some ⟨wr.heap.size, 0, none⟩) 1 1 (wr.heap.size + 1) [x] rfl (by simpa using one_seg wr x) (by omega) (by omega) (by omega) (by simp; omega) ?_; intro O' oc' w2 ho2 hg hat)
    have S1 : HeadRG w B m o t S0 (.slice O' (on + 1) oc') (.int .i64 ((k : Int) + 1)) w2 := by
     refine ⟨k + 1, O', on + 1, oc', S, sn, sc, hlt, by simp, rfl, by rw [E.out, R.out]; exact ho2, Row.away hr1 hg (own_ne ho1 hr1), by rw [EO.out, R2.out]; exact Own.kept hs1 hg (ne_flip hne), hat0, ?_, ?_⟩
     ·rcases hat with h | h
      ·rw [h]; exact hne
      ·exact ne_new hs1 _ (Nat.le_refl _) h
     ·exact (hsd.allocs _).grow hg (fun q hq => (blk_lt hO q hq).1)
    have S := hid S1
    clear S1 ho2 hg hat ho1 hs1 hr1 hO hs hr hne hsd R R2 E EO hat0
    go_wp2
    go_roundw
    case rel => exact S.out
    case measure => simp [intOf]; omega
   ·have hneg : x < 0 := by omega
    have R := hid (show ren (extV (ordF o (t.take k)) x) x = -1 - (idx (ext (ordF o (t.take k)) x) x : Int) by unfold ren extV; rw [if_pos hneg, if_pos hneg])
    have R2 := hid (show extV (ordF o (t.take k)) x = ext (ordF o (t.take k)) x by unfold extV; rw [if_pos hneg])
    have L := hid (ren1 B S sn sc _ x wr hr hs hx24 hneg hsn)
    go_wp2_with (first
     | (go_at_call 105; refine L.out.mono ?_; rintro e w1 ⟨A1, c1, S1, sn1, sc1, rfl, s1, hc1, r1, os1, hat1, sd⟩; have ho1 := Own.side hO sd hr hne; have hz1 := sd.size; have hne1 : blk O = none ∨ blk O ≠ blk S1 := (by rcases hat1 with h | ⟨q, h, hq⟩; (rw [h]; exact hne); (rw [h]; exact (by cases e : blk O with | none => exact .inl rfl | some z => exact .inr (fun e2 => by injection e2 with e2; have := (blk_lt hO z e).2; omega)))))
     | (at_builtin; refine appAllAt rfl _ _ rfl w.heap.size O on oc (renF o (t.take k)) rfl ho1 A1 1 c1 w1.heap.size _ rfl s1 (by omega) (by omega) (by omega) (by omega) ?_; intro O' oc' w2 ho2 hg hat))
    have SS : HeadRG w B m o t S0 (.slice O' (on + 1) oc') (.int .i64 ((k : Int) + 1)) w2 := by
     refine ⟨k + 1, O', on + 1, oc', S1, sn1, sc1, hlt, by simp, rfl, by rw [E.out, R.out]; exact ho2, Row.away r1 hg (own_ne ho1 r1), by rw [EO.out, R2.out]; exact Own.kept os1 hg (ne_flip hne1), ?_, ?_, ?_⟩
     ·rcases hat1 with h | ⟨q, h, hq⟩
      ·rw [h]; exact hat0
      ·exact .inr ⟨q, h, by omega⟩
     ·rcases hat with h | h
      ·rw [h]; exact hne1
      ·exact ne_new os1 _ (Nat.le_refl _) h
     ·exact (hsd.on hat0 sd).grow hg (fun q hq => (blk_lt ho1 q hq).1)
    have HSS := hid SS
    clear SS ho2 hg hat ho1 s1 r1 os1 hat1 sd hne1 hO hs hr hne hsd R R2 E EO L hat0
    go_wp2
    go_roundw
    case rel => exact HSS.out
    case measure => simp [intOf]; omega
  ·rw [List.take_of_length_le (by rw [HL.out]; omega)] at hO hs
   have F : AnsRG w B o t S0 (.returned (.slice O on oc)) wr := ⟨O, on, oc, S, sn, sc, rfl, hO, hr, hs, hne, hsd⟩
   have HF := hid F
   clear F hO hs hr hne hsd h
   go_wp2
   go_ret
   exact HF.out
theorem renaming_ (w : World) : Calls Try.prog 62 #[] w fun e w' => e = .returned (.func (.func 105) #[] #[.pointer (some ⟨w.heap.size, 0, none⟩)]) ∧ w' = w.alloc (.cells #[.slice none 0 0] 24) := by
 have hmf : ∀ (fn : Fn) (first cap : Array Value) (w : World), (Instr.makeFunc fn first cap).run Try.prog w = .ok (.func fn first cap) w := fun _ _ _ _ => rfl
 go_enter Try.func62, Try.ntmps62
 go_wp2
 go_ret
 exact ⟨rfl, rfl⟩
set_option maxHeartbeats 4000000 in
theorem implRenamed (A A' : Option Addr) (n c m c' : Nat) (sg t : List Int) (w : World) (h : Seg w w.heap.size A n sg) (h' : Seg w w.heap.size A' m t) (hn : n ≤ 1048576) (hm : m ≤ 1048576) :
  Calls Try.prog 13 #[.agg #[.slice A n c], .slice A' m c'] w (AnsList w (renI sg t)) := by
 obtain ⟨W, hW⟩ : ∃ W, W = w.alloc (.cells #[.slice A n c] 26) := ⟨_, rfl⟩
 have bel : Below w.heap.size w W := by rw [hW]; exact (Below.refl _ _).alloc (Nat.le_refl _) _
 have s := (h.below bel).more bel.size
 have s' := (h'.below bel).more bel.size
 have HW := hid hW
 have HL := hid h'.1
 have L := hid (implTermOk A A' n c m c' sg t W s s' hn hm)
 clear hW h h' s
 cases hok : termOkB sg t with
 | false =>
  have HS := hid hok
  clear hok s'
  go_enter Try.func13, Try.ntmps13
  go_wp2_with fail
  rw [← HW.out]
  refine L.out.mono ?_
  rintro e w1 ⟨he, bb⟩
  rw [HS.out] at he
  subst he
  have F : AnsList w (renI sg t) (.returned (.slice none 0 0)) w1 := ⟨_, _, _, rfl, by unfold renI; rw [if_neg (by rw [HS.out]; simp)]; exact Own.nil _ _, next_trans bel bb⟩
  have HF := hid F
  clear F bb bel
  go_wp2
  go_ret
  exact HF.out
 | true =>
  have HS := hid hok
  have HV := hid (fun x hx => (term_mem (x := x) hok hx).1)
  have H60 : m ≤ 60 := by rw [← HL.out]; exact (term_len hok).2
  clear hok
  go_enter Try.func13, Try.ntmps13
  go_wp2_with fail
  rw [← HW.out]
  refine L.out.mono ?_
  rintro e w1 ⟨he, bb⟩
  rw [HS.out] at he
  subst he
  replace bel := next_trans bel bb
  have s1 := (s'.next bb)
  have s2 := s1.alloc (Nat.le_refl _) (.cells #[.slice none 0 0] 24)
  have hz := bel.size
  have L2 := hid (fillRen w1.heap.size A' m c' [] t none 0 0 _ (Row.new w1 24 #[.slice none 0 0]) (by simpa using Own.nil _ _) s2 H60 (by simp) HV.out)
  have LR := hid (renaming_ w1)
  clear bb L s' s1 s2
  go_wp2_with fail
  refine LR.out.mono ?_
  rintro e w2 ⟨rfl, rfl⟩
  go_wp2_with fail
  refine L2.out.mono ?_
  rintro e w3 ⟨O, on, oc, S, sn, sc, rfl, ho, -, -, -, sd⟩
  have F : AnsList w (renI sg t) (.returned (.slice O on oc)) w3 := ⟨O, on, oc, rfl, by unfold renI; rw [if_pos HS.out]; exact Own.lower ho (by simp; omega), (bel.alloc hz _).trans ((sd.below (fun k hk => by cases hk) (by simp)).mono hz)⟩
  have HF := hid F
  clear F ho sd bel L2 LR
  go_wp2
  go_ret
  exact HF.out
end renImpl
end
section
namespace wRenamed
open Go.RowKit base ints sig cursor marks app sym appAt segs segsHelp segsMark kinds term termOk varsOf renMath rename renImpl
set_option maxRecDepth 100000
set_option maxHeartbeats 8000000 in
theorem law (a0 : Option Addr) (n0 c0 : Nat) (xs0 : List Int) (a1 : Option Addr) (n1 c1 : Nat) (xs1 : List Int) (w : World) (s0 : Seg w w.heap.size a0 n0 xs0) (hN0 : n0 ≤ 9223372036854775807) (s1 : Seg w w.heap.size a1 n1 xs1) (hN1 : n1 ≤ 9223372036854775807) :
  Calls Try.prog 4 #[.agg #[.slice a0 n0 c0], .slice a1 n1 c1] w (Fine w) := by
 obtain ⟨W, hW⟩ : ∃ W, W = w.alloc (.cells #[.slice a0 n0 c0] 33) := ⟨_, rfl⟩
 have rA0 : Row W (w.heap.size) 33 #[.slice a0 n0 c0] := by rw [hW]; have := Row.new (w) 33 #[.slice a0 n0 c0]; simpa using this
 have bW : Below w.heap.size w W := by rw [hW]; exact (Below.refl w.heap.size w).alloc (by simp) (.cells #[.slice a0 n0 c0] 33)
 have zA0 := rA0.lt
 replace s0 := s0.next bW
 have Hl0 := Lib.hid s0.1
 replace s1 := s1.next bW
 have Hl1 := Lib.hid s1.1
 have HW := Lib.hid hW
 clear hW
 by_cases h1 : n1 ≤ 1048576
 case neg =>
  go_enter Try.func4, Try.ntmps4
  go_wp2_with fail
  rw [← HW.out]
  go_ret
  exact ⟨rfl, bW⟩
 go_enter Try.func4, Try.ntmps4
 go_wp2_with fail
 rw [← HW.out]
 clear HW
 have bel := Below.refl W.heap.size W
 have cA0 : W.cell? ⟨w.heap.size, 0, none⟩ = some (.slice a0 n0 c0) := (rA0.next bel).cell 0
 refine (szSig _ _ _ (1048576) _ hN0 (by omega) (by omega)).mono ?_
 rintro e w1 ⟨he, bb⟩
 replace bel := next_trans bel bb
 have zw1 := bb.size
 clear bb
 by_cases q0 : n0 ≤ 1048576
 case neg =>
  rw [if_pos (by omega)] at he
  subst he
  have F := Lib.hid (bW.trans (bel.mono bW.size))
  clear bel bW cA0
  go_wp2
  go_ret
  exact ⟨rfl, F.out⟩
 rw [if_neg (by omega)] at he
 subst he
 have h0 : n0 ≤ 1048576 := by omega
 clear cA0
 have cA0 : w1.cell? ⟨w.heap.size, 0, none⟩ = some (.slice a0 n0 c0) := (rA0.next bel).cell 0
 have hlen : (renI xs0 xs1).length ≤ 1048576 := renI_len (Hl1.out) h1
 obtain ⟨ys, hys⟩ : ∃ ys, renI xs0 xs1 = ys := ⟨_, rfl⟩
 rw [hys] at hlen
 have HY := Lib.hid hys
 clear hys
 replace hlen := Lib.hid hlen
 go_wp2_with fail
 refine (sigTo _ _ _ xs0 _ (s0.next bel) h0).mono ?_
 rintro e w2 ⟨gp0, rfl, op0, yp0, bb⟩
 replace bel := next_trans bel bb
 have zw2 := bb.size
 clear bb
 clear cA0
 have cA0 : w2.cell? ⟨w.heap.size, 0, none⟩ = some (.slice a0 n0 c0) := (rA0.next bel).cell 0
 go_wp2_with fail
 refine (intsTo _ _ _ xs1 _ (s1.next bel) h1).mono ?_
 rintro e w3 ⟨gp1, rfl, op1, yp1, bb⟩
 replace op0 := op0.next bb
 replace bel := next_trans bel bb
 have zw3 := bb.size
 clear bb
 clear cA0
 have cA0 : w3.cell? ⟨w.heap.size, 0, none⟩ = some (.slice a0 n0 c0) := (rA0.next bel).cell 0
 go_wp2_with fail
 refine (specRenamed _ _ _ _ _ _ xs0 xs1 _ op0.rd op1.rd h0 h1).mono ?_
 rintro e w4 ⟨A0, m0, d0, he, o0, bb⟩
 subst he
 replace op0 := op0.next bb
 replace op1 := op1.next bb
 replace bel := next_trans bel bb
 have zw4 := bb.size
 clear bb
 rw [HY.out] at o0
 have sw := o0
 clear o0
 clear op0 op1
 clear cA0
 have cA0 : w4.cell? ⟨w.heap.size, 0, none⟩ = some (.slice a0 n0 c0) := (rA0.next bel).cell 0
 obtain ⟨Aw, mw, dw, eA, em, ed⟩ : ∃ A m d, A = A0 ∧ m = m0 ∧ d = d0 := ⟨_, _, _, rfl, rfl, rfl⟩
 subst eA em ed
 have belw := Below.refl w4.heap.size w4
 clear cA0
 have cA0 : w4.cell? ⟨w.heap.size, 0, none⟩ = some (.slice a0 n0 c0) := (rA0.next bel).cell 0
 go_wp2_with fail
 refine (sigTo _ _ _ xs0 _ (s0.next bel) h0).mono ?_
 rintro e w5 ⟨gx0, rfl, ox0, yx0, bb⟩
 replace bel := next_trans bel bb
 replace belw := next_trans belw bb
 have zw5 := bb.size
 clear bb
 clear cA0
 have cA0 : w5.cell? ⟨w.heap.size, 0, none⟩ = some (.slice a0 n0 c0) := (rA0.next bel).cell 0
 go_wp2_with fail
 obtain ⟨w6, hw⟩ : ∃ W, W = w5.alloc (.cells #[.slice (some ⟨gx0, 0, none⟩) n0 n0] 26) := ⟨_, rfl⟩
 rw [← hw]
 have rx0 : Row w6 w5.heap.size 26 #[.slice (some ⟨gx0, 0, none⟩) n0 n0] := by rw [hw]; exact Row.new _ _ _
 have bb : Below w5.heap.size w5 w6 := by rw [hw]; exact (Below.refl _ _).alloc (Nat.le_refl _) _
 have yrx0 : w5.heap.size < w6.heap.size := by rw [hw]; simp
 clear hw
 replace ox0 := ox0.next bb
 replace bel := next_trans bel bb
 replace belw := next_trans belw bb
 have zw6 := bb.size
 clear bb
 clear cA0
 have cA0 : w6.cell? ⟨w.heap.size, 0, none⟩ = some (.slice a0 n0 c0) := (rA0.next bel).cell 0
 have cx0 : w6.cell? ⟨w5.heap.size, 0, none⟩ = some (.slice (some ⟨gx0, 0, none⟩) n0 n0) := (rx0).cell 0
 refine (intsTo _ _ _ xs1 _ (s1.next bel) h1).mono ?_
 rintro e w7 ⟨gx1, rfl, ox1, yx1, bb⟩
 replace ox0 := ox0.next bb
 replace rx0 := rx0.next bb
 replace bel := next_trans bel bb
 replace belw := next_trans belw bb
 have zw7 := bb.size
 clear bb
 clear cA0 cx0
 have cA0 : w7.cell? ⟨w.heap.size, 0, none⟩ = some (.slice a0 n0 c0) := (rA0.next bel).cell 0
 have cx0 : w7.cell? ⟨w5.heap.size, 0, none⟩ = some (.slice (some ⟨gx0, 0, none⟩) n0 n0) := (rx0).cell 0
 go_wp2_with fail
 refine (implRenamed _ _ _ _ _ _ xs0 xs1 _ ox0.rd ox1.rd h0 h1).mono ?_
 rintro e w8 ⟨A0, m0, d0, he, o0, bb⟩
 subst he
 replace ox0 := ox0.next bb
 replace rx0 := rx0.next bb
 replace ox1 := ox1.next bb
 replace bel := next_trans bel bb
 replace belw := next_trans belw bb
 have zw8 := bb.size
 clear bb
 rw [HY.out] at o0
 have og := Ownd.of_own o0
 clear o0
 obtain ⟨Ag, mg, dg, eA, em, ed⟩ : ∃ A m d, A = A0 ∧ m = m0 ∧ d = d0 := ⟨_, _, _, rfl, rfl, rfl⟩
 subst eA em ed
 clear cA0 cx0
 have cA0 : w8.cell? ⟨w.heap.size, 0, none⟩ = some (.slice a0 n0 c0) := (rA0.next bel).cell 0
 have cx0 : w8.cell? ⟨w5.heap.size, 0, none⟩ = some (.slice (some ⟨gx0, 0, none⟩) n0 n0) := (rx0).cell 0
 have hlenn : mg ≤ 1048576 := by rw [← og.rd.1]; exact hlen.out
 go_wp2_with fail
 refine (intsEq _ _ _ _ _ _ ys _ og.rd (sw.next belw) hlenn).mono ?_
 rintro e w9 ⟨rfl, bb⟩
 replace ox0 := ox0.next bb
 replace rx0 := rx0.next bb
 replace ox1 := ox1.next bb
 replace og := og.next bb
 replace bel := next_trans bel bb
 replace belw := next_trans belw bb
 have zw9 := bb.size
 clear bb
 clear cA0 cx0
 have cA0 : w9.cell? ⟨w.heap.size, 0, none⟩ = some (.slice a0 n0 c0) := (rA0.next bel).cell 0
 have cx0 : w9.cell? ⟨w5.heap.size, 0, none⟩ = some (.slice (some ⟨gx0, 0, none⟩) n0 n0) := (rx0).cell 0
 go_wp2_with fail
 replace ox0 := ox0.drew
 replace rx0 := rx0.drew
 replace ox1 := ox1.drew
 replace og := og.drew
 replace bel := bel.drew
 replace belw := belw.drew
 go_region_held3 (fun w' => w'.cell? ⟨w5.heap.size, 0, none⟩ = some (.slice (some ⟨gx0, 0, none⟩) n0 n0) ∧ w'.cell? ⟨w.heap.size, 0, none⟩ = some (.slice a0 n0 c0))
  (go_keep)
  (first
   | (go_at_call 24; refine (sigTo _ _ _ xs0 _ (s0.next bel) h0).mono ?_; rintro e w10 ⟨gt0, rfl, ot, yt0, bb⟩; replace ox0 := ox0.next bb; replace rx0 := rx0.next bb; replace ox1 := ox1.next bb; replace og := og.next bb; replace bel := next_trans bel bb; replace belw := next_trans belw bb; have k0w10 : w10.cell? ⟨w.heap.size, 0, none⟩ = some (.slice a0 n0 c0) := (rA0.next bel).cell 0; have l0w10 : w10.cell? ⟨w5.heap.size, 0, none⟩ = some (.slice (some ⟨gx0, 0, none⟩) n0 n0) := rx0.cell 0; have zqw10 := bb.size; clear bb)
   | (go_at_call 27; refine (sigEq _ _ _ _ _ _ xs0 _ ox0.rd ot.rd h0).mono ?_; rintro e w11 ⟨rfl, bb⟩; replace ox0 := ox0.next bb; replace rx0 := rx0.next bb; replace ox1 := ox1.next bb; replace og := og.next bb; replace bel := next_trans bel bb; replace belw := next_trans belw bb; have k0w11 : w11.cell? ⟨w.heap.size, 0, none⟩ = some (.slice a0 n0 c0) := (rA0.next bel).cell 0; have l0w11 : w11.cell? ⟨w5.heap.size, 0, none⟩ = some (.slice (some ⟨gx0, 0, none⟩) n0 n0) := rx0.cell 0; have zqw11 := bb.size; clear bb ot))
 clear k0w10 l0w10 k0w11 l0w11
 clear cA0 cx0
 have cA0 : w11.cell? ⟨w.heap.size, 0, none⟩ = some (.slice a0 n0 c0) := (rA0.next bel).cell 0
 have cx0 : w11.cell? ⟨w5.heap.size, 0, none⟩ = some (.slice (some ⟨gx0, 0, none⟩) n0 n0) := (rx0).cell 0
 go_wp2_with fail
 refine (intsTo _ _ _ xs1 _ (s1.next bel) h1).mono ?_
 rintro e w12 ⟨gt1, rfl, ot1, yt1, bb⟩
 replace ox0 := ox0.next bb
 replace rx0 := rx0.next bb
 replace ox1 := ox1.next bb
 replace og := og.next bb
 replace bel := next_trans bel bb
 replace belw := next_trans belw bb
 have zw12 := bb.size
 clear bb
 clear cA0 cx0
 have cA0 : w12.cell? ⟨w.heap.size, 0, none⟩ = some (.slice a0 n0 c0) := (rA0.next bel).cell 0
 have cx0 : w12.cell? ⟨w5.heap.size, 0, none⟩ = some (.slice (some ⟨gx0, 0, none⟩) n0 n0) := (rx0).cell 0
 go_wp2_with fail
 refine (intsEq _ _ _ _ _ _ xs1 _ ox1.rd ot1.rd h1).mono ?_
 rintro e w13 ⟨rfl, bb⟩
 replace ox0 := ox0.next bb
 replace rx0 := rx0.next bb
 replace ox1 := ox1.next bb
 replace og := og.next bb
 replace ot1 := ot1.next bb
 replace bel := next_trans bel bb
 replace belw := next_trans belw bb
 have zw13 := bb.size
 clear bb
 clear ot1
 clear cA0 cx0
 have cA0 : w13.cell? ⟨w.heap.size, 0, none⟩ = some (.slice a0 n0 c0) := (rA0.next bel).cell 0
 have cx0 : w13.cell? ⟨w5.heap.size, 0, none⟩ = some (.slice (some ⟨gx0, 0, none⟩) n0 n0) := (rx0).cell 0
 go_wp2_with fail
 refine (sigMark (w4.heap.size) (w5.heap.size) _ _ _ xs0 (1) _ ox0 h0 (by omega) (by omega)).mono ?_
 rintro e w14 ⟨he, -, bt⟩
 subst he
 clear ox0
 replace rx0 := Row.btw rx0 bt (by omega)
 replace ox1 := ox1.btw bt (by omega)
 replace og := og.btw bt (by omega)
 replace bel := Below.btw bel bt (by omega) bel.size
 replace belw := Below.btw belw bt (by omega) belw.size
 have zw14 := bt.size
 clear bt
 clear cA0 cx0
 have cA0 : w14.cell? ⟨w.heap.size, 0, none⟩ = some (.slice a0 n0 c0) := (rA0.next bel).cell 0
 have cx0 : w14.cell? ⟨w5.heap.size, 0, none⟩ = some (.slice (some ⟨gx0, 0, none⟩) n0 n0) := (rx0).cell 0
 go_wp2_with fail
 refine (intsMark (w6.heap.size) (w7.heap.size) _ _ _ xs1 (1 + (n0 : Int)) _ ox1 h1 (by omega) (by omega)).mono ?_
 rintro e w15 ⟨he, -, bt⟩
 subst he
 clear ox1
 replace rx0 := Row.btw rx0 bt (by omega)
 replace og := og.btw bt (by omega)
 replace bel := Below.btw bel bt (by omega) bel.size
 replace belw := Below.btw belw bt (by omega) belw.size
 have zw15 := bt.size
 clear bt
 clear cA0 cx0
 have cA0 : w15.cell? ⟨w.heap.size, 0, none⟩ = some (.slice a0 n0 c0) := (rA0.next bel).cell 0
 have cx0 : w15.cell? ⟨w5.heap.size, 0, none⟩ = some (.slice (some ⟨gx0, 0, none⟩) n0 n0) := (rx0).cell 0
 clear rx0
 clear cA0 cx0
 have cA0 : w15.cell? ⟨w.heap.size, 0, none⟩ = some (.slice a0 n0 c0) := (rA0.next bel).cell 0
 go_wp2_with fail
 refine (intsEq _ _ _ _ _ _ ys _ og.rd (sw.next belw) hlenn).mono ?_
 rintro e w16 ⟨rfl, bb⟩
 replace og := og.next bb
 replace bel := next_trans bel bb
 replace belw := next_trans belw bb
 have zw16 := bb.size
 clear bb
 clear cA0
 have cA0 : w16.cell? ⟨w.heap.size, 0, none⟩ = some (.slice a0 n0 c0) := (rA0.next bel).cell 0
 go_wp2_with fail
 refine (intsMark (w7.heap.size) (w8.heap.size) _ _ _ ys 1 _ og hlenn (by omega) (by omega)).mono ?_
 rintro e w17 ⟨he, om, bt⟩
 subst he
 clear og
 replace bel := Below.btw bel bt (by omega) bel.size
 replace belw := Below.btw belw bt (by omega) belw.size
 have zw17 := bt.size
 clear bt
 clear cA0
 have cA0 : w17.cell? ⟨w.heap.size, 0, none⟩ = some (.slice a0 n0 c0) := (rA0.next bel).cell 0
 go_wp2_with fail
 refine (intsHeld _ _ _ 1 _ om.rd hlenn (by omega) (by omega)).mono ?_
 rintro e w18 ⟨rfl, bb⟩
 replace om := om.next bb
 replace bel := next_trans bel bb
 replace belw := next_trans belw bb
 have zw18 := bb.size
 clear bb
 clear cA0
 have cA0 : w18.cell? ⟨w.heap.size, 0, none⟩ = some (.slice a0 n0 c0) := (rA0.next bel).cell 0
 go_wp2_with fail
 refine (sigTo _ _ _ xs0 _ (s0.next bel) h0).mono ?_
 rintro e w19 ⟨gp0, rfl, op0, yp0, bb⟩
 replace om := om.next bb
 replace bel := next_trans bel bb
 replace belw := next_trans belw bb
 have zw19 := bb.size
 clear bb
 clear cA0
 have cA0 : w19.cell? ⟨w.heap.size, 0, none⟩ = some (.slice a0 n0 c0) := (rA0.next bel).cell 0
 go_wp2_with fail
 refine (intsTo _ _ _ xs1 _ (s1.next bel) h1).mono ?_
 rintro e w20 ⟨gp1, rfl, op1, yp1, bb⟩
 replace om := om.next bb
 replace op0 := op0.next bb
 replace bel := next_trans bel bb
 replace belw := next_trans belw bb
 have zw20 := bb.size
 clear bb
 clear cA0
 have cA0 : w20.cell? ⟨w.heap.size, 0, none⟩ = some (.slice a0 n0 c0) := (rA0.next bel).cell 0
 go_wp2_with fail
 refine (implRenamed _ _ _ _ _ _ xs0 xs1 _ op0.rd op1.rd h0 h1).mono ?_
 rintro e w21 ⟨A0, m0, d0, he, o0, bb⟩
 subst he
 replace om := om.next bb
 replace op0 := op0.next bb
 replace op1 := op1.next bb
 replace bel := next_trans bel bb
 replace belw := next_trans belw bb
 have zw21 := bb.size
 clear bb
 rw [HY.out] at o0
 have sh := Own.seg o0
 clear o0
 clear op0 op1
 clear cA0
 have cA0 : w21.cell? ⟨w.heap.size, 0, none⟩ = some (.slice a0 n0 c0) := (rA0.next bel).cell 0
 obtain ⟨Ah, mh, dh, eA, em, ed⟩ : ∃ A m d, A = A0 ∧ m = m0 ∧ d = d0 := ⟨_, _, _, rfl, rfl, rfl⟩
 subst eA em ed
 have belh := Below.refl w21.heap.size w21
 clear cA0
 have cA0 : w21.cell? ⟨w.heap.size, 0, none⟩ = some (.slice a0 n0 c0) := (rA0.next bel).cell 0
 go_wp2_with fail
 refine (intsEq _ _ _ _ _ _ ys _ (sh.next belh) (sw.next belw) (by rw [← sh.1]; exact hlen.out)).mono ?_
 rintro e w22 ⟨rfl, bb⟩
 replace om := om.next bb
 replace bel := next_trans bel bb
 replace belw := next_trans belw bb
 replace belh := next_trans belh bb
 have zw22 := bb.size
 clear bb
 clear cA0
 have cA0 : w22.cell? ⟨w.heap.size, 0, none⟩ = some (.slice a0 n0 c0) := (rA0.next bel).cell 0
 go_wp2_with fail
 refine (intsHeld _ _ _ 1 _ om.rd hlenn (by omega) (by omega)).mono ?_
 rintro e w23 ⟨rfl, bb⟩
 replace om := om.next bb
 replace bel := next_trans bel bb
 replace belw := next_trans belw bb
 replace belh := next_trans belh bb
 have zw23 := bb.size
 clear bb
 clear cA0
 have cA0 : w23.cell? ⟨w.heap.size, 0, none⟩ = some (.slice a0 n0 c0) := (rA0.next bel).cell 0
 have F := Lib.hid (bW.trans (bel.mono bW.size))
 clear bel belw belh om bW cA0
 go_wp2
 go_ret
 exact ⟨rfl, F.out⟩
end wRenamed
end
end Go.Proofs.Ytfclafbdbdmlhaa
