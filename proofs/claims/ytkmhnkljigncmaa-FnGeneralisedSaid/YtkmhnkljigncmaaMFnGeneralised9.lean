/-
  MERGED: my texts RenImpl, Variant, MatchMost, MatchImpl, GenAll, Big, LawT, WFnGeneralised, one behind the other, as they are. By an AI agent.
-/
import Derived.Test.YtkmhnkljigncmaaMFnGeneralised8
import Derived.Deep.RegionHeld3
import Derived.Deep.WholeRow
import Derived.Deep.QuietTactic
import Derived.BigQuiet
section
/-
  CONTRACTS: impl.Renamed, its closure (which keeps a list of what it has seen in a variable of its caller), fill over that closure. Conditions: the slices read as lists ('Seg'), at most 1048576 numbers. By an AI agent.
-/
namespace Go.Proofs.Ytkmhnkljigncmaa.renImpl
open Go.RowKit Go.Proofs.Ytkmhnkljigncmaa.base Go.Proofs.Ytkmhnkljigncmaa.ints Go.Proofs.Ytkmhnkljigncmaa.sig Go.Proofs.Ytkmhnkljigncmaa.cursor Go.Proofs.Ytkmhnkljigncmaa.term Go.Proofs.Ytkmhnkljigncmaa.termOk Go.Proofs.Ytkmhnkljigncmaa.marks Go.Proofs.Ytkmhnkljigncmaa.app Go.Proofs.Ytkmhnkljigncmaa.appAt Go.Proofs.Ytkmhnkljigncmaa.sym Go.Proofs.Ytkmhnkljigncmaa.segs Go.Proofs.Ytkmhnkljigncmaa.termFacts Go.Proofs.Ytkmhnkljigncmaa.varsMath Go.Proofs.Ytkmhnkljigncmaa.fillMath Go.Proofs.Ytkmhnkljigncmaa.look Go.Proofs.Ytkmhnkljigncmaa.renMath Go.Proofs.Ytkmhnkljigncmaa.rename
set_option maxRecDepth 100000

/-- a number's variable -/
def vn (n : Int) : Int := -1 - n
theorem vn_inj : ∀ a b : Int, vn a = vn b → a = b := fun a b h => by unfold vn at h; omega

/-- only block p, row r and what is new have turned -/
structure Side (p : Nat) (r : Option Nat) (a b : World) : Prop where
  os : b.os = a.os
  tape : b.tape = a.tape
  output : b.output = a.output
  size : a.heap.size ≤ b.heap.size
  block : ∀ k, k < a.heap.size → k ≠ p → some k ≠ r → b.heap[k]? = a.heap[k]?
section
variable {p : Nat} {r : Option Nat} {a b c : World}
theorem Side.of_below (h : Below a.heap.size a b) : Side p r a b := ⟨h.os, h.tape, h.output, h.size, fun k hk _ _ => h.block k hk⟩
theorem Side.of_grown (h : a.grownBy b r) : Side p r a b := ⟨h.os, h.tape, h.output, h.size, fun k hk _ hr => h.block k hk hr⟩
theorem Side.of_var (h : a.grownBy b (some p)) : Side p r a b := ⟨h.os, h.tape, h.output, h.size, fun k hk hp _ => h.block k hk (fun e => by injection e with e; exact hp e)⟩
theorem Side.trans (h : Side p r a b) (k : Side p r b c) : Side p r a c :=
  ⟨k.os.trans h.os, k.tape.trans h.tape, k.output.trans h.output, Nat.le_trans h.size k.size, fun i hi hp hr => (k.block i (Nat.lt_of_lt_of_le hi h.size) hp hr).trans (h.block i hi hp hr)⟩
theorem Side.below (h : Side p r a b) (hr : ∀ k, r = some k → p ≤ k) (hp : p ≤ a.heap.size) : Below p a b :=
  ⟨h.os, h.tape, h.output, h.size, fun k hk => h.block k (by omega) (by omega) (fun e => by have := hr k e.symm; omega)⟩
/-- a slice of int64 in another row stays -/
theorem Own.side {base n cc : Nat} {O : Option Addr} {xs : List Int} {cs : Array Value} (h : Own a base (.slice O n cc) xs) (hs : Side p r a b) (hv : Row a p 24 cs) (hne : blk O = none ∨ blk O ≠ r) : Own b base (.slice O n cc) xs := by
  obtain ⟨q1, q2⟩ := h
  refine ⟨q1, ?_⟩
  rcases q2 with q2 | ⟨g, cap, cur, e, hg, hh, rest⟩
  · exact .inl q2
  · refine .inr ⟨g, cap, cur, e, hg, ?_, rest⟩
    have hlt : g < a.heap.size := (Array.getElem?_eq_some_iff.1 hh).1
    have hb : blk O = some g := by rw [← blk_own O n cc, e]; rfl
    have hgp : g ≠ p := Row.ne_ (t := 2) (t' := 24) hh hv (by decide)
    exact (hs.block g hlt hgp (by rw [hb] at hne; rcases hne with h | h; cases h; exact h)).trans hh
end

theorem own_ne {w : World} {base B n c : Nat} {S : Option Addr} {xs : List Int} {cs : Array Value} (h : Own w base (.slice S n c) xs) (hr : Row w B 24 cs) : blk S ≠ some B := by
  have hl := Own.len h
  rcases own_form (n := n) (vs := xs.map (Value.int .i64)) (by rw [hl]; rw [hl] at h; exact h) with ⟨rfl, _⟩ | ⟨g, cur, rfl, _, hrow, _⟩
  · intro e; cases e
  · intro e
    have e2 : g = B := Option.some.inj e
    exact Row.ne_ hr hrow (by decide) e2.symm
theorem one_seg (w : World) (y : Int) : Seg (w.alloc (.cells #[.int .i64 y] 2)) (w.alloc (.cells #[.int .i64 y] 2)).heap.size (some ⟨w.heap.size, 0, none⟩) 1 [y] :=
  (Row.new w 2 #[.int .i64 y]).seg rfl (by simp) (fun j hj => by
    have e : j = 0 := by omega
    subst e
    rfl)

/-- what the closure leaves -/
def AnsRen (W : World) (B : Nat) (S : Option Addr) (o : List Int) (x : Int) (e : Ending) (w' : World) : Prop :=
  ∃ A c S' sn' sc', e = .returned (.slice A 1 c) ∧ Seg w' w'.heap.size A 1 [-1 - (idx (ext o x) x : Int)] ∧ (A = none → c = 0) ∧ Row w' B 24 #[.slice S' sn' sc'] ∧
    Own w' (B + 1) (.slice S' sn' sc') ((ext o x).map vn) ∧ (blk S' = blk S ∨ ∃ k, blk S' = some k ∧ W.heap.size ≤ k) ∧ Side B (blk S) W w'

set_option maxHeartbeats 4000000 in
theorem ren1 (B : Nat) (S : Option Addr) (sn sc : Nat) (o : List Int) (x : Int) (W : World) (hr : Row W B 24 #[.slice S sn sc]) (ho : Own W (B + 1) (.slice S sn sc) (o.map vn)) (hx0 : -24 ≤ x) (hx1 : x < 0) (hsn : sn ≤ 60) :
    Calls Try.prog 122 #[.int .i64 (-1 - x), .pointer (some ⟨B, 0, none⟩)] W (AnsRen W B S o x) := by
  have hl := Own.len ho
  simp only [List.length_map] at hl
  have hlt := hr.lt
  have cB : W.cell? ⟨B, 0, none⟩ = some (.slice S sn sc) := hr.cell 0
  have fB : W.frozen? ⟨B, 0, none⟩ = false := hr.free 0
  have LI := Lib.hid (indexOf S sn sc (o.map vn) (-1 - x) W (Own.seg ho) (by omega))
  by_cases hin : x ∈ o
  · have hi : idx o x < o.length := idx_lt hin
    obtain ⟨q, hq⟩ : ∃ q, idx o x = q := ⟨_, rfl⟩
    have EI := Lib.hid (show indexI (o.map vn) (-1 - x) = (q : Int) by
      unfold indexI
      rw [show (-1 - x : Int) = vn x from rfl, if_pos ((mem_map_inj vn_inj).2 hin), idx_map vn_inj, hq])
    have EX := Lib.hid (show ext o x = o by unfold ext; rw [if_pos hin])
    have LV := Lib.hid (varTerm (q : Int) W (by omega) (by omega))
    have HQ := Lib.hid hq
    have hq60 : q ≤ 60 := by omega
    have HR := Lib.hid hr
    have HO := Lib.hid ho
    clear hin hi hq hl hr ho
    go_enter Try.func122, Try.ntmps122
    go_wp2_with fail
    refine LI.out.mono ?_
    rintro e w' ⟨rfl, he⟩
    rw [EI.out] at he
    subst he
    clear LI
    go_wp2_with fail
    refine LV.out.mono ?_
    rintro e w1 ⟨A, n, c, rfl, oq, bb⟩
    have hn1 := Own.len oq
    simp only [List.length_cons, List.length_nil] at hn1
    subst hn1
    have F : AnsRen W B S o x (.returned (.slice A 1 c)) w1 :=
      ⟨A, c, S, sn, sc, rfl, by rw [EX.out, HQ.out]; exact Own.seg oq, (own_cap oq).2.2, HR.out.next bb, by rw [EX.out]; exact HO.out.next bb, .inl rfl, Side.of_below bb⟩
    have HF := Lib.hid F
    clear F oq bb LV cB fB
    go_wp2
    go_ret
    exact HF.out
  · have EI := Lib.hid (show indexI (o.map vn) (-1 - x) = -1 by
      unfold indexI
      rw [show (-1 - x : Int) = vn x from rfl, if_neg (fun h => hin ((mem_map_inj vn_inj).1 h))])
    have EX := Lib.hid (show (ext o x).map vn = o.map vn ++ [-1 - x] by unfold ext; rw [if_neg hin, List.map_append]; rfl)
    have EQ := Lib.hid (show idx (ext o x) x = sn by unfold ext; rw [if_neg hin, idx_app_new hin, hl])
    have hne := own_ne ho hr
    have hr1 := hr.alloc (.cells #[.int .i64 (-1 - x)] 2)
    have ho1 := Own.alloc ho (.cells #[.int .i64 (-1 - x)] 2)
    have HNE := Lib.hid hne
    have HN := Lib.hid hl
    clear hin hl hr ho hne
    go_enter Try.func122, Try.ntmps122
    go_wp2_with fail
    refine LI.out.mono ?_
    rintro e w' ⟨rfl, he⟩
    rw [EI.out] at he
    subst he
    clear LI
    go_wp2_with (first
      | (at_builtin; refine appAllAt rfl _ _ rfl (B + 1) S sn sc (o.map vn) rfl ho1 (some ⟨W.heap.size, 0, none⟩) 1 1 (W.heap.size + 1) [-1 - x] rfl (by simpa using one_seg W (-1 - x)) (by omega) (by omega) (by omega) (by simp; omega) ?_; intro S' sc' w2 ho2 hg hat; have r2 := Row.away hr1 hg HNE.out; have cB2 : w2.cell? ⟨B, 0, none⟩ = some (.slice S sn sc) := r2.cell 0; have fB2 : w2.frozen? ⟨B, 0, none⟩ = false := r2.free 0)
      | (go_at_call 59; refine (varTerm (sn : Int) _ (by omega) (by omega)).mono ?_; rintro e w3 ⟨A, n, c, rfl, oq, bb⟩))
    have hn1 := Own.len oq
    simp only [List.length_cons, List.length_nil] at hn1
    subst hn1
    have r3 := r2.put 0 (.slice S' (sn + 1) sc')
    have hg3 : w2.grownBy (w2.setCell ⟨B, 0, none⟩ (.slice S' (sn + 1) sc')) (some B) := grown_put (World.grownBy.refl _ _) _ _
    have o3 := Own.far ho2 hg3 (fun k hk => by injection hk; omega)
    have sd : Side B (blk S) W w3 := (((Side.of_below ((Below.refl _ _).alloc (Nat.le_refl _) _)).trans (Side.of_grown hg)).trans (Side.of_var hg3)).trans (Side.of_below bb)
    have F : AnsRen W B S o x (.returned (.slice A 1 c)) w3 := by
      refine ⟨A, c, S', sn + 1, sc', rfl, by rw [EQ.out]; exact Own.seg oq, (own_cap oq).2.2, r3.next bb, by rw [EX.out]; exact o3.next bb, ?_, sd⟩
      rcases hat with h | h
      · exact .inl h
      · exact .inr ⟨_, h, by simp⟩
    have HF := Lib.hid F
    clear F oq bb r3 hg3 o3 sd hat hg ho2 r2 cB2 fB2 cB fB hr1 ho1
    go_wp2
    go_ret
    exact HF.out

/-- the head of fill's loop over this closure -/
def HeadRF (w : World) (B m : Nat) (t : List Int) (out i : Value) (wr : World) : Prop :=
  ∃ (k : Nat) (O : Option Addr) (on oc : Nat) (S : Option Addr) (sn sc : Nat), k ≤ m ∧ i = .int .i64 k ∧ out = .slice O on oc ∧ Own wr (B + 1) (.slice O on oc) (renL (t.take k)) ∧ Row wr B 24 #[.slice S sn sc] ∧
    Own wr (B + 1) (.slice S sn sc) ((orderL (t.take k)).map vn) ∧ (blk O = none ∨ blk O ≠ blk S) ∧ Below B w wr ∧ w.heap.size ≤ wr.heap.size
theorem ne_flip {a b : Option Nat} (h : a = none ∨ a ≠ b) : b = none ∨ b ≠ a := by
  cases b with
  | none => exact .inl rfl
  | some k =>
    right
    rintro rfl
    rcases h with h | h
    · cases h
    · exact h rfl
theorem blk_lt {w : World} {base : Nat} {A : Option Addr} {n c : Nat} {xs : List Int} (h : Own w base (.slice A n c) xs) : ∀ k, blk A = some k → base ≤ k ∧ k < w.heap.size := fun k hk => World.ownsRow.lt h k (by rw [blk_own]; exact hk)
theorem ne_new {w : World} {base : Nat} {S : Option Addr} {n c : Nat} {xs : List Int} {a : Option Nat} (h : Own w base (.slice S n c) xs) (q : Nat) (hq : w.heap.size ≤ q) (ha : a = some q) : a = none ∨ a ≠ blk S := by
  right
  rintro rfl
  have := (blk_lt h q ha).2
  omega

set_option maxHeartbeats 4000000 in
theorem fillRen (B : Nat) (A : Option Addr) (m c : Nat) (t : List Int) (w : World) (hr : Row w B 24 #[.slice none 0 0]) (h : Seg w B A m t) (hm : m ≤ 60) (hv : ∀ x ∈ t, -24 ≤ x) :
    Calls Try.prog 73 #[.func (.func 122) #[] #[.pointer (some ⟨B, 0, none⟩)], .slice A m c] w fun e w' => ∃ O n c, e = .returned (.slice O n c) ∧ Own w' (B + 1) (.slice O n c) (renL t) ∧ Below B w w' := by
  have HL := Lib.hid h.1
  have HV := Lib.hid hv
  have S0 : HeadRF w B m t (.slice none 0 0) (.int .i64 0) w := ⟨0, _, _, _, none, 0, 0, Nat.zero_le _, rfl, rfl, by simpa [renL] using Own.nil w (B + 1), hr, by simpa [orderL] using Own.nil w (B + 1), .inl rfl, Below.refl _ _, Nat.le_refl _⟩
  have HS0 := Lib.hid S0
  clear S0 hv hr
  go_enter Try.func73, Try.ntmps73
  go_wp2
  go_loopw [5, 10] (fun out i wr => HeadRF w B m t out i wr) (fun _ i _ => m - (intOf i).toNat)
  case atStart => exact HS0.out
  case round =>
    obtain ⟨k, O, on, oc, S, sn, sc, hk, rfl, rfl, ho, hr, hs, hne, hb, hz⟩ := hrel
    clear HS0
    have hon : on ≤ 60 := by rw [Own.len ho, ren_len]; simp; omega
    have hsn : sn ≤ 60 := by have h1 := Own.len hs; have h2 := order_len (t.take k); simp at h1 h2; omega
    have hBlt := hr.lt
    by_cases hlt : k < m
    · obtain ⟨b, off, x, rfl, hbb, hx, ex⟩ := h.spot hlt
      have hx1 : wr.cell? ⟨b, off + k, none⟩ = some (.int .i64 x) := (hb.cell (p := ⟨b, off + k, none⟩) hbb).trans hx
      have hmem := mem_of_get (by rw [HL.out]; exact hlt) ex.out
      have hx24 : -24 ≤ x := HV.out x hmem
      have E := Lib.hid (ren_take (t := t) (k := k) (by rw [HL.out]; exact hlt) ex.out)
      have EO := Lib.hid (order_take (t := t) (k := k) (by rw [HL.out]; exact hlt) ex.out)
      clear hmem hx h ex
      by_cases hpos : 0 ≤ x
      · have R := Lib.hid (show ren (extV (orderL (t.take k)) x) x = x by unfold ren; rw [if_neg (by omega)])
        have R2 := Lib.hid (show extV (orderL (t.take k)) x = orderL (t.take k) by unfold extV; rw [if_neg (by omega)])
        have ho1 := Own.alloc ho (.cells #[.int .i64 x] 2)
        have hs1 := Own.alloc hs (.cells #[.int .i64 x] 2)
        have hr1 := hr.alloc (.cells #[.int .i64 x] 2)
        go_wp2_with (at_builtin; refine appAllAt rfl _ _ rfl (B + 1) O on oc (renL (t.take k)) rfl ho1 (some ⟨wr.heap.size, 0, none⟩) 1 1 (wr.heap.size + 1) [x] rfl (by simpa using one_seg wr x) (by omega) (by omega) (by omega) (by simp; omega) ?_; intro O' oc' w2 ho2 hg hat)
        have S1 : HeadRF w B m t (.slice O' (on + 1) oc') (.int .i64 ((k : Int) + 1)) w2 := by
          refine ⟨k + 1, O', on + 1, oc', S, sn, sc, hlt, by simp, rfl, by rw [E.out, R.out]; exact ho2, Row.away hr1 hg (own_ne ho1 hr1), by rw [EO.out, R2.out]; exact Own.kept hs1 hg (ne_flip hne), ?_, ?_, ?_⟩
          · rcases hat with h | h
            · rw [h]; exact hne
            · exact ne_new hs1 _ (Nat.le_refl _) h
          · exact (hb.alloc (by omega) _).grown hg (by simp; omega) (fun q hq => by have := (blk_lt ho1 q hq).1; omega)
          · have := hg.size; simp at this; omega
        have S := Lib.hid S1
        clear S1 ho2 hg hat ho1 hs1 hr1 ho hs hr hne hb R R2 E EO
        go_wp2
        go_roundw
        case rel => exact S.out
        case measure => simp [intOf]; omega
      · have hneg : x < 0 := by omega
        have R := Lib.hid (show ren (extV (orderL (t.take k)) x) x = -1 - (idx (ext (orderL (t.take k)) x) x : Int) by unfold ren extV; rw [if_pos hneg, if_pos hneg])
        have R2 := Lib.hid (show extV (orderL (t.take k)) x = ext (orderL (t.take k)) x by unfold extV; rw [if_pos hneg])
        have L := Lib.hid (ren1 B S sn sc _ x wr hr hs hx24 hneg hsn)
        go_wp2_with (first
          | (go_at_call 122; refine L.out.mono ?_; rintro e w1 ⟨A1, c1, S1, sn1, sc1, rfl, s1, hc1, r1, os1, hat1, sd⟩; have ho1 := Own.side ho sd hr hne; have hz1 := sd.size; have hne1 : blk O = none ∨ blk O ≠ blk S1 := (by rcases hat1 with h | ⟨q, h, hq⟩; (rw [h]; exact hne); (rw [h]; exact (by cases e : blk O with | none => exact .inl rfl | some z => exact .inr (fun e2 => by injection e2 with e2; have := (blk_lt ho z e).2; omega)))))
          | (at_builtin; refine appAllAt rfl _ _ rfl (B + 1) O on oc (renL (t.take k)) rfl ho1 A1 1 c1 w1.heap.size _ rfl s1 (by omega) (by omega) (by omega) (by omega) ?_; intro O' oc' w2 ho2 hg hat))
        have SS : HeadRF w B m t (.slice O' (on + 1) oc') (.int .i64 ((k : Int) + 1)) w2 := by
          refine ⟨k + 1, O', on + 1, oc', S1, sn1, sc1, hlt, by simp, rfl, by rw [E.out, R.out]; exact ho2, Row.away r1 hg (own_ne ho1 r1), by rw [EO.out, R2.out]; exact Own.kept os1 hg (ne_flip hne1), ?_, ?_, ?_⟩
          · rcases hat with h | h
            · rw [h]; exact hne1
            · exact ne_new os1 _ (Nat.le_refl _) h
          · exact (hb.trans (sd.below (fun q hq => by have := (blk_lt hs q hq).1; omega) (by omega))).grown hg (by omega) (fun q hq => by have := (blk_lt ho1 q hq).1; omega)
          · have := hg.size; omega
        have HSS := Lib.hid SS
        clear SS ho2 hg hat ho1 s1 r1 os1 hat1 sd hne1 ho hs hr hne hb R R2 E EO L
        go_wp2
        go_roundw
        case rel => exact HSS.out
        case measure => simp [intOf]; omega
    · rw [List.take_of_length_le (by rw [HL.out]; omega)] at ho
      have HO := Lib.hid ho
      have HB := Lib.hid hb
      clear ho hs hr hne hb h
      go_wp2
      go_ret
      exact ⟨O, on, oc, rfl, HO.out, HB.out⟩

set_option maxHeartbeats 4000000 in
theorem implRenamed (A A' : Option Addr) (n c m c' : Nat) (sg t : List Int) (w : World) (h : Seg w w.heap.size A n sg) (h' : Seg w w.heap.size A' m t) (hn : n ≤ 1048576) (hm : m ≤ 1048576) :
    Calls Try.prog 84 #[.agg #[.slice A n c], .slice A' m c'] w (AnsList w (renI sg t)) := by
  obtain ⟨W, hW⟩ : ∃ W, W = w.alloc (.cells #[.slice A n c] 26) := ⟨_, rfl⟩
  have bel : Below w.heap.size w W := by rw [hW]; exact (Below.refl _ _).alloc (Nat.le_refl _) _
  have s := (h.below bel).more bel.size
  have s' := (h'.below bel).more bel.size
  have HW := Lib.hid hW
  have HL := Lib.hid h'.1
  have L := Lib.hid (implTermOk A A' n c m c' sg t W s s' hn hm)
  clear hW h h' s
  cases hok : termOkB sg t with
  | false =>
    have HS := Lib.hid hok
    clear hok s'
    go_enter Try.func84, Try.ntmps84
    go_wp2_with fail
    rw [← HW.out]
    refine L.out.mono ?_
    rintro e w1 ⟨he, bb⟩
    rw [HS.out] at he
    subst he
    have F : AnsList w (renI sg t) (.returned (.slice none 0 0)) w1 := ⟨_, _, _, rfl, by unfold renI; rw [if_neg (by rw [HS.out]; simp)]; exact Own.nil _ _, next_trans bel bb⟩
    have HF := Lib.hid F
    clear F bb bel
    go_wp2
    go_ret
    exact HF.out
  | true =>
    have HS := Lib.hid hok
    have HV := Lib.hid (fun x hx => (term_mem (x := x) hok hx).1)
    have H60 : m ≤ 60 := by rw [← HL.out]; exact (term_len hok).2
    have hmf : ∀ (fn : Fn) (first cap : Array Value) (w : World), (Instr.makeFunc fn first cap).run Try.prog w = .ok (.func fn first cap) w := fun _ _ _ _ => rfl
    clear hok
    go_enter Try.func84, Try.ntmps84
    go_wp2_with fail
    rw [← HW.out]
    refine L.out.mono ?_
    rintro e w1 ⟨he, bb⟩
    rw [HS.out] at he
    subst he
    replace bel := next_trans bel bb
    have s1 := (s'.next bb)
    have s2 := s1.alloc (Nat.le_refl _) (.cells #[.slice none 0 0] 24)
    have hz := bel.size
    have L2 := Lib.hid (fillRen w1.heap.size A' m c' t _ (Row.new w1 24 #[.slice none 0 0]) s2 H60 HV.out)
    clear bb L s' s1 s2
    go_wp2_with fail
    refine L2.out.mono ?_
    rintro e w2 ⟨O, on, oc, rfl, ho, bb⟩
    have F : AnsList w (renI sg t) (.returned (.slice O on oc)) w2 := ⟨O, on, oc, rfl, by unfold renI; rw [if_pos HS.out]; exact Own.lower ho (by omega), (bel.alloc hz _).trans (bb.mono hz)⟩
    have HF := Lib.hid F
    clear F ho bb bel L2 hmf
    go_wp2
    go_ret
    exact HF.out
end Go.Proofs.Ytkmhnkljigncmaa.renImpl
end

section
/-
  (the regions' walks by wip/tools/reg.py) CONTRACTS: spec.VariantIn, impl.VariantIn. Conditions: the slices read as lists ('Seg'), at most 1048576 numbers. By an AI agent.
-/
namespace Go.Proofs.Ytkmhnkljigncmaa.variant
open Go.RowKit Go.Proofs.Ytkmhnkljigncmaa.base Go.Proofs.Ytkmhnkljigncmaa.ints Go.Proofs.Ytkmhnkljigncmaa.sig Go.Proofs.Ytkmhnkljigncmaa.same Go.Proofs.Ytkmhnkljigncmaa.term Go.Proofs.Ytkmhnkljigncmaa.termOk Go.Proofs.Ytkmhnkljigncmaa.marks Go.Proofs.Ytkmhnkljigncmaa.sym Go.Proofs.Ytkmhnkljigncmaa.termFacts Go.Proofs.Ytkmhnkljigncmaa.varsOf Go.Proofs.Ytkmhnkljigncmaa.renMath Go.Proofs.Ytkmhnkljigncmaa.rename Go.Proofs.Ytkmhnkljigncmaa.renImpl
set_option maxRecDepth 100000

/-- what VariantIn answers -/
def variantB (sg a b : List Int) : Bool := termOkB sg a && (termOkB sg b && decide (renL a = renL b))
theorem variant_a {sg a b : List Int} (h : termOkB sg a = false) : variantB sg a b = false := by unfold variantB; rw [h, Bool.false_and]
theorem variant_b {sg a b : List Int} (h : termOkB sg b = false) : variantB sg a b = false := by unfold variantB; rw [h, Bool.false_and, Bool.and_false]
theorem variant_ab {sg a b : List Int} (h : termOkB sg a = true) (h' : termOkB sg b = true) : variantB sg a b = decide (renL a = renL b) := by unfold variantB; rw [h, h', Bool.true_and, Bool.true_and]

end Go.Proofs.Ytkmhnkljigncmaa.variant
end

section
/-
  CONTRACTS: spec.MostGeneral. Conditions: the slices read as lists ('Seg', 'Segs'), at most 1048576 numbers. (The regions' walks by wip/tools/reg.py.) By an AI agent.
-/
namespace Go.Proofs.Ytkmhnkljigncmaa.matchMost
open Go.RowKit Go.Proofs.Ytkmhnkljigncmaa.base Go.Proofs.Ytkmhnkljigncmaa.ints Go.Proofs.Ytkmhnkljigncmaa.sig Go.Proofs.Ytkmhnkljigncmaa.term Go.Proofs.Ytkmhnkljigncmaa.termOk Go.Proofs.Ytkmhnkljigncmaa.endAt Go.Proofs.Ytkmhnkljigncmaa.inside Go.Proofs.Ytkmhnkljigncmaa.marks Go.Proofs.Ytkmhnkljigncmaa.app Go.Proofs.Ytkmhnkljigncmaa.sym Go.Proofs.Ytkmhnkljigncmaa.segs Go.Proofs.Ytkmhnkljigncmaa.segsHelp Go.Proofs.Ytkmhnkljigncmaa.termFacts Go.Proofs.Ytkmhnkljigncmaa.renMath Go.Proofs.Ytkmhnkljigncmaa.varsOf Go.Proofs.Ytkmhnkljigncmaa.variant Go.Proofs.Ytkmhnkljigncmaa.pathSpec Go.Proofs.Ytkmhnkljigncmaa.matchMath Go.Proofs.Ytkmhnkljigncmaa.matchSpec Go.Proofs.Ytkmhnkljigncmaa.matchList
set_option maxRecDepth 100000

/-- what speaks against i at k -/
def hitB (sg : List Int) (ps : List (List Int)) (i k : Nat) : Bool := moreB sg (ps.getD k []) (ps.getD i []) || (decide (k < i) && variantB sg (ps.getD k []) (ps.getD i []))
def bestK (sg : List Int) (ps : List (List Int)) (i : Nat) : Nat → Bool
  | 0 => true
  | k + 1 => bestK sg ps i k && !hitB sg ps i k
theorem bestK_all {sg : List Int} {ps : List (List Int)} {i : Nat} : ∀ k, bestK sg ps i k = (List.range k).all fun j => !hitB sg ps i j
  | 0 => rfl
  | k + 1 => by
    rw [List.range_succ, List.all_append, ← bestK_all k]
    simp [bestK]
theorem bestK_best {sg : List Int} {ps : List (List Int)} {i : Nat} : bestK sg ps i ps.length = bestB sg ps i := by rw [bestK_all]; rfl
def mgN (sg : List Int) (ps : List (List Int)) : Nat → List Int
  | 0 => []
  | i + 1 => mgN sg ps i ++ (if bestB sg ps i = true then [(i : Int)] else [])
theorem mg_len {sg : List Int} {ps : List (List Int)} : ∀ k, (mgN sg ps k).length ≤ k
  | 0 => by simp [mgN]
  | k + 1 => by
    have := mg_len (sg := sg) (ps := ps) k
    simp only [mgN, List.length_append]
    split <;> simp <;> omega
def mgI (sg : List Int) (ps : List (List Int)) : List Int := if allB sg ps = true then mgN sg ps ps.length else []

def HeadMg (w : World) (A : Option Addr) (n c : Nat) (sg : List Int) (P : Option Addr) (pn : Nat) (ps : List (List Int)) (g : Nat) (out k : Value) (wr : World) : Prop :=
  ∃ (i : Nat) (O : Option Addr) (on oc : Nat), k = .int .i64 i ∧ i + g = pn ∧ out = .slice O on oc ∧ Own wr (w.heap.size + 1) (.slice O on oc) (mgN sg ps i) ∧ Fs w wr A n c sg P pn ps
def InMg (w : World) (A : Option Addr) (n c : Nat) (sg : List Int) (P : Option Addr) (pn : Nat) (ps : List (List Int)) (i : Nat) (O : Option Addr) (on oc : Nat) (g : Nat) (best k : Value) (wr : World) : Prop :=
  ∃ j : Nat, k = .int .i64 j ∧ j + g = pn ∧ best = .bool (bestK sg ps i j) ∧ Own wr (w.heap.size + 1) (.slice O on oc) (mgN sg ps i) ∧ Fs w wr A n c sg P pn ps

end Go.Proofs.Ytkmhnkljigncmaa.matchMost
end

section
/-
  CONTRACTS: impl.Matched, InstanceIn, MoreGeneral, termsOk. Conditions: the slices read as lists ('Seg', 'Segs'), at most 1048576 numbers. By an AI agent.
-/
namespace Go.Proofs.Ytkmhnkljigncmaa.matchImpl
open Go.RowKit Go.Proofs.Ytkmhnkljigncmaa.base Go.Proofs.Ytkmhnkljigncmaa.ints Go.Proofs.Ytkmhnkljigncmaa.sig Go.Proofs.Ytkmhnkljigncmaa.same Go.Proofs.Ytkmhnkljigncmaa.term Go.Proofs.Ytkmhnkljigncmaa.termOk Go.Proofs.Ytkmhnkljigncmaa.endAt Go.Proofs.Ytkmhnkljigncmaa.inside Go.Proofs.Ytkmhnkljigncmaa.marks Go.Proofs.Ytkmhnkljigncmaa.app Go.Proofs.Ytkmhnkljigncmaa.sym Go.Proofs.Ytkmhnkljigncmaa.sub Go.Proofs.Ytkmhnkljigncmaa.segs Go.Proofs.Ytkmhnkljigncmaa.segsHelp Go.Proofs.Ytkmhnkljigncmaa.kinds Go.Proofs.Ytkmhnkljigncmaa.termFacts Go.Proofs.Ytkmhnkljigncmaa.termMath Go.Proofs.Ytkmhnkljigncmaa.posMath Go.Proofs.Ytkmhnkljigncmaa.plainMath Go.Proofs.Ytkmhnkljigncmaa.plain Go.Proofs.Ytkmhnkljigncmaa.plainOf Go.Proofs.Ytkmhnkljigncmaa.gives Go.Proofs.Ytkmhnkljigncmaa.cursor Go.Proofs.Ytkmhnkljigncmaa.fillMath Go.Proofs.Ytkmhnkljigncmaa.matchMath Go.Proofs.Ytkmhnkljigncmaa.matchSpec Go.Proofs.Ytkmhnkljigncmaa.matchList Go.Proofs.Ytkmhnkljigncmaa.matchMost Go.Proofs.Ytkmhnkljigncmaa.whole Go.Proofs.Ytkmhnkljigncmaa.takeMath Go.Proofs.Ytkmhnkljigncmaa.take Go.Proofs.Ytkmhnkljigncmaa.extended
set_option maxRecDepth 100000

theorem plain_s0 : plainL (givesL s0) 24 = [] := by
  have h : ∀ i, 0 ≤ i → givesL s0 i = vt i := fun i _ => gives_var (by rw [s0_get]; rfl)
  rw [plain_24 (m := 0) (by omega) h]
  rfl
theorem res_get (R : Option (List (List Int))) : plainL (givesL (R.getD s0)) 24 = resL R := by
  cases R with
  | none => exact plain_s0
  | some s => rfl

set_option maxHeartbeats 1000000 in
theorem implMatched (A P Q : Option Addr) (n c pn pc m mc : Nat) (sg p t : List Int) (w : World) (h : Seg w w.heap.size A n sg) (hp : Seg w w.heap.size P pn p) (ht : Seg w w.heap.size Q m t) (hn : n ≤ 1048576) (hpn : pn ≤ 1048576) (hm : m ≤ 1048576) (hmc : m ≤ mc) (hmc2 : mc ≤ 9223372036854775807) :
    Calls Try.prog 82 #[.agg #[.slice A n c], .slice P pn pc, .slice Q m mc] w (AnsM w (resL (matchO sg p t)) (instB sg p t)) := by
  obtain ⟨W, hW⟩ : ∃ W, W = (w.alloc (.cells #[.slice A n c] 26)).alloc (.cells #[.slice none 0 0] 31) := ⟨_, rfl⟩
  have M : Mr w W A n c sg P pn p Q m t := by rw [hW]; exact Mr.start h hp ht
  have HW := Lib.hid hW
  have L := Lib.hid (implTermOk A P n c pn pc sg p W M.ss M.sp hn hpn)
  have c0 : W.cell? ⟨w.heap.size, 0, none⟩ = some (.slice A n c) := M.r0.cell 0
  have c00 : ((w.alloc (.cells #[.slice A n c] 26)).alloc (.cells #[.slice none 0 0] 31)).cell? ⟨w.heap.size, 0, none⟩ = some (.slice A n c) := by rw [← hW]; exact c0
  clear hW h hp ht
  cases hokp : termOkB sg p with
  | false =>
    have HS := Lib.hid hokp
    clear hokp
    go_enter Try.func82, Try.ntmps82
    go_wp2_with fail
    rw [← HW.out]
    refine L.out.mono ?_
    rintro e w1 ⟨he, bb⟩
    rw [HS.out] at he
    subst he
    replace M := M.next bb
    have cR : w1.cell? ⟨w.heap.size + 1, 0, none⟩ = some (.slice none 0 0) := M.r1.cell 0
    have fR : w1.frozen? ⟨w.heap.size + 1, 0, none⟩ = false := M.r1.free 0
    have F1 := Lib.hid (ansM_off (w := w) (t := t) (.inl HS.out) M.b)
    have F2 := Lib.hid (ansM_off (w := w) (t := t) (.inl HS.out) ((M.b).setCell (p := ⟨w.heap.size + 1, 0, none⟩) (show w.heap.size ≤ w.heap.size + 1 by omega) (.slice none 0 0)))
    clear M L bb c0 c00
    go_wp2
    first
      | exact bodyPost_ret (v := .tuple #[.agg #[.slice none 0 0], .bool false]) (by simp [results, Try.results82, go_sem, cR]) rfl F1.out
      | exact bodyPost_ret (v := .tuple #[.agg #[.slice none 0 0], .bool false]) (by simp [results, Try.results82, go_sem, cR]) rfl F2.out
  | true =>
    have HSP := Lib.hid hokp
    have hp60 : pn ≤ 60 := by have h1 := (termOk_parts hokp).2.1; rw [M.sp.1] at h1; exact h1
    clear hokp
    cases hokt : termOkB sg t with
    | false =>
      have HS := Lib.hid hokt
      clear hokt
      go_enter Try.func82, Try.ntmps82
      go_wp2_with fail
      rw [← HW.out]
      refine L.out.mono ?_
      rintro e w1 ⟨he, bb⟩
      rw [HSP.out] at he
      subst he
      replace M := M.next bb
      clear bb L c0 c00
      have c0 : w1.cell? ⟨w.heap.size, 0, none⟩ = some (.slice A n c) := M.r0.cell 0
      go_wp2_with fail
      refine (implTermOk A Q n c m mc sg t _ M.ss M.st hn hm).mono ?_
      rintro e w2 ⟨he, bb⟩
      rw [HS.out] at he
      subst he
      replace M := M.next bb
      have cR : w2.cell? ⟨w.heap.size + 1, 0, none⟩ = some (.slice none 0 0) := M.r1.cell 0
      have fR : w2.frozen? ⟨w.heap.size + 1, 0, none⟩ = false := M.r1.free 0
      have F1 := Lib.hid (ansM_off (w := w) (p := p) (.inr HS.out) M.b)
      have F2 := Lib.hid (ansM_off (w := w) (p := p) (.inr HS.out) ((M.b).setCell (p := ⟨w.heap.size + 1, 0, none⟩) (show w.heap.size ≤ w.heap.size + 1 by omega) (.slice none 0 0)))
      clear M bb c0
      go_wp2
      first
        | exact bodyPost_ret (v := .tuple #[.agg #[.slice none 0 0], .bool false]) (by simp [results, Try.results82, go_sem, cR]) rfl F1.out
        | exact bodyPost_ret (v := .tuple #[.agg #[.slice none 0 0], .bool false]) (by simp [results, Try.results82, go_sem, cR]) rfl F2.out
    | true =>
      have HST := Lib.hid hokt
      have hm60 : m ≤ 60 := by have h1 := (termOk_parts hokt).2.1; rw [M.st.1] at h1; exact h1
      have HMO := Lib.hid (match_yes HSP.out hokt)
      have HIO := Lib.hid (show instB sg p t = (mst sg t p 0 s0).isSome by unfold instB; rw [HMO.out])
      clear hokt
      go_enter Try.func82, Try.ntmps82
      go_wp2_with fail
      rw [← HW.out]
      refine L.out.mono ?_
      rintro e w1 ⟨he, bb⟩
      rw [HSP.out] at he
      subst he
      replace M := M.next bb
      clear bb L c0 c00
      have c0 : w1.cell? ⟨w.heap.size, 0, none⟩ = some (.slice A n c) := M.r0.cell 0
      go_wp2_with fail
      refine (implTermOk A Q n c m mc sg t _ M.ss M.st hn hm).mono ?_
      rintro e w2 ⟨he, bb⟩
      rw [HST.out] at he
      subst he
      replace M := M.next bb
      clear bb c0
      have c0 : w2.cell? ⟨w.heap.size, 0, none⟩ = some (.slice A n c) := M.r0.cell 0
      have LX : Calls Try.prog 120 #[.agg z24, .slice P pn pc, .agg #[.slice A n c, .slice Q m mc, .int .i64 0]] w2 (AnsExt w2 (mst sg t p 0 s0)) :=
        extended A P Q n c pn pc m mc sg p t 0 z24 s0 w2 M.ss M.sp M.st hn hp60 hm60 hmc hmc2 (by rw [← M.st.1]; exact (term_len HST.out).1) HSP.out HST.out (TabR.new _ _) (fun j => by rw [s0_get]; simp)
      obtain ⟨R, hR⟩ : ∃ R, mst sg t p 0 s0 = R := ⟨_, rfl⟩
      rw [hR] at LX
      have HR := Lib.hid hR
      have HLX := Lib.hid LX
      clear LX hR
      have zw := M.r1.lt
      go_wp2_with (first
        | (refine rowBuild rfl 114 rfl z24 built_b ?_)
        | (go_at_call 120; refine HLX.out.mono ?_; rintro e w3 ⟨cs, rfl, tab, hsz, bb⟩; have one := Lib.hid tab.one; have h24 := Lib.hid tab.1; have bb3 := bb)
        | (refine rowAlloc rfl 114 rfl z24 zero_b ?_)
        | (refine rowStore rfl 114 _ _ rfl w3.heap.size cs z24 114 rfl rfl (heap_alloc_new w3 _) (by rw [h24.out]; exact size_b) (by rw [h24.out]; rfl) one.out ?_; rw [World.setRow_alloc_new])
        | (refine wpList_load_row rfl 114 _ rfl w3.heap.size rfl 114 cs (0, 0) _ (heap_alloc_new w3 _) Try.underlying114 rfl (by rw [h24.out]; exact size_b) ?_))
      have M3 := M.next bb
      have B4 : Below w3.heap.size w3 (w3.alloc (.cells cs 114)) := (Below.refl _ _).alloc (Nat.le_refl _) _
      have tab4 : TabR (w3.alloc (.cells cs 114)) (w3.alloc (.cells cs 114)).heap.size cs (R.getD s0) := (tab.below (B4.mono bb.size)).more (by have := bb.size; simp; omega)
      have LP := Lib.hid (plainB cs (R.getD s0) _ tab4 hsz)
      have M4 := M3.next B4
      have HI2 := Lib.hid (show instB sg p t = R.isSome by rw [HIO.out, HR.out])
      have HM2 := Lib.hid (show resL (matchO sg p t) = resL R by rw [HMO.out, HR.out])
      rw [res_get] at LP
      clear M M3 tab4 tab hsz bb bb3 one h24 HLX B4 c0
      refine LP.out.mono ?_
      rintro e w5 ⟨D, dn, dc, rfl, od, bb⟩
      have M5 := M4.next bb
      have z4 := M4.b.size
      have z5 := M4.r1.lt
      have cR : w5.cell? ⟨w.heap.size + 1, 0, none⟩ = some (.slice none 0 0) := M5.r1.cell 0
      have fR : w5.frozen? ⟨w.heap.size + 1, 0, none⟩ = false := M5.r1.free 0
      obtain ⟨b, hb⟩ : ∃ b, R.isSome = b := ⟨_, rfl⟩
      rw [hb]
      have F : AnsM w (resL (matchO sg p t)) (instB sg p t) (.returned (.tuple #[.agg #[.slice D dn dc], .bool b])) (w5.setCell ⟨w.heap.size + 1, 0, none⟩ (.slice D dn dc)) := by
        rw [HI2.out, HM2.out, hb]
        have hbt : Btw (w.heap.size + 1) (w.heap.size + 2) w5 (w5.setCell ⟨w.heap.size + 1, 0, none⟩ (.slice D dn dc)) := Btw.of_grown (grown_put (World.grownBy.refl _ _) _ _) (fun k hk => by injection hk; omega)
        have o2 := od.btw hbt (.inr (by simp at z5 ⊢; omega))
        exact ⟨D, dn, dc, rfl, o2.wider (by simp at z4 ⊢; omega) (by simp), (M5.b).setCell (p := ⟨w.heap.size + 1, 0, none⟩) (show w.heap.size ≤ w.heap.size + 1 by omega) _⟩
      have HF := Lib.hid F
      clear F od bb M4 M5 HIO hb LP
      go_wp2
      exact bodyPost_ret (v := .tuple #[.agg #[.slice D dn dc], .bool b]) (by simp [results, Try.results82, go_sem, cR]) rfl HF.out

set_option maxHeartbeats 1000000 in
theorem implInstanceIn (A P Q : Option Addr) (n c pn pc m mc : Nat) (sg p t : List Int) (w : World) (h : Seg w w.heap.size A n sg) (hp : Seg w w.heap.size P pn p) (ht : Seg w w.heap.size Q m t) (hn : n ≤ 1048576) (hpn : pn ≤ 1048576) (hm : m ≤ 1048576) (hmc : m ≤ mc) (hmc2 : mc ≤ 9223372036854775807) :
    Calls Try.prog 30 #[.agg #[.slice A n c], .slice P pn pc, .slice Q m mc] w (Tells w (instB sg p t)) := by
  obtain ⟨W, hW⟩ : ∃ W, W = w.alloc (.cells #[.slice A n c] 26) := ⟨_, rfl⟩
  have bW : Below w.heap.size w W := by rw [hW]; exact (Below.refl _ _).alloc (Nat.le_refl _) _
  have HW := Lib.hid hW
  have L := Lib.hid (implMatched A P Q n c pn pc m mc sg p t W (h.next bW) (hp.next bW) (ht.next bW) hn hpn hm hmc hmc2)
  clear hW h hp ht
  generalize instB sg p t = b at *
  go_enter Try.func30, Try.ntmps30
  go_wp2_with fail
  rw [← HW.out]
  refine L.out.mono ?_
  rintro e w1 ⟨D, dn, dc, rfl, od, bb⟩
  have F := Lib.hid (fun o => (show Tells w b (.returned (.bool b)) (w1.alloc o) from ⟨rfl, (next_trans bW bb).alloc (next_trans bW bb).size _⟩))
  clear od bb L bW
  go_wp2
  go_ret
  exact F.out _
/-- so many are terms -/
def HeadTo (w : World) (A : Option Addr) (n c : Nat) (sg : List Int) (P : Option Addr) (pn : Nat) (ps : List (List Int)) (i : Value) (wr : World) : Prop :=
  ∃ k : Nat, i = .int .i64 k ∧ k ≤ pn ∧ (∀ j, j < k → termOkB sg (ps.getD j []) = true) ∧ Fs w wr A n c sg P pn ps
set_option maxHeartbeats 1000000 in
theorem implTermsOk (A P : Option Addr) (n c pn pc : Nat) (sg : List Int) (ps : List (List Int)) (w : World) (h : Seg w w.heap.size A n sg) (hp : Segs w w.heap.size P pn ps) (hn : n ≤ 1048576) (ht : tot ps ≤ 1048576) :
    Calls Try.prog 83 #[.agg #[.slice A n c], .slice P pn pc] w (Tells w (termsB sg ps)) := by
  obtain ⟨W, hW⟩ : ∃ W, W = w.alloc (.cells #[.slice A n c] 26) := ⟨_, rfl⟩
  have f : Fs w W A n c sg P pn ps := by rw [hW]; exact Fs.start h hp
  have HW := Lib.hid hW
  have HL := Lib.hid hp.1
  have HE := Lib.hid (tot_each ht)
  have hpn : pn ≤ 1048576 := tot_len hp.1 ht
  clear hW h hp ht
  by_cases hlong : 12 < pn
  · have F := Lib.hid (show Tells w (termsB sg ps) (.returned (.bool false)) W from ⟨by rw [terms_long (by rw [HL.out]; exact hlong)], f.b⟩)
    clear f
    go_enter Try.func83, Try.ntmps83
    go_wp2_with fail
    rw [← HW.out]
    go_ret
    exact F.out
  · have S0 : HeadTo w A n c sg P pn ps (.int .i64 0) W := ⟨0, rfl, Nat.zero_le _, fun j hj => absurd hj (Nat.not_lt_zero _), f⟩
    have HS0 := Lib.hid S0
    clear S0 f
    go_enter Try.func83, Try.ntmps83
    go_wp2_with fail
    rw [← HW.out]
    go_loopw [12] (fun i wr => HeadTo w A n c sg P pn ps i wr) (fun i _ => pn - (intOf i).toNat)
    case atStart => exact HS0.out
    case round =>
      obtain ⟨k, rfl, hk, hlow, f⟩ := hrel
      have HLOW := Lib.hid hlow
      clear hlow HS0
      by_cases hlt : k < pn
      · obtain ⟨b, off, D, dn, dc, rfl, hbb, hc, hsg, hcap⟩ := f.s'.spot hlt
        have hdn : dn ≤ 1048576 := by have := HE.out k; rw [hsg.1] at this; exact this
        have cA := f.cell
        have LT := Lib.hid (implTermOk A D n c dn dc sg (ps.getD k []) wr f.s1 (hsg.more (Nat.le_of_lt f.size)) hn hdn)
        clear hsg hcap
        cases hok : termOkB sg (ps.getD k []) with
        | false =>
          have HS := Lib.hid hok
          clear hok
          go_wp2_with fail
          refine LT.out.mono ?_
          rintro e w1 ⟨he, bb⟩
          rw [HS.out] at he
          subst he
          have F := Lib.hid (show Tells w (termsB sg ps) (.returned (.bool false)) w1 from ⟨by rw [terms_bad (by rw [HL.out]; exact hlt) HS.out], (f.next bb).b⟩)
          clear f bb cA LT hc
          go_wp2
          go_ret
          exact F.out
        | true =>
          have HS := Lib.hid hok
          clear hok
          go_wp2_with fail
          refine LT.out.mono ?_
          rintro e w1 ⟨he, bb⟩
          rw [HS.out] at he
          subst he
          have S : HeadTo w A n c sg (some ⟨b, off, none⟩) pn ps (.int .i64 ((k : Int) + 1)) w1 := ⟨k + 1, by simp, hlt, fun j hj => by
            by_cases e : j = k
            · rw [e]; exact HS.out
            · exact HLOW.out j (by omega), f.next bb⟩
          have HSS := Lib.hid S
          clear S f bb cA LT hc
          go_wp2
          go_roundw
          case rel => exact HSS.out
          case measure => simp [intOf]; omega
      · have F := Lib.hid (show Tells w (termsB sg ps) (.returned (.bool true)) wr from ⟨by rw [terms_good (by rw [HL.out]; omega) (fun i hi => HLOW.out i (by rw [HL.out] at hi; omega))], f.b⟩)
        clear f
        go_wp2
        go_ret
        exact F.out
end Go.Proofs.Ytkmhnkljigncmaa.matchImpl
end

section
/-
  CONTRACTS: spec.GeneralisedAll, impl.GeneralisedAll. Conditions: the slices read as lists ('Seg', 'Segs'), at most 1048576 numbers; what is told is given ('IsGA'). By an AI agent.
-/
namespace Go.Proofs.Ytkmhnkljigncmaa.genAll
open Go.RowKit Go.Proofs.Ytkmhnkljigncmaa.base Go.Proofs.Ytkmhnkljigncmaa.ints Go.Proofs.Ytkmhnkljigncmaa.sig Go.Proofs.Ytkmhnkljigncmaa.cursor Go.Proofs.Ytkmhnkljigncmaa.marks Go.Proofs.Ytkmhnkljigncmaa.app Go.Proofs.Ytkmhnkljigncmaa.sym Go.Proofs.Ytkmhnkljigncmaa.segs Go.Proofs.Ytkmhnkljigncmaa.segsHelp Go.Proofs.Ytkmhnkljigncmaa.kinds Go.Proofs.Ytkmhnkljigncmaa.term Go.Proofs.Ytkmhnkljigncmaa.termOk Go.Proofs.Ytkmhnkljigncmaa.termFacts Go.Proofs.Ytkmhnkljigncmaa.termMath Go.Proofs.Ytkmhnkljigncmaa.endAt Go.Proofs.Ytkmhnkljigncmaa.inside Go.Proofs.Ytkmhnkljigncmaa.look Go.Proofs.Ytkmhnkljigncmaa.renMath Go.Proofs.Ytkmhnkljigncmaa.renPure Go.Proofs.Ytkmhnkljigncmaa.rename Go.Proofs.Ytkmhnkljigncmaa.renImpl Go.Proofs.Ytkmhnkljigncmaa.matchMath Go.Proofs.Ytkmhnkljigncmaa.takeMath Go.Proofs.Ytkmhnkljigncmaa.matchSpec Go.Proofs.Ytkmhnkljigncmaa.matchList Go.Proofs.Ytkmhnkljigncmaa.matchImpl Go.Proofs.Ytkmhnkljigncmaa.unifMath Go.Proofs.Ytkmhnkljigncmaa.genMath Go.Proofs.Ytkmhnkljigncmaa.unifLaw Go.Proofs.Ytkmhnkljigncmaa.general Go.Proofs.Ytkmhnkljigncmaa.genImpl
set_option maxRecDepth 100000

/-- one after the other -/
def GA (sg : List Int) : List Int → List (List Int) → List Int → Prop
  | o, [], g => g = o
  | o, t :: r, g => ∃ o', IsG sg o t o' ∧ GA sg o' r g
/-- what is told of a list of lists -/
def IsGA (sg : List Int) (ts : List (List Int)) (g : List Int) : Prop :=
  (allB sg ts = true ∧ ∃ t r, ts = t :: r ∧ GA sg (renL t) r g) ∨ ((allB sg ts = false ∨ ts = []) ∧ g = [])
theorem ga_ex (sg : List Int) : ∀ (r : List (List Int)) (o : List Int), ∃ g, GA sg o r g
  | [], o => ⟨o, rfl⟩
  | t :: r, o => by
    obtain ⟨o', h⟩ := isG_ex sg o t
    obtain ⟨g, hg⟩ := ga_ex sg r o'
    exact ⟨g, o', h, hg⟩
theorem isGA_ex (sg : List Int) (ts : List (List Int)) : ∃ g, IsGA sg ts g := by
  cases h : allB sg ts with
  | false => exact ⟨[], .inr ⟨.inl h, rfl⟩⟩
  | true =>
    cases ts with
    | nil => exact ⟨[], .inr ⟨.inr rfl, rfl⟩⟩
    | cons t r =>
      obtain ⟨g, hg⟩ := ga_ex sg r (renL t)
      exact ⟨g, .inl ⟨h, t, r, rfl, hg⟩⟩
theorem isG_nil {sg t g : List Int} (h : IsG sg [] t g) : g = [] := isG_off h (.inl (by
  cases e : termOkB sg [] with
  | false => rfl
  | true => have := (term_len e).1; simp at this))
theorem ga_nil {sg g : List Int} : ∀ {r : List (List Int)}, GA sg [] r g → g = []
  | [], h => h
  | t :: r, h => by
    obtain ⟨o', h1, h2⟩ := h
    rw [isG_nil h1] at h2
    exact ga_nil h2
theorem isG_ok {sg a b g : List Int} (h : IsG sg a b g) : g = [] ∨ termOkB sg g = true := by
  by_cases e : g = []
  · exact .inl e
  · exact .inr (isG_facts h e).1
theorem isGA_off {sg : List Int} {ts : List (List Int)} {g : List Int} (h : IsGA sg ts g) (ho : allB sg ts = false ∨ ts.length = 0) : g = [] := by
  rcases h with ⟨h1, t, r, e, _⟩ | ⟨_, e⟩
  · rcases ho with ho | ho
    · rw [h1] at ho; cases ho
    · rw [e] at ho; simp at ho
  · exact e
theorem isGA_on {sg : List Int} {ts : List (List Int)} {g : List Int} (h : IsGA sg ts g) (h1 : allB sg ts = true) (h2 : 0 < ts.length) : GA sg (renL (ts.getD 0 [])) (ts.drop 1) g ∧ termOkB sg (ts.getD 0 []) = true := by
  rcases h with ⟨_, t, r, e, hg⟩ | ⟨ho, _⟩
  · subst e
    refine ⟨by simpa using hg, ?_⟩
    unfold allB at h1
    simp at h1
    simpa using h1.2.2.1
  · rcases ho with ho | ho
    · rw [h1] at ho; cases ho
    · rw [ho] at h2; simp at h2
theorem drop_more {ts : List (List Int)} {i : Nat} {t : List Int} (hi : i < ts.length) (ht : ts.getD i [] = t) : ts.drop i = t :: ts.drop (i + 1) := by
  rw [List.drop_eq_getElem_cons hi]
  rw [← ht]
  simp [List.getD, hi]
theorem ga_step {sg o g t : List Int} {ts : List (List Int)} {i : Nat} (h : GA sg o (ts.drop i) g) (hi : i < ts.length) (ht : ts.getD i [] = t) : ∃ o', IsG sg o t o' ∧ GA sg o' (ts.drop (i + 1)) g := by
  rw [drop_more hi ht] at h
  exact h
theorem ga_end {sg o g : List Int} {ts : List (List Int)} {i : Nat} (h : GA sg o (ts.drop i) g) (hi : ts.length ≤ i) : g = o := by
  rw [List.drop_eq_nil_of_le hi] at h
  exact h
theorem all_get {sg : List Int} {ts : List (List Int)} (h : allB sg ts = true) {i : Nat} (hi : i < ts.length) : termOkB sg (ts.getD i []) = true := by
  unfold allB at h
  rw [Bool.and_eq_true, Bool.and_eq_true] at h
  have := List.all_eq_true.1 h.2.2 ts[i] (List.getElem_mem hi)
  simpa [List.getD, hi] using this
theorem ga_len {sg g : List Int} : ∀ {r : List (List Int)} {o : List Int}, GA sg o r g → o.length ≤ 60 → g.length ≤ 60
  | [], o, h, hl => by rw [show g = o from h]; exact hl
  | t :: r, o, h, _ => by
    obtain ⟨o', h1, h2⟩ := h
    exact ga_len h2 (isG_len h1)
theorem isGA_len {sg : List Int} {ts : List (List Int)} {g : List Int} (h : IsGA sg ts g) : g.length ≤ 60 := by
  rcases h with ⟨h1, t, r, e, hg⟩ | ⟨_, e⟩
  · subst e
    have h0 := all_get h1 (i := 0) (by simp)
    have h0 : termOkB sg t = true := by simpa using h0
    exact ga_len hg (term_len (ren_ok h0)).2
  · rw [e]; simp

/-- the head of the loop -/
def HeadA (w : World) (A : Option Addr) (n c : Nat) (sg : List Int) (P : Option Addr) (pn : Nat) (ts : List (List Int)) (ys : List Int) (g : Nat) (r : Value) (wr : World) (i : Nat) : Prop :=
  ∃ (O : Option Addr) (on oc : Nat) (o : List Int), r = .slice O on oc ∧ i ≤ pn ∧ i + g = pn ∧ 1 ≤ i ∧ Own wr w.heap.size (.slice O on oc) o ∧ (o = [] ∨ termOkB sg o = true) ∧ GA sg o (ts.drop i) ys ∧ Fs w wr A n c sg P pn ts

set_option maxHeartbeats 4000000 in
theorem implGeneralisedAll (A P : Option Addr) (n c pn pc : Nat) (sg : List Int) (ts : List (List Int)) (w : World) (h : Seg w w.heap.size A n sg) (hp : Segs w w.heap.size P pn ts) (hn : n ≤ 1048576) (htot : tot ts ≤ 1048576) (hcp : pn ≤ pc) (hcp2 : pc ≤ 9223372036854775807) {ys : List Int} (hG : IsGA sg ts ys) :
    Calls Try.prog 31 #[.agg #[.slice A n c], .slice P pn pc] w (AnsList w ys) := by
  obtain ⟨W, hW⟩ : ∃ W, W = w.alloc (.cells #[.slice A n c] 26) := ⟨_, rfl⟩
  have f : Fs w W A n c sg P pn ts := by rw [hW]; exact Fs.start h hp
  have HW := Lib.hid hW
  have HL := Lib.hid hp.1
  have HE := Lib.hid (tot_each htot)
  have HTOT := Lib.hid htot
  have HG := Lib.hid hG
  have cA := f.cell
  have cA0 : (w.alloc (.cells #[.slice A n c] 26)).cell? ⟨w.heap.size, 0, none⟩ = some (.slice A n c) := by rw [← hW]; exact cA
  clear hW h hp htot hG
  by_cases h0 : pn = 0
  · subst h0
    obtain rfl := isGA_off HG.out (.inr HL.out)
    have F := Lib.hid (show AnsList w [] (.returned (.slice none 0 0)) W from ⟨none, 0, 0, rfl, Own.nil _ _, f.b⟩)
    clear f cA cA0 HG
    go_enter Try.func31, Try.ntmps31
    go_wp2_with fail
    rw [← HW.out]
    go_ret
    exact F.out
  · have hp0 : 0 < pn := by omega
    have d0 : ((pn : Int) == 0) = false := by simp; omega
    have LT := Lib.hid (implTermsOk A P n c pn pc sg ts W f.s1 (f.s'.more (Nat.le_of_lt f.size)) hn HTOT.out)
    cases hall : termsB sg ts with
    | false =>
      have HS := Lib.hid hall
      obtain rfl := isGA_off HG.out (.inl (by
        unfold allB
        rw [show (decide (ts.length ≤ 12) && ts.all (termOkB sg)) = false from hall, Bool.and_false]))
      clear hall
      go_enter Try.func31, Try.ntmps31
      go_wp2_with fail
      rw [← HW.out]
      refine LT.out.mono ?_
      rintro e w1 ⟨he, bb⟩
      rw [HS.out] at he
      subst he
      have F := Lib.hid (show AnsList w [] (.returned (.slice none 0 0)) w1 from ⟨none, 0, 0, rfl, Own.nil _ _, (f.next bb).b⟩)
      clear f bb LT cA cA0 HG
      go_wp2
      go_ret
      exact F.out
    | true =>
      have HS := Lib.hid hall
      have hp12 : pn ≤ 12 := by have h1 := (terms_parts hall).1; rw [HL.out] at h1; exact h1
      have h1st := (terms_parts hall).2 0 (by rw [HL.out]; exact hp0)
      have hAB : allB sg ts = true := by
        unfold allB
        rw [(termOk_parts h1st).1, show (decide (ts.length ≤ 12) && ts.all (termOkB sg)) = true from hall]
        rfl
      have HON := Lib.hid (isGA_on HG.out hAB (by rw [HL.out]; exact hp0))
      have HAB := Lib.hid hAB
      clear hall h1st hAB
      go_enter Try.func31, Try.ntmps31
      go_wp2_with fail
      rw [← HW.out]
      refine LT.out.mono ?_
      rintro e w1 ⟨he, bb⟩
      rw [HS.out] at he
      subst he
      replace f := f.next bb
      clear bb LT cA cA0
      obtain ⟨b, off, D, dn, dc, rfl, hbb, hc, hsg, hcap⟩ := f.s'.spot hp0
      have hdn : dn ≤ 1048576 := by have := HE.out 0; rw [hsg.1] at this; exact this
      have cA := f.cell
      have z0 := f.size
      have LR := Lib.hid (implRenamed A D n c dn dc sg (ts.getD 0 []) w1.drew f.drew.s1 (hsg.more (Nat.le_of_lt f.size)) hn hdn)
      have ER := Lib.hid (show renI sg (ts.getD 0 []) = renL (ts.getD 0 []) by unfold renI; rw [if_pos HON.out.2])
      rw [ER.out] at LR
      have HFD := Lib.hid f.drew
      clear hsg hcap f
      have hc0 : w1.cell? ⟨b, off, none⟩ = some (.slice D dn dc) := by simpa using hc
      clear hc
      have i0 : (0 : Int) < (pn : Int) := by omega
      go_wp2_with fail
      go_region_held3 (fun w' => w'.cell? ⟨w.heap.size, 0, none⟩ = some (.slice A n c) ∧ w'.cell? ⟨b, off, none⟩ = some (.slice D dn dc))
        (first | exact ⟨cA, hc0⟩ | exact ⟨y1, y2⟩)
        (first
          | (go_at_call 84; refine LR.out.mono ?_; rintro e w2 ⟨O, on, oc, rfl, ho, bb⟩; have f2 := HFD.out.next bb; have y1 := f2.cell; have y2 : w2.cell? ⟨b, off, none⟩ = some (.slice D dn dc) := (bb.cell (p := ⟨b, off, none⟩) (by show b < w1.heap.size; omega)).trans hc0))
      have HH := Lib.hid (show HeadA w A n c sg (some ⟨b, off, none⟩) pn ts ys (pn - 1) (.slice O on oc) w2 1 from ⟨O, on, oc, _, rfl, by omega, by omega, Nat.le_refl _, Own.lower ho HFD.out.b.size, .inr (ren_ok HON.out.2), HON.out.1, f2⟩)
      have HH2 := Lib.hid (show HeadA w A n c sg (some ⟨b, off, none⟩) pn ts ys (pn - 1) (.slice O on oc) w2 (0 + 1) from HH.out)
      by_cases hpc : pc = 1
      · have hp1 : pn = 1 := by omega
        clear f2 ho bb y1 y2 LR HON HG cA hc0 HFD
        go_wp2_with fail
        go_loopg [5, 25] (pn - 1) (fun g_ r k_ wr => ∃ i : Nat, k_ = .int .i64 (i : Int) ∧ HeadA w A n c sg (some ⟨b, off, none⟩) pn ts ys g_ r wr (i + 1))
        case atStart => exact ⟨0, rfl, HH2.out⟩
        case round =>
          obtain ⟨i, rfl, O, on, oc, o, rfl, hle, hgk, _, ho, hok, hga, f⟩ := hrel
          clear HH HH2
          have hys := ga_end hga (by rw [HL.out]; omega)
          have F := Lib.hid (show AnsList w ys (.returned (.slice O on oc)) wr from ⟨O, on, oc, rfl, by rw [hys]; exact ho, f.b⟩)
          have i2 : ¬ (i : Int) < ((pn - 1 : Nat) : Int) := by omega
          clear ho hok hga f hys hgk
          go_wp2
          go_ret
          exact F.out
      · clear f2 ho bb y1 y2 LR HON HG cA hc0 HFD
        go_wp2_with fail
        go_loopg [5, 25] (pn - 1) (fun g_ r k_ wr => ∃ i : Nat, k_ = .int .i64 (i : Int) ∧ HeadA w A n c sg (some ⟨b, off, none⟩) pn ts ys g_ r wr (i + 1))
        case atStart => exact ⟨0, rfl, HH2.out⟩
        case round =>
          obtain ⟨i, rfl, O, on, oc, o, rfl, hle, hgk, _, ho, hok, hga, f⟩ := hrel
          clear HH HH2
          by_cases hip : i < pn - 1
          · obtain ⟨b2, off2, D2, dn2, dc2, e, hbb2, hc2, hsg, hcap⟩ := f.s'.spot (show i + 1 < pn by omega)
            injection e with e
            injection e with e1 e2
            subst e1
            subst e2
            have hc1 : wr.cell? ⟨b, off + 1 + i, none⟩ = some (.slice D2 dn2 dc2) := by rw [show off + 1 + i = off + (i + 1) by omega]; exact hc2
            have hdn2 : dn2 ≤ 1048576 := by have := HE.out (i + 1); rw [hsg.1] at this; exact this
            have hon : on ≤ 1048576 := by
              rw [Own.len ho]
              rcases hok with hok | hok
              · rw [hok]; simp
              · have := (term_len hok).2; omega
            obtain ⟨o', hG', hga'⟩ := ga_step hga (show i + 1 < ts.length by rw [HL.out]; omega) rfl
            have ko := look.own_cap ho
            have LG := Lib.hid (implGeneralised A O D2 n c on oc dn2 dc2 sg o (ts.getD (i + 1) []) wr o' hG' f.s1 (Own.seg ho) (hsg.more (Nat.le_of_lt f.size)) hn hon hdn2 ⟨ko.1, ko.2.1⟩ ⟨hcap.1, hcap.2.1⟩)
            have cA := f.cell
            have i1 : (i : Int) < ((pn - 1 : Nat) : Int) := by omega
            have i0 : (0 : Int) ≤ (i : Int) := by omega
            have HF := Lib.hid f
            have HGA := Lib.hid hga'
            have HOK := Lib.hid (isG_ok hG')
            have hgk2 := Lib.hid (show gk - 1 < gk ∧ i + 1 + 1 + (gk - 1) = pn ∧ i + 1 + 1 ≤ pn by omega)
            clear hsg hcap hc2 ko hG' hga' hga hok ho f hgk
            go_wp2_with fail
            refine LG.out.mono ?_
            rintro e w3 ⟨O', on', oc', rfl, ho', bb⟩
            have f3 := HF.out.next bb
            have S : HeadA w A n c sg (some ⟨b, off, none⟩) pn ts ys (gk - 1) (.slice O' on' oc') w3 (i + 1 + 1) := ⟨O', on', oc', o', rfl, hgk2.out.2.2, hgk2.out.2.1, by omega, Own.lower ho' HF.out.b.size, HOK.out, HGA.out, f3⟩
            have HSS := Lib.hid S
            clear S ho' bb f3 LG cA hc1 HF HGA HOK
            go_wp2
            go_roundg (gk - 1)
            case measure => exact hgk2.out.1
            case rel => exact ⟨i + 1, by simp, HSS.out⟩
          · have hys := ga_end hga (by rw [HL.out]; omega)
            have F := Lib.hid (show AnsList w ys (.returned (.slice O on oc)) wr from ⟨O, on, oc, rfl, by rw [hys]; exact ho, f.b⟩)
            have i2 : ¬ (i : Int) < ((pn - 1 : Nat) : Int) := by omega
            clear ho hok hga f hys hgk
            go_wp2
            go_ret
            exact F.out


theorem isG_gs {sg a b o' : List Int} (h : IsG sg a b o') (ha : termOkB sg a = true) (hb : termOkB sg b = true) : ∃ G T', Gs sg [] 1 a b G T' ∧ o' = if T'.length ≤ 24 then G else [] := by
  rcases h with ⟨_, _, G, T', h, e⟩ | ⟨h, _⟩
  · exact ⟨G, T', h, e⟩
  · rcases h with h | h
    · rw [ha] at h; cases h
    · rw [hb] at h; cases h

set_option maxHeartbeats 4000000 in
theorem specGeneralisedAll (A P : Option Addr) (n c pn pc : Nat) (sg : List Int) (ts : List (List Int)) (w : World) (h : Seg w w.heap.size A n sg) (hp : Segs w w.heap.size P pn ts) (hn : n ≤ 1048576) (htot : tot ts ≤ 1048576) {ys : List Int} (hG : IsGA sg ts ys) :
    Calls Try.prog 32 #[.agg #[.slice A n c], .slice P pn pc] w (AnsList w ys) := by
  obtain ⟨W, hW⟩ : ∃ W, W = w.alloc (.cells #[.slice A n c] 26) := ⟨_, rfl⟩
  have f : Fs w W A n c sg P pn ts := by rw [hW]; exact Fs.start h hp
  have HW := Lib.hid hW
  have HL := Lib.hid hp.1
  have HE := Lib.hid (tot_each htot)
  have HTOT := Lib.hid htot
  have HG := Lib.hid hG
  have LT := Lib.hid (l4All A P n c pn pc sg ts W f.s1 (f.s'.more (Nat.le_of_lt f.size)) hn HTOT.out)
  clear hW h hp htot hG
  cases hall : allB sg ts with
  | false =>
    have HS := Lib.hid hall
    obtain rfl := isGA_off HG.out (.inl hall)
    clear hall
    go_enter Try.func32, Try.ntmps32
    go_wp2_with fail
    rw [← HW.out]
    refine LT.out.mono ?_
    rintro e w1 ⟨he, bb⟩
    rw [HS.out] at he
    subst he
    have B := (f.next bb).b
    have F := Lib.hid (show AnsList w [] (.returned (.slice (some ⟨w1.heap.size, 0, none⟩) 0 0)) (w1.alloc (.cells #[] 2)) from ⟨_, 0, 0, rfl, own_empty w1 _ B.size, B.alloc B.size _⟩)
    clear f bb LT HG B
    go_wp2
    go_ret
    exact F.out
  | true =>
    have HS := Lib.hid hall
    have HAB := Lib.hid hall
    have hp12 : pn ≤ 12 := by
      have h := hall
      unfold allB at h
      rw [Bool.and_eq_true, Bool.and_eq_true] at h
      have := of_decide_eq_true h.2.1
      rw [HL.out] at this
      exact this
    by_cases h0 : pn = 0
    · subst h0
      obtain rfl := isGA_off HG.out (.inr HL.out)
      clear hall
      go_enter Try.func32, Try.ntmps32
      go_wp2_with fail
      rw [← HW.out]
      refine LT.out.mono ?_
      rintro e w1 ⟨he, bb⟩
      rw [HS.out] at he
      subst he
      have B := (f.next bb).b
      have F := Lib.hid (show AnsList w [] (.returned (.slice (some ⟨w1.heap.size, 0, none⟩) 0 0)) (w1.alloc (.cells #[] 2)) from ⟨_, 0, 0, rfl, own_empty w1 _ B.size, B.alloc B.size _⟩)
      clear f bb LT HG B
      go_wp2
      go_ret
      exact F.out
    · have hp0 : 0 < pn := by omega
      have d0 : ((pn : Int) == 0) = false := by simp; omega
      have HON := Lib.hid (isGA_on HG.out hall (by rw [HL.out]; exact hp0))
      clear hall
      go_enter Try.func32, Try.ntmps32
      go_wp2_with fail
      rw [← HW.out]
      refine LT.out.mono ?_
      rintro e w1 ⟨he, bb⟩
      rw [HS.out] at he
      subst he
      replace f := f.next bb
      clear bb LT
      obtain ⟨b, off, D, dn, dc, rfl, hbb, hc, hsg, hcap⟩ := f.s'.spot hp0
      have hdn : dn ≤ 1048576 := by have := HE.out 0; rw [hsg.1] at this; exact this
      have LR := Lib.hid (l2Renamed D dn dc (ts.getD 0 []) w1 (hsg.more (Nat.le_of_lt f.size)) hdn)
      have HFD := Lib.hid f
      clear hsg hcap f
      have hc0 : w1.cell? ⟨b, off, none⟩ = some (.slice D dn dc) := by simpa using hc
      clear hc
      have i0 : (0 : Int) < (pn : Int) := by omega
      go_wp2_with fail
      refine LR.out.mono ?_
      rintro e w2 ⟨O, on, oc, rfl, ho, bb⟩
      have f2 := HFD.out.next bb
      have HH := Lib.hid (show HeadA w A n c sg (some ⟨b, off, none⟩) pn ts ys (pn - 1) (.slice O on oc) w2 1 from ⟨O, on, oc, _, rfl, by omega, by omega, Nat.le_refl _, Own.lower ho HFD.out.b.size, .inr (ren_ok HON.out.2), HON.out.1, f2⟩)
      clear f2 ho bb LR HON HG hc0 HFD
      go_wp2_with fail
      go_loopg [5, 6] (pn - 1) (fun g_ r k_ wr => ∃ i : Nat, k_ = .int .i64 (i : Int) ∧ HeadA w A n c sg (some ⟨b, off, none⟩) pn ts ys g_ r wr i)
      case atStart => exact ⟨1, rfl, HH.out⟩
      case round =>
        obtain ⟨i, rfl, O, on, oc, o, rfl, hle, hgk, hi1, ho, hok, hga, f⟩ := hrel
        clear HH
        have hon : on ≤ 1048576 := by
          rw [Own.len ho]
          rcases hok with hok | hok
          · rw [hok]; simp
          · have := (term_len hok).2; omega
        have i0' : (0 : Int) ≤ (i : Int) := by omega
        by_cases hip : i < pn
        · have i1 : (i : Int) < (pn : Int) := by omega
          by_cases hon0 : on = 0
          · subst hon0
            have ho0 : o = [] := List.eq_nil_of_length_eq_zero (Own.len ho).symm
            subst ho0
            have hys := ga_nil hga
            have F := Lib.hid (show AnsList w ys (.returned (.slice O 0 oc)) wr from ⟨O, 0, oc, rfl, by rw [hys]; exact ho, f.b⟩)
            clear ho hok hga f hys hgk
            go_wp2
            go_ret
            exact F.out
          · have hon1 : (0 : Int) < (on : Int) := by omega
            have hoke : termOkB sg o = true := by
              rcases hok with hok | hok
              · exact absurd (by rw [Own.len ho, hok]; rfl) hon0
              · exact hok
            obtain ⟨b2, off2, D2, dn2, dc2, e, hbb2, hc2, hsg, hcap⟩ := f.s'.spot hip
            injection e with e
            injection e with e1 e2
            subst e1
            subst e2
            have hdn2 : dn2 ≤ 1048576 := by have := HE.out i; rw [hsg.1] at this; exact this
            have hokt := all_get HAB.out (i := i) (by rw [HL.out]; exact hip)
            obtain ⟨o', hG', hga'⟩ := ga_step hga (show i < ts.length by rw [HL.out]; exact hip) rfl
            obtain ⟨GG, TT, hGs, ho'⟩ := isG_gs hG' hoke hokt
            have ko := look.own_cap ho
            have fd := f.drew
            have LG := Lib.hid (l5Least A O D2 n c on oc dn2 dc2 sg o (ts.getD i []) wr.drew fd.s1 (Own.seg ho) (hsg.more (Nat.le_of_lt f.size)) hn hon hdn2 ⟨ko.1, ko.2.1⟩ ⟨hcap.1, hcap.2.1⟩ (sig_arities (termOk_parts hoke).1).1 (term_parts hoke).2.2 (term_parts hokt).2.2 GG TT hGs)
            rw [← ho'] at LG
            have cA := f.cell
            have HF := Lib.hid fd
            have HGA := Lib.hid hga'
            have HOK := Lib.hid (isG_ok hG')
            have hgk2 := Lib.hid (show gk - 1 < gk ∧ i + 1 + (gk - 1) = pn ∧ i + 1 ≤ pn by omega)
            have zf := f.size
            clear hsg hcap ko hG' hga' hga hok ho f fd hgk hGs ho' hoke hokt
            go_wp2_with fail
            go_region_held3 (fun w' => w'.cell? ⟨w.heap.size, 0, none⟩ = some (.slice A n c) ∧ w'.cell? ⟨b, off + i, none⟩ = some (.slice D2 dn2 dc2))
              (first | exact ⟨cA, hc2⟩ | exact ⟨y1, y2⟩)
              (first
                | (go_at_call 79; refine LG.out.mono ?_; rintro e w3 ⟨O', on', oc', rfl, ho', bb⟩; have f3 := HF.out.next bb; have y1 := f3.cell; have y2 : w3.cell? ⟨b, off + i, none⟩ = some (.slice D2 dn2 dc2) := (bb.cell (p := ⟨b, off + i, none⟩) (by show b < wr.heap.size; omega)).trans hc2))
            have S : HeadA w A n c sg (some ⟨b, off, none⟩) pn ts ys (gk - 1) (.slice O' on' oc') w3 (i + 1) := ⟨O', on', oc', o', rfl, hgk2.out.2.2, hgk2.out.2.1, by omega, Own.lower ho' HF.out.b.size, HOK.out, HGA.out, f3⟩
            have HSS := Lib.hid S
            clear S ho' bb f3 LG cA hc2 HF HGA HOK y1 y2
            go_wp2
            go_roundg (gk - 1)
            case measure => exact hgk2.out.1
            case rel => exact ⟨i + 1, by simp, HSS.out⟩
        · have hys := ga_end hga (by rw [HL.out]; omega)
          have F := Lib.hid (show AnsList w ys (.returned (.slice O on oc)) wr from ⟨O, on, oc, rfl, by rw [hys]; exact ho, f.b⟩)
          have i2 : ¬ (i : Int) < (pn : Int) := by omega
          clear ho hok hga f hys hgk
          go_wp2
          go_ret
          exact F.out
theorem specGeneralisedAllX (A P : Option Addr) (n c pn pc : Nat) (sg : List Int) (ts : List (List Int)) (w : World) (h : Seg w w.heap.size A n sg) (hp : Segs w w.heap.size P pn ts) (hn : n ≤ 1048576) (htot : tot ts ≤ 1048576) (_ : pn ≤ pc) (_ : pc ≤ 9223372036854775807) {ys : List Int} (hG : IsGA sg ts ys) :
    Calls Try.prog 32 #[.agg #[.slice A n c], .slice P pn pc] w (AnsList w ys) := specGeneralisedAll A P n c pn pc sg ts w h hp hn htot hG
end Go.Proofs.Ytkmhnkljigncmaa.genAll
end

section
/-
  CONTRACT: laws.big: more than 4096 bytes. Conditions: none. By an AI agent.
-/
namespace Go.Proofs.Ytkmhnkljigncmaa.bigs
open Go.RowKit Go.Proofs.Ytkmhnkljigncmaa.base Go.Proofs.Ytkmhnkljigncmaa.ints

theorem bigAns (A : Option Addr) (n c : Nat) (b : Bool) (w : World) (hb : decide (4096 < n) = b) (hn : n ≤ 9223372036854775807) : Calls Try.prog 12 #[.slice A n c] w fun e w' => w = w' ∧ e = .returned (.bool b) := by
  cases b with
  | true =>
    have h : (4096 : Int) < (n : Int) := by have := of_decide_eq_true hb; omega
    clear hb
    go_enter Try.func12, Try.ntmps12
    go_wp2
    go_ret
    exact ⟨rfl, rfl⟩
  | false =>
    have h : ¬ (4096 : Int) < (n : Int) := by have := of_decide_eq_false hb; omega
    have h2 : decide (4096 < n) = false := hb
    clear hb
    go_enter Try.func12, Try.ntmps12
    go_wp2
    go_ret
    exact ⟨rfl, rfl⟩
end Go.Proofs.Ytkmhnkljigncmaa.bigs
end

section
/-
  WORDS of the laws' walks: what stands behind a draw of a signature and two terms ('T1'), a variable that holds a substitution ('Sv'); laws.likeInts of two lists that read the same. Conditions: none; plain lemmas. By an AI agent.
-/
namespace Go.Proofs.Ytkmhnkljigncmaa.lawT
open Go.RowKit Go.Proofs.Ytkmhnkljigncmaa.base Go.Proofs.Ytkmhnkljigncmaa.ints Go.Proofs.Ytkmhnkljigncmaa.segs
set_option maxRecDepth 100000

/-- what stands after the first draw: the signature's variable at v3 -/
structure T1 (w : World) (v3 : Nat) (S : Option Addr) (sn sc : Nat) (sg : List Int) (O : Option Addr) (on : Nat) (p : List Int) (Q : Option Addr) (qn : Nat) (t : List Int) (wr : World) : Prop where
  s : Seg wr wr.heap.size S sn sg
  o : Seg wr wr.heap.size O on p
  q : Seg wr wr.heap.size Q qn t
  r3 : Row wr v3 26 #[.slice S sn sc]
  bel : Below w.heap.size w wr
section
variable {w : World} {v3 : Nat} {S : Option Addr} {sn sc : Nat} {sg : List Int} {O : Option Addr} {on : Nat} {p : List Int} {Q : Option Addr} {qn : Nat} {t : List Int} {wr w' : World}
theorem T1.next (f : T1 w v3 S sn sc sg O on p Q qn t wr) (hb : Below wr.heap.size wr w') : T1 w v3 S sn sc sg O on p Q qn t w' :=
  ⟨f.s.next hb, f.o.next hb, f.q.next hb, f.r3.next hb, next_trans f.bel hb⟩
theorem T1.drew (f : T1 w v3 S sn sc sg O on p Q qn t wr) : T1 w v3 S sn sc sg O on p Q qn t wr.drew := ⟨f.s, f.o, f.q, f.r3, f.bel.drew⟩
theorem T1.cell (f : T1 w v3 S sn sc sg O on p Q qn t wr) : wr.cell? ⟨v3, 0, none⟩ = some (.slice S sn sc) := f.r3.cell 0
end
/-- a variable that holds a substitution -/
structure Sv (wr : World) (v : Nat) (D : Option Addr) (dn dc : Nat) (xss : List (List Int)) : Prop where
  r : Row wr v 31 #[.slice D dn dc]
  s : Segs wr wr.heap.size D dn xss
section
variable {v : Nat} {D : Option Addr} {dn dc : Nat} {xss : List (List Int)} {wr w' : World}
theorem Sv.next (f : Sv wr v D dn dc xss) (hb : Below wr.heap.size wr w') : Sv w' v D dn dc xss := ⟨f.r.next hb, f.s.next hb⟩
theorem Sv.cell (f : Sv wr v D dn dc xss) : wr.cell? ⟨v, 0, none⟩ = some (.slice D dn dc) := f.r.cell 0
end
theorem below_alloc (w : World) (x : Obj) : Below w.heap.size w (w.alloc x) := (Below.refl _ _).alloc (Nat.le_refl _) _
theorem below_drewN (w : World) (d : Nat) : Below w.heap.size w (w.drewN d) := ⟨rfl, rfl, rfl, Nat.le_refl _, fun _ _ => rfl⟩

end Go.Proofs.Ytkmhnkljigncmaa.lawT
end

section
/-
  THE WALK of laws.FnGeneralised: it returns true, whatever the bytes, and writes nothing that was there. Conditions: the slice holds bytes. By an AI agent.
-/
namespace Go.Proofs.Ytkmhnkljigncmaa.wFnGeneralised
open Go.RowKit Go.Proofs.Ytkmhnkljigncmaa.base Go.Proofs.Ytkmhnkljigncmaa.ints Go.Proofs.Ytkmhnkljigncmaa.sig Go.Proofs.Ytkmhnkljigncmaa.same Go.Proofs.Ytkmhnkljigncmaa.term Go.Proofs.Ytkmhnkljigncmaa.cursor Go.Proofs.Ytkmhnkljigncmaa.termOk Go.Proofs.Ytkmhnkljigncmaa.marks Go.Proofs.Ytkmhnkljigncmaa.app Go.Proofs.Ytkmhnkljigncmaa.sym Go.Proofs.Ytkmhnkljigncmaa.segs Go.Proofs.Ytkmhnkljigncmaa.segsHelp Go.Proofs.Ytkmhnkljigncmaa.dice Go.Proofs.Ytkmhnkljigncmaa.inside Go.Proofs.Ytkmhnkljigncmaa.look Go.Proofs.Ytkmhnkljigncmaa.plainOf Go.Proofs.Ytkmhnkljigncmaa.drawVar Go.Proofs.Ytkmhnkljigncmaa.drawMatched Go.Proofs.Ytkmhnkljigncmaa.drawGenr Go.Proofs.Ytkmhnkljigncmaa.matchMath Go.Proofs.Ytkmhnkljigncmaa.matchSpec Go.Proofs.Ytkmhnkljigncmaa.matchImpl Go.Proofs.Ytkmhnkljigncmaa.unifLaw Go.Proofs.Ytkmhnkljigncmaa.general Go.Proofs.Ytkmhnkljigncmaa.genImpl Go.Proofs.Ytkmhnkljigncmaa.genAll Go.Proofs.Ytkmhnkljigncmaa.bigs Go.Proofs.Ytkmhnkljigncmaa.lawT
set_option maxRecDepth 100000

theorem two_segs {w : World} {t : TypeId} {A1 A2 : Option Addr} {n1 c1 n2 c2 : Nat} {x1 x2 : List Int} (h1 : Seg w w.heap.size A1 n1 x1) (h2 : Seg w w.heap.size A2 n2 x2) (k1 : Cap A1 n1 c1) (k2 : Cap A2 n2 c2) :
    Segs (w.alloc (.cells #[.slice A1 n1 c1, .slice A2 n2 c2] t)) (w.alloc (.cells #[.slice A1 n1 c1, .slice A2 n2 c2] t)).heap.size (some ⟨w.heap.size, 0, none⟩) 2 [x1, x2] := by
  have r := Row.new w t #[.slice A1 n1 c1, .slice A2 n2 c2]
  have b : Below w.heap.size w (w.alloc (.cells #[.slice A1 n1 c1, .slice A2 n2 c2] t)) := (Below.refl _ _).alloc (Nat.le_refl _) _
  refine ⟨rfl, fun _ => ⟨w.heap.size, 0, rfl, r.lt, fun j hj => ?_⟩⟩
  rw [Nat.zero_add, r.cell j]
  rcases (show j = 0 ∨ j = 1 by omega) with rfl | rfl
  · exact ⟨A1, n1, c1, rfl, h1.next b, k1⟩
  · exact ⟨A2, n2, c2, rfl, h2.next b, k2⟩
theorem two_tot {x y : List Int} (hx : x.length ≤ 65) (hy : y.length ≤ 65) : tot [x, y] ≤ 1048576 := by
  have := tot_le (xss := [x, y]) (M := 65) (fun j => by
    match j with
    | 0 => exact hx
    | 1 => exact hy
    | j + 2 => simp)
  simp only [List.length_cons, List.length_nil] at this
  omega

set_option maxHeartbeats 16000000 in
theorem law (A : Option Addr) (n c : Nat) (_ : List Int) (w : World) (h : SegB w w.heap.size A n) (hN : n ≤ 9223372036854775807) :
    Calls Try.prog 4 #[.slice A n c] w (Fine w) := by
  by_cases hbig : n ≤ 4096
  · have LB := Lib.hid (bigAns A n c false w (by simp; omega) hN)
    go_enter Try.func4, Try.ntmps4
    go_wp2_with fail
    refine LB.out.mono ?_
    rintro e w' ⟨rfl, rfl⟩
    clear LB
    go_wp2_with fail
    refine (drawGeneralised A n c w h hbig).mono ?_
    rintro e w2 ⟨S, sn, sc, sg, O, on, oc, a, Q, qn, qc, b, rfl, s1, s2, s3, hsn, ⟨hon, hoc⟩, ⟨hqn, hqc⟩, b2⟩
    obtain ⟨v3, h3⟩ : ∃ v, w2.heap.size = v := ⟨_, rfl⟩
    obtain ⟨W, hW⟩ : ∃ W, W = w2.alloc (.cells #[.slice S sn sc] 26) := ⟨_, rfl⟩
    have T : T1 w v3 S sn sc sg O on a Q qn b W := by
      have bb : Below w2.heap.size w2 W := by rw [hW]; exact below_alloc _ _
      exact ⟨s1.next bb, s2.next bb, s3.next bb, by rw [hW, ← h3]; exact Row.new _ _ _, next_trans b2 bb⟩
    have HW := Lib.hid hW
    have H3 := Lib.hid h3
    have c30 : (w2.alloc (.cells #[.slice S sn sc] 26)).cell? ⟨v3, 0, none⟩ = some (.slice S sn sc) := by rw [← hW]; exact T.cell
    obtain ⟨g, hG⟩ := isG_ex sg a b
    obtain ⟨ga, hGA⟩ := isGA_ex sg [a, b]
    have hgl := isG_len hG
    have hgal := isGA_len hGA
    have HG := Lib.hid hG
    have HGB := Lib.hid (isG_symm hG)
    have HGA := Lib.hid hGA
    have HTT := Lib.hid (two_tot (x := a) (y := b) (by rw [s2.1]; exact hon) (by rw [s3.1]; exact hqn))
    have hBS := Lib.hid h
    clear h hW h3 b2 s1 s2 s3 hG hGA
    have c3 := T.cell
    go_wp2_with fail
    rw [← HW.out, H3.out]
    refine (implGeneralised S O Q sn sc on oc qn qc sg a b W g HG.out T.s T.o T.q (by omega) (by omega) (by omega) ⟨hoc.1, hoc.2.1⟩ ⟨hqc.1, hqc.2.1⟩).mono ?_
    rintro e w4 ⟨D, dn, dc, rfl, od, bb⟩
    have sd := Own.seg od
    have hdn : dn ≤ 60 := by rw [Own.len od]; exact hgl
    have hdc := own_cap od
    replace T := T.next bb
    clear bb od c30
    replace c3 := T.cell
    go_wp2_with fail
    refine (specGeneralised S O Q sn sc on oc qn qc sg a b w4 g HG.out T.s T.o T.q (by omega) (by omega) (by omega) ⟨hoc.1, hoc.2.1⟩ ⟨hqc.1, hqc.2.1⟩).mono ?_
    rintro e w5 ⟨E, en, ec, rfl, oe, bb⟩
    have se := Own.seg oe
    have hen : en ≤ 60 := by rw [Own.len oe]; exact hgl
    replace T := T.next bb
    replace sd := sd.next bb
    clear bb oe
    replace c3 := T.cell
    go_wp2_with fail
    refine (implSame D E dn en dc ec g g w5 sd se (by omega) (by omega)).mono ?_
    rintro e w6 ⟨he, d, hd⟩
    have bb : Below w5.heap.size w5 w6 := by rw [hd]; exact below_drewN w5 d
    rw [decide_eq_true rfl] at he
    subst he
    replace T := T.next bb
    replace sd := sd.next bb
    clear bb se hd
    replace c3 := T.cell
    by_cases hd0 : dn = 0
    · subst hd0
      have TB := Lib.hid T.bel
      clear T sd
      go_wp2
      go_ret
      exact ⟨rfl, TB.out⟩
    have hgne : g ≠ [] := fun e => hd0 (by rw [← sd.1, e]; rfl)
    have hdz : ¬ (dn : Int) = 0 := by omega
    have HI := Lib.hid (isG_facts HG.out hgne)
    clear hgne
    go_wp2_with fail
    refine (drawMatched A n c _ (segB_below hBS.out T.bel) hbig).mono ?_
    rintro e w8 ⟨S', sn', sc', sg', P, pn, pc, p, Q', qn', qc', t', rfl, -, q2, -, -, ⟨hpn, hpc⟩, -, bb⟩
    obtain ⟨v7, h7⟩ : ∃ v, w8.heap.size = v := ⟨_, rfl⟩
    obtain ⟨W9, hW9⟩ : ∃ W, W = w8.alloc (.cells #[.slice S' sn' sc'] 26) := ⟨_, rfl⟩
    have bb9 : Below w8.heap.size w8 W9 := by rw [hW9]; exact below_alloc _ _
    have sp := q2.next bb9
    replace T := (T.next bb).next bb9
    replace sd := (sd.next bb).next bb9
    have HW9 := Lib.hid hW9
    have H7 := Lib.hid h7
    have m3 : (w8.alloc (.cells #[.slice S' sn' sc'] 26)).cell? ⟨v3, 0, none⟩ = some (.slice S sn sc) := by rw [← hW9]; exact T.cell
    obtain ⟨b1, hb1⟩ : ∃ z, instB sg p a = z := ⟨_, rfl⟩
    obtain ⟨b2, hb2⟩ : ∃ z, instB sg p b = z := ⟨_, rfl⟩
    have HB1 := Lib.hid hb1
    have HB2 := Lib.hid hb2
    have HIA := Lib.hid HI.out.2.1
    have HIB := Lib.hid HI.out.2.2.1
    clear bb bb9 q2 hW9 h7 hb1 hb2
    replace c3 := T.cell
    go_wp2_with fail
    rw [← HW9.out, H7.out]
    refine (specInstanceIn S P O sn sc pn pc on oc sg p a W9 T.s sp T.o (by omega) (by omega) (by omega) hoc.1 hoc.2.1).mono ?_
    rintro e w10 ⟨he, bb⟩
    rw [HB1.out] at he
    subst he
    replace T := T.next bb
    replace sd := sd.next bb
    replace sp := sp.next bb
    clear bb m3
    replace c3 := T.cell
    cases b1 with
    | false =>
      clear sp
      have ho1 := hoc.1
      have ho2 := hoc.2.1
      have hq1 := hqc.1
      have hq2 := hqc.2.1
      have Tz := T.drew
      have dz : Seg w10.drew w10.drew.heap.size D dn g := sd
      clear T sd
      go_wp2_with fail
      go_region_held3 (fun w' => w'.cell? ⟨v3, 0, none⟩ = some (.slice S sn sc))
        (go_keep)
        (first
          | (go_at_call 30; (with_reducible refine (implInstanceIn S D Q sn sc dn dc qn qc sg g b w20 T20.s d20 T20.q (by omega) (by omega) (by omega) hq1 hq2).mono ?_); rintro e w21 ⟨he, bb21⟩; rw [HIB.out] at he; subst he; have T21 := T20.next bb21; have d21 := d20.next bb21; have k21 := T21.cell)
          | (go_at_call 30; (with_reducible refine (implInstanceIn S D O sn sc dn dc on oc sg g a w10.drew Tz.s dz Tz.o (by omega) (by omega) (by omega) ho1 ho2).mono ?_); rintro e w20 ⟨he, bb20⟩; rw [HIA.out] at he; subst he; have T20 := Tz.next bb20; have d20 := dz.next bb20; have k20 := T20.cell)
          | (go_at_call 26; (with_reducible refine (implGeneralised S Q O sn sc qn qc on oc sg b a w21 g HGB.out T21.s T21.q T21.o (by omega) (by omega) (by omega) ⟨hq1, hq2⟩ ⟨ho1, ho2⟩).mono ?_); rintro e w22 ⟨E2, en2, ec2, rfl, oe2, bb22⟩; have se2 := Own.seg oe2; have hen2 : en2 ≤ 60 := (by rw [Own.len oe2]; exact hgl); have T22 := T21.next bb22; have d22 := d21.next bb22; have k22 := T22.cell)
          | (go_at_call 23; (with_reducible refine (implSame R1 R2 rn1 rn2 rc1 rc2 ga ga w25 r25 r26 (by omega) (by omega)).mono ?_); rintro e w26 ⟨he, dd2, hd26⟩; have bb26 : Below w25.heap.size w25 w26 := (by rw [hd26]; exact below_drewN w25 dd2); rw [decide_eq_true rfl] at he; subst he; clear hd26; have TB := Lib.hid (next_trans T25.bel bb26); have k26 := (T25.next bb26).cell)
          | (go_at_call 23; (with_reducible refine (implSame E2 D en2 dn ec2 dc g g w22 se2 d22 (by omega) (by omega)).mono ?_); rintro e w23 ⟨he, dd, hd23⟩; have bb23 : Below w22.heap.size w22 w23 := (by rw [hd23]; exact below_drewN w22 dd); rw [decide_eq_true rfl] at he; subst he; clear hd23; have T23 := T22.next bb23; have k23 := T23.cell; have hC := two_segs (t := 24) T23.o T23.q hoc hqc; have T23a := T23.next (below_alloc w23 (.cells #[.slice O on oc, .slice Q qn qc] 24)); have T23b := T23a.next (below_alloc (w23.alloc (.cells #[.slice O on oc, .slice Q qn qc] 24)) (.cells #[.slice O on oc, .slice Q qn qc] 24)); have hA := hC.next (below_alloc (w23.alloc (.cells #[.slice O on oc, .slice Q qn qc] 24)) (.cells #[.slice O on oc, .slice Q qn qc] 24)); have hB := two_segs (t := 24) T23a.o T23a.q hoc hqc; have hsz : (w23.alloc (.cells #[.slice O on oc, .slice Q qn qc] 24)).heap.size = w23.heap.size + 1 := (by simp); rw [hsz] at hB; clear hsz)
          | (go_at_call 31; (with_reducible refine (implGeneralisedAll S _ sn sc 2 2 sg [a, b] ((w23.alloc (.cells #[.slice O on oc, .slice Q qn qc] 24)).alloc (.cells #[.slice O on oc, .slice Q qn qc] 24)) T23b.s hA (by omega) HTT.out (by omega) (by omega) HGA.out).mono ?_); rintro e w24 ⟨R1, rn1, rc1, rfl, or1, bb24⟩; have hrn1 : rn1 ≤ 60 := (by rw [Own.len or1]; exact hgal); have r24 := Own.seg or1; have T24 := T23b.next bb24; have F24 := hB.next bb24; have k24 := T24.cell)
          | (go_at_call 31; (with_reducible refine (implGeneralisedAll S _ sn sc 2 2 sg [a, b] ((w23.alloc (.cells #[.slice O on oc, .slice Q qn qc] 24)).alloc (.cells #[.slice O on oc, .slice Q qn qc] 24)) T23b.s hB (by omega) HTT.out (by omega) (by omega) HGA.out).mono ?_); rintro e w24 ⟨R1, rn1, rc1, rfl, or1, bb24⟩; have hrn1 : rn1 ≤ 60 := (by rw [Own.len or1]; exact hgal); have r24 := Own.seg or1; have T24 := T23b.next bb24; have F24 := hA.next bb24; have k24 := T24.cell)
          | (go_at_call 31; (with_reducible refine (implGeneralisedAll S _ sn sc 2 2 sg [a, b] (w23.alloc (.cells #[.slice O on oc, .slice Q qn qc] 24)) T23a.s hC (by omega) HTT.out (by omega) (by omega) HGA.out).mono ?_); rintro e w24 ⟨R1, rn1, rc1, rfl, or1, bb24⟩; have hrn1 : rn1 ≤ 60 := (by rw [Own.len or1]; exact hgal); have r24 := Own.seg or1; have T24c := T23a.next bb24; have k24 := T24c.cell; have F24 := two_segs (t := 24) T24c.o T24c.q hoc hqc; have rr24 := r24.next (below_alloc w24 (.cells #[.slice O on oc, .slice Q qn qc] 24)); have T24 := T24c.next (below_alloc w24 (.cells #[.slice O on oc, .slice Q qn qc] 24)))
          | (go_at_call 32; (with_reducible refine (specGeneralisedAll S _ sn sc 2 2 sg [a, b] (w24.alloc (.cells #[.slice O on oc, .slice Q qn qc] 24)) T24.s F24 (by omega) HTT.out HGA.out).mono ?_); rintro e w25 ⟨R2, rn2, rc2, rfl, or2, bb25⟩; have hrn2 : rn2 ≤ 60 := (by rw [Own.len or2]; exact hgal); have r26 := Own.seg or2; have T25 := T24.next bb25; have k25 := T25.cell; have r25 := rr24.next bb25)
          | (go_at_call 32; (with_reducible refine (specGeneralisedAll S _ sn sc 2 2 sg [a, b] w24 T24.s F24 (by omega) HTT.out HGA.out).mono ?_); rintro e w25 ⟨R2, rn2, rc2, rfl, or2, bb25⟩; have hrn2 : rn2 ≤ 60 := (by rw [Own.len or2]; exact hgal); have r26 := Own.seg or2; have T25 := T24.next bb25; have k25 := T25.cell; have r25 := r24.next bb25))
      all_goals (go_wp2; go_ret; exact ⟨rfl, TB.out⟩)
    | true =>
      go_wp2_with fail
      refine (specInstanceIn S P Q sn sc pn pc qn qc sg p b w10 T.s sp T.q (by omega) (by omega) (by omega) hqc.1 hqc.2.1).mono ?_
      rintro e w11 ⟨he, bb⟩
      rw [HB2.out] at he
      subst he
      replace T := T.next bb
      replace sd := sd.next bb
      replace sp := sp.next bb
      clear bb
      replace c3 := T.cell
      cases b2 with
      | false =>
        clear sp
        have ho1 := hoc.1
        have ho2 := hoc.2.1
        have hq1 := hqc.1
        have hq2 := hqc.2.1
        have Tz := T.drew
        have dz : Seg w11.drew w11.drew.heap.size D dn g := sd
        clear T sd
        go_wp2_with fail
        go_region_held3 (fun w' => w'.cell? ⟨v3, 0, none⟩ = some (.slice S sn sc))
          (go_keep)
          (first
            | (go_at_call 30; (with_reducible refine (implInstanceIn S D Q sn sc dn dc qn qc sg g b w20 T20.s d20 T20.q (by omega) (by omega) (by omega) hq1 hq2).mono ?_); rintro e w21 ⟨he, bb21⟩; rw [HIB.out] at he; subst he; have T21 := T20.next bb21; have d21 := d20.next bb21; have k21 := T21.cell)
            | (go_at_call 30; (with_reducible refine (implInstanceIn S D O sn sc dn dc on oc sg g a w11.drew Tz.s dz Tz.o (by omega) (by omega) (by omega) ho1 ho2).mono ?_); rintro e w20 ⟨he, bb20⟩; rw [HIA.out] at he; subst he; have T20 := Tz.next bb20; have d20 := dz.next bb20; have k20 := T20.cell)
            | (go_at_call 26; (with_reducible refine (implGeneralised S Q O sn sc qn qc on oc sg b a w21 g HGB.out T21.s T21.q T21.o (by omega) (by omega) (by omega) ⟨hq1, hq2⟩ ⟨ho1, ho2⟩).mono ?_); rintro e w22 ⟨E2, en2, ec2, rfl, oe2, bb22⟩; have se2 := Own.seg oe2; have hen2 : en2 ≤ 60 := (by rw [Own.len oe2]; exact hgl); have T22 := T21.next bb22; have d22 := d21.next bb22; have k22 := T22.cell)
            | (go_at_call 23; (with_reducible refine (implSame R1 R2 rn1 rn2 rc1 rc2 ga ga w25 r25 r26 (by omega) (by omega)).mono ?_); rintro e w26 ⟨he, dd2, hd26⟩; have bb26 : Below w25.heap.size w25 w26 := (by rw [hd26]; exact below_drewN w25 dd2); rw [decide_eq_true rfl] at he; subst he; clear hd26; have TB := Lib.hid (next_trans T25.bel bb26); have k26 := (T25.next bb26).cell)
            | (go_at_call 23; (with_reducible refine (implSame E2 D en2 dn ec2 dc g g w22 se2 d22 (by omega) (by omega)).mono ?_); rintro e w23 ⟨he, dd, hd23⟩; have bb23 : Below w22.heap.size w22 w23 := (by rw [hd23]; exact below_drewN w22 dd); rw [decide_eq_true rfl] at he; subst he; clear hd23; have T23 := T22.next bb23; have k23 := T23.cell; have hC := two_segs (t := 24) T23.o T23.q hoc hqc; have T23a := T23.next (below_alloc w23 (.cells #[.slice O on oc, .slice Q qn qc] 24)); have T23b := T23a.next (below_alloc (w23.alloc (.cells #[.slice O on oc, .slice Q qn qc] 24)) (.cells #[.slice O on oc, .slice Q qn qc] 24)); have hA := hC.next (below_alloc (w23.alloc (.cells #[.slice O on oc, .slice Q qn qc] 24)) (.cells #[.slice O on oc, .slice Q qn qc] 24)); have hB := two_segs (t := 24) T23a.o T23a.q hoc hqc; have hsz : (w23.alloc (.cells #[.slice O on oc, .slice Q qn qc] 24)).heap.size = w23.heap.size + 1 := (by simp); rw [hsz] at hB; clear hsz)
            | (go_at_call 31; (with_reducible refine (implGeneralisedAll S _ sn sc 2 2 sg [a, b] ((w23.alloc (.cells #[.slice O on oc, .slice Q qn qc] 24)).alloc (.cells #[.slice O on oc, .slice Q qn qc] 24)) T23b.s hA (by omega) HTT.out (by omega) (by omega) HGA.out).mono ?_); rintro e w24 ⟨R1, rn1, rc1, rfl, or1, bb24⟩; have hrn1 : rn1 ≤ 60 := (by rw [Own.len or1]; exact hgal); have r24 := Own.seg or1; have T24 := T23b.next bb24; have F24 := hB.next bb24; have k24 := T24.cell)
            | (go_at_call 31; (with_reducible refine (implGeneralisedAll S _ sn sc 2 2 sg [a, b] ((w23.alloc (.cells #[.slice O on oc, .slice Q qn qc] 24)).alloc (.cells #[.slice O on oc, .slice Q qn qc] 24)) T23b.s hB (by omega) HTT.out (by omega) (by omega) HGA.out).mono ?_); rintro e w24 ⟨R1, rn1, rc1, rfl, or1, bb24⟩; have hrn1 : rn1 ≤ 60 := (by rw [Own.len or1]; exact hgal); have r24 := Own.seg or1; have T24 := T23b.next bb24; have F24 := hA.next bb24; have k24 := T24.cell)
            | (go_at_call 31; (with_reducible refine (implGeneralisedAll S _ sn sc 2 2 sg [a, b] (w23.alloc (.cells #[.slice O on oc, .slice Q qn qc] 24)) T23a.s hC (by omega) HTT.out (by omega) (by omega) HGA.out).mono ?_); rintro e w24 ⟨R1, rn1, rc1, rfl, or1, bb24⟩; have hrn1 : rn1 ≤ 60 := (by rw [Own.len or1]; exact hgal); have r24 := Own.seg or1; have T24c := T23a.next bb24; have k24 := T24c.cell; have F24 := two_segs (t := 24) T24c.o T24c.q hoc hqc; have rr24 := r24.next (below_alloc w24 (.cells #[.slice O on oc, .slice Q qn qc] 24)); have T24 := T24c.next (below_alloc w24 (.cells #[.slice O on oc, .slice Q qn qc] 24)))
            | (go_at_call 32; (with_reducible refine (specGeneralisedAll S _ sn sc 2 2 sg [a, b] (w24.alloc (.cells #[.slice O on oc, .slice Q qn qc] 24)) T24.s F24 (by omega) HTT.out HGA.out).mono ?_); rintro e w25 ⟨R2, rn2, rc2, rfl, or2, bb25⟩; have hrn2 : rn2 ≤ 60 := (by rw [Own.len or2]; exact hgal); have r26 := Own.seg or2; have T25 := T24.next bb25; have k25 := T25.cell; have r25 := rr24.next bb25)
            | (go_at_call 32; (with_reducible refine (specGeneralisedAll S _ sn sc 2 2 sg [a, b] w24 T24.s F24 (by omega) HTT.out HGA.out).mono ?_); rintro e w25 ⟨R2, rn2, rc2, rfl, or2, bb25⟩; have hrn2 : rn2 ≤ 60 := (by rw [Own.len or2]; exact hgal); have r26 := Own.seg or2; have T25 := T24.next bb25; have k25 := T25.cell; have r25 := r24.next bb25))
        all_goals (go_wp2; go_ret; exact ⟨rfl, TB.out⟩)
      | true =>
        have HPG := Lib.hid (HI.out.2.2.2 p HB1.out HB2.out)
        go_wp2_with fail
        refine (implInstanceIn S P D sn sc pn pc dn dc sg p g w11 T.s sp sd (by omega) (by omega) (by omega) hdc.1 hdc.2.1).mono ?_
        rintro e w12 ⟨he, bb⟩
        rw [HPG.out] at he
        subst he
        replace T := T.next bb
        replace sd := sd.next bb
        clear bb sp
        replace c3 := T.cell
        have ho1 := hoc.1
        have ho2 := hoc.2.1
        have hq1 := hqc.1
        have hq2 := hqc.2.1
        have Tz := T.drew
        have dz : Seg w12.drew w12.drew.heap.size D dn g := sd
        clear T sd
        go_wp2_with fail
        go_region_held3 (fun w' => w'.cell? ⟨v3, 0, none⟩ = some (.slice S sn sc))
          (go_keep)
          (first
            | (go_at_call 30; (with_reducible refine (implInstanceIn S D Q sn sc dn dc qn qc sg g b w20 T20.s d20 T20.q (by omega) (by omega) (by omega) hq1 hq2).mono ?_); rintro e w21 ⟨he, bb21⟩; rw [HIB.out] at he; subst he; have T21 := T20.next bb21; have d21 := d20.next bb21; have k21 := T21.cell)
            | (go_at_call 30; (with_reducible refine (implInstanceIn S D O sn sc dn dc on oc sg g a w12.drew Tz.s dz Tz.o (by omega) (by omega) (by omega) ho1 ho2).mono ?_); rintro e w20 ⟨he, bb20⟩; rw [HIA.out] at he; subst he; have T20 := Tz.next bb20; have d20 := dz.next bb20; have k20 := T20.cell)
            | (go_at_call 26; (with_reducible refine (implGeneralised S Q O sn sc qn qc on oc sg b a w21 g HGB.out T21.s T21.q T21.o (by omega) (by omega) (by omega) ⟨hq1, hq2⟩ ⟨ho1, ho2⟩).mono ?_); rintro e w22 ⟨E2, en2, ec2, rfl, oe2, bb22⟩; have se2 := Own.seg oe2; have hen2 : en2 ≤ 60 := (by rw [Own.len oe2]; exact hgl); have T22 := T21.next bb22; have d22 := d21.next bb22; have k22 := T22.cell)
            | (go_at_call 23; (with_reducible refine (implSame R1 R2 rn1 rn2 rc1 rc2 ga ga w25 r25 r26 (by omega) (by omega)).mono ?_); rintro e w26 ⟨he, dd2, hd26⟩; have bb26 : Below w25.heap.size w25 w26 := (by rw [hd26]; exact below_drewN w25 dd2); rw [decide_eq_true rfl] at he; subst he; clear hd26; have TB := Lib.hid (next_trans T25.bel bb26); have k26 := (T25.next bb26).cell)
            | (go_at_call 23; (with_reducible refine (implSame E2 D en2 dn ec2 dc g g w22 se2 d22 (by omega) (by omega)).mono ?_); rintro e w23 ⟨he, dd, hd23⟩; have bb23 : Below w22.heap.size w22 w23 := (by rw [hd23]; exact below_drewN w22 dd); rw [decide_eq_true rfl] at he; subst he; clear hd23; have T23 := T22.next bb23; have k23 := T23.cell; have hC := two_segs (t := 24) T23.o T23.q hoc hqc; have T23a := T23.next (below_alloc w23 (.cells #[.slice O on oc, .slice Q qn qc] 24)); have T23b := T23a.next (below_alloc (w23.alloc (.cells #[.slice O on oc, .slice Q qn qc] 24)) (.cells #[.slice O on oc, .slice Q qn qc] 24)); have hA := hC.next (below_alloc (w23.alloc (.cells #[.slice O on oc, .slice Q qn qc] 24)) (.cells #[.slice O on oc, .slice Q qn qc] 24)); have hB := two_segs (t := 24) T23a.o T23a.q hoc hqc; have hsz : (w23.alloc (.cells #[.slice O on oc, .slice Q qn qc] 24)).heap.size = w23.heap.size + 1 := (by simp); rw [hsz] at hB; clear hsz)
            | (go_at_call 31; (with_reducible refine (implGeneralisedAll S _ sn sc 2 2 sg [a, b] ((w23.alloc (.cells #[.slice O on oc, .slice Q qn qc] 24)).alloc (.cells #[.slice O on oc, .slice Q qn qc] 24)) T23b.s hA (by omega) HTT.out (by omega) (by omega) HGA.out).mono ?_); rintro e w24 ⟨R1, rn1, rc1, rfl, or1, bb24⟩; have hrn1 : rn1 ≤ 60 := (by rw [Own.len or1]; exact hgal); have r24 := Own.seg or1; have T24 := T23b.next bb24; have F24 := hB.next bb24; have k24 := T24.cell)
            | (go_at_call 31; (with_reducible refine (implGeneralisedAll S _ sn sc 2 2 sg [a, b] ((w23.alloc (.cells #[.slice O on oc, .slice Q qn qc] 24)).alloc (.cells #[.slice O on oc, .slice Q qn qc] 24)) T23b.s hB (by omega) HTT.out (by omega) (by omega) HGA.out).mono ?_); rintro e w24 ⟨R1, rn1, rc1, rfl, or1, bb24⟩; have hrn1 : rn1 ≤ 60 := (by rw [Own.len or1]; exact hgal); have r24 := Own.seg or1; have T24 := T23b.next bb24; have F24 := hA.next bb24; have k24 := T24.cell)
            | (go_at_call 31; (with_reducible refine (implGeneralisedAll S _ sn sc 2 2 sg [a, b] (w23.alloc (.cells #[.slice O on oc, .slice Q qn qc] 24)) T23a.s hC (by omega) HTT.out (by omega) (by omega) HGA.out).mono ?_); rintro e w24 ⟨R1, rn1, rc1, rfl, or1, bb24⟩; have hrn1 : rn1 ≤ 60 := (by rw [Own.len or1]; exact hgal); have r24 := Own.seg or1; have T24c := T23a.next bb24; have k24 := T24c.cell; have F24 := two_segs (t := 24) T24c.o T24c.q hoc hqc; have rr24 := r24.next (below_alloc w24 (.cells #[.slice O on oc, .slice Q qn qc] 24)); have T24 := T24c.next (below_alloc w24 (.cells #[.slice O on oc, .slice Q qn qc] 24)))
            | (go_at_call 32; (with_reducible refine (specGeneralisedAll S _ sn sc 2 2 sg [a, b] (w24.alloc (.cells #[.slice O on oc, .slice Q qn qc] 24)) T24.s F24 (by omega) HTT.out HGA.out).mono ?_); rintro e w25 ⟨R2, rn2, rc2, rfl, or2, bb25⟩; have hrn2 : rn2 ≤ 60 := (by rw [Own.len or2]; exact hgal); have r26 := Own.seg or2; have T25 := T24.next bb25; have k25 := T25.cell; have r25 := rr24.next bb25)
            | (go_at_call 32; (with_reducible refine (specGeneralisedAll S _ sn sc 2 2 sg [a, b] w24 T24.s F24 (by omega) HTT.out HGA.out).mono ?_); rintro e w25 ⟨R2, rn2, rc2, rfl, or2, bb25⟩; have hrn2 : rn2 ≤ 60 := (by rw [Own.len or2]; exact hgal); have r26 := Own.seg or2; have T25 := T24.next bb25; have k25 := T25.cell; have r25 := r24.next bb25))
        all_goals (go_wp2; go_ret; exact ⟨rfl, TB.out⟩)
  · have LB := Lib.hid (bigAns A n c true w (by simp; omega) hN)
    clear h
    go_enter Try.func4, Try.ntmps4
    go_wp2_with fail
    refine LB.out.mono ?_
    rintro e w' ⟨rfl, rfl⟩
    clear LB
    go_wp2
    go_ret
    exact ⟨rfl, Below.refl _ _⟩
end Go.Proofs.Ytkmhnkljigncmaa.wFnGeneralised
end
