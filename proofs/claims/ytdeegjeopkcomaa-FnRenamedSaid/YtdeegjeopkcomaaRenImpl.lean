/-
  CONTRACTS: impl.Renamed, its closure (which keeps a list of what it has seen in a variable of its caller), fill over that closure. Conditions: the slices read as lists ('Seg'), at most 1048576 numbers. By an AI agent.
-/
import Derived.Test.YtdeegjeopkcomaaRename
import Derived.Test.YtdeegjeopkcomaaLook
namespace Go.Proofs.Ytdeegjeopkcomaa.renImpl
open Go.RowKit Go.Proofs.Ytdeegjeopkcomaa.base Go.Proofs.Ytdeegjeopkcomaa.ints Go.Proofs.Ytdeegjeopkcomaa.sig Go.Proofs.Ytdeegjeopkcomaa.cursor Go.Proofs.Ytdeegjeopkcomaa.term Go.Proofs.Ytdeegjeopkcomaa.termOk Go.Proofs.Ytdeegjeopkcomaa.marks Go.Proofs.Ytdeegjeopkcomaa.app Go.Proofs.Ytdeegjeopkcomaa.appAt Go.Proofs.Ytdeegjeopkcomaa.sym Go.Proofs.Ytdeegjeopkcomaa.segs Go.Proofs.Ytdeegjeopkcomaa.termFacts Go.Proofs.Ytdeegjeopkcomaa.varsMath Go.Proofs.Ytdeegjeopkcomaa.fillMath Go.Proofs.Ytdeegjeopkcomaa.look Go.Proofs.Ytdeegjeopkcomaa.renMath Go.Proofs.Ytdeegjeopkcomaa.rename
set_option maxRecDepth 100000

/-- a number's variable -/
def vn (n : Int) : Int := -1 - n
theorem vn_inj : ∀ a b : Int, vn a = vn b → a = b := fun a b h => by unfold vn at h; omega

/-- only block p, row r and what is new have turned -/
structure Side (p : Nat) (r : Option Nat) (a b : World) : Prop where
  os : b.os = a.os
  tape : b.tape = a.tape
  output : b.output = a.output
  size : a.heap.size ≤ b.heap.size
  block : ∀ k, k < a.heap.size → k ≠ p → some k ≠ r → b.heap[k]? = a.heap[k]?
section
variable {p : Nat} {r : Option Nat} {a b c : World}
theorem Side.of_below (h : Below a.heap.size a b) : Side p r a b := ⟨h.os, h.tape, h.output, h.size, fun k hk _ _ => h.block k hk⟩
theorem Side.of_grown (h : a.grownBy b r) : Side p r a b := ⟨h.os, h.tape, h.output, h.size, fun k hk _ hr => h.block k hk hr⟩
theorem Side.of_var (h : a.grownBy b (some p)) : Side p r a b := ⟨h.os, h.tape, h.output, h.size, fun k hk hp _ => h.block k hk (fun e => by injection e with e; exact hp e)⟩
theorem Side.trans (h : Side p r a b) (k : Side p r b c) : Side p r a c :=
  ⟨k.os.trans h.os, k.tape.trans h.tape, k.output.trans h.output, Nat.le_trans h.size k.size, fun i hi hp hr => (k.block i (Nat.lt_of_lt_of_le hi h.size) hp hr).trans (h.block i hi hp hr)⟩
theorem Side.below (h : Side p r a b) (hr : ∀ k, r = some k → p ≤ k) (hp : p ≤ a.heap.size) : Below p a b :=
  ⟨h.os, h.tape, h.output, h.size, fun k hk => h.block k (by omega) (by omega) (fun e => by have := hr k e.symm; omega)⟩
/-- a slice of int64 in another row stays -/
theorem Own.side {base n cc : Nat} {O : Option Addr} {xs : List Int} {cs : Array Value} (h : Own a base (.slice O n cc) xs) (hs : Side p r a b) (hv : Row a p 24 cs) (hne : blk O = none ∨ blk O ≠ r) : Own b base (.slice O n cc) xs := by
  obtain ⟨q1, q2⟩ := h
  refine ⟨q1, ?_⟩
  rcases q2 with q2 | ⟨g, cap, cur, e, hg, hh, rest⟩
  · exact .inl q2
  · refine .inr ⟨g, cap, cur, e, hg, ?_, rest⟩
    have hlt : g < a.heap.size := (Array.getElem?_eq_some_iff.1 hh).1
    have hb : blk O = some g := by rw [← blk_own O n cc, e]; rfl
    have hgp : g ≠ p := Row.ne_ (t := 2) (t' := 24) hh hv (by decide)
    exact (hs.block g hlt hgp (by rw [hb] at hne; rcases hne with h | h; cases h; exact h)).trans hh
end

theorem own_ne {w : World} {base B n c : Nat} {S : Option Addr} {xs : List Int} {cs : Array Value} (h : Own w base (.slice S n c) xs) (hr : Row w B 24 cs) : blk S ≠ some B := by
  have hl := Own.len h
  rcases own_form (n := n) (vs := xs.map (Value.int .i64)) (by rw [hl]; rw [hl] at h; exact h) with ⟨rfl, _⟩ | ⟨g, cur, rfl, _, hrow, _⟩
  · intro e; cases e
  · intro e
    have e2 : g = B := Option.some.inj e
    exact Row.ne_ hr hrow (by decide) e2.symm
theorem one_seg (w : World) (y : Int) : Seg (w.alloc (.cells #[.int .i64 y] 2)) (w.alloc (.cells #[.int .i64 y] 2)).heap.size (some ⟨w.heap.size, 0, none⟩) 1 [y] :=
  (Row.new w 2 #[.int .i64 y]).seg rfl (by simp) (fun j hj => by
    have e : j = 0 := by omega
    subst e
    rfl)

/-- what the closure leaves -/
def AnsRen (W : World) (B : Nat) (S : Option Addr) (o : List Int) (x : Int) (e : Ending) (w' : World) : Prop :=
  ∃ A c S' sn' sc', e = .returned (.slice A 1 c) ∧ Seg w' w'.heap.size A 1 [-1 - (idx (ext o x) x : Int)] ∧ (A = none → c = 0) ∧ Row w' B 24 #[.slice S' sn' sc'] ∧
    Own w' (B + 1) (.slice S' sn' sc') ((ext o x).map vn) ∧ (blk S' = blk S ∨ ∃ k, blk S' = some k ∧ W.heap.size ≤ k) ∧ Side B (blk S) W w'

set_option maxHeartbeats 4000000 in
theorem ren1 (B : Nat) (S : Option Addr) (sn sc : Nat) (o : List Int) (x : Int) (W : World) (hr : Row W B 24 #[.slice S sn sc]) (ho : Own W (B + 1) (.slice S sn sc) (o.map vn)) (hx0 : -24 ≤ x) (hx1 : x < 0) (hsn : sn ≤ 60) :
    Calls Try.prog 79 #[.int .i64 (-1 - x), .pointer (some ⟨B, 0, none⟩)] W (AnsRen W B S o x) := by
  have hl := Own.len ho
  simp only [List.length_map] at hl
  have hlt := hr.lt
  have cB : W.cell? ⟨B, 0, none⟩ = some (.slice S sn sc) := hr.cell 0
  have fB : W.frozen? ⟨B, 0, none⟩ = false := hr.free 0
  have LI := Lib.hid (indexOf S sn sc (o.map vn) (-1 - x) W (Own.seg ho) (by omega))
  by_cases hin : x ∈ o
  · have hi : idx o x < o.length := idx_lt hin
    obtain ⟨q, hq⟩ : ∃ q, idx o x = q := ⟨_, rfl⟩
    have EI := Lib.hid (show indexI (o.map vn) (-1 - x) = (q : Int) by
      unfold indexI
      rw [show (-1 - x : Int) = vn x from rfl, if_pos ((mem_map_inj vn_inj).2 hin), idx_map vn_inj, hq])
    have EX := Lib.hid (show ext o x = o by unfold ext; rw [if_pos hin])
    have LV := Lib.hid (varTerm (q : Int) W (by omega) (by omega))
    have HQ := Lib.hid hq
    have hq60 : q ≤ 60 := by omega
    have HR := Lib.hid hr
    have HO := Lib.hid ho
    clear hin hi hq hl hr ho
    go_enter Try.func79, Try.ntmps79
    go_wp2_with fail
    refine LI.out.mono ?_
    rintro e w' ⟨rfl, he⟩
    rw [EI.out] at he
    subst he
    clear LI
    go_wp2_with fail
    refine LV.out.mono ?_
    rintro e w1 ⟨A, n, c, rfl, oq, bb⟩
    have hn1 := Own.len oq
    simp only [List.length_cons, List.length_nil] at hn1
    subst hn1
    have F : AnsRen W B S o x (.returned (.slice A 1 c)) w1 :=
      ⟨A, c, S, sn, sc, rfl, by rw [EX.out, HQ.out]; exact Own.seg oq, (own_cap oq).2.2, HR.out.next bb, by rw [EX.out]; exact HO.out.next bb, .inl rfl, Side.of_below bb⟩
    have HF := Lib.hid F
    clear F oq bb LV cB fB
    go_wp2
    go_ret
    exact HF.out
  · have EI := Lib.hid (show indexI (o.map vn) (-1 - x) = -1 by
      unfold indexI
      rw [show (-1 - x : Int) = vn x from rfl, if_neg (fun h => hin ((mem_map_inj vn_inj).1 h))])
    have EX := Lib.hid (show (ext o x).map vn = o.map vn ++ [-1 - x] by unfold ext; rw [if_neg hin, List.map_append]; rfl)
    have EQ := Lib.hid (show idx (ext o x) x = sn by unfold ext; rw [if_neg hin, idx_app_new hin, hl])
    have hne := own_ne ho hr
    have hr1 := hr.alloc (.cells #[.int .i64 (-1 - x)] 2)
    have ho1 := Own.alloc ho (.cells #[.int .i64 (-1 - x)] 2)
    have HNE := Lib.hid hne
    have HN := Lib.hid hl
    clear hin hl hr ho hne
    go_enter Try.func79, Try.ntmps79
    go_wp2_with fail
    refine LI.out.mono ?_
    rintro e w' ⟨rfl, he⟩
    rw [EI.out] at he
    subst he
    clear LI
    go_wp2_with (first
      | (at_builtin; refine appAllAt rfl _ _ rfl (B + 1) S sn sc (o.map vn) rfl ho1 (some ⟨W.heap.size, 0, none⟩) 1 1 (W.heap.size + 1) [-1 - x] rfl (by simpa using one_seg W (-1 - x)) (by omega) (by omega) (by omega) (by simp; omega) ?_; intro S' sc' w2 ho2 hg hat; have r2 := Row.away hr1 hg HNE.out; have cB2 : w2.cell? ⟨B, 0, none⟩ = some (.slice S sn sc) := r2.cell 0; have fB2 : w2.frozen? ⟨B, 0, none⟩ = false := r2.free 0)
      | (go_at_call 81; refine (varTerm (sn : Int) _ (by omega) (by omega)).mono ?_; rintro e w3 ⟨A, n, c, rfl, oq, bb⟩))
    have hn1 := Own.len oq
    simp only [List.length_cons, List.length_nil] at hn1
    subst hn1
    have r3 := r2.put 0 (.slice S' (sn + 1) sc')
    have hg3 : w2.grownBy (w2.setCell ⟨B, 0, none⟩ (.slice S' (sn + 1) sc')) (some B) := grown_put (World.grownBy.refl _ _) _ _
    have o3 := Own.far ho2 hg3 (fun k hk => by injection hk; omega)
    have sd : Side B (blk S) W w3 := (((Side.of_below ((Below.refl _ _).alloc (Nat.le_refl _) _)).trans (Side.of_grown hg)).trans (Side.of_var hg3)).trans (Side.of_below bb)
    have F : AnsRen W B S o x (.returned (.slice A 1 c)) w3 := by
      refine ⟨A, c, S', sn + 1, sc', rfl, by rw [EQ.out]; exact Own.seg oq, (own_cap oq).2.2, r3.next bb, by rw [EX.out]; exact o3.next bb, ?_, sd⟩
      rcases hat with h | h
      · exact .inl h
      · exact .inr ⟨_, h, by simp⟩
    have HF := Lib.hid F
    clear F oq bb r3 hg3 o3 sd hat hg ho2 r2 cB2 fB2 cB fB hr1 ho1
    go_wp2
    go_ret
    exact HF.out

/-- the head of fill's loop over this closure -/
def HeadRF (w : World) (B m : Nat) (t : List Int) (out i : Value) (wr : World) : Prop :=
  ∃ (k : Nat) (O : Option Addr) (on oc : Nat) (S : Option Addr) (sn sc : Nat), k ≤ m ∧ i = .int .i64 k ∧ out = .slice O on oc ∧ Own wr (B + 1) (.slice O on oc) (renL (t.take k)) ∧ Row wr B 24 #[.slice S sn sc] ∧
    Own wr (B + 1) (.slice S sn sc) ((orderL (t.take k)).map vn) ∧ (blk O = none ∨ blk O ≠ blk S) ∧ Below B w wr ∧ w.heap.size ≤ wr.heap.size
theorem ne_flip {a b : Option Nat} (h : a = none ∨ a ≠ b) : b = none ∨ b ≠ a := by
  cases b with
  | none => exact .inl rfl
  | some k =>
    right
    rintro rfl
    rcases h with h | h
    · cases h
    · exact h rfl
theorem blk_lt {w : World} {base : Nat} {A : Option Addr} {n c : Nat} {xs : List Int} (h : Own w base (.slice A n c) xs) : ∀ k, blk A = some k → base ≤ k ∧ k < w.heap.size := fun k hk => World.ownsRow.lt h k (by rw [blk_own]; exact hk)
theorem ne_new {w : World} {base : Nat} {S : Option Addr} {n c : Nat} {xs : List Int} {a : Option Nat} (h : Own w base (.slice S n c) xs) (q : Nat) (hq : w.heap.size ≤ q) (ha : a = some q) : a = none ∨ a ≠ blk S := by
  right
  rintro rfl
  have := (blk_lt h q ha).2
  omega

set_option maxHeartbeats 4000000 in
theorem fillRen (B : Nat) (A : Option Addr) (m c : Nat) (t : List Int) (w : World) (hr : Row w B 24 #[.slice none 0 0]) (h : Seg w B A m t) (hm : m ≤ 60) (hv : ∀ x ∈ t, -24 ≤ x) :
    Calls Try.prog 65 #[.func (.func 79) #[] #[.pointer (some ⟨B, 0, none⟩)], .slice A m c] w fun e w' => ∃ O n c, e = .returned (.slice O n c) ∧ Own w' (B + 1) (.slice O n c) (renL t) ∧ Below B w w' := by
  have HL := Lib.hid h.1
  have HV := Lib.hid hv
  have S0 : HeadRF w B m t (.slice none 0 0) (.int .i64 0) w := ⟨0, _, _, _, none, 0, 0, Nat.zero_le _, rfl, rfl, by simpa [renL] using Own.nil w (B + 1), hr, by simpa [orderL] using Own.nil w (B + 1), .inl rfl, Below.refl _ _, Nat.le_refl _⟩
  have HS0 := Lib.hid S0
  clear S0 hv hr
  go_enter Try.func65, Try.ntmps65
  go_wp2
  go_loopw [5, 10] (fun out i wr => HeadRF w B m t out i wr) (fun _ i _ => m - (intOf i).toNat)
  case atStart => exact HS0.out
  case round =>
    obtain ⟨k, O, on, oc, S, sn, sc, hk, rfl, rfl, ho, hr, hs, hne, hb, hz⟩ := hrel
    clear HS0
    have hon : on ≤ 60 := by rw [Own.len ho, ren_len]; simp; omega
    have hsn : sn ≤ 60 := by have h1 := Own.len hs; have h2 := order_len (t.take k); simp at h1 h2; omega
    have hBlt := hr.lt
    by_cases hlt : k < m
    · obtain ⟨b, off, x, rfl, hbb, hx, ex⟩ := h.spot hlt
      have hx1 : wr.cell? ⟨b, off + k, none⟩ = some (.int .i64 x) := (hb.cell (p := ⟨b, off + k, none⟩) hbb).trans hx
      have hmem := mem_of_get (by rw [HL.out]; exact hlt) ex.out
      have hx24 : -24 ≤ x := HV.out x hmem
      have E := Lib.hid (ren_take (t := t) (k := k) (by rw [HL.out]; exact hlt) ex.out)
      have EO := Lib.hid (order_take (t := t) (k := k) (by rw [HL.out]; exact hlt) ex.out)
      clear hmem hx h ex
      by_cases hpos : 0 ≤ x
      · have R := Lib.hid (show ren (extV (orderL (t.take k)) x) x = x by unfold ren; rw [if_neg (by omega)])
        have R2 := Lib.hid (show extV (orderL (t.take k)) x = orderL (t.take k) by unfold extV; rw [if_neg (by omega)])
        have ho1 := Own.alloc ho (.cells #[.int .i64 x] 2)
        have hs1 := Own.alloc hs (.cells #[.int .i64 x] 2)
        have hr1 := hr.alloc (.cells #[.int .i64 x] 2)
        go_wp2_with (at_builtin; refine appAllAt rfl _ _ rfl (B + 1) O on oc (renL (t.take k)) rfl ho1 (some ⟨wr.heap.size, 0, none⟩) 1 1 (wr.heap.size + 1) [x] rfl (by simpa using one_seg wr x) (by omega) (by omega) (by omega) (by simp; omega) ?_; intro O' oc' w2 ho2 hg hat)
        have S1 : HeadRF w B m t (.slice O' (on + 1) oc') (.int .i64 ((k : Int) + 1)) w2 := by
          refine ⟨k + 1, O', on + 1, oc', S, sn, sc, hlt, by simp, rfl, by rw [E.out, R.out]; exact ho2, Row.away hr1 hg (own_ne ho1 hr1), by rw [EO.out, R2.out]; exact Own.kept hs1 hg (ne_flip hne), ?_, ?_, ?_⟩
          · rcases hat with h | h
            · rw [h]; exact hne
            · exact ne_new hs1 _ (Nat.le_refl _) h
          · exact (hb.alloc (by omega) _).grown hg (by simp; omega) (fun q hq => by have := (blk_lt ho1 q hq).1; omega)
          · have := hg.size; simp at this; omega
        have S := Lib.hid S1
        clear S1 ho2 hg hat ho1 hs1 hr1 ho hs hr hne hb R R2 E EO
        go_wp2
        go_roundw
        case rel => exact S.out
        case measure => simp [intOf]; omega
      · have hneg : x < 0 := by omega
        have R := Lib.hid (show ren (extV (orderL (t.take k)) x) x = -1 - (idx (ext (orderL (t.take k)) x) x : Int) by unfold ren extV; rw [if_pos hneg, if_pos hneg])
        have R2 := Lib.hid (show extV (orderL (t.take k)) x = ext (orderL (t.take k)) x by unfold extV; rw [if_pos hneg])
        have L := Lib.hid (ren1 B S sn sc _ x wr hr hs hx24 hneg hsn)
        go_wp2_with (first
          | (go_at_call 79; refine L.out.mono ?_; rintro e w1 ⟨A1, c1, S1, sn1, sc1, rfl, s1, hc1, r1, os1, hat1, sd⟩; have ho1 := Own.side ho sd hr hne; have hz1 := sd.size; have hne1 : blk O = none ∨ blk O ≠ blk S1 := (by rcases hat1 with h | ⟨q, h, hq⟩; (rw [h]; exact hne); (rw [h]; exact (by cases e : blk O with | none => exact .inl rfl | some z => exact .inr (fun e2 => by injection e2 with e2; have := (blk_lt ho z e).2; omega)))))
          | (at_builtin; refine appAllAt rfl _ _ rfl (B + 1) O on oc (renL (t.take k)) rfl ho1 A1 1 c1 w1.heap.size _ rfl s1 (by omega) (by omega) (by omega) (by omega) ?_; intro O' oc' w2 ho2 hg hat))
        have SS : HeadRF w B m t (.slice O' (on + 1) oc') (.int .i64 ((k : Int) + 1)) w2 := by
          refine ⟨k + 1, O', on + 1, oc', S1, sn1, sc1, hlt, by simp, rfl, by rw [E.out, R.out]; exact ho2, Row.away r1 hg (own_ne ho1 r1), by rw [EO.out, R2.out]; exact Own.kept os1 hg (ne_flip hne1), ?_, ?_, ?_⟩
          · rcases hat with h | h
            · rw [h]; exact hne1
            · exact ne_new os1 _ (Nat.le_refl _) h
          · exact (hb.trans (sd.below (fun q hq => by have := (blk_lt hs q hq).1; omega) (by omega))).grown hg (by omega) (fun q hq => by have := (blk_lt ho1 q hq).1; omega)
          · have := hg.size; omega
        have HSS := Lib.hid SS
        clear SS ho2 hg hat ho1 s1 r1 os1 hat1 sd hne1 ho hs hr hne hb R R2 E EO L
        go_wp2
        go_roundw
        case rel => exact HSS.out
        case measure => simp [intOf]; omega
    · rw [List.take_of_length_le (by rw [HL.out]; omega)] at ho
      have HO := Lib.hid ho
      have HB := Lib.hid hb
      clear ho hs hr hne hb h
      go_wp2
      go_ret
      exact ⟨O, on, oc, rfl, HO.out, HB.out⟩

set_option maxHeartbeats 4000000 in
theorem implRenamed (A A' : Option Addr) (n c m c' : Nat) (sg t : List Int) (w : World) (h : Seg w w.heap.size A n sg) (h' : Seg w w.heap.size A' m t) (hn : n ≤ 1048576) (hm : m ≤ 1048576) :
    Calls Try.prog 31 #[.agg #[.slice A n c], .slice A' m c'] w (AnsList w (renI sg t)) := by
  obtain ⟨W, hW⟩ : ∃ W, W = w.alloc (.cells #[.slice A n c] 26) := ⟨_, rfl⟩
  have bel : Below w.heap.size w W := by rw [hW]; exact (Below.refl _ _).alloc (Nat.le_refl _) _
  have s := (h.below bel).more bel.size
  have s' := (h'.below bel).more bel.size
  have HW := Lib.hid hW
  have HL := Lib.hid h'.1
  have L := Lib.hid (implTermOk A A' n c m c' sg t W s s' hn hm)
  clear hW h h' s
  cases hok : termOkB sg t with
  | false =>
    have HS := Lib.hid hok
    clear hok s'
    go_enter Try.func31, Try.ntmps31
    go_wp2_with fail
    rw [← HW.out]
    refine L.out.mono ?_
    rintro e w1 ⟨he, bb⟩
    rw [HS.out] at he
    subst he
    have F : AnsList w (renI sg t) (.returned (.slice none 0 0)) w1 := ⟨_, _, _, rfl, by unfold renI; rw [if_neg (by rw [HS.out]; simp)]; exact Own.nil _ _, next_trans bel bb⟩
    have HF := Lib.hid F
    clear F bb bel
    go_wp2
    go_ret
    exact HF.out
  | true =>
    have HS := Lib.hid hok
    have HV := Lib.hid (fun x hx => (term_mem (x := x) hok hx).1)
    have H60 : m ≤ 60 := by rw [← HL.out]; exact (term_len hok).2
    have hmf : ∀ (fn : Fn) (first cap : Array Value) (w : World), (Instr.makeFunc fn first cap).run Try.prog w = .ok (.func fn first cap) w := fun _ _ _ _ => rfl
    clear hok
    go_enter Try.func31, Try.ntmps31
    go_wp2_with fail
    rw [← HW.out]
    refine L.out.mono ?_
    rintro e w1 ⟨he, bb⟩
    rw [HS.out] at he
    subst he
    replace bel := next_trans bel bb
    have s1 := (s'.next bb)
    have s2 := s1.alloc (Nat.le_refl _) (.cells #[.slice none 0 0] 24)
    have hz := bel.size
    have L2 := Lib.hid (fillRen w1.heap.size A' m c' t _ (Row.new w1 24 #[.slice none 0 0]) s2 H60 HV.out)
    clear bb L s' s1 s2
    go_wp2_with fail
    refine L2.out.mono ?_
    rintro e w2 ⟨O, on, oc, rfl, ho, bb⟩
    have F : AnsList w (renI sg t) (.returned (.slice O on oc)) w2 := ⟨O, on, oc, rfl, by unfold renI; rw [if_pos HS.out]; exact Own.lower ho (by omega), (bel.alloc hz _).trans (bb.mono hz)⟩
    have HF := Lib.hid F
    clear F ho bb bel L2 hmf
    go_wp2
    go_ret
    exact HF.out
end Go.Proofs.Ytdeegjeopkcomaa.renImpl
