/-
  MERGED: my texts PkSpec, PksSpec, OrderMath, ByMath, ReachMath, Known, HeldU, FindW, FindSpecA, FindSpec, FindSpecB, ReachAdd, FindAt, PickOwn, RootSpec, DelFunc, one behind the other, as they are. By an AI agent.
-/
import Derived.Test.YtlmofkeemlfpgaaGreatMFnExactClosedIn7
import Derived.Deep.RegionHeld3
import Derived.Laws.BytesArg
import Derived.StringKeys
import Derived.Maps.Own
import Derived.Maps.OwnOps
import Derived.Maps.OwnSet
import Derived.Maps.Views
import Derived.Deep.LoopGhost
import Derived.Shelf.Abstract
import Derived.Lib.SliceRun
namespace Go.Proofs.YtlmofkeemlfpgaaGreat
section
open Go.Lib (hid)
namespace pkSpec
open Go.RowKit base ints sig term termOk termFacts sub args sym varsOf marks app appAt segs kinds shape kindsR kindsP drawX fillMath renMath rename matchMath unifMath forest triMath stk partsSpec bnd Go.Proofs.YtlmofkeemlfpgaaGreat.look occurs meetSpec fullSpec ruleMath ruleSpec peakMath pathSpec trySpec pkMath pkVars pkAns
set_option maxRecDepth 100000
theorem stepAppZ {w : World} {ops : Array Oper} {o : Oper} {a : Act} {K : Act → World → Prop} {Q : Exit → Act → World → Prop} {E : Prop} (hgd : o.guard = none) (s x : Operand)
  (ho : o.op = .call { callee := .builtin .append, args := #[s, x], argTypes := #[22, 22] })
  (base : Nat) (A : Option Addr) (n c : Nat) (xs : List Int) (hs : a.eval s = .slice A n c) (hown : Own w base (.slice A n c) xs)
  (b off m c2 B : Nat) (ys : List Int) (hx : a.eval x = .slice (some ⟨b, off, none⟩) m c2) (hseg : Seg w B (some ⟨b, off, none⟩) m ys) (hn : n ≤ 2097152) (hm : m ≤ 2097152) (hbase : base ≤ w.heap.size)
  (h : ∀ A' c' w', Own w' base (.slice A' (n + m) c') (xs ++ ys) → w.grownBy w' (blk A) → (blk A' = blk A ∨ blk A' = some w.heap.size) → K (a.put o.dst (.slice A' (n + m) c')) w') :
  if Region.wanted o (yielded ops a.tmps) = true then Oper.wp Tryz.prog o a w K Q else E := by
 have hw : Region.wanted o (yielded ops a.tmps) = true := by simp [Region.wanted, hgd]
 rw [if_pos hw]
 obtain ⟨i0, hi, hz0, hz1, hz2⟩ := info_parts info_i64
 have hl : xs.length = n := (Own.len hown).symm
 have ho1 : w.ownsRow base 2 1 (.slice A n c) n (xs.map (Value.int .i64)) := by rw [← hl]; rw [← hl] at hown; exact hown
 obtain ⟨v', w', hr, hown', hg, -, hat⟩ := run_append_own_at (P := Tryz.prog) (w := w) base 22 o.type 2 i0 (.int .i64 0) 1 8 Tryz.underlying22 hi hz0 hz1 hz2 rfl (by decide) (.slice A n c) n (xs.map (Value.int .i64)) ho1
  ⟨b, off, none⟩ m c2 (ys.map (Value.int .i64)) (by simp [hseg.1]) (fun j u hj => by
   have hjl : j < m := by
    have := (List.getElem?_eq_some_iff.1 hj).1
    simp at this
    have := hseg.1
    omega
   obtain ⟨b', off', e, _, hc⟩ := hseg.2 (by omega)
   injection e with e
   injection e with e1 e3
   subst e1 e3
   have hcj := hc j hjl
   have e2 : (⟨b, off, none⟩ : Addr).add j = ⟨b, off + j, none⟩ := by unfold Addr.add; split <;> simp_all
   rw [e2, hcj, ← hj]
   have := hseg.1
   simp [List.getD, show j < ys.length by omega]) (fun u hu => by
   obtain ⟨y, _, rfl⟩ := List.mem_map.1 hu
   rfl) (by unfold maxLen; omega) (by omega) hbase
 rw [← List.map_append] at hown'
 obtain ⟨A', c', rfl, ho'⟩ := own_of hown'
 rw [blk_own] at hg
 rw [blk_own, blk_own] at hat
 unfold Oper.wp execOp
 simp only [ho, resolve, invoke, builtin, Sem.run_bind, Sem.run_pure, Result.andThen_ok, List.map_toArray, List.map_cons, List.map_nil, hs, hx, hr]
 exact h A' c' w' ho' hg hat
theorem appAllZ {w : World} {ops : Array Oper} {rest : List Oper} {o : Oper} {a : Act} {Q : Exit → Act → World → Prop} (hgd : o.guard = none) (s x : Operand)
  (ho : o.op = .call { callee := .builtin .append, args := #[s, x], argTypes := #[22, 22] })
  (base : Nat) (A : Option Addr) (n c : Nat) (xs : List Int) (hs : a.eval s = .slice A n c) (hown : Own w base (.slice A n c) xs)
  (b off m c2 B : Nat) (ys : List Int) (hx : a.eval x = .slice (some ⟨b, off, none⟩) m c2) (hseg : Seg w B (some ⟨b, off, none⟩) m ys) (hn : n ≤ 2097152) (hm : m ≤ 2097152) (hbase : base ≤ w.heap.size)
  (h : ∀ A' c' w', Own w' base (.slice A' (n + m) c') (xs ++ ys) → w.grownBy w' (blk A) → (blk A' = blk A ∨ blk A' = some w.heap.size) → wpList Tryz.prog ops Q rest (a.put o.dst (.slice A' (n + m) c')) w') : wpList Tryz.prog ops Q (o :: rest) a w := by
 obtain ⟨i0, hi, hz0, hz1, hz2⟩ := info_parts info_i64
 have hl : xs.length = n := (Own.len hown).symm
 have ho1 : w.ownsRow base 2 1 (.slice A n c) n (xs.map (Value.int .i64)) := by rw [← hl]; rw [← hl] at hown; exact hown
 refine wpList_append_own_at w hgd s x 22 ho base 2 i0 (.int .i64 0) 1 8 Tryz.underlying22 hi hz0 hz1 hz2 rfl (by decide) (.slice A n c) n (xs.map (Value.int .i64)) hs ho1
  ⟨b, off, none⟩ m c2 (ys.map (Value.int .i64)) hx (by simp [hseg.1]) (fun j u hj => ?_) (fun u hu => ?_) (by unfold maxLen; omega) (by omega) hbase ?_
 ·have hjl : j < m := by
   have := (List.getElem?_eq_some_iff.1 hj).1
   simp at this
   have := hseg.1
   omega
  obtain ⟨b', off', e, _, hc⟩ := hseg.2 (by omega)
  injection e with e
  injection e with e1 e3
  subst e1 e3
  have hcj := hc j hjl
  have e2 : (⟨b, off, none⟩ : Addr).add j = ⟨b, off + j, none⟩ := by unfold Addr.add; split <;> simp_all
  rw [e2, hcj, ← hj]
  have := hseg.1
  simp [List.getD, show j < ys.length by omega]
 ·obtain ⟨y, _, rfl⟩ := List.mem_map.1 hu
  rfl
 ·intro v' w' hown' hg _ hat
  rw [← List.map_append] at hown'
  obtain ⟨A', c', rfl, ho'⟩ := own_of hown'
  rw [blk_own] at hg
  rw [blk_own, blk_own] at hat
  exact h A' c' w' ho' hg hat
theorem order_len9 (t : List Int) : (orderL t).length ≤ t.length := by
 have h : ∀ (l o : List Int), (l.foldl extV o).length ≤ o.length + l.length := by
  intro l
  induction l with
  | nil => intro o; simp
  | cons x r ih =>
   intro o
   rw [List.foldl_cons]
   have h1 := ih (extV o x)
   have h2 : (extV o x).length ≤ o.length + 1 := by
    unfold extV
    split
    ·exact ext_len o x
    ·omega
   rw [List.length_cons]
   omega
 have := h t []
 simpa [orderL] using this
def AnsPs (w : World) (sg : List Int) (rs : List Rl) (o a u : Nat) (e : Ending) (w' : World) : Prop := ∃ L, MguS sg (oS sg rs o a) (oT rs u) L ∧ AnsPk w (pkO (pk3 (fillL L (lh rs o)) (fillL L (leftA sg rs o a u)) (fillL L (rh rs o))) o a u) (pk3 (fillL L (lh rs o)) (fillL L (leftA sg rs o a u)) (fillL L (rh rs o))).isSome e w'
set_option maxHeartbeats 4000000 in
theorem l11Peak (A V : Option Addr) (n c q cv : Nat) (d : Dat sSystem) (o a u : Nat) (w : World) (h : Rd w w.heap.size sSystem [.slice A n c, .slice V q cv] d) (hz : sz sSystem d ≤ 1048576) (hok : sysOkB d.1 d.2 = true) (ho : o < d.2.length) (hu : u < d.2.length) (ha : a < (lh d.2 o).length) (hun : unB d.1 d.2 o a u = true) :
  Calls Tryz.prog 79 #[.agg #[.slice A n c, .slice V q cv], .int .i64 (o : Int), .int .i64 (a : Int), .int .i64 (u : Int)] w (AnsPs w d.1 d.2 o a u) := by
 obtain ⟨A1, n1, c1, A2, n2, c2, ea, ev, hA, kA, kV, hlen, hn, hn2, hr, hsg, hrs⟩ := rd_sys h hz
 injection ea with e1 e2 e3
 subst e1 e2 e3
 injection ev with e1 e2 e3
 subst e1 e2 e3
 obtain ⟨bV, oV, lo, ro, xo, rfl, hbV, hxo, cLo, cRo, rdo⟩ := rd_at hr (Below.refl _ _) hlen (show o < q by omega)
 obtain ⟨bV2, oV2, lu, ru, xu, eV2, -, hxu, cLu, cRu, rdu⟩ := rd_at hr (Below.refl _ _) hlen (show u < q by omega)
 injection eV2 with eV2
 injection eV2 with eb eo
 subst eb eo
 obtain ⟨LA, ln, lc, RA, rn, rc, rfl, rfl, sLo, kLo, sRo, kRo, hln, hrn⟩ := rd_rule rdo (by have := hrs o (by omega); rw [hxo.out] at this; exact this)
 obtain ⟨MA, mn, mc, NA, nn, nc', rfl, rfl, sLu, kLu, sRu, kRu, hmn, hnn⟩ := rd_rule rdu (by have := hrs u (by omega); rw [hxu.out] at this; exact this)
 have eLo : xo.1 = lh d.2 o := by unfold lh; rw [hxo.out]
 have eRo : xo.2 = rh d.2 o := by unfold rh; rw [hxo.out]
 have eRu : xu.2 = rh d.2 u := by unfold rh; rw [hxu.out]
 rw [eLo] at sLo
 rw [eRo] at sRo
 rw [eRu] at sRu
 have tLo := lh_ok hok ho
 have tRo := rh_ok hok ho
 have tLu := lh_ok hok hu
 have tRu := rh_ok hok hu
 have hvo := (rule_parts (trySpec.sys_rule hok ho)).2.2.2
 have hvu := (rule_parts (trySpec.sys_rule hok hu)).2.2.2
 have j1 : (0 : Int) ≤ (o : Int) := by omega
 have j2 : (o : Int) < (q : Int) := by omega
 have j3 : (0 : Int) ≤ (u : Int) := by omega
 have j4 : (u : Int) < (q : Int) := by omega
 have hsb : sigOkB d.1 = true := by unfold sysOkB at hok; rw [Bool.and_eq_true] at hok; exact hok.1
 have hars := (sig_arities hsb).1
 obtain ⟨W, hW, rX, rZ, bW⟩ := box2 w 33 38 #[.slice A n c, .slice (some ⟨bV, oV, none⟩) q cv] #[.slice none 0 0, .slice none 0 0, .slice none 0 0, .int .i64 0, .int .i64 0, .int .i64 0]
 have zW : W.heap.size = w.heap.size + 1 + 1 := by rw [hW]; simp
 have LT := hid (l11Try A (some ⟨bV, oV, none⟩) n c q cv d o a u W ((h.below bW).more bW.size) hz hok ho hu ha)
 have x0 : W.cell? ⟨w.heap.size, 0, none⟩ = some (.slice A n c) := rX.cell 0
 have x1 : W.cell? ⟨w.heap.size, 1, none⟩ = some (.slice (some ⟨bV, oV, none⟩) q cv) := rX.cell 1
 have e0 := x0
 have e1 := x1
 rw [hW] at e0 e1
 have HW := hid hW
 have HD := hid (And.intro hA (And.intro sLo (And.intro kLo (And.intro sRo (And.intro kRo (And.intro sRu (And.intro kRu (And.intro tLo (And.intro tRo (And.intro tLu (And.intro tRu (And.intro hvo (And.intro hvu (And.intro hars (And.intro ha hun)))))))))))))))
 have HC := hid (And.intro cLo (And.intro cRo (And.intro cLu cRu)))
 have HR := hid (And.intro rX (And.intro rZ bW))
 clear h hz hok ho hu hA kA kV hlen hr hsg hrs hxo hxu cLo cRo cLu cRu rdo rdu sLo kLo sRo kRo sLu kLu sRu kRu eLo eRo eRu tLo tRo tLu tRu hvo hvu hsb hars ha hun rX rZ bW hW
 go_enter Tryz.func79, Tryz.ntmps79
 go_wp2_with fail
 rw [← HW.out]
 refine LT.out.mono ?_
 rintro e w1 ⟨g, R, N, ok, B, rfl, hg, hR, hgR, hN, hB, b1, hyes, hno⟩
 obtain ⟨hA, sLo, kLo, sRo, kRo, sRu, kRu, tLo, tRo, tLu, tRu, hvo, hvu, hars, ha, hun⟩ := HD.out
 obtain rfl : ok = true := by rw [try_un hyes hno]; exact hun
 obtain ⟨hMid, L, rk, hRes⟩ := hyes rfl
 have hM := hMid.end hRes
 have z1 := b1.size
 have bw1 : Below w.heap.size w w1 := next_trans HR.out.2.2 b1
 have hwW : w.heap.size < W.heap.size := by rw [zW]; omega
 have k10 := (b1.cell (p := ⟨w.heap.size, 0, none⟩) hwW).trans x0
 have k11 := (b1.cell (p := ⟨w.heap.size, 1, none⟩) hwW).trans x1
 have k12 := (bw1.cell (p := ⟨bV, oV + o * 2, none⟩) hbV).trans HC.out.1
 have k13 := (bw1.cell (p := ⟨bV, oV + o * 2 + 1, none⟩) hbV).trans HC.out.2.1
 obtain ⟨W2, hW2⟩ : ∃ W2, W2 = w1.alloc (.cells #[.slice LA ln lc, .slice RA rn rc] 69) := ⟨_, rfl⟩
 have b2 : Below w1.heap.size w1 W2 := by rw [hW2]; exact (Below.refl _ _).alloc (Nat.le_refl _) _
 have r2 : Row W2 w1.heap.size 69 #[.slice LA ln lc, .slice RA rn rc] := by rw [hW2]; exact Row.new _ _ _
 have z2 := r2.lt
 have bw2 := next_trans bw1 b2
 have LE := hid (l13End A LA n c ln lc d.1 (lh d.2 o) a (oS d.1 d.2 o a) _ W2 ((hA.below bw2).more bw2.size) ((sLo.below bw2).more bw2.size) hn hln hars (drop_sub tLo ha) (fo_term (sub_ok tLo ha)))
 have y0 := (b2.cell (p := ⟨w.heap.size, 0, none⟩) (show w.heap.size < w1.heap.size by omega)).trans k10
 have y1 : W2.cell? ⟨w1.heap.size, 0, none⟩ = some (.slice LA ln lc) := r2.cell 0
 have f0 := y0
 have f1 := y1
 rw [hW2] at f0 f1
 have HW2 := hid hW2
 have HM := hid (And.intro hM (And.intro hMid (And.intro hRes (And.intro hB (And.intro b1 (And.intro b2 (And.intro r2 bw2)))))))
 clear hA sLo kLo sRo kRo sRu kRu tLo tRo tLu tRu hvo hvu hars ha hun hyes hno hMid hRes hM hB b1 b2 r2 bw1 bw2 hW2 LT x0 x1 e0 e1
 go_wp2_with fail
 rw [← HW2.out]
 refine LE.out.mono ?_
 rintro e w3 ⟨rfl, b3⟩
 obtain ⟨hA, sLo, kLo, sRo, kRo, sRu, kRu, tLo, tRo, tLu, tRu, hvo, hvu, hars, ha, hun⟩ := HD.out
 obtain ⟨hM, hMid, hRes, hB, b1, b2, r2, bw2⟩ := HM.out
 have z3 := b3.size
 have b13 : Below w1.heap.size w1 w3 := next_trans b2 b3
 have lO := term_len tLo
 have lRo := term_len tRo
 have lRu := term_len tRu
 have lLo := sLo.1
 have lRo2 := sRo.1
 have lRu2 := sRu.1
 have hcl := kLo.1
 have hcl2 := kLo.2.1
 obtain ⟨bl, ol, -, rfl, hbl, -, -⟩ := sLo.spot (show 0 < ln by omega)
 have KC := hid (fun (W' : World) (b : Below w3.heap.size w3 W') => (show W'.cell? ⟨w1.heap.size, 0, none⟩ = some (.slice (some ⟨bl, ol, none⟩) ln lc) ∧ W'.cell? ⟨w1.heap.size, 1, none⟩ = some (.slice RA rn rc) ∧ W'.cell? ⟨w.heap.size, 1, none⟩ = some (.slice (some ⟨bV, oV, none⟩) q cv) ∧ W'.cell? ⟨bV, oV + u * 2 + 1, none⟩ = some (.slice NA nn nc') ∧
   Row W' (w.heap.size + 1) 38 #[.slice none 0 0, .slice none 0 0, .slice none 0 0, .int .i64 0, .int .i64 0, .int .i64 0] from by
  have r3 := (r2.next b3).below b (by omega)
  have bwW : Below w.heap.size w W' := (bw2.trans (b3.mono (by omega))).trans (b.mono (by omega))
  have b1W : Below W.heap.size W W' := (b1.trans (b13.mono z1)).trans (b.mono (by omega))
  exact ⟨r3.cell 0, r3.cell 1, (HR.out.1.next b1W).cell 1, (bwW.cell (p := ⟨bV, oV + u * 2 + 1, none⟩) hbV).trans HC.out.2.2.2, HR.out.2.1.next b1W⟩))
 have SG := hid (fun (W' : World) (b : Below w3.heap.size w3 W') => (show Seg W' w.heap.size (some ⟨bl, ol, none⟩) ln (lh d.2 o) ∧ Seg W' w.heap.size RA rn (rh d.2 o) ∧ Seg W' w.heap.size NA nn (rh d.2 u) from by
  have bwW : Below w.heap.size w W' := (bw2.trans (b3.mono (by omega))).trans (b.mono (by omega))
  exact ⟨sLo.below bwW, sRo.below bwW, sRu.below bwW⟩))
 have BN := hid (fun (W' : World) (b : Below w3.heap.size w3 W') => (show Bnd W' (Qb W'.heap.size g R) g R B from by
  have hz := b.size
  exact (hB.next (b13.trans (b.mono (by omega))) (fun b9 h9 => by have := h9.1; omega)).mono fun b9 h9 => ⟨by have := h9.1; omega, h9.2.1, h9.2.2⟩))
 have FULL := hid (fun (W' : World) (b : Below w3.heap.size w3 W') (X : Option Addr) (xn xc : Nat) (t : List Int) (hX : RdQ W' (Qb W'.heap.size g R) sI [.slice X xn xc] t) (hxn : xn ≤ 1048576) (hv : ∀ z ∈ t, z < 0 → vr z < 48) => (show Calls Tryz.prog 114 #[.pointer (some ⟨g, 0, none⟩), .slice X xn xc] W' (AnsList W' (fl L t)) from by
  obtain ⟨K, hK⟩ := rk_bound rk t
  exact l11Full (Qb W'.heap.size g R) g R B d.1 L rk hRes hMid.vb (K + 1) X xn xc t W' (BN.out W' b) (fun b9 h9 => h9.1) hX hxn (fun z hz h0 => ⟨hv z hz h0, by have := hK z hz h0; omega⟩)))
 have hgW : w.heap.size ≤ g ∧ w.heap.size ≤ R := by omega
 have HMG := hid (And.intro hM (show Below w.heap.size w w3 from bw2.trans (b3.mono (by omega))))
 have LAW := hid (fun (W' : World) (b : Below w3.heap.size w3 W') => l11Away NA nn nc' (rh d.2 u) W' ((SG.out W' b).2.2.more (by have := b.size; omega)) hnn (fun x hx => by have := (term_mem tRu hx).1; omega))
 have k0 := (KC.out w3 (Below.refl _ _)).1
 have k1 := (KC.out w3 (Below.refl _ _)).2.2.1
 have k2 := (KC.out w3 (Below.refl _ _)).2.2.2.1
 have E0 : Own (w3.alloc (.cells #[] 2)).drew w3.heap.size (.slice (some ⟨w3.heap.size, 0, none⟩) 0 0) [] := Own.drew (own_empty w3 w3.heap.size (Nat.le_refl _))
 have bE : Below w3.heap.size w3 (w3.alloc (.cells #[] 2)).drew := ((Below.refl _ _).alloc (Nat.le_refl _) _).drew
 have SF := hid (put.Seg.front (SG.out _ bE).1 (show a ≤ ln by omega))
 have HE0 := hid (And.intro E0 bE)
 have i1 : (0 : Int) ≤ (a : Int) := by omega
 have i2 : (a : Int) ≤ (lc : Int) := by omega
 have hal : a ≤ 60 := by omega
 have hnn6 : 1 ≤ nn ∧ nn ≤ 60 := by omega
 clear hA sLo kLo sRo kRo sRu kRu tLo tRo tLu tRu hvo hvu hars ha hun hM hMid hRes hB b1 b2 r2 bw2 b3 b13 lLo lRo2 lRu2 E0 bE lO lRo lRu k10 k11 k12 k13 y0 y1 f0 f1 HM LE
 go_wp2_with fail
 go_region_held3 (fun w' => w'.cell? ⟨w1.heap.size, 0, none⟩ = some (.slice (some ⟨bl, ol, none⟩) ln lc) ∧ w'.cell? ⟨w.heap.size, 1, none⟩ = some (.slice (some ⟨bV, oV, none⟩) q cv) ∧ w'.cell? ⟨bV, oV + u * 2 + 1, none⟩ = some (.slice NA nn nc'))
  (go_keep)
  (first
   | (refine stepAppZ rfl _ _ rfl w3.heap.size (some ⟨w3.heap.size, 0, none⟩) 0 0 [] rfl HE0.out.1 bl ol a lc _ _ rfl SF.out (by omega) (by omega) (by simp) ?_; intro M4 mc4 w4 oM4 hg4 hat4; have b4 : Below w3.heap.size w3 w4 := HE0.out.2.trans ((Below.refl w3.heap.size _).grown hg4 (by simp) (fun k hk => (own_lt HE0.out.1 k hk).1)); have k0 := (KC.out w4 b4).1; have k1 := (KC.out w4 b4).2.2.1; have k2 := (KC.out w4 b4).2.2.2.1)
   | (go_at_call 113; refine (LAW.out w4 b4).mono ?_; rintro e w5 ⟨Y, yn, yc, rfl, oY, b5⟩; have b35 : Below w3.heap.size w3 w5 := next_trans b4 b5; have k0 := (KC.out w5 b35).1; have k1 := (KC.out w5 b35).2.2.1; have k2 := (KC.out w5 b35).2.2.2.1; have hy2 : 1 ≤ yn ∧ yn ≤ 60 := (by have h9 := Own.len oY; rw [shift_len] at h9; have := (SG.out w5 b35).2.2.1; omega); obtain ⟨gy, egy⟩ := drawAny.Own.some_ oY (by omega); cases egy; have oM5 : Own w5 w3.heap.size (.slice M4 a mc4) ((lh d.2 o).take a) := (by simpa using oM4.next b5))
   | (refine stepAppZ rfl _ _ rfl w3.heap.size M4 a mc4 _ rfl oM5 gy 0 yn yc _ _ rfl (Own.seg oY) (by omega) (by omega) b35.size ?_; intro M6 mc6 w6 oM6 hg6 hat6; have b36 : Below w3.heap.size w3 w6 := b35.trans ((Below.refl w3.heap.size _).grown hg6 b35.size (fun k hk => (own_lt oM4 k hk).1)); have k0 := (KC.out w6 b36).1; have k1 := (KC.out w6 b36).2.2.1; have k2 := (KC.out w6 b36).2.2.2.1))
 have RQ := hid (fun (W' : World) (b : Below w3.heap.size w3 W') => (show RdQ W' (Qb W'.heap.size g R) sI [.slice (some ⟨bl, ol, none⟩) ln lc] (lh d.2 o) ∧ RdQ W' (Qb W'.heap.size g R) sI [.slice RA rn rc] (rh d.2 o) from by
  have hz := b.size
  exact ⟨rdq_of (SG.out W' b).1 HD.out.2.2.1 fun b9 h9 => ⟨by omega, by omega, by omega⟩, rdq_of (SG.out W' b).2.1 HD.out.2.2.2.2.1 fun b9 h9 => ⟨by omega, by omega, by omega⟩⟩))
 have hv24 := hid (fun (t : List Int) (ht : termOkB d.1 t = true) => (show ∀ z ∈ t, z < 0 → vr z < 48 from fun z hz h0 => by have := (term_mem ht hz).1; unfold vr; omega))
 have L5 := hid (FULL.out w6 b36 _ ln lc (lh d.2 o) (RQ.out w6 b36).1 hln (hv24.out _ HD.out.2.2.2.2.2.2.2.1))
 have oM6' : Own w6 w3.heap.size (.slice M6 (a + yn) mc6) ((lh d.2 o).take a ++ shiftL 24 (rh d.2 u)) := oM6
 have HM6 := hid (And.intro oM6' b36)
 have k0 := (KC.out w6 b36).1
 have zw6 := b36.size
 clear oM6 oM6' b36 oM5 oM4 oY b5 b35 hg6 hat6 hg4 hat4 b4 k1 k2 SF LAW HE0
 go_wp2_with fail
 refine L5.out.mono ?_
 rintro e w7 ⟨T, tn, tc, rfl, oT, b7⟩
 have b37 : Below w3.heap.size w3 w7 := next_trans HM6.out.2 b7
 have k0 := (KC.out w7 b37).1
 have zw7 := b7.size
 have HT7 := hid (And.intro oT (And.intro (HM6.out.1.next b7) b37))
 have hsub : a + (oS d.1 d.2 o a).length ≤ ln := by
  have h1 := congrArg List.length (drop_sub HD.out.2.2.2.2.2.2.2.1 HD.out.2.2.2.2.2.2.2.2.2.2.2.2.2.2.1)
  rw [List.length_append, List.length_drop] at h1
  have h2 : (subL d.1 (lh d.2 o) a).length = (oS d.1 d.2 o a).length := rfl
  have h3 := HD.out.2.1.1
  have h4 := HD.out.2.2.2.2.2.2.2.2.2.2.2.2.2.2.1
  omega
 obtain ⟨es, hes⟩ : ∃ es, a + (oS d.1 d.2 o a).length = es := ⟨_, rfl⟩
 have ees : (a : Int) + ((oS d.1 d.2 o a).length : Int) = (es : Int) := by omega
 rw [hes] at hsub
 rw [ees]
 have HES := hid hes
 have i3 : (0 : Int) ≤ (es : Int) := by omega
 have i4 : (es : Int) ≤ (ln : Int) := by omega
 have i5 : (ln : Int) ≤ (lc : Int) := by omega
 clear ees hes oT b7 b37 L5
 have hln6 : ln ≤ 60 := by have h1 := (term_len HD.out.2.2.2.2.2.2.2.1).2; have h2 := HD.out.2.1.1; omega
 have hgb := (BN.out w3 (Below.refl _ _)).lt
 have STEP := hid (fun (M8 : Option Addr) (mc8 : Nat) (w8 : World) (oM8 : Own w8 w3.heap.size (.slice M8 (a + yn + (ln - es)) mc8) ((lh d.2 o).take a ++ shiftL 24 (rh d.2 u) ++ (lh d.2 o).drop es)) (hg8 : w7.grownBy w8 (blk M6)) => (show Below w3.heap.size w3 w8 ∧ w7.heap.size ≤ w8.heap.size ∧ Own w8 w6.heap.size (.slice T tn tc) (fl L (lh d.2 o)) ∧ Calls Tryz.prog 114 #[.pointer (some ⟨g, 0, none⟩), .slice M8 (a + yn + (ln - es)) mc8] w8 (AnsList w8 (fl L (leftA d.1 d.2 o a u))) from by
  obtain ⟨oT, oM7, b37⟩ := HT7.out
  have b38 : Below w3.heap.size w3 w8 := b37.trans ((Below.refl w3.heap.size _).grown hg8 (by omega) (fun k hk => (own_lt HM6.out.1 k hk).1))
  have e8 : (lh d.2 o).take a ++ shiftL 24 (rh d.2 u) ++ (lh d.2 o).drop es = leftA d.1 d.2 o a u := by
   unfold leftA
   rw [HES.out, List.append_assoc]
  rw [e8] at oM8
  refine ⟨b38, hg8.size, Own.kept oT hg8 ?_, FULL.out w8 b38 M8 _ mc8 _ (rdq_own oM8 fun b9 h1 h2 _ => ⟨h2, by omega, by omega⟩) (by omega) fun z hz h0 => ?_⟩
  ·cases hb : blk T with
   | none => exact .inl rfl
   | some k => exact .inr fun e => by have h1 := (own_lt oT k hb).1; have h2 := (own_lt HM6.out.1 k e.symm).2; omega
  ·unfold leftA at hz
   rcases List.mem_append.1 hz with hz | hz
   ·exact hv24.out _ HD.out.2.2.2.2.2.2.2.1 z (List.mem_of_mem_take hz) h0
   ·rcases List.mem_append.1 hz with hz | hz
    ·obtain ⟨y, hy, rfl⟩ := List.mem_map.1 hz
     have h1 := (term_mem HD.out.2.2.2.2.2.2.2.2.2.2.1 hy).1
     unfold sh at h0 ⊢
     unfold vr
     split at h0 <;> simp_all <;> omega
    ·exact hv24.out _ HD.out.2.2.2.2.2.2.2.1 z (List.mem_of_mem_drop hz) h0))
 go_upto_region 6 with fail
 go_cut [16] (fun x wx => ∃ Lf lfn lfc, x = .slice Lf lfn lfc ∧ Own wx w7.heap.size (.slice Lf lfn lfc) (fl L (leftA d.1 d.2 o a u)) ∧ Own wx w6.heap.size (.slice T tn tc) (fl L (lh d.2 o)) ∧ Below w3.heap.size w3 wx ∧ w7.heap.size ≤ wx.heap.size)
 case first =>
  by_cases hce : lc = es
  ·have SG7 := hid (show Seg w7 w7.heap.size (some ⟨bl, ol, none⟩) (ln - es) ((lh d.2 o).drop es) from ⟨by rw [List.length_drop]; have := HD.out.2.1.1; omega, fun h0 => absurd h0 (by omega)⟩)
   go_wp2_with (first
    | (at_builtin; refine appAllZ rfl _ _ rfl w3.heap.size M6 (a + yn) mc6 _ rfl HT7.out.2.1 bl ol (ln - es) 0 w7.heap.size ((lh d.2 o).drop es) rfl SG7.out (by omega) (by omega) (by omega) ?_; intro M8 mc8 w8 oM8 hg8 hat8; have hst := STEP.out M8 mc8 w8 oM8 hg8; have LF := hst.2.2.2)
    | (go_at_call 114; refine LF.mono ?_; rintro e w9 ⟨Lf, lfn, lfc, rfl, oL, b9⟩))
   go_meet
   exact ⟨Lf, lfn, lfc, rfl, Own.lower oL hst.2.1, hst.2.2.1.next b9, next_trans hst.1 b9, Nat.le_trans hst.2.1 b9.size⟩
  ·have SG7 := hid (show Seg w7 w7.heap.size (some ⟨bl, ol + es, none⟩) (ln - es) ((lh d.2 o).drop es) from put.Seg.back ((SG.out w7 HT7.out.2.2).1.more (by omega)) (by omega))
   go_wp2_with (first
    | (at_builtin; refine appAllZ rfl _ _ rfl w3.heap.size M6 (a + yn) mc6 _ rfl HT7.out.2.1 bl (ol + es) (ln - es) (lc - es) w7.heap.size ((lh d.2 o).drop es) rfl SG7.out (by omega) (by omega) (by omega) ?_; intro M8 mc8 w8 oM8 hg8 hat8; have hst := STEP.out M8 mc8 w8 oM8 hg8; have LF := hst.2.2.2)
    | (go_at_call 114; refine LF.mono ?_; rintro e w9 ⟨Lf, lfn, lfc, rfl, oL, b9⟩))
   go_meet
   exact ⟨Lf, lfn, lfc, rfl, Own.lower oL hst.2.1, hst.2.2.1.next b9, next_trans hst.1 b9, Nat.le_trans hst.2.1 b9.size⟩
 case rest =>
  rename World => wx
  obtain ⟨Lf, lfn, lfc, rfl, oL, oT, bx, zx⟩ := hcut
  have k1 := (KC.out wx bx).2.1
  have L7 := hid (FULL.out wx bx RA rn rc (rh d.2 o) (RQ.out wx bx).2 hrn (hv24.out _ HD.out.2.2.2.2.2.2.2.2.1))
  have HX := hid (And.intro oL (And.intro oT bx))
  clear oL oT bx
  go_wp2_with fail
  refine L7.out.mono ?_
  rintro e wy ⟨Rt, rtn, rtc, rfl, oR, by9⟩
  obtain ⟨oL, oT, bx⟩ := HX.out
  have bye : Below w3.heap.size w3 wy := next_trans bx by9
  have zy := by9.size
  have oTy := oT.next by9
  have oLy := oL.next by9
  have lT := Own.len oTy
  have lL := Own.len oLy
  have lR := Own.len oR
  have fT : (fl L (lh d.2 o)).length ≤ 60 := by unfold fl; split <;> simp_all
  have fL : (fl L (leftA d.1 d.2 o a u)).length ≤ 60 := by unfold fl; split <;> simp_all
  have fR : (fl L (rh d.2 o)).length ≤ 60 := by unfold fl; split <;> simp_all
  have L8 := hid (l2Order T tn tc (fl L (lh d.2 o)) wy (Own.seg oTy) (by omega))
  have HM := hid HMG.out.1
  have HSB := hid (show 1 ≤ (fillL L (lh d.2 o)).length ∧ 1 ≤ (fillL L (leftA d.1 d.2 o a u)).length ∧ 1 ≤ (fillL L (rh d.2 o)).length from by
   have hsb := HMG.out.1.uni.1
   refine ⟨((fo_term HD.out.2.2.2.2.2.2.2.1).fill hsb).pos, ?_, ((fo_term HD.out.2.2.2.2.2.2.2.2.1).fill hsb).pos⟩
   rw [fill_left, List.length_append, List.length_append]
   have := ((fo_shift HD.out.2.2.2.2.2.2.2.2.2.2.1).fill hsb).pos
   omega)
  have FN0 := hid (fun (t : List Int) (h1 : 1 ≤ (fillL L t).length) => (show ((fl L t).length = 0 ↔ 60 < (fillL L t).length) ∧ ((fillL L t).length ≤ 60 → fl L t = fillL L t) from by
   unfold fl
   split
   ·exact ⟨⟨fun h => by omega, fun h => by omega⟩, fun _ => rfl⟩
   ·exact ⟨⟨fun _ => by omega, fun _ => rfl⟩, fun h => by omega⟩))
  have PNO := hid (fun (h : ¬ ((fillL L (lh d.2 o)).length ≤ 60 ∧ (fillL L (leftA d.1 d.2 o a u)).length ≤ 60 ∧ (fillL L (rh d.2 o)).length ≤ 60 ∧ (orderL (fillL L (lh d.2 o))).length ≤ 24)) => (show pkO (pk3 (fillL L (lh d.2 o)) (fillL L (leftA d.1 d.2 o a u)) (fillL L (rh d.2 o))) o a u = ([], [], [], 0, 0, 0) ∧ (pk3 (fillL L (lh d.2 o)) (fillL L (leftA d.1 d.2 o a u)) (fillL L (rh d.2 o))).isSome = false from by
   have e : pk3 (fillL L (lh d.2 o)) (fillL L (leftA d.1 d.2 o a u)) (fillL L (rh d.2 o)) = none := by unfold pk3; rw [if_neg h]
   rw [e]
   exact ⟨rfl, rfl⟩))
  have HY := hid (And.intro oTy (And.intro oLy (And.intro oR (And.intro lT (And.intro lL (And.intro lR (And.intro fT (And.intro fL fR))))))))
  clear oL oT bx by9 oTy oLy oR L7 k1 lT lL lR fT fL fR
  go_wp2_with fail
  refine L8.out.mono ?_
  rintro e wz ⟨On, onn, onc, rfl, oO, bz9⟩
  have bz : Below w3.heap.size w3 wz := next_trans bye bz9
  have zz := bz9.size
  have rbz := (KC.out wz bz).2.2.2.2
  have belz : Below w.heap.size w wz := (HMG.out.2).trans (bz.mono (by omega))
  obtain ⟨oTy, oLy, oR, lT, lL, lR, fT, fL, fR⟩ := HY.out
  have lO := Own.len oO
  have fO : (orderL (fl L (lh d.2 o))).length ≤ 60 := Nat.le_trans (order_len9 _) fT
  have htn : tn ≤ 60 := by omega
  have hlf : lfn ≤ 60 := by omega
  have hrt : rtn ≤ 60 := by omega
  have hon : onn ≤ 60 := by omega
  have HZ := hid (And.intro (oTy.next bz9) (And.intro (oLy.next bz9) (And.intro (oR.next bz9) (And.intro lT (And.intro lL (And.intro lR (And.intro oO lO)))))))
  clear oTy oLy oR lT lL lR fT fL fR lO fO oO bz9 L8 bye
  by_cases ht0 : tn = 0
  ·have e1 : ((tn : Int) == 0) = true := by simp [ht0]
   have hno := hid (PNO.out fun h => by have h1 := (FN0.out _ HSB.out.1).1.1 (by have := HZ.out.2.2.2.1; omega); omega)
   clear ht0
   have y0 : wz.cell? ⟨w.heap.size + 1, 0, none⟩ = some (.slice none 0 0) := rbz.cell 0
   have g0 := rbz.free 0
   have rr0 := rbz.put 0 (.slice none 0 0)
   have y1 : (wz.setCell ⟨w.heap.size + 1, 0, none⟩ (.slice none 0 0)).cell? ⟨w.heap.size + 1, 1, none⟩ = some (.slice none 0 0) := rr0.cell 1
   have g1 := rr0.free 1
   have rr1 := rr0.put 1 (.slice none 0 0)
   have y2 : ((wz.setCell ⟨w.heap.size + 1, 0, none⟩ (.slice none 0 0)).setCell ⟨w.heap.size + 1, 1, none⟩ (.slice none 0 0)).cell? ⟨w.heap.size + 1, 2, none⟩ = some (.slice none 0 0) := rr1.cell 2
   have g2 := rr1.free 2
   have rr2 := rr1.put 2 (.slice none 0 0)
   have y3 : (((wz.setCell ⟨w.heap.size + 1, 0, none⟩ (.slice none 0 0)).setCell ⟨w.heap.size + 1, 1, none⟩ (.slice none 0 0)).setCell ⟨w.heap.size + 1, 2, none⟩ (.slice none 0 0)).cell? ⟨w.heap.size + 1, 3, none⟩ = some (.int .i64 0) := rr2.cell 3
   have g3 := rr2.free 3
   have rr3 := rr2.put 3 (.int .i64 0)
   have y4 : ((((wz.setCell ⟨w.heap.size + 1, 0, none⟩ (.slice none 0 0)).setCell ⟨w.heap.size + 1, 1, none⟩ (.slice none 0 0)).setCell ⟨w.heap.size + 1, 2, none⟩ (.slice none 0 0)).setCell ⟨w.heap.size + 1, 3, none⟩ (.int .i64 0)).cell? ⟨w.heap.size + 1, 4, none⟩ = some (.int .i64 0) := rr3.cell 4
   have g4 := rr3.free 4
   have rr4 := rr3.put 4 (.int .i64 0)
   have y5 : (((((wz.setCell ⟨w.heap.size + 1, 0, none⟩ (.slice none 0 0)).setCell ⟨w.heap.size + 1, 1, none⟩ (.slice none 0 0)).setCell ⟨w.heap.size + 1, 2, none⟩ (.slice none 0 0)).setCell ⟨w.heap.size + 1, 3, none⟩ (.int .i64 0)).setCell ⟨w.heap.size + 1, 4, none⟩ (.int .i64 0)).cell? ⟨w.heap.size + 1, 5, none⟩ = some (.int .i64 0) := rr4.cell 5
   have g5 := rr4.free 5
   have rr5 := rr4.put 5 (.int .i64 0)
   have u0 : ((((((wz.setCell ⟨w.heap.size + 1, 0, none⟩ (.slice none 0 0)).setCell ⟨w.heap.size + 1, 1, none⟩ (.slice none 0 0)).setCell ⟨w.heap.size + 1, 2, none⟩ (.slice none 0 0)).setCell ⟨w.heap.size + 1, 3, none⟩ (.int .i64 0)).setCell ⟨w.heap.size + 1, 4, none⟩ (.int .i64 0)).setCell ⟨w.heap.size + 1, 5, none⟩ (.int .i64 0)).cell? ⟨w.heap.size + 1, 0, none⟩ = some (.slice none 0 0) := rr5.cell 0
   have u1 : ((((((wz.setCell ⟨w.heap.size + 1, 0, none⟩ (.slice none 0 0)).setCell ⟨w.heap.size + 1, 1, none⟩ (.slice none 0 0)).setCell ⟨w.heap.size + 1, 2, none⟩ (.slice none 0 0)).setCell ⟨w.heap.size + 1, 3, none⟩ (.int .i64 0)).setCell ⟨w.heap.size + 1, 4, none⟩ (.int .i64 0)).setCell ⟨w.heap.size + 1, 5, none⟩ (.int .i64 0)).cell? ⟨w.heap.size + 1, 1, none⟩ = some (.slice none 0 0) := rr5.cell 1
   have u2 : ((((((wz.setCell ⟨w.heap.size + 1, 0, none⟩ (.slice none 0 0)).setCell ⟨w.heap.size + 1, 1, none⟩ (.slice none 0 0)).setCell ⟨w.heap.size + 1, 2, none⟩ (.slice none 0 0)).setCell ⟨w.heap.size + 1, 3, none⟩ (.int .i64 0)).setCell ⟨w.heap.size + 1, 4, none⟩ (.int .i64 0)).setCell ⟨w.heap.size + 1, 5, none⟩ (.int .i64 0)).cell? ⟨w.heap.size + 1, 2, none⟩ = some (.slice none 0 0) := rr5.cell 2
   have u3 : ((((((wz.setCell ⟨w.heap.size + 1, 0, none⟩ (.slice none 0 0)).setCell ⟨w.heap.size + 1, 1, none⟩ (.slice none 0 0)).setCell ⟨w.heap.size + 1, 2, none⟩ (.slice none 0 0)).setCell ⟨w.heap.size + 1, 3, none⟩ (.int .i64 0)).setCell ⟨w.heap.size + 1, 4, none⟩ (.int .i64 0)).setCell ⟨w.heap.size + 1, 5, none⟩ (.int .i64 0)).cell? ⟨w.heap.size + 1, 3, none⟩ = some (.int .i64 0) := rr5.cell 3
   have u4 : ((((((wz.setCell ⟨w.heap.size + 1, 0, none⟩ (.slice none 0 0)).setCell ⟨w.heap.size + 1, 1, none⟩ (.slice none 0 0)).setCell ⟨w.heap.size + 1, 2, none⟩ (.slice none 0 0)).setCell ⟨w.heap.size + 1, 3, none⟩ (.int .i64 0)).setCell ⟨w.heap.size + 1, 4, none⟩ (.int .i64 0)).setCell ⟨w.heap.size + 1, 5, none⟩ (.int .i64 0)).cell? ⟨w.heap.size + 1, 4, none⟩ = some (.int .i64 0) := rr5.cell 4
   have u5 : ((((((wz.setCell ⟨w.heap.size + 1, 0, none⟩ (.slice none 0 0)).setCell ⟨w.heap.size + 1, 1, none⟩ (.slice none 0 0)).setCell ⟨w.heap.size + 1, 2, none⟩ (.slice none 0 0)).setCell ⟨w.heap.size + 1, 3, none⟩ (.int .i64 0)).setCell ⟨w.heap.size + 1, 4, none⟩ (.int .i64 0)).setCell ⟨w.heap.size + 1, 5, none⟩ (.int .i64 0)).cell? ⟨w.heap.size + 1, 5, none⟩ = some (.int .i64 0) := rr5.cell 5
   have FZ : AnsPs w d.1 d.2 o a u (.returned (.tuple #[.agg #[.slice none 0 0, .slice none 0 0, .slice none 0 0, .int .i64 0, .int .i64 0, .int .i64 0], .bool false])) ((((((wz.setCell ⟨w.heap.size + 1, 0, none⟩ (.slice none 0 0)).setCell ⟨w.heap.size + 1, 1, none⟩ (.slice none 0 0)).setCell ⟨w.heap.size + 1, 2, none⟩ (.slice none 0 0)).setCell ⟨w.heap.size + 1, 3, none⟩ (.int .i64 0)).setCell ⟨w.heap.size + 1, 4, none⟩ (.int .i64 0)).setCell ⟨w.heap.size + 1, 5, none⟩ (.int .i64 0)) := ⟨L, HM.out, ansPk_no hno.out (Below.setCell (Below.setCell (Below.setCell (Below.setCell (Below.setCell (Below.setCell belz (show w.heap.size ≤ w.heap.size + 1 by omega) _) (show w.heap.size ≤ w.heap.size + 1 by omega) _) (show w.heap.size ≤ w.heap.size + 1 by omega) _) (show w.heap.size ≤ w.heap.size + 1 by omega) _) (show w.heap.size ≤ w.heap.size + 1 by omega) _) (show w.heap.size ≤ w.heap.size + 1 by omega) _)⟩
   have HFZ := hid FZ
   clear FZ rr0 rr1 rr2 rr3 rr4 rr5 rbz belz
   go_wp2
   exact bodyPost_ret (v := .tuple #[.agg #[.slice none 0 0, .slice none 0 0, .slice none 0 0, .int .i64 0, .int .i64 0, .int .i64 0], .bool false]) (by simp [results, Tryz.results79, go_sem, u0, u1, u2, u3, u4, u5]) rfl HFZ.out
  ·have e1 : ((tn : Int) == 0) = false := by simp [ht0]
   by_cases hl0 : lfn = 0
   ·have e2 : ((lfn : Int) == 0) = true := by simp [hl0]
    have hno := hid (PNO.out fun h => by have h1 := (FN0.out _ HSB.out.2.1).1.1 (by have := HZ.out.2.2.2.2.1; omega); omega)
    clear ht0 hl0
    have y0 : wz.cell? ⟨w.heap.size + 1, 0, none⟩ = some (.slice none 0 0) := rbz.cell 0
    have g0 := rbz.free 0
    have rr0 := rbz.put 0 (.slice none 0 0)
    have y1 : (wz.setCell ⟨w.heap.size + 1, 0, none⟩ (.slice none 0 0)).cell? ⟨w.heap.size + 1, 1, none⟩ = some (.slice none 0 0) := rr0.cell 1
    have g1 := rr0.free 1
    have rr1 := rr0.put 1 (.slice none 0 0)
    have y2 : ((wz.setCell ⟨w.heap.size + 1, 0, none⟩ (.slice none 0 0)).setCell ⟨w.heap.size + 1, 1, none⟩ (.slice none 0 0)).cell? ⟨w.heap.size + 1, 2, none⟩ = some (.slice none 0 0) := rr1.cell 2
    have g2 := rr1.free 2
    have rr2 := rr1.put 2 (.slice none 0 0)
    have y3 : (((wz.setCell ⟨w.heap.size + 1, 0, none⟩ (.slice none 0 0)).setCell ⟨w.heap.size + 1, 1, none⟩ (.slice none 0 0)).setCell ⟨w.heap.size + 1, 2, none⟩ (.slice none 0 0)).cell? ⟨w.heap.size + 1, 3, none⟩ = some (.int .i64 0) := rr2.cell 3
    have g3 := rr2.free 3
    have rr3 := rr2.put 3 (.int .i64 0)
    have y4 : ((((wz.setCell ⟨w.heap.size + 1, 0, none⟩ (.slice none 0 0)).setCell ⟨w.heap.size + 1, 1, none⟩ (.slice none 0 0)).setCell ⟨w.heap.size + 1, 2, none⟩ (.slice none 0 0)).setCell ⟨w.heap.size + 1, 3, none⟩ (.int .i64 0)).cell? ⟨w.heap.size + 1, 4, none⟩ = some (.int .i64 0) := rr3.cell 4
    have g4 := rr3.free 4
    have rr4 := rr3.put 4 (.int .i64 0)
    have y5 : (((((wz.setCell ⟨w.heap.size + 1, 0, none⟩ (.slice none 0 0)).setCell ⟨w.heap.size + 1, 1, none⟩ (.slice none 0 0)).setCell ⟨w.heap.size + 1, 2, none⟩ (.slice none 0 0)).setCell ⟨w.heap.size + 1, 3, none⟩ (.int .i64 0)).setCell ⟨w.heap.size + 1, 4, none⟩ (.int .i64 0)).cell? ⟨w.heap.size + 1, 5, none⟩ = some (.int .i64 0) := rr4.cell 5
    have g5 := rr4.free 5
    have rr5 := rr4.put 5 (.int .i64 0)
    have u0 : ((((((wz.setCell ⟨w.heap.size + 1, 0, none⟩ (.slice none 0 0)).setCell ⟨w.heap.size + 1, 1, none⟩ (.slice none 0 0)).setCell ⟨w.heap.size + 1, 2, none⟩ (.slice none 0 0)).setCell ⟨w.heap.size + 1, 3, none⟩ (.int .i64 0)).setCell ⟨w.heap.size + 1, 4, none⟩ (.int .i64 0)).setCell ⟨w.heap.size + 1, 5, none⟩ (.int .i64 0)).cell? ⟨w.heap.size + 1, 0, none⟩ = some (.slice none 0 0) := rr5.cell 0
    have u1 : ((((((wz.setCell ⟨w.heap.size + 1, 0, none⟩ (.slice none 0 0)).setCell ⟨w.heap.size + 1, 1, none⟩ (.slice none 0 0)).setCell ⟨w.heap.size + 1, 2, none⟩ (.slice none 0 0)).setCell ⟨w.heap.size + 1, 3, none⟩ (.int .i64 0)).setCell ⟨w.heap.size + 1, 4, none⟩ (.int .i64 0)).setCell ⟨w.heap.size + 1, 5, none⟩ (.int .i64 0)).cell? ⟨w.heap.size + 1, 1, none⟩ = some (.slice none 0 0) := rr5.cell 1
    have u2 : ((((((wz.setCell ⟨w.heap.size + 1, 0, none⟩ (.slice none 0 0)).setCell ⟨w.heap.size + 1, 1, none⟩ (.slice none 0 0)).setCell ⟨w.heap.size + 1, 2, none⟩ (.slice none 0 0)).setCell ⟨w.heap.size + 1, 3, none⟩ (.int .i64 0)).setCell ⟨w.heap.size + 1, 4, none⟩ (.int .i64 0)).setCell ⟨w.heap.size + 1, 5, none⟩ (.int .i64 0)).cell? ⟨w.heap.size + 1, 2, none⟩ = some (.slice none 0 0) := rr5.cell 2
    have u3 : ((((((wz.setCell ⟨w.heap.size + 1, 0, none⟩ (.slice none 0 0)).setCell ⟨w.heap.size + 1, 1, none⟩ (.slice none 0 0)).setCell ⟨w.heap.size + 1, 2, none⟩ (.slice none 0 0)).setCell ⟨w.heap.size + 1, 3, none⟩ (.int .i64 0)).setCell ⟨w.heap.size + 1, 4, none⟩ (.int .i64 0)).setCell ⟨w.heap.size + 1, 5, none⟩ (.int .i64 0)).cell? ⟨w.heap.size + 1, 3, none⟩ = some (.int .i64 0) := rr5.cell 3
    have u4 : ((((((wz.setCell ⟨w.heap.size + 1, 0, none⟩ (.slice none 0 0)).setCell ⟨w.heap.size + 1, 1, none⟩ (.slice none 0 0)).setCell ⟨w.heap.size + 1, 2, none⟩ (.slice none 0 0)).setCell ⟨w.heap.size + 1, 3, none⟩ (.int .i64 0)).setCell ⟨w.heap.size + 1, 4, none⟩ (.int .i64 0)).setCell ⟨w.heap.size + 1, 5, none⟩ (.int .i64 0)).cell? ⟨w.heap.size + 1, 4, none⟩ = some (.int .i64 0) := rr5.cell 4
    have u5 : ((((((wz.setCell ⟨w.heap.size + 1, 0, none⟩ (.slice none 0 0)).setCell ⟨w.heap.size + 1, 1, none⟩ (.slice none 0 0)).setCell ⟨w.heap.size + 1, 2, none⟩ (.slice none 0 0)).setCell ⟨w.heap.size + 1, 3, none⟩ (.int .i64 0)).setCell ⟨w.heap.size + 1, 4, none⟩ (.int .i64 0)).setCell ⟨w.heap.size + 1, 5, none⟩ (.int .i64 0)).cell? ⟨w.heap.size + 1, 5, none⟩ = some (.int .i64 0) := rr5.cell 5
    have FZ : AnsPs w d.1 d.2 o a u (.returned (.tuple #[.agg #[.slice none 0 0, .slice none 0 0, .slice none 0 0, .int .i64 0, .int .i64 0, .int .i64 0], .bool false])) ((((((wz.setCell ⟨w.heap.size + 1, 0, none⟩ (.slice none 0 0)).setCell ⟨w.heap.size + 1, 1, none⟩ (.slice none 0 0)).setCell ⟨w.heap.size + 1, 2, none⟩ (.slice none 0 0)).setCell ⟨w.heap.size + 1, 3, none⟩ (.int .i64 0)).setCell ⟨w.heap.size + 1, 4, none⟩ (.int .i64 0)).setCell ⟨w.heap.size + 1, 5, none⟩ (.int .i64 0)) := ⟨L, HM.out, ansPk_no hno.out (Below.setCell (Below.setCell (Below.setCell (Below.setCell (Below.setCell (Below.setCell belz (show w.heap.size ≤ w.heap.size + 1 by omega) _) (show w.heap.size ≤ w.heap.size + 1 by omega) _) (show w.heap.size ≤ w.heap.size + 1 by omega) _) (show w.heap.size ≤ w.heap.size + 1 by omega) _) (show w.heap.size ≤ w.heap.size + 1 by omega) _) (show w.heap.size ≤ w.heap.size + 1 by omega) _)⟩
    have HFZ := hid FZ
    clear FZ rr0 rr1 rr2 rr3 rr4 rr5 rbz belz
    go_wp2
    exact bodyPost_ret (v := .tuple #[.agg #[.slice none 0 0, .slice none 0 0, .slice none 0 0, .int .i64 0, .int .i64 0, .int .i64 0], .bool false]) (by simp [results, Tryz.results79, go_sem, u0, u1, u2, u3, u4, u5]) rfl HFZ.out
   ·have e2 : ((lfn : Int) == 0) = false := by simp [hl0]
    by_cases hr0 : rtn = 0
    ·have e3 : ((rtn : Int) == 0) = true := by simp [hr0]
     have hno := hid (PNO.out fun h => by have h1 := (FN0.out _ HSB.out.2.2).1.1 (by have := HZ.out.2.2.2.2.2.1; omega); omega)
     clear ht0 hl0 hr0
     have y0 : wz.cell? ⟨w.heap.size + 1, 0, none⟩ = some (.slice none 0 0) := rbz.cell 0
     have g0 := rbz.free 0
     have rr0 := rbz.put 0 (.slice none 0 0)
     have y1 : (wz.setCell ⟨w.heap.size + 1, 0, none⟩ (.slice none 0 0)).cell? ⟨w.heap.size + 1, 1, none⟩ = some (.slice none 0 0) := rr0.cell 1
     have g1 := rr0.free 1
     have rr1 := rr0.put 1 (.slice none 0 0)
     have y2 : ((wz.setCell ⟨w.heap.size + 1, 0, none⟩ (.slice none 0 0)).setCell ⟨w.heap.size + 1, 1, none⟩ (.slice none 0 0)).cell? ⟨w.heap.size + 1, 2, none⟩ = some (.slice none 0 0) := rr1.cell 2
     have g2 := rr1.free 2
     have rr2 := rr1.put 2 (.slice none 0 0)
     have y3 : (((wz.setCell ⟨w.heap.size + 1, 0, none⟩ (.slice none 0 0)).setCell ⟨w.heap.size + 1, 1, none⟩ (.slice none 0 0)).setCell ⟨w.heap.size + 1, 2, none⟩ (.slice none 0 0)).cell? ⟨w.heap.size + 1, 3, none⟩ = some (.int .i64 0) := rr2.cell 3
     have g3 := rr2.free 3
     have rr3 := rr2.put 3 (.int .i64 0)
     have y4 : ((((wz.setCell ⟨w.heap.size + 1, 0, none⟩ (.slice none 0 0)).setCell ⟨w.heap.size + 1, 1, none⟩ (.slice none 0 0)).setCell ⟨w.heap.size + 1, 2, none⟩ (.slice none 0 0)).setCell ⟨w.heap.size + 1, 3, none⟩ (.int .i64 0)).cell? ⟨w.heap.size + 1, 4, none⟩ = some (.int .i64 0) := rr3.cell 4
     have g4 := rr3.free 4
     have rr4 := rr3.put 4 (.int .i64 0)
     have y5 : (((((wz.setCell ⟨w.heap.size + 1, 0, none⟩ (.slice none 0 0)).setCell ⟨w.heap.size + 1, 1, none⟩ (.slice none 0 0)).setCell ⟨w.heap.size + 1, 2, none⟩ (.slice none 0 0)).setCell ⟨w.heap.size + 1, 3, none⟩ (.int .i64 0)).setCell ⟨w.heap.size + 1, 4, none⟩ (.int .i64 0)).cell? ⟨w.heap.size + 1, 5, none⟩ = some (.int .i64 0) := rr4.cell 5
     have g5 := rr4.free 5
     have rr5 := rr4.put 5 (.int .i64 0)
     have u0 : ((((((wz.setCell ⟨w.heap.size + 1, 0, none⟩ (.slice none 0 0)).setCell ⟨w.heap.size + 1, 1, none⟩ (.slice none 0 0)).setCell ⟨w.heap.size + 1, 2, none⟩ (.slice none 0 0)).setCell ⟨w.heap.size + 1, 3, none⟩ (.int .i64 0)).setCell ⟨w.heap.size + 1, 4, none⟩ (.int .i64 0)).setCell ⟨w.heap.size + 1, 5, none⟩ (.int .i64 0)).cell? ⟨w.heap.size + 1, 0, none⟩ = some (.slice none 0 0) := rr5.cell 0
     have u1 : ((((((wz.setCell ⟨w.heap.size + 1, 0, none⟩ (.slice none 0 0)).setCell ⟨w.heap.size + 1, 1, none⟩ (.slice none 0 0)).setCell ⟨w.heap.size + 1, 2, none⟩ (.slice none 0 0)).setCell ⟨w.heap.size + 1, 3, none⟩ (.int .i64 0)).setCell ⟨w.heap.size + 1, 4, none⟩ (.int .i64 0)).setCell ⟨w.heap.size + 1, 5, none⟩ (.int .i64 0)).cell? ⟨w.heap.size + 1, 1, none⟩ = some (.slice none 0 0) := rr5.cell 1
     have u2 : ((((((wz.setCell ⟨w.heap.size + 1, 0, none⟩ (.slice none 0 0)).setCell ⟨w.heap.size + 1, 1, none⟩ (.slice none 0 0)).setCell ⟨w.heap.size + 1, 2, none⟩ (.slice none 0 0)).setCell ⟨w.heap.size + 1, 3, none⟩ (.int .i64 0)).setCell ⟨w.heap.size + 1, 4, none⟩ (.int .i64 0)).setCell ⟨w.heap.size + 1, 5, none⟩ (.int .i64 0)).cell? ⟨w.heap.size + 1, 2, none⟩ = some (.slice none 0 0) := rr5.cell 2
     have u3 : ((((((wz.setCell ⟨w.heap.size + 1, 0, none⟩ (.slice none 0 0)).setCell ⟨w.heap.size + 1, 1, none⟩ (.slice none 0 0)).setCell ⟨w.heap.size + 1, 2, none⟩ (.slice none 0 0)).setCell ⟨w.heap.size + 1, 3, none⟩ (.int .i64 0)).setCell ⟨w.heap.size + 1, 4, none⟩ (.int .i64 0)).setCell ⟨w.heap.size + 1, 5, none⟩ (.int .i64 0)).cell? ⟨w.heap.size + 1, 3, none⟩ = some (.int .i64 0) := rr5.cell 3
     have u4 : ((((((wz.setCell ⟨w.heap.size + 1, 0, none⟩ (.slice none 0 0)).setCell ⟨w.heap.size + 1, 1, none⟩ (.slice none 0 0)).setCell ⟨w.heap.size + 1, 2, none⟩ (.slice none 0 0)).setCell ⟨w.heap.size + 1, 3, none⟩ (.int .i64 0)).setCell ⟨w.heap.size + 1, 4, none⟩ (.int .i64 0)).setCell ⟨w.heap.size + 1, 5, none⟩ (.int .i64 0)).cell? ⟨w.heap.size + 1, 4, none⟩ = some (.int .i64 0) := rr5.cell 4
     have u5 : ((((((wz.setCell ⟨w.heap.size + 1, 0, none⟩ (.slice none 0 0)).setCell ⟨w.heap.size + 1, 1, none⟩ (.slice none 0 0)).setCell ⟨w.heap.size + 1, 2, none⟩ (.slice none 0 0)).setCell ⟨w.heap.size + 1, 3, none⟩ (.int .i64 0)).setCell ⟨w.heap.size + 1, 4, none⟩ (.int .i64 0)).setCell ⟨w.heap.size + 1, 5, none⟩ (.int .i64 0)).cell? ⟨w.heap.size + 1, 5, none⟩ = some (.int .i64 0) := rr5.cell 5
     have FZ : AnsPs w d.1 d.2 o a u (.returned (.tuple #[.agg #[.slice none 0 0, .slice none 0 0, .slice none 0 0, .int .i64 0, .int .i64 0, .int .i64 0], .bool false])) ((((((wz.setCell ⟨w.heap.size + 1, 0, none⟩ (.slice none 0 0)).setCell ⟨w.heap.size + 1, 1, none⟩ (.slice none 0 0)).setCell ⟨w.heap.size + 1, 2, none⟩ (.slice none 0 0)).setCell ⟨w.heap.size + 1, 3, none⟩ (.int .i64 0)).setCell ⟨w.heap.size + 1, 4, none⟩ (.int .i64 0)).setCell ⟨w.heap.size + 1, 5, none⟩ (.int .i64 0)) := ⟨L, HM.out, ansPk_no hno.out (Below.setCell (Below.setCell (Below.setCell (Below.setCell (Below.setCell (Below.setCell belz (show w.heap.size ≤ w.heap.size + 1 by omega) _) (show w.heap.size ≤ w.heap.size + 1 by omega) _) (show w.heap.size ≤ w.heap.size + 1 by omega) _) (show w.heap.size ≤ w.heap.size + 1 by omega) _) (show w.heap.size ≤ w.heap.size + 1 by omega) _) (show w.heap.size ≤ w.heap.size + 1 by omega) _)⟩
     have HFZ := hid FZ
     clear FZ rr0 rr1 rr2 rr3 rr4 rr5 rbz belz
     go_wp2
     exact bodyPost_ret (v := .tuple #[.agg #[.slice none 0 0, .slice none 0 0, .slice none 0 0, .int .i64 0, .int .i64 0, .int .i64 0], .bool false]) (by simp [results, Tryz.results79, go_sem, u0, u1, u2, u3, u4, u5]) rfl HFZ.out
    ·have e3 : ((rtn : Int) == 0) = false := by simp [hr0]
     have t60 : (fillL L (lh d.2 o)).length ≤ 60 := Nat.le_of_not_lt fun h => ht0 (by have h1 := (FN0.out _ HSB.out.1).1.2 h; have := HZ.out.2.2.2.1; omega)
     have l60 : (fillL L (leftA d.1 d.2 o a u)).length ≤ 60 := Nat.le_of_not_lt fun h => hl0 (by have h1 := (FN0.out _ HSB.out.2.1).1.2 h; have := HZ.out.2.2.2.2.1; omega)
     have r60 : (fillL L (rh d.2 o)).length ≤ 60 := Nat.le_of_not_lt fun h => hr0 (by have h1 := (FN0.out _ HSB.out.2.2).1.2 h; have := HZ.out.2.2.2.2.2.1; omega)
     have eT := (FN0.out _ HSB.out.1).2 t60
     have eL := (FN0.out _ HSB.out.2.1).2 l60
     have eR := (FN0.out _ HSB.out.2.2).2 r60
     have lO := HZ.out.2.2.2.2.2.2.2
     rw [eT] at lO
     by_cases ho24 : 24 < onn
     ·have e4 : (24 : Int) < (onn : Int) := by omega
      have hno := hid (PNO.out fun h => by omega)
      clear ht0 hl0 hr0 t60 l60 r60 eT eL eR lO ho24
      have y0 : wz.cell? ⟨w.heap.size + 1, 0, none⟩ = some (.slice none 0 0) := rbz.cell 0
      have g0 := rbz.free 0
      have rr0 := rbz.put 0 (.slice none 0 0)
      have y1 : (wz.setCell ⟨w.heap.size + 1, 0, none⟩ (.slice none 0 0)).cell? ⟨w.heap.size + 1, 1, none⟩ = some (.slice none 0 0) := rr0.cell 1
      have g1 := rr0.free 1
      have rr1 := rr0.put 1 (.slice none 0 0)
      have y2 : ((wz.setCell ⟨w.heap.size + 1, 0, none⟩ (.slice none 0 0)).setCell ⟨w.heap.size + 1, 1, none⟩ (.slice none 0 0)).cell? ⟨w.heap.size + 1, 2, none⟩ = some (.slice none 0 0) := rr1.cell 2
      have g2 := rr1.free 2
      have rr2 := rr1.put 2 (.slice none 0 0)
      have y3 : (((wz.setCell ⟨w.heap.size + 1, 0, none⟩ (.slice none 0 0)).setCell ⟨w.heap.size + 1, 1, none⟩ (.slice none 0 0)).setCell ⟨w.heap.size + 1, 2, none⟩ (.slice none 0 0)).cell? ⟨w.heap.size + 1, 3, none⟩ = some (.int .i64 0) := rr2.cell 3
      have g3 := rr2.free 3
      have rr3 := rr2.put 3 (.int .i64 0)
      have y4 : ((((wz.setCell ⟨w.heap.size + 1, 0, none⟩ (.slice none 0 0)).setCell ⟨w.heap.size + 1, 1, none⟩ (.slice none 0 0)).setCell ⟨w.heap.size + 1, 2, none⟩ (.slice none 0 0)).setCell ⟨w.heap.size + 1, 3, none⟩ (.int .i64 0)).cell? ⟨w.heap.size + 1, 4, none⟩ = some (.int .i64 0) := rr3.cell 4
      have g4 := rr3.free 4
      have rr4 := rr3.put 4 (.int .i64 0)
      have y5 : (((((wz.setCell ⟨w.heap.size + 1, 0, none⟩ (.slice none 0 0)).setCell ⟨w.heap.size + 1, 1, none⟩ (.slice none 0 0)).setCell ⟨w.heap.size + 1, 2, none⟩ (.slice none 0 0)).setCell ⟨w.heap.size + 1, 3, none⟩ (.int .i64 0)).setCell ⟨w.heap.size + 1, 4, none⟩ (.int .i64 0)).cell? ⟨w.heap.size + 1, 5, none⟩ = some (.int .i64 0) := rr4.cell 5
      have g5 := rr4.free 5
      have rr5 := rr4.put 5 (.int .i64 0)
      have u0 : ((((((wz.setCell ⟨w.heap.size + 1, 0, none⟩ (.slice none 0 0)).setCell ⟨w.heap.size + 1, 1, none⟩ (.slice none 0 0)).setCell ⟨w.heap.size + 1, 2, none⟩ (.slice none 0 0)).setCell ⟨w.heap.size + 1, 3, none⟩ (.int .i64 0)).setCell ⟨w.heap.size + 1, 4, none⟩ (.int .i64 0)).setCell ⟨w.heap.size + 1, 5, none⟩ (.int .i64 0)).cell? ⟨w.heap.size + 1, 0, none⟩ = some (.slice none 0 0) := rr5.cell 0
      have u1 : ((((((wz.setCell ⟨w.heap.size + 1, 0, none⟩ (.slice none 0 0)).setCell ⟨w.heap.size + 1, 1, none⟩ (.slice none 0 0)).setCell ⟨w.heap.size + 1, 2, none⟩ (.slice none 0 0)).setCell ⟨w.heap.size + 1, 3, none⟩ (.int .i64 0)).setCell ⟨w.heap.size + 1, 4, none⟩ (.int .i64 0)).setCell ⟨w.heap.size + 1, 5, none⟩ (.int .i64 0)).cell? ⟨w.heap.size + 1, 1, none⟩ = some (.slice none 0 0) := rr5.cell 1
      have u2 : ((((((wz.setCell ⟨w.heap.size + 1, 0, none⟩ (.slice none 0 0)).setCell ⟨w.heap.size + 1, 1, none⟩ (.slice none 0 0)).setCell ⟨w.heap.size + 1, 2, none⟩ (.slice none 0 0)).setCell ⟨w.heap.size + 1, 3, none⟩ (.int .i64 0)).setCell ⟨w.heap.size + 1, 4, none⟩ (.int .i64 0)).setCell ⟨w.heap.size + 1, 5, none⟩ (.int .i64 0)).cell? ⟨w.heap.size + 1, 2, none⟩ = some (.slice none 0 0) := rr5.cell 2
      have u3 : ((((((wz.setCell ⟨w.heap.size + 1, 0, none⟩ (.slice none 0 0)).setCell ⟨w.heap.size + 1, 1, none⟩ (.slice none 0 0)).setCell ⟨w.heap.size + 1, 2, none⟩ (.slice none 0 0)).setCell ⟨w.heap.size + 1, 3, none⟩ (.int .i64 0)).setCell ⟨w.heap.size + 1, 4, none⟩ (.int .i64 0)).setCell ⟨w.heap.size + 1, 5, none⟩ (.int .i64 0)).cell? ⟨w.heap.size + 1, 3, none⟩ = some (.int .i64 0) := rr5.cell 3
      have u4 : ((((((wz.setCell ⟨w.heap.size + 1, 0, none⟩ (.slice none 0 0)).setCell ⟨w.heap.size + 1, 1, none⟩ (.slice none 0 0)).setCell ⟨w.heap.size + 1, 2, none⟩ (.slice none 0 0)).setCell ⟨w.heap.size + 1, 3, none⟩ (.int .i64 0)).setCell ⟨w.heap.size + 1, 4, none⟩ (.int .i64 0)).setCell ⟨w.heap.size + 1, 5, none⟩ (.int .i64 0)).cell? ⟨w.heap.size + 1, 4, none⟩ = some (.int .i64 0) := rr5.cell 4
      have u5 : ((((((wz.setCell ⟨w.heap.size + 1, 0, none⟩ (.slice none 0 0)).setCell ⟨w.heap.size + 1, 1, none⟩ (.slice none 0 0)).setCell ⟨w.heap.size + 1, 2, none⟩ (.slice none 0 0)).setCell ⟨w.heap.size + 1, 3, none⟩ (.int .i64 0)).setCell ⟨w.heap.size + 1, 4, none⟩ (.int .i64 0)).setCell ⟨w.heap.size + 1, 5, none⟩ (.int .i64 0)).cell? ⟨w.heap.size + 1, 5, none⟩ = some (.int .i64 0) := rr5.cell 5
      have FZ : AnsPs w d.1 d.2 o a u (.returned (.tuple #[.agg #[.slice none 0 0, .slice none 0 0, .slice none 0 0, .int .i64 0, .int .i64 0, .int .i64 0], .bool false])) ((((((wz.setCell ⟨w.heap.size + 1, 0, none⟩ (.slice none 0 0)).setCell ⟨w.heap.size + 1, 1, none⟩ (.slice none 0 0)).setCell ⟨w.heap.size + 1, 2, none⟩ (.slice none 0 0)).setCell ⟨w.heap.size + 1, 3, none⟩ (.int .i64 0)).setCell ⟨w.heap.size + 1, 4, none⟩ (.int .i64 0)).setCell ⟨w.heap.size + 1, 5, none⟩ (.int .i64 0)) := ⟨L, HM.out, ansPk_no hno.out (Below.setCell (Below.setCell (Below.setCell (Below.setCell (Below.setCell (Below.setCell belz (show w.heap.size ≤ w.heap.size + 1 by omega) _) (show w.heap.size ≤ w.heap.size + 1 by omega) _) (show w.heap.size ≤ w.heap.size + 1 by omega) _) (show w.heap.size ≤ w.heap.size + 1 by omega) _) (show w.heap.size ≤ w.heap.size + 1 by omega) _) (show w.heap.size ≤ w.heap.size + 1 by omega) _)⟩
      have HFZ := hid FZ
      clear FZ rr0 rr1 rr2 rr3 rr4 rr5 rbz belz
      go_wp2
      exact bodyPost_ret (v := .tuple #[.agg #[.slice none 0 0, .slice none 0 0, .slice none 0 0, .int .i64 0, .int .i64 0, .int .i64 0], .bool false]) (by simp [results, Tryz.results79, go_sem, u0, u1, u2, u3, u4, u5]) rfl HFZ.out
     ·have e4 : ¬ (24 : Int) < (onn : Int) := by omega
      obtain ⟨oT, oL, oR, -, -, -, oO, -⟩ := HZ.out
      rw [eT] at oT oO
      rw [eL] at oL
      rw [eR] at oR
      have PYES := hid (show pk3 (fillL L (lh d.2 o)) (fillL L (leftA d.1 d.2 o a u)) (fillL L (rh d.2 o)) = some ((fillL L (lh d.2 o)).map (ren (orderL (fillL L (lh d.2 o)))), (fillL L (leftA d.1 d.2 o a u)).map (ren (orderL (fillL L (lh d.2 o)))), (fillL L (rh d.2 o)).map (ren (orderL (fillL L (lh d.2 o))))) from by
       unfold pk3
       rw [if_pos ⟨t60, l60, r60, by omega⟩]
       rfl)
      have hnd := order_nodup (fillL L (lh d.2 o))
      have B1 := hid (l2By On T onn onc tn tc (orderL (fillL L (lh d.2 o))) (fillL L (lh d.2 o)) wz (Own.seg oO) (Own.seg oT) (by omega) (by omega) hnd (fun x hx h0 => order_mem.2 ⟨hx, h0⟩))
      have vL := left_vars HD.out.2.2.2.2.2.2.2.1 HD.out.2.2.2.2.2.2.2.2.2.2.2.2.2.2.1 HD.out.2.2.2.2.2.2.2.2.2.2.2.2.1 HM.out.uni.2
      have vR := right_vars (θ := L) HD.out.2.2.2.2.2.2.2.2.2.2.2.1
      have HO9 := hid (And.intro oO (And.intro oT (And.intro oL (And.intro oR (And.intro hnd (And.intro vL vR))))))
      clear ht0 hl0 hr0 t60 l60 r60 eT eL eR lO ho24 oT oL oR oO hnd vL vR
      go_wp2_with fail
      refine B1.out.mono ?_
      rintro e wa ⟨T9, t9n, t9c, rfl, o9T, ba⟩
      have B2 := hid (l2By On Lf onn onc lfn lfc (orderL (fillL L (lh d.2 o))) (fillL L (leftA d.1 d.2 o a u)) wa ((Own.seg HO9.out.1).next ba) ((Own.seg HO9.out.2.2.1).next ba) (by omega) (by omega) HO9.out.2.2.2.2.1 (fun x hx h0 => order_mem.2 ⟨HO9.out.2.2.2.2.2.1 x hx h0, h0⟩))
      have za := ba.size
      have HBA := hid (And.intro o9T ba)
      clear o9T ba B1
      go_wp2_with fail
      refine B2.out.mono ?_
      rintro e wb ⟨L9, l9n, l9c, rfl, o9L, bb⟩
      have B3 := hid (l2By On Rt onn onc rtn rtc (orderL (fillL L (lh d.2 o))) (fillL L (rh d.2 o)) wb (((Own.seg HO9.out.1).next HBA.out.2).next bb) (((Own.seg HO9.out.2.2.2.1).next HBA.out.2).next bb) (by omega) (by omega) HO9.out.2.2.2.2.1 (fun x hx h0 => order_mem.2 ⟨HO9.out.2.2.2.2.2.2 x hx h0, h0⟩))
      have zb := bb.size
      have HBB := hid (And.intro o9L bb)
      clear o9L bb B2
      go_wp2_with fail
      refine B3.out.mono ?_
      rintro e wc ⟨R9, r9n, r9c, rfl, o9R, bc⟩
      have zc := bc.size
      have rbc := ((rbz.next HBA.out.2).next HBB.out.2).next bc
      have belc : Below w.heap.size w wc := ((belz.trans (HBA.out.2.mono (by omega))).trans (HBB.out.2.mono (by omega))).trans (bc.mono (by omega))
      have zw3 : w.heap.size + 1 < wz.heap.size := rbz.lt
      have qT : Owned wc wz.heap.size wa.heap.size sI [.slice T9 t9n t9c] ((fillL L (lh d.2 o)).map (ren (orderL (fillL L (lh d.2 o))))) := ow_ints.2 ⟨(HBA.out.1.next HBB.out.2).next bc, fun k hk => (own_lt HBA.out.1 k hk).2⟩
      have qL : Owned wc wa.heap.size wb.heap.size sI [.slice L9 l9n l9c] ((fillL L (leftA d.1 d.2 o a u)).map (ren (orderL (fillL L (lh d.2 o))))) := ow_ints.2 ⟨HBB.out.1.next bc, fun k hk => (own_lt HBB.out.1 k hk).2⟩
      have qR : Owned wc wb.heap.size wc.heap.size sI [.slice R9 r9n r9c] ((fillL L (rh d.2 o)).map (ren (orderL (fillL L (lh d.2 o))))) := ow_ints.2 ⟨o9R, fun k hk => (own_lt o9R k hk).2⟩
      have pqT := (Owned.put (g := w.heap.size + 1) (i := 5) (u := .int .i64 (o : Int)) (Owned.put (g := w.heap.size + 1) (i := 4) (u := .int .i64 (u : Int)) (Owned.put (g := w.heap.size + 1) (i := 3) (u := .int .i64 (a : Int)) (Owned.put (g := w.heap.size + 1) (i := 2) (u := .slice R9 r9n r9c) (Owned.put (g := w.heap.size + 1) (i := 1) (u := .slice L9 l9n l9c) (Owned.put (g := w.heap.size + 1) (i := 0) (u := .slice T9 t9n t9c) qT (by omega)) (by omega)) (by omega)) (by omega)) (by omega)) (by omega))
      have pqL := (Owned.put (g := w.heap.size + 1) (i := 5) (u := .int .i64 (o : Int)) (Owned.put (g := w.heap.size + 1) (i := 4) (u := .int .i64 (u : Int)) (Owned.put (g := w.heap.size + 1) (i := 3) (u := .int .i64 (a : Int)) (Owned.put (g := w.heap.size + 1) (i := 2) (u := .slice R9 r9n r9c) (Owned.put (g := w.heap.size + 1) (i := 1) (u := .slice L9 l9n l9c) (Owned.put (g := w.heap.size + 1) (i := 0) (u := .slice T9 t9n t9c) qL (by omega)) (by omega)) (by omega)) (by omega)) (by omega)) (by omega))
      have pqR := (Owned.put (g := w.heap.size + 1) (i := 5) (u := .int .i64 (o : Int)) (Owned.put (g := w.heap.size + 1) (i := 4) (u := .int .i64 (u : Int)) (Owned.put (g := w.heap.size + 1) (i := 3) (u := .int .i64 (a : Int)) (Owned.put (g := w.heap.size + 1) (i := 2) (u := .slice R9 r9n r9c) (Owned.put (g := w.heap.size + 1) (i := 1) (u := .slice L9 l9n l9c) (Owned.put (g := w.heap.size + 1) (i := 0) (u := .slice T9 t9n t9c) qR (by omega)) (by omega)) (by omega)) (by omega)) (by omega)) (by omega))
      clear qT qL qR o9R bc rbz belz HBA HBB B3
      have y0 : wc.cell? ⟨w.heap.size + 1, 0, none⟩ = some (.slice none 0 0) := rbc.cell 0
      have g0 := rbc.free 0
      have rr0 := rbc.put 0 (.slice T9 t9n t9c)
      have y1 : (wc.setCell ⟨w.heap.size + 1, 0, none⟩ (.slice T9 t9n t9c)).cell? ⟨w.heap.size + 1, 1, none⟩ = some (.slice none 0 0) := rr0.cell 1
      have g1 := rr0.free 1
      have rr1 := rr0.put 1 (.slice L9 l9n l9c)
      have y2 : ((wc.setCell ⟨w.heap.size + 1, 0, none⟩ (.slice T9 t9n t9c)).setCell ⟨w.heap.size + 1, 1, none⟩ (.slice L9 l9n l9c)).cell? ⟨w.heap.size + 1, 2, none⟩ = some (.slice none 0 0) := rr1.cell 2
      have g2 := rr1.free 2
      have rr2 := rr1.put 2 (.slice R9 r9n r9c)
      have y3 : (((wc.setCell ⟨w.heap.size + 1, 0, none⟩ (.slice T9 t9n t9c)).setCell ⟨w.heap.size + 1, 1, none⟩ (.slice L9 l9n l9c)).setCell ⟨w.heap.size + 1, 2, none⟩ (.slice R9 r9n r9c)).cell? ⟨w.heap.size + 1, 3, none⟩ = some (.int .i64 0) := rr2.cell 3
      have g3 := rr2.free 3
      have rr3 := rr2.put 3 (.int .i64 (a : Int))
      have y4 : ((((wc.setCell ⟨w.heap.size + 1, 0, none⟩ (.slice T9 t9n t9c)).setCell ⟨w.heap.size + 1, 1, none⟩ (.slice L9 l9n l9c)).setCell ⟨w.heap.size + 1, 2, none⟩ (.slice R9 r9n r9c)).setCell ⟨w.heap.size + 1, 3, none⟩ (.int .i64 (a : Int))).cell? ⟨w.heap.size + 1, 4, none⟩ = some (.int .i64 0) := rr3.cell 4
      have g4 := rr3.free 4
      have rr4 := rr3.put 4 (.int .i64 (u : Int))
      have y5 : (((((wc.setCell ⟨w.heap.size + 1, 0, none⟩ (.slice T9 t9n t9c)).setCell ⟨w.heap.size + 1, 1, none⟩ (.slice L9 l9n l9c)).setCell ⟨w.heap.size + 1, 2, none⟩ (.slice R9 r9n r9c)).setCell ⟨w.heap.size + 1, 3, none⟩ (.int .i64 (a : Int))).setCell ⟨w.heap.size + 1, 4, none⟩ (.int .i64 (u : Int))).cell? ⟨w.heap.size + 1, 5, none⟩ = some (.int .i64 0) := rr4.cell 5
      have g5 := rr4.free 5
      have rr5 := rr4.put 5 (.int .i64 (o : Int))
      have u0 : ((((((wc.setCell ⟨w.heap.size + 1, 0, none⟩ (.slice T9 t9n t9c)).setCell ⟨w.heap.size + 1, 1, none⟩ (.slice L9 l9n l9c)).setCell ⟨w.heap.size + 1, 2, none⟩ (.slice R9 r9n r9c)).setCell ⟨w.heap.size + 1, 3, none⟩ (.int .i64 (a : Int))).setCell ⟨w.heap.size + 1, 4, none⟩ (.int .i64 (u : Int))).setCell ⟨w.heap.size + 1, 5, none⟩ (.int .i64 (o : Int))).cell? ⟨w.heap.size + 1, 0, none⟩ = some (.slice T9 t9n t9c) := rr5.cell 0
      have u1 : ((((((wc.setCell ⟨w.heap.size + 1, 0, none⟩ (.slice T9 t9n t9c)).setCell ⟨w.heap.size + 1, 1, none⟩ (.slice L9 l9n l9c)).setCell ⟨w.heap.size + 1, 2, none⟩ (.slice R9 r9n r9c)).setCell ⟨w.heap.size + 1, 3, none⟩ (.int .i64 (a : Int))).setCell ⟨w.heap.size + 1, 4, none⟩ (.int .i64 (u : Int))).setCell ⟨w.heap.size + 1, 5, none⟩ (.int .i64 (o : Int))).cell? ⟨w.heap.size + 1, 1, none⟩ = some (.slice L9 l9n l9c) := rr5.cell 1
      have u2 : ((((((wc.setCell ⟨w.heap.size + 1, 0, none⟩ (.slice T9 t9n t9c)).setCell ⟨w.heap.size + 1, 1, none⟩ (.slice L9 l9n l9c)).setCell ⟨w.heap.size + 1, 2, none⟩ (.slice R9 r9n r9c)).setCell ⟨w.heap.size + 1, 3, none⟩ (.int .i64 (a : Int))).setCell ⟨w.heap.size + 1, 4, none⟩ (.int .i64 (u : Int))).setCell ⟨w.heap.size + 1, 5, none⟩ (.int .i64 (o : Int))).cell? ⟨w.heap.size + 1, 2, none⟩ = some (.slice R9 r9n r9c) := rr5.cell 2
      have u3 : ((((((wc.setCell ⟨w.heap.size + 1, 0, none⟩ (.slice T9 t9n t9c)).setCell ⟨w.heap.size + 1, 1, none⟩ (.slice L9 l9n l9c)).setCell ⟨w.heap.size + 1, 2, none⟩ (.slice R9 r9n r9c)).setCell ⟨w.heap.size + 1, 3, none⟩ (.int .i64 (a : Int))).setCell ⟨w.heap.size + 1, 4, none⟩ (.int .i64 (u : Int))).setCell ⟨w.heap.size + 1, 5, none⟩ (.int .i64 (o : Int))).cell? ⟨w.heap.size + 1, 3, none⟩ = some (.int .i64 (a : Int)) := rr5.cell 3
      have u4 : ((((((wc.setCell ⟨w.heap.size + 1, 0, none⟩ (.slice T9 t9n t9c)).setCell ⟨w.heap.size + 1, 1, none⟩ (.slice L9 l9n l9c)).setCell ⟨w.heap.size + 1, 2, none⟩ (.slice R9 r9n r9c)).setCell ⟨w.heap.size + 1, 3, none⟩ (.int .i64 (a : Int))).setCell ⟨w.heap.size + 1, 4, none⟩ (.int .i64 (u : Int))).setCell ⟨w.heap.size + 1, 5, none⟩ (.int .i64 (o : Int))).cell? ⟨w.heap.size + 1, 4, none⟩ = some (.int .i64 (u : Int)) := rr5.cell 4
      have u5 : ((((((wc.setCell ⟨w.heap.size + 1, 0, none⟩ (.slice T9 t9n t9c)).setCell ⟨w.heap.size + 1, 1, none⟩ (.slice L9 l9n l9c)).setCell ⟨w.heap.size + 1, 2, none⟩ (.slice R9 r9n r9c)).setCell ⟨w.heap.size + 1, 3, none⟩ (.int .i64 (a : Int))).setCell ⟨w.heap.size + 1, 4, none⟩ (.int .i64 (u : Int))).setCell ⟨w.heap.size + 1, 5, none⟩ (.int .i64 (o : Int))).cell? ⟨w.heap.size + 1, 5, none⟩ = some (.int .i64 (o : Int)) := rr5.cell 5
      have FZ : AnsPs w d.1 d.2 o a u (.returned (.tuple #[.agg #[.slice T9 t9n t9c, .slice L9 l9n l9c, .slice R9 r9n r9c, .int .i64 (a : Int), .int .i64 (u : Int), .int .i64 (o : Int)], .bool true])) ((((((wc.setCell ⟨w.heap.size + 1, 0, none⟩ (.slice T9 t9n t9c)).setCell ⟨w.heap.size + 1, 1, none⟩ (.slice L9 l9n l9c)).setCell ⟨w.heap.size + 1, 2, none⟩ (.slice R9 r9n r9c)).setCell ⟨w.heap.size + 1, 3, none⟩ (.int .i64 (a : Int))).setCell ⟨w.heap.size + 1, 4, none⟩ (.int .i64 (u : Int))).setCell ⟨w.heap.size + 1, 5, none⟩ (.int .i64 (o : Int))) := ⟨L, HM.out, by
       rw [PYES.out]
       exact ⟨T9, t9n, t9c, L9, l9n, l9c, R9, r9n, r9c, rfl, join_Peak (d := (((fillL L (lh d.2 o)).map (ren (orderL (fillL L (lh d.2 o)))), (fillL L (leftA d.1 d.2 o a u)).map (ren (orderL (fillL L (lh d.2 o)))), (fillL L (rh d.2 o)).map (ren (orderL (fillL L (lh d.2 o)))), (a : Int), (u : Int), (o : Int)) : Dat sPeak)) (m0 := wz.heap.size) (m1 := wa.heap.size) (m2 := wb.heap.size) (m3 := wc.heap.size) (m4 := wc.heap.size) (m5 := wc.heap.size) (m6 := wc.heap.size) pqT pqL pqR (Owned.num _ _ _ _) (Owned.num _ _ _ _) (Owned.num _ _ _ _) za zb zc (Nat.le_refl _) (Nat.le_refl _) (Nat.le_refl _) (by omega) (by simp), (Below.setCell (Below.setCell (Below.setCell (Below.setCell (Below.setCell (Below.setCell belc (show w.heap.size ≤ w.heap.size + 1 by omega) _) (show w.heap.size ≤ w.heap.size + 1 by omega) _) (show w.heap.size ≤ w.heap.size + 1 by omega) _) (show w.heap.size ≤ w.heap.size + 1 by omega) _) (show w.heap.size ≤ w.heap.size + 1 by omega) _) (show w.heap.size ≤ w.heap.size + 1 by omega) _)⟩⟩
      have HFZ := hid FZ
      clear FZ rr0 rr1 rr2 rr3 rr4 rr5 rbc belc pqT pqL pqR
      go_wp2
      exact bodyPost_ret (v := .tuple #[.agg #[.slice T9 t9n t9c, .slice L9 l9n l9c, .slice R9 r9n r9c, .int .i64 (a : Int), .int .i64 (u : Int), .int .i64 (o : Int)], .bool true]) (by simp [results, Tryz.results79, go_sem, u0, u1, u2, u3, u4, u5]) rfl HFZ.out
end pkSpec
end
section
open Go.Lib (hid)
namespace pksSpec
open Go.RowKit base ints sig term termOk termFacts sym varsOf marks app appAt segs kinds shape kindsR kindsP drawX fillMath matchMath unifMath Go.Proofs.YtlmofkeemlfpgaaGreat.look ruleMath ruleSpec peakMath peakSpec pkSpec trySpec ovsMath pkMath pkVars pkMgu pkAns pkAll pksMath pksAns ownL
set_option maxRecDepth 100000
structure Sk (w : World) (A V : Option Addr) (n cs q cv : Nat) (sg : List Int) (rs : List Rl) (L : List Tr) (O : Option Addr) (on oc : Nat) (wr : World) : Prop where
 r : Row wr w.heap.size 33 #[.slice A n cs, .slice V q cv]
 o : OwnL wr (w.heap.size + 1) wr.heap.size 38 sPeak O on oc (L.map (pkT sg rs))
 b : Below w.heap.size w wr
 g : goodL sg rs L = true
section
variable {w wr w' : World} {A V : Option Addr} {n cs q cv : Nat} {sg : List Int} {rs : List Rl} {L : List Tr} {O : Option Addr} {on oc : Nat}
theorem Sk.below (h : Sk w A V n cs q cv sg rs L O on oc wr) (hb : Below wr.heap.size wr w') : Sk w A V n cs q cv sg rs L O on oc w' :=
 ⟨h.r.next hb, (h.o.next hb).wider (Nat.le_refl _) hb.size, next_trans h.b hb, h.g⟩
theorem Sk.len (h : Sk w A V n cs q cv sg rs L O on oc wr) : L.length = on := by have := h.o.1; rwa [List.length_map] at this
end
set_option maxHeartbeats 4000000 in
theorem l11All (a v : Value) (d : Dat sSystem) (w : World) (h : Rd w w.heap.size sSystem [a, v] d) (hz : sz sSystem d ≤ 1048576) (hok : sysOkB d.1 d.2 = true) :
  Calls Tryz.prog 50 #[.agg #[a, v]] w (AnsPks w (psA d.1 d.2) (psB d.1 d.2)) := by
 have h0 := h
 obtain ⟨A, n, cs, V, q, cv, rfl, rfl, hA, kA, kV, hlen, hn, hn2, hr, hsg, hrs⟩ := rd_sys h hz
 have HQ := hid hlen
 have hq12 : q ≤ 12 := by have := (sys_parts hok).2.1; omega
 have LM := hid (fun (w1 : World) (bb : Below w.heap.size w w1) (o a u : Nat) (ho : o < d.2.length) (hu : u < d.2.length) => l11Meets A V n cs q cv d o u (a : Int) w1 (h0.next bb) hz hok ho hu)
 have LP := hid (fun (w1 : World) (bb : Below w.heap.size w w1) (o a u : Nat) (ho : o < d.2.length) (hu : u < d.2.length) (ha : a < (lh d.2 o).length) (hm : metB d.1 d.2 (o : Int) (a : Int) (u : Int) = true) => (show Calls Tryz.prog 79 #[.agg #[.slice A n cs, .slice V q cv], .int .i64 (o : Int), .int .i64 (a : Int), .int .i64 (u : Int)] w1 (AnsPk w1 (pkT d.1 d.2 (o, a, u)) (okT d.1 d.2 (o, a, u))) from by
  have hun : unB d.1 d.2 o a u = true := by
   unfold metB at hm
   rw [Bool.and_eq_true] at hm
   exact hm.2
  refine (l11Peak A V n cs q cv d o a u w1 (h0.next bb) hz hok ho hu ha hun).mono ?_
  rintro e w5 ⟨L, hM, hA⟩
  have hv := pkV_of (lh_ok hok ho) ha (rule_parts (trySpec.sys_rule hok ho)).2.2.2 (rule_parts (trySpec.sys_rule hok hu)).2.2.2 hM
  rw [hv] at hA
  exact hA))
 have LL := hid (fun (w1 : World) (bb : Below w.heap.size w w1) (o : Nat) (ho : o < q) => (show ∃ (b off : Nat) (LA : Option Addr) (ln lc : Nat) , V = some ⟨b, off, none⟩ ∧ w1.cell? ⟨b, off + o * 2, none⟩ = some (.slice LA ln lc) ∧ ln = (lh d.2 o).length ∧ ln ≤ 60 from by
  obtain ⟨b, off, l, r, x, rfl, hb, hx, cL, cR, rd⟩ := rd_at hr bb hlen ho
  obtain ⟨LA, ln, lc, RA, rn, rc, rfl, rfl, sL, kL, -, -, hln, -⟩ := rd_rule rd (by have := hrs o ho; rwa [hx.out] at this)
  have e1 : (lh d.2 o).length = ln := by unfold lh; rw [hx.out]; exact sL.1
  exact ⟨b, off, LA, ln, lc, rfl, cL, e1.symm, by rw [← e1]; exact (term_len (lh_ok hok (o := o) (by omega))).2⟩))
 have S0 : Sk w A V n cs q cv d.1 d.2 (posV d.1 d.2 0 0 0) (some ⟨w.heap.size + 1, 0, none⟩) 0 0 ((w.alloc (.cells #[.slice A n cs, .slice V q cv] 33)).alloc (.cells #[] 38)) :=
  ⟨(Row.new _ _ _).alloc _, by have := OwnL.empty (w.alloc (.cells #[.slice A n cs, .slice V q cv] 33)) (lo := w.heap.size + 1) (hi := w.heap.size + 1 + 1) 38 sPeak (by simp) (by simp); simpa [pos_zero] using this, ((Below.refl _ _).alloc (Nat.le_refl _) _).alloc (by simp) _, good_nil⟩
 have HS0 := hid S0
 have HOK := hid hok
 have k0 : ((w.alloc (.cells #[.slice A n cs, .slice V q cv] 33)).alloc (.cells #[] 38)).cell? ⟨w.heap.size, 0, none⟩ = some (.slice A n cs) := S0.r.cell 0
 have k1 : ((w.alloc (.cells #[.slice A n cs, .slice V q cv] 33)).alloc (.cells #[] 38)).cell? ⟨w.heap.size, 1, none⟩ = some (.slice V q cv) := S0.r.cell 1
 obtain ⟨zP, byP, iP, zcP, hbyP⟩ := info_Peak
 have HIP := hid (And.intro iP (And.intro zcP hbyP))
 clear S0 h h0 hz hok hA kA kV hlen hr hsg hrs iP zcP hbyP
 go_enter Tryz.func50, Tryz.ntmps50
 go_wp2_with fail
 go_loopg [4, 6] q (fun G out o_ wr => ∃ (o on oc : Nat) (O : Option Addr), o_ = .int .i64 o ∧ o + G = q ∧ out = .slice O on oc ∧ Sk w A V n cs q cv d.1 d.2 (posV d.1 d.2 o 0 0) O on oc wr)
 case atStart => exact ⟨0, 0, 0, _, rfl, by omega, rfl, HS0.out⟩
 case round =>
  clear HS0 k0 k1
  obtain ⟨o, on, oc, O, rfl, hoG, rfl, S⟩ := hrel
  obtain ⟨G, hG⟩ : ∃ G, G = gk := ⟨_, rfl⟩
  subst hG
  by_cases hoq : o < q
  ·have HI := hid hoG
   have HS := hid S
   have HOL := hid hoq
   obtain ⟨len, hl⟩ : ∃ len, len = (lh d.2 o).length := ⟨_, rfl⟩
   have HLE := hid hl
   clear hoG S hl
   go_wp2_with fail
   go_loopg [4, 7] len (fun G2 out a_ wr => ∃ (a on oc : Nat) (O : Option Addr), a_ = .int .i64 a ∧ a + G2 = len ∧ out = .slice O on oc ∧ Sk w A V n cs q cv d.1 d.2 (posV d.1 d.2 o a 0) O on oc wr)
   case atStart => exact ⟨0, _, _, _, rfl, by omega, rfl, HS.out⟩
   case round =>
    clear HS
    obtain ⟨a, on, oc, O, rfl, haG, rfl, S⟩ := hrel
    obtain ⟨G2, hG2⟩ : ∃ G2, G2 = gk := ⟨_, rfl⟩
    subst hG2
    have K0 : wr.cell? ⟨w.heap.size, 0, none⟩ = some (.slice A n cs) := S.r.cell 0
    have K1 : wr.cell? ⟨w.heap.size, 1, none⟩ = some (.slice V q cv) := S.r.cell 1
    obtain ⟨bV, oV, LA, ln, lc, rfl, KL, eln, hln60⟩ := LL.out wr S.b o HOL.out
    have eln2 : ln = len := eln.trans HLE.out.symm
    clear eln
    subst eln2
    have j1 : (0 : Int) ≤ (o : Int) := by omega
    have j2 : (o : Int) < (q : Int) := by omega
    by_cases hal : a < ln
    ·have HA := hid haG
     have HAL := hid hal
     have HS := hid S
     clear haG S
     go_wp2_with fail
     go_loopg [4, 8] q (fun g out u_ wr => ∃ (u on oc : Nat) (O : Option Addr), u_ = .int .i64 u ∧ u + g = q ∧ out = .slice O on oc ∧ Sk w A (some ⟨bV, oV, none⟩) n cs q cv d.1 d.2 (posV d.1 d.2 o a u) O on oc wr)
     case atStart => exact ⟨0, _, _, _, rfl, by omega, rfl, HS.out⟩
     case round =>
      clear HS K0 K1 KL
      obtain ⟨u, on, oc, O, rfl, hug, rfl, S⟩ := hrel
      have K0 : wr.cell? ⟨w.heap.size, 0, none⟩ = some (.slice A n cs) := S.r.cell 0
      have K1 : wr.cell? ⟨w.heap.size, 1, none⟩ = some (.slice (some ⟨bV, oV, none⟩) q cv) := S.r.cell 1
      by_cases huq : u < q
      ·have ho9 : o < d.2.length := by rw [HQ.out]; exact HOL.out
       have hu9 : u < d.2.length := by rw [HQ.out]; exact huq
       have LM1 := hid (LM.out wr S.b o a u ho9 hu9)
       have HK := hid hug
       have hpre := pos_pre (sg := d.1) (rs := d.2) (u := u + 1) ho9 (by rw [← HLE.out]; exact HAL.out) (show u + 1 ≤ d.2.length by rw [HQ.out]; omega)
       have HPRE := hid hpre
       have hon : on ≤ 64 := by rw [← S.len]; exact good_len S.g
       clear hug hpre
       obtain ⟨bm, hbm⟩ : ∃ b, metB d.1 d.2 (o : Int) (a : Int) (u : Int) = b := ⟨_, rfl⟩
       rw [hbm] at LM1
       have HBM := hid hbm
       have HU9 := hid (And.intro ho9 hu9)
       clear hbm ho9 hu9
       cases bm with
       | false =>
        go_wp2_with fail
        refine LM1.out.mono ?_
        rintro e w2 ⟨rfl, bb⟩
        have F := hid (show Sk w A (some ⟨bV, oV, none⟩) n cs q cv d.1 d.2 (posV d.1 d.2 o a (u + 1)) O on oc w2 by rw [pos_no HBM.out]; exact S.below bb)
        clear S bb LM1 K0 K1
        go_wp2
        go_roundg (gk - 1)
        case measure => have := HK.out; omega
        case rel => exact ⟨u + 1, on, oc, O, by simp, by have := HK.out; omega, rfl, F.out⟩
       | true =>
        go_wp2_with fail
        refine LM1.out.mono ?_
        rintro e w2 ⟨rfl, bb⟩
        have S2 := S.below bb
        have m0 : w2.cell? ⟨w.heap.size, 0, none⟩ = some (.slice A n cs) := S2.r.cell 0
        have m1 : w2.cell? ⟨w.heap.size, 1, none⟩ = some (.slice (some ⟨bV, oV, none⟩) q cv) := S2.r.cell 1
        have LP1 := LP.out w2 S2.b o a u HU9.out.1 HU9.out.2 (by rw [← HLE.out]; exact HAL.out) HBM.out
        obtain ⟨P, hP⟩ : ∃ P, pkT d.1 d.2 (o, a, u) = P := ⟨_, rfl⟩
        obtain ⟨bo, hbo⟩ : ∃ b, okT d.1 d.2 (o, a, u) = b := ⟨_, rfl⟩
        rw [hP, hbo] at LP1
        have HLP := hid LP1
        have HP := hid (And.intro hP hbo)
        have HS2 := hid S2
        clear LP1 hP hbo S S2 bb LM1 K0 K1
        go_wp2_with fail
        refine HLP.out.mono ?_
        rintro e w3 ⟨A0, n0, c0, A1, n1, c1, A2, n2, c2, rfl, oP, b3⟩
        have S3 := HS2.out.below b3
        obtain ⟨W4, hW4⟩ : ∃ W4, W4 = w3.alloc (.cells #[.slice A0 n0 c0, .slice A1 n1 c1, .slice A2 n2 c2, .int .i64 P.2.2.2.1, .int .i64 P.2.2.2.2.1, .int .i64 P.2.2.2.2.2] 38) := ⟨_, rfl⟩
        have b4 : Below w3.heap.size w3 W4 := by rw [hW4]; exact (Below.refl _ _).alloc (Nat.le_refl _) _
        have S4 := S3.below b4
        have oP4 := oP.next b4
        have z2 : w.heap.size + 1 ≤ w2.heap.size := HS2.out.r.lt
        have z3 := b3.size
        have z4 : W4.heap.size = w3.heap.size + 1 := by rw [hW4]; simp
        have oL := (HS2.out.o.next b3).next b4
        have rP : Row W4 w3.heap.size 38 #[.slice A0 n0 c0, .slice A1 n1 c1, .slice A2 n2 c2, .int .i64 P.2.2.2.1, .int .i64 P.2.2.2.2.1, .int .i64 P.2.2.2.2.2] := by rw [hW4]; exact Row.new _ _ _
        have hlen9 := HS2.out.len
        have ZZ := hid (And.intro z4 (And.intro z3 z2))
        have HW4 := hid hW4
        have HO := hid (And.intro oL (And.intro oP4 S4))
        have HR := hid rP
        have HL9 := hid hlen9
        have q0 : W4.cell? ⟨w3.heap.size, 0, none⟩ = some (.slice A0 n0 c0) := rP.cell 0
        have q1 : W4.cell? ⟨w3.heap.size, 1, none⟩ = some (.slice A1 n1 c1) := rP.cell 1
        have q2 : W4.cell? ⟨w3.heap.size, 2, none⟩ = some (.slice A2 n2 c2) := rP.cell 2
        have q3 : W4.cell? ⟨w3.heap.size, 3, none⟩ = some (.int .i64 P.2.2.2.1) := rP.cell 3
        have q4 : W4.cell? ⟨w3.heap.size, 4, none⟩ = some (.int .i64 P.2.2.2.2.1) := rP.cell 4
        have q5 : W4.cell? ⟨w3.heap.size, 5, none⟩ = some (.int .i64 P.2.2.2.2.2) := rP.cell 5
        rw [hW4] at q0 q1 q2 q3 q4 q5
        clear hW4 rP oL oP oP4 S3 S4 b3 b4 hlen9 z2 z3 z4 m0 m1 HLP
        cases bo with
        | false =>
         have F := hid (show AnsPks w (psA d.1 d.2) (psB d.1 d.2) (.returned (.tuple #[.slice (some ⟨W4.heap.size, 0, none⟩) 0 0, .bool false])) (W4.alloc (.cells #[] 38)) from ansPks_none (ps_bad (by have := HPRE.out; rw [pos_yes HBM.out] at this; exact this) (bad_ok HP.out.2)) HO.out.2.2.b)
         rw [HW4.out] at F
         go_wp2
         go_ret2
         first | exact F.out | (simpa using F.out)
        | true =>
         by_cases h64 : on = 64
         ·subst h64
          have F := hid (show AnsPks w (psA d.1 d.2) (psB d.1 d.2) (.returned (.tuple #[.slice (some ⟨W4.heap.size, 0, none⟩) 0 0, .bool false])) (W4.alloc (.cells #[] 38)) from ansPks_none (ps_bad (by have := HPRE.out; rw [pos_yes HBM.out] at this; exact this) (bad_len HL9.out)) HO.out.2.2.b)
          rw [HW4.out] at F
          go_wp2
          go_ret2
          first | exact F.out | (simpa using F.out)
         ·have hne64 : ¬ ((on : Int) = 64) := by omega
          have b5 : Below W4.heap.size W4 (W4.alloc (.cells #[.slice A0 n0 c0, .slice A1 n1 c1, .slice A2 n2 c2, .int .i64 P.2.2.2.1, .int .i64 P.2.2.2.2.1, .int .i64 P.2.2.2.2.2] 38)) := (Below.refl _ _).alloc (Nat.le_refl _) _
          have oS := OwnL.single (e := 38) (s := sPeak) (Row.new W4 38 #[.slice A0 n0 c0, .slice A1 n1 c1, .slice A2 n2 c2, .int .i64 P.2.2.2.1, .int .i64 P.2.2.2.2.1, .int .i64 P.2.2.2.2.2]) ((HO.out.2.1.next b5).wider (Nat.le_refl _) (show w3.heap.size ≤ W4.heap.size by have := ZZ.out.1; omega)) (Nat.le_refl _) (show w2.heap.size ≤ W4.heap.size by have := ZZ.out; omega)
          have HAPP := hid (And.intro (HO.out.1.next b5) oS)
          have HS5 := hid (HO.out.2.2.below b5)
          have eW : W4.heap.size = w3.heap.size + 1 := ZZ.out.1
          have eZ : w.heap.size + 1 ≤ w2.heap.size := ZZ.out.2.2
          rw [eW] at HAPP
          rw [HW4.out] at HAPP HS5
          have HZ5 := hid (And.intro eW eZ)
          clear b5 oS HO eW eZ
          go_wp2_with (at_builtin; refine appLm rfl _ _ 49 38 sPeak _ _ Tryz.underlying49 HIP.out.1 HIP.out.2.1 HIP.out.2.2 rfl (w.heap.size + 1) w2.heap.size w2.heap.size (w3.heap.size + 1 + 1) O on oc (w3.heap.size + 1) 1 1 _ _ rfl HAPP.out.1 rfl HAPP.out.2 (Nat.le_refl _) HZ5.out.2 (by omega) (by omega) (by simp; have := HZ5.out; have := ZZ.out.2.1; omega) ?_; intro O' oc' w5 oL5 hg5 hat5 b5 hf5)
          have F := hid (show Sk w A (some ⟨bV, oV, none⟩) n cs q cv d.1 d.2 (posV d.1 d.2 o a (u + 1)) O' (on + 1) oc' w5 from by
           rw [pos_yes HBM.out]
           refine ⟨HS5.out.r.below b5 (by omega), ?_, HS5.out.b.trans (b5.mono (by omega)), good_app HS2.out.g HP.out.2 (by rw [HL9.out]; omega)⟩
           rw [List.map_append, List.map_singleton, HP.out.1]
           exact oL5)
          clear oL5 hg5 hat5 b5 hf5 HAPP HS5
          go_wp2
          go_roundg (gk - 1)
          case measure => have := HK.out; omega
          case rel => exact ⟨u + 1, on + 1, oc', O', by simp, by have := HK.out; omega, rfl, F.out⟩
      ·have e1 : u = q := by omega
       subst e1
       have S2 : Sk w A (some ⟨bV, oV, none⟩) n cs u cv d.1 d.2 (posV d.1 d.2 o (a + 1) 0) O on oc wr := by rw [← pos_row, HQ.out]; exact S
       have F := hid S2
       clear S S2
       go_wp2
       go_roundg (G2 - 1)
       case measure => have := HA.out; omega
       case rel => exact ⟨a + 1, on, oc, O, by simp, by have := HA.out; omega, rfl, F.out⟩
    ·have e1 : a = ln := by omega
     subst e1
     have S2 : Sk w A (some ⟨bV, oV, none⟩) n cs q cv d.1 d.2 (posV d.1 d.2 (o + 1) 0 0) O on oc wr := by rw [← pos_col, ← HLE.out]; exact S
     have F := hid S2
     clear S S2
     go_wp2
     go_roundg (G - 1)
     case measure => have := HI.out; omega
     case rel => exact ⟨o + 1, on, oc, O, by simp, by have := HI.out; omega, rfl, F.out⟩
  ·have e1 : o = q := by omega
   subst e1
   have hp : posV d.1 d.2 o 0 0 = ovs d.1 d.2 anyW := by rw [← HQ.out]; exact pos_all
   rw [hp] at S
   have F : AnsPks w (psA d.1 d.2) (psB d.1 d.2) (.returned (.tuple #[.slice O on oc, .bool true])) wr := by
    obtain ⟨e2, e3⟩ := ps_good HOK.out S.g
    rw [e2, e3]
    exact ⟨O, on, oc, rfl, S.o.wider (by omega) (Nat.le_refl _), S.b⟩
   have HF := hid F
   clear F S hp
   go_wp2
   go_ret2
   exact HF.out
set_option maxHeartbeats 2000000 in
theorem specPeaksOf (a v : Value) (d : Dat sSystem) (w : World) (h : Rd w w.heap.size sSystem [a, v] d) (hz : sz sSystem d ≤ 1048576) :
  Calls Tryz.prog 27 #[.agg #[a, v]] w (AnsPks w (psA d.1 d.2) (psB d.1 d.2)) := by
 obtain ⟨W, hW, rA, bel⟩ := box1 w 33 #[a, v]
 have HW := hid hW
 have L1 := hid (specSystemOk _ _ d W (h.next bel) hz)
 have L2 := hid (fun (w1 : World) (bb : Below w.heap.size w w1) hok => l11All _ _ d w1 (h.next bb) hz hok)
 clear hW h hz
 cases ok : sysOkB d.1 d.2 with
 | false =>
  have HR := hid ok
  clear ok
  go_enter Tryz.func27, Tryz.ntmps27
  go_wp2_with fail
  rw [← HW.out]
  refine L1.out.mono ?_
  rintro e w1 ⟨he, bb⟩
  rw [HR.out] at he
  subst he
  have F := hid (ansPks_none (ps_sys HR.out) (next_trans bel bb))
  clear bb bel rA L2
  go_wp2
  go_ret2
  exact F.out
 | true =>
  have HR := hid ok
  clear ok
  go_enter Tryz.func27, Tryz.ntmps27
  go_wp2_with fail
  rw [← HW.out]
  refine L1.out.mono ?_
  rintro e w1 ⟨he, bb⟩
  rw [HR.out] at he
  subst he
  replace rA := rA.next bb
  replace bel := next_trans bel bb
  have K0 : w1.cell? ⟨w.heap.size, 0, none⟩ = some a := rA.cell 0
  have K1 : w1.cell? ⟨w.heap.size, 1, none⟩ = some v := rA.cell 1
  clear bb L1 rA
  go_wp2_with fail
  refine (L2.out w1 bel HR.out).mono ?_
  rintro e w2 ⟨A, n, c, rfl, o, bb⟩
  have HF := hid (show AnsPks w (psA d.1 d.2) (psB d.1 d.2) (.returned (.tuple #[.slice A n c, .bool (psB d.1 d.2)])) w2 from ⟨A, n, c, rfl, o.wider bel.size (Nat.le_refl _), next_trans bel bb⟩)
  clear o bb bel L2 K0 K1
  go_wp2
  go_ret2
  exact HF.out
end pksSpec
end
section
namespace orderMath
open sig term termOk termFacts ruleMath stepMath walkMath stepsMath
section
variable {sg : List Int} {rs : List Rl} {t : List Int}
end
end orderMath
end
section
namespace orderMath
open sig term termOk termFacts ruleMath stepMath walkMath stepsMath
section
variable {E : Int → Int} {l : List Int}
end
section
variable {sg : List Int} {rs : List Rl} {t : List Int}
end
section
variable {sg : List Int} {rs : List Rl} {s : Int} {F i : Nat} {t u v : List Int} {L : List St}
end
section
variable {sg : List Int} {rs : List Rl} {t : List Int}
end
end orderMath
end
section
namespace reachMath
open sig term termOk termFacts ruleMath stepMath walkMath stepsMath orderMath
abbrev Fi := St × Nat × Nat
abbrev Fs := List Fi × Bool
def termF (f : Fi) : List Int := f.1.2.2
def termsF (L : List Fi) : List (List Int) := L.map termF
def addF (p d : Nat) (S : Fs) (x : St) : Fs := if S.2 = false then S else if x.2.2 ∈ termsF S.1 then S else if S.1.length = 60 then (S.1, false) else (S.1 ++ [(x, p, d)], true)
def startF (t : List Int) : Fi := ((0, 0, t), 0, 0)
section
variable {sg : List Int} {rs : List Rl} {t : List Int} {n i : Nat} {S : Fs}
def bkK (L : List Fi) : Nat → Nat → List St
 | 0, _ => []
 | k + 1, at_ => if at_ = 0 then [] else (L.getD at_ (startF [])).1 :: bkK L k (L.getD at_ (startF [])).2.1
def bk (L : List Fi) (j : Nat) : List St := bkK L j j
end
def addT (out : List (List Int)) (x : List Int) : List (List Int) := if x ∈ out then out else out ++ [x]
def tosL (sg : List Int) (rs : List Rl) (t : List Int) : List (List Int) := (stepsL sg rs t).map fun s => s.2.2
def nxN (sg : List Int) (rs : List Rl) (lv : List (List Int)) (i : Nat) : List (List Int) := ((lv.take i).flatMap (tosL sg rs)).foldl addT []
def longB (sg : List Int) (rs : List Rl) (t : List Int) : Bool := decide ((stepsL sg rs t).length < rdN sg rs t t.length 0)
def nextO (sg : List Int) (rs : List Rl) (lv : List (List Int)) : Option (List (List Int)) := if (lv.any (longB sg rs)) = true ∨ 60 < (nxN sg rs lv lv.length).length then none else some (nxN sg rs lv lv.length)
section
variable {sg : List Int} {rs : List Rl} {t : List Int}
end
end reachMath
end
section
namespace known
open Go.RowKit Go.Maps base ints sig term termOk termFacts marks app sym segs segsHelp varsOf reachMath
set_option maxRecDepth 100000
def keyN (t : List Int) : List Int := t.map (· + 24)
def klit (t : List Int) : Lit := .string (strOfNums (keyN t)).data.toList
def Small (t : List Int) : Prop := t.length ≤ 60 ∧ ∀ x ∈ t, -24 ≤ x ∧ x < 8
def Kn (w : World) (b n : Nat) (L : List (List Int)) : Prop := ∃ D : DataW Unit, w.ownsMap Tryz.prog 9 (plainElem Tryz.prog 3) b n D ∧ (∀ t ∈ L, Small t) ∧ (∀ t, Small t → Maps.has D (klit t) = decide (t ∈ L)) ∧ ∀ i, i < L.length → D.atKey (klit (L.getD i [])) (.lit (.int .i64 0)) = .lit (.int .i64 (i : Int))
section
variable {w w' : World} {b n : Nat} {L : List (List Int)} {t : List Int} {row : Option Nat}
theorem Kn.lt (h : Kn w b n L) : b < w.heap.size := by
 obtain ⟨D, h1, h2⟩ := h
 exact h1.lt
end
end known
end
section
namespace heldT
section
variable {P : Program} {md : Region.Mode} {ops : Array Oper} {Q : Exit → Act → World → Prop} {S : World → Prop} {late : Nat → Bool}
end
end heldT
end
section
namespace findW
open Go.RowKit base ints sig marks app appAt sym segs segsHelp shape kindsW drawX walkMath reachMath
def NotIn (w : World) (bad : Nat → Prop) (b : Nat) : Prop := b < w.heap.size ∧ ¬ bad b
section
variable {w w' : World} {bad bad' : Nat → Prop} {r : Option Nat} {s : Sh} {cs : List Value} {d : Dat s}
theorem notIn_kept (h : RdQ w (NotIn w bad) s cs d) (hg : w.grownBy w' r) (hr : ∀ k, r = some k → bad k) (hb : ∀ b, b < w.heap.size → bad' b → bad b) : RdQ w' (NotIn w' bad') s cs d :=
 (h.keep fun b q => hg.block b q.1 (fun e => q.2 (hr b e.symm))).mono fun b q => ⟨Nat.lt_of_lt_of_le q.1 hg.size, fun q' => q.2 (hb b q.1 q')⟩
theorem grown_set (w : World) (g i : Nat) (u : Value) : w.grownBy (w.setCell ⟨g, i, none⟩ u) (some g) := ⟨rfl, rfl, rfl, by simp, fun k hk hne => Below.heap_setCell w _ u k (fun e => hne (by rw [e]))⟩
theorem notIn_rd (h : RdQ w (NotIn w bad) s cs d) : Rd w w.heap.size s cs d := h.rd fun _ h => h.1
end
def XS (w : World) (bad : Nat → Prop) (lo : Nat) (e : TypeId) (s : Sh) (g n c : Nat) (D : List (Dat s)) : Prop :=
 D.length = n ∧ ∃ vs : List Value, w.ownsRow lo e (nc s) (.slice (some ⟨g, 0, none⟩) n c) n vs ∧ ∀ j, j < n → RdQ w (NotIn w bad) s (cellsOf (nc s) vs j) (D.getD j (dft s))
section
variable {w w' : World} {bad bad' : Nat → Prop} {r : Option Nat} {lo g n c : Nat} {e : TypeId} {s : Sh} {D : List (Dat s)}
theorem XS.kept (h : XS w bad lo e s g n c D) (hg : w.grownBy w' r) (hr : ∀ k, r = some k → bad k) (hne : r ≠ some g) (hb : ∀ b, b < w.heap.size → bad' b → bad b) : XS w' bad' lo e s g n c D := by
 obtain ⟨h1, vs, h2, h3⟩ := h
 exact ⟨h1, vs, World.ownsRow.kept h2 hg (.inr fun q => hne q.symm), fun j hj => notIn_kept (h3 j hj) hg hr hb⟩
theorem XS.ge (h : XS w bad lo e s g n c D) : lo ≤ g ∧ g < w.heap.size := by
 obtain ⟨_, vs, ho, _⟩ := h
 exact World.ownsRow.lt ho g rfl
theorem XS.len (h : XS w bad lo e s g n c D) : D.length = n := h.1
theorem XS.rd {e0 : TypeId} (h : XS w bad lo e s g n c D) : Rd w w.heap.size (.row e0 s) [.slice (some ⟨g, 0, none⟩) n c] D := by
 obtain ⟨h1, vs, ho, h3⟩ := h
 rcases ho.2 with ⟨e1, h0⟩ | ⟨g', cap, cur, e1, hg, hrow, hn, hm, hs, ht⟩
 ·injection e1 with a1 a2 a3
  cases a1
 ·injection e1 with a1 a2 a3
  injection a1 with a1
  injection a1 with a1
  subst a1 a3
  refine ⟨_, n, c, rfl, ⟨hn, by unfold maxLen at hm; omega, fun e => by cases e⟩, h1, fun h0 => ⟨g, 0, rfl, (Array.getElem?_eq_some_iff.1 hrow).1, fun j hj => ⟨cellsOf (nc s) vs j, (h3 j hj).len, fun i hi => ?_, notIn_rd (h3 j hj)⟩⟩⟩
  have hl := (h3 j hj).len
  have hi : i < nc s := by omega
  have hjn : j * nc s + nc s ≤ n * nc s := by
   have := Nat.mul_le_mul_right (nc s) (show j + 1 ≤ n by omega)
   rw [Nat.add_mul] at this
   omega
  rw [Nat.zero_add, Row.cell (t := e) (cs := cur) hrow]
  have h5 : cur.toList[j * nc s + i]? = vs[j * nc s + i]? := by
   rw [← ht, List.getElem?_take, if_pos (by omega)]
  rw [← Array.getElem?_toList, h5]
  unfold cellsOf
  rw [List.getElem?_take, if_pos hi, List.getElem?_drop]
theorem XS.app {vs es : List Value} {x : Dat s} {g' c' : Nat} (hl : D.length = n) (hr : w.ownsRow lo e (nc s) (.slice (some ⟨g, 0, none⟩) n c) n vs) (hin : ∀ j, j < n → RdQ w (NotIn w bad) s (cellsOf (nc s) vs j) (D.getD j (dft s))) (hv : RdQ w (NotIn w bad) s es x)
  (hown' : w'.ownsRow lo e (nc s) (.slice (some ⟨g', 0, none⟩) (n + 1) c') (n + 1) (vs ++ es)) (hg : w.grownBy w' (some g)) (hbad : bad g) (hb : ∀ b, b < w.heap.size → bad' b → bad b) : XS w' bad' lo e s g' (n + 1) c' (D ++ [x]) := by
 have hvl : vs.length = n * nc s := hr.1
 have hel := hv.len
 have keep : ∀ {us : List Value} {y : Dat s}, RdQ w (NotIn w bad) s us y → RdQ w' (NotIn w' bad') s us y := fun hu => notIn_kept hu hg (fun k e => by injection e with e; rw [← e]; exact hbad) hb
 refine ⟨by simp [hl], vs ++ es, hown', fun j hj => ?_⟩
 by_cases ej : j = n
 ·subst ej
  rw [show (D ++ [x]).getD j (dft s) = x by simp [List.getD, ← hl]]
  have : cellsOf (nc s) (vs ++ es) j = es := by
   unfold cellsOf
   rw [List.drop_append_of_le_length (by omega), List.drop_of_length_le (by omega), List.nil_append, List.take_of_length_le (by omega)]
  rw [this]
  exact keep hv
 ·rw [show (D ++ [x]).getD j (dft s) = D.getD j (dft s) by simp [List.getD, List.getElem?_append_left (show j < D.length by omega)]]
  have hjn : j * nc s + nc s ≤ n * nc s := by
   have := Nat.mul_le_mul_right (nc s) (show j + 1 ≤ n by omega)
   rw [Nat.add_mul] at this
   omega
  have : cellsOf (nc s) (vs ++ es) j = cellsOf (nc s) vs j := by
   unfold cellsOf
   rw [List.drop_append_of_le_length (by omega), List.take_append_of_le_length (by rw [List.length_drop]; omega)]
  rw [this]
  exact keep (hin j (by omega))
end
def bad5 (lo B g1 g2 g3 g4 : Nat) (b : Nat) : Prop := b < lo ∨ b = B ∨ b = g1 ∨ b = g2 ∨ b = g3 ∨ b = g4
structure Fo (w : World) (lo B g1 n1 c1 g2 n2 c2 g3 n3 c3 g4 n4 c4 : Nat) (D1 : List (List Int)) (D2 : List Int) (D3 : List St) (D4 : List Int) (fl : Bool) : Prop where
 row : Row w B 83 #[.slice (some ⟨g1, 0, none⟩) n1 c1, .slice (some ⟨g2, 0, none⟩) n2 c2, .slice (some ⟨g3, 0, none⟩) n3 c3, .slice (some ⟨g4, 0, none⟩) n4 c4, .bool fl]
 x1 : XS w (bad5 lo B g1 g2 g3 g4) lo 22 sI g1 n1 c1 D1
 x2 : XS w (bad5 lo B g1 g2 g3 g4) lo 2 .num g2 n2 c2 D2
 x3 : XS w (bad5 lo B g1 g2 g3 g4) lo 114 sStep g3 n3 c3 D3
 x4 : XS w (bad5 lo B g1 g2 g3 g4) lo 2 .num g4 n4 c4 D4
 dis : B ≠ g1 ∧ B ≠ g2 ∧ B ≠ g3 ∧ B ≠ g4 ∧ g1 ≠ g2 ∧ g1 ≠ g3 ∧ g1 ≠ g4 ∧ g2 ≠ g3 ∧ g2 ≠ g4 ∧ g3 ≠ g4
section
variable {w w' : World} {lo B g1 n1 c1 g2 n2 c2 g3 n3 c3 g4 n4 c4 : Nat} {D1 : List (List Int)} {D2 : List Int} {D3 : List St} {D4 : List Int} {fl : Bool}
theorem Fo.app1 (h : Fo w lo B g1 n1 c1 g2 n2 c2 g3 n3 c3 g4 n4 c4 D1 D2 D3 D4 fl) {g' c' : Nat} {x : List Int} (hx : ∀ bad' : Nat → Prop, (∀ b, b < w.heap.size → bad' b → bad5 lo B g1 g2 g3 g4 b) → XS w' bad' lo 22 sI g' (n1 + 1) c' (D1 ++ [x])) (hg : w.grownBy w' (some g1)) (hat : g' = g1 ∨ g' = w.heap.size) :
  Fo (w'.setCell ⟨B, 0, none⟩ (.slice (some ⟨g', 0, none⟩) (n1 + 1) c')) lo B g' (n1 + 1) c' g2 n2 c2 g3 n3 c3 g4 n4 c4 (D1 ++ [x]) D2 D3 D4 fl := by
 obtain ⟨d1, d2, d3, d4, d5, d6, d7, d8, d9, d10⟩ := h.dis
 have l0 := h.row.lt
 have l2 := h.x2.ge
 have l3 := h.x3.ge
 have l4 := h.x4.ge
 have hb : ∀ b, b < w.heap.size → bad5 lo B g' g2 g3 g4 b → bad5 lo B g1 g2 g3 g4 b := fun b hb q => by unfold bad5 at q ⊢; omega
 have hr : ∀ k, some g1 = some k → bad5 lo B g1 g2 g3 g4 k := fun k e => by injection e with e; unfold bad5; omega
 have hB : ∀ k, some B = some k → bad5 lo B g' g2 g3 g4 k := fun k e => by injection e with e; unfold bad5; omega
 have hs := grown_set w' B 0 (.slice (some ⟨g', 0, none⟩) (n1 + 1) c')
 refine ⟨Row.put (Row.away h.row hg (fun e => d1 (by injection e with e; exact e.symm))) 0 _, (hx _ hb).kept hs hB (fun e => by injection e with e; omega) (fun _ _ q => q), (h.x2.kept hg hr (fun e => d5 (by injection e)) hb).kept hs hB (fun e => d2 (by injection e)) (fun _ _ q => q), (h.x3.kept hg hr (fun e => d6 (by injection e)) hb).kept hs hB (fun e => d3 (by injection e)) (fun _ _ q => q), (h.x4.kept hg hr (fun e => d7 (by injection e)) hb).kept hs hB (fun e => d4 (by injection e)) (fun _ _ q => q), ?_⟩
 omega
theorem Fo.far (h : Fo w lo B g1 n1 c1 g2 n2 c2 g3 n3 c3 g4 n4 c4 D1 D2 D3 D4 fl) {q : Nat} (i : Nat) (u : Value) (hq : q < lo) (hqB : B ≠ q) : Fo (w.setCell ⟨q, i, none⟩ u) lo B g1 n1 c1 g2 n2 c2 g3 n3 c3 g4 n4 c4 D1 D2 D3 D4 fl := by
 have hs := grown_set w q i u
 have l1 := h.x1.ge
 have l2 := h.x2.ge
 have l3 := h.x3.ge
 have l4 := h.x4.ge
 have hB : ∀ k, some q = some k → bad5 lo B g1 g2 g3 g4 k := fun k e => by injection e with e; unfold bad5; omega
 exact ⟨Row.far h.row hqB u, h.x1.kept hs hB (fun e => by injection e with e; omega) (fun _ _ q => q), h.x2.kept hs hB (fun e => by injection e with e; omega) (fun _ _ q => q), h.x3.kept hs hB (fun e => by injection e with e; omega) (fun _ _ q => q), h.x4.kept hs hB (fun e => by injection e with e; omega) (fun _ _ q => q), h.dis⟩
end
end findW
end
section
namespace findSpec
open Go.RowKit base ints sig term termOk marks app sub varsOf appAt sym segs segsHelp kinds same shifted shape kindsR kindsW ruleMath ruleSpec stepMath stepSpec ownL drawX walkMath reachMath findW
set_option maxRecDepth 100000
end findSpec
end
section
namespace findSpec
open Go.RowKit base ints sig term termOk termFacts marks app sub varsOf appAt sym segs segsHelp kinds same shifted shape kindsR kindsW ruleMath ruleSpec stepMath stepSpec ownL drawX walkMath stepsMath reachMath findW heldT
set_option maxRecDepth 100000
section
variable {w : World} {bad : Nat → Prop} {lo g n c k : Nat} {e : TypeId}
theorem XS.num {D : List Int} (h : XS w bad lo e .num g n c D) (hk : k < n) : w.cell? ⟨g, k, none⟩ = some (.int .i64 (D.getD k 0)) := by
 have h1 := h.rd (e0 := 2)
 obtain ⟨A, n', c', e1, hS, -⟩ := rd_ints.1 h1
 injection e1 with a1 a2 a3
 subst a1 a2
 obtain ⟨b, off, e2, -, hc⟩ := Seg.round hS hk
 injection e2 with e2
 injection e2 with q1 q2
 subst q1 q2
 simpa using hc
theorem XS.spot {s : Sh} {D : List (Dat s)} (h : XS w bad lo e s g n c D) (hk : k < n) : ∃ es, es.length = nc s ∧ RdQ w (NotIn w bad) s es (D.getD k (dft s)) ∧ ∀ i, i < nc s → w.cell? ⟨g, k * nc s + i, none⟩ = es[i]? := by
 obtain ⟨h1, vs, ho, h3⟩ := h
 refine ⟨_, (h3 k hk).len, h3 k hk, fun i hi => ?_⟩
 rcases ho.2 with ⟨e1, h0⟩ | ⟨g', cap, cur, e1, hg, hrow, hn, hm, hs, ht⟩
 ·injection e1 with a1 a2 a3
  cases a1
 ·injection e1 with a1 a2 a3
  injection a1 with a1
  injection a1 with a1
  subst a1 a3
  have hjn : k * nc s + nc s ≤ n * nc s := by
   have := Nat.mul_le_mul_right (nc s) (show k + 1 ≤ n by omega)
   rw [Nat.add_mul] at this
   omega
  rw [Row.cell (t := e) (cs := cur) hrow]
  have h5 : cur.toList[k * nc s + i]? = vs[k * nc s + i]? := by
   rw [← ht, List.getElem?_take, if_pos (by omega)]
  rw [← Array.getElem?_toList, h5]
  unfold cellsOf
  rw [List.getElem?_take, if_pos hi, List.getElem?_drop]
end
structure SF (w : World) (a v : Value) (B g1 n1 c1 g2 n2 c2 g3 n3 c3 g4 n4 c4 : Nat) (D1 : List (List Int)) (D2 : List Int) (D3 : List St) (D4 : List Int) (wr : World) : Prop where
 fo : Fo wr (w.heap.size + 1 + 1) B g1 n1 c1 g2 n2 c2 g3 n3 c3 g4 n4 c4 D1 D2 D3 D4 true
 sys : Row wr w.heap.size 33 #[a, v]
 res : Row wr (w.heap.size + 1) 83 #[.slice none 0 0, .slice none 0 0, .slice none 0 0, .slice none 0 0, .bool false]
 far : w.heap.size + 1 < B
 bel : Below w.heap.size w wr
section
variable {w wr w' : World} {a v : Value} {B g1 n1 c1 g2 n2 c2 g3 n3 c3 g4 n4 c4 g' c' : Nat} {D1 : List (List Int)} {D2 : List Int} {D3 : List St} {D4 : List Int}
theorem rdq_app {bad bad' : Nat → Prop} {g i : Nat} {u : Value} (hg : wr.grownBy w' (some g)) (hb : bad g) (hm : ∀ b, b < wr.heap.size → bad' b → bad b) (hB : bad' B) {s : Sh} {cs : List Value} {d : Dat s} (hL : RdQ wr (NotIn wr bad) s cs d) : RdQ (w'.setCell ⟨B, i, none⟩ u) (NotIn (w'.setCell ⟨B, i, none⟩ u) bad') s cs d :=
 notIn_kept (notIn_kept hL hg (fun k e => by injection e with e; rw [← e]; exact hb) hm) (grown_set w' B i u) (fun k e => by injection e with e; rw [← e]; exact hB) (fun _ _ q => q)
theorem SF.app1 (h : SF w a v B g1 n1 c1 g2 n2 c2 g3 n3 c3 g4 n4 c4 D1 D2 D3 D4 wr) {x : List Int} (hx : ∀ bad' : Nat → Prop, (∀ b, b < wr.heap.size → bad' b → bad5 (w.heap.size + 1 + 1) B g1 g2 g3 g4 b) → XS w' bad' (w.heap.size + 1 + 1) 22 sI g' (n1 + 1) c' (D1 ++ [x])) (hg : wr.grownBy w' (some g1)) (hat : g' = g1 ∨ g' = wr.heap.size) (hb : Below (w.heap.size + 1 + 1) wr w') :
  SF w a v B g' (n1 + 1) c' g2 n2 c2 g3 n3 c3 g4 n4 c4 (D1 ++ [x]) D2 D3 D4 (w'.setCell ⟨B, 0, none⟩ (.slice (some ⟨g', 0, none⟩) (n1 + 1) c')) ∧ ∀ {s : Sh} {cs : List Value} {d : Dat s}, RdQ wr (NotIn wr (bad5 (w.heap.size + 1 + 1) B g1 g2 g3 g4)) s cs d → RdQ (w'.setCell ⟨B, 0, none⟩ (.slice (some ⟨g', 0, none⟩) (n1 + 1) c')) (NotIn (w'.setCell ⟨B, 0, none⟩ (.slice (some ⟨g', 0, none⟩) (n1 + 1) c')) (bad5 (w.heap.size + 1 + 1) B g' g2 g3 g4)) s cs d := by
 have l0 := h.fo.row.lt
 have l1 := h.fo.x1.ge
 have l2 := h.far
 have l3 := hb.size
 refine ⟨⟨h.fo.app1 hx hg hat, Row.far (h.sys.below hb (by omega)) (by show _ ≠ B; omega) _, Row.far (h.res.below hb (by omega)) (by show _ ≠ B; omega) _, h.far, (h.bel.trans (hb.mono (by omega))).setCell (by show _ ≤ B; omega) _⟩, fun hL => rdq_app hg (by unfold bad5; omega) (fun b hb q => by unfold bad5 at q ⊢; omega) (by unfold bad5; omega) hL⟩
end
end findSpec
end
section
namespace findSpec
open Go.RowKit base ints sig term termOk termFacts marks app sub varsOf appAt sym segs segsHelp kinds same shifted shape kindsR kindsW ruleMath ruleSpec stepMath stepSpec ownL drawX walkMath stepsMath reachMath findW heldT
set_option maxRecDepth 100000
end findSpec
end
section
namespace reachImpl
open Go.RowKit base ints sig term termOk termFacts marks app sub varsOf appAt sym segs segsHelp kinds shape kindsR kindsW ruleMath ruleSpec stepMath stepSpec ownL drawX walkMath reachMath findW findSpec heldT known
set_option maxRecDepth 100000
abbrev sFind : Sh := .cat sStep (.cat .num .num)
def fdat (f : Fi) : Dat sFind := (f.1, ((f.2.1 : Int), (f.2.2 : Int)))
structure Rf (lo mid rb mb cnt : Nat) (S : Fs) (O : Option Addr) (on oc : Nat) (W : World) : Prop where
 row : Row W rb 134 #[.slice O on oc, .map (some mb), .bool S.2]
 ow : OwnL W lo mid 137 sFind O on oc (S.1.map fdat)
 kn : Kn W mb cnt (termsF S.1)
structure Tcr (rb mb : Nat) (O : Option Addr) (X Y : World) : Prop where
 os : Y.os = X.os
 tape : Y.tape = X.tape
 output : Y.output = X.output
 size : X.heap.size ≤ Y.heap.size
 block : ∀ k, k < X.heap.size → k ≠ rb → k ≠ mb → some k ≠ blk O → Y.heap[k]? = X.heap[k]?
section
variable {rb mb : Nat} {O : Option Addr} {X Y Z : World}
theorem Tcr.trans (h : Tcr rb mb O X Y) (k : Tcr rb mb O Y Z) : Tcr rb mb O X Z := ⟨k.os.trans h.os, k.tape.trans h.tape, k.output.trans h.output, Nat.le_trans h.size k.size, fun i h1 h2 h3 h4 => (k.block i (Nat.lt_of_lt_of_le h1 h.size) h2 h3 h4).trans (h.block i h1 h2 h3 h4)⟩
theorem Tcr.row {g : Nat} {t : TypeId} {cs : Array Value} (h : Tcr rb mb O X Y) (r : Row X g t cs) (h1 : g ≠ rb) (h2 : g ≠ mb) (h3 : some g ≠ blk O) : Row Y g t cs := (h.block g r.lt h1 h2 h3).trans r
end
def AnsAdd (lo rb mb cnt ln : Nat) (S : Fs) (O : Option Addr) (X : World) (e : Ending) (Y : World) : Prop := (∃ v, e = .returned v) ∧ ∃ (O' : Option Addr) (on' oc' cnt' : Nat), Rf lo Y.heap.size rb mb cnt' S O' on' oc' Y ∧ (cnt' ≤ cnt + 1 ∧ (S.2 = true → cnt' + ln ≤ cnt + S.1.length)) ∧ Tcr rb mb O X Y ∧ ∀ k, blk O' = some k → blk O = some k ∨ X.heap.size ≤ k
end reachImpl
end
section
namespace reachImpl
open Go.RowKit base ints sig term marks app segs shape kindsR kindsW ownL drawX walkMath reachMath
set_option maxRecDepth 100000
variable {w : World}
end reachImpl
end
section
namespace pickOwn
open Go.RowKit base ints sig marks app appAt segs shape kindsR kindsW ownL drawX walkMath reachMath reachImpl findW
set_option maxRecDepth 100000
def OwnG (w : World) (lo hi : Nat) (e : TypeId) (s : Sh) (A : Option Addr) (n c : Nat) (D : List (Dat s)) (vs : List Value) (G : Nat → List Nat) : Prop :=
 D.length = n ∧ (∀ k, blk A = some k → k < hi) ∧ w.ownsRow lo e (nc s) (.slice A n c) n vs ∧ (A = none → c = 0) ∧ ((List.range n).flatMap G).Nodup ∧
  ∀ j, j < n → Ow w s (cellsOf (nc s) vs j) (D.getD j (dft s)) (G j) ∧ ∀ q ∈ G j, lo ≤ q ∧ q < hi ∧ some q ≠ blk A
section
variable {w w' : World} {lo hi mid n c N C : Nat} {e e' : TypeId} {s s' : Sh} {A B : Option Addr} {D : List (Dat s)} {D' : List (Dat s')} {vs us : List Value} {G : Nat → List Nat}
theorem named (h : OwnL w lo hi e s A n c D) : ∃ vs G, OwnG w lo hi e s A n c D vs G := by
 obtain ⟨h1, h2, vs, G, h3⟩ := h
 exact ⟨vs, G, h1, h2, h3⟩
theorem OwnG.own (h : OwnG w lo hi e s A n c D vs G) : OwnL w lo hi e s A n c D := ⟨h.1, h.2.1, vs, G, h.2.2⟩
theorem OwnG.keep (h : OwnG w lo hi e s A n c D vs G) (hk : ∀ k, lo ≤ k → k < hi → k < w.heap.size → w'.heap[k]? = w.heap[k]?) (hs : w.heap.size ≤ w'.heap.size) : OwnG w' lo hi e s A n c D vs G := by
 obtain ⟨h1, h2, h3, h4, h5, h6⟩ := h
 refine ⟨h1, h2, ?_, h4, h5, fun j hj => ⟨(h6 j hj).1.keep fun q hq => ?_, (h6 j hj).2⟩⟩
 ·refine ⟨h3.1, ?_⟩
  rcases h3.2 with q | ⟨g, cap, cur, e1, hg, hr, q⟩
  ·exact .inl q
  ·have hlt := (Array.getElem?_eq_some_iff.1 hr).1
   injection e1 with e2 e3 e4
   exact .inr ⟨g, cap, cur, by rw [e2, e4], hg, (hk g hg (h2 g (by rw [e2]; rfl)) hlt).trans hr, q⟩
 ·have := (h6 j hj).2 q hq
  exact hk q this.1 this.2.1 ((h6 j hj).1.lt q hq)
theorem flat_nd {G : Nat → List Nat} : ∀ {n : Nat}, ((List.range n).flatMap G).Nodup ↔ (∀ j, j < n → (G j).Nodup) ∧ ∀ i j, i < n → j < n → i ≠ j → ∀ x ∈ G i, x ∉ G j
 | 0 => ⟨fun _ => ⟨fun j h => by omega, fun i j h => by omega⟩, fun _ => by simp⟩
 | n + 1 => by
  rw [List.range_succ, List.flatMap_append, List.nodup_append, flat_nd]
  simp only [List.flatMap_cons, List.flatMap_nil, List.append_nil]
  constructor
  ·rintro ⟨⟨h1, h2⟩, h3, h4⟩
   refine ⟨fun j hj => ?_, fun i j hi hj hne x hx hx' => ?_⟩
   ·by_cases e : j = n
    ·rw [e]; exact h3
    ·exact h1 j (by omega)
   ·by_cases e1 : i = n
    ·by_cases e2 : j = n
     ·omega
     ·exact h4 x (List.mem_flatMap.2 ⟨j, List.mem_range.2 (by omega), hx'⟩) x (e1 ▸ hx) rfl
    ·by_cases e2 : j = n
     ·exact h4 x (List.mem_flatMap.2 ⟨i, List.mem_range.2 (by omega), hx⟩) x (e2 ▸ hx') rfl
     ·exact h2 i j (by omega) (by omega) hne x hx hx'
  ·rintro ⟨h1, h2⟩
   refine ⟨⟨fun j hj => h1 j (by omega), fun i j hi hj => h2 i j (by omega) (by omega)⟩, h1 n (by omega), fun x hx y hy e => ?_⟩
   obtain ⟨i, hi, hx⟩ := List.mem_flatMap.1 hx
   have hi := List.mem_range.1 hi
   rw [e] at hx
   exact h2 i n (by omega) (by omega) (by omega) y hx hy
theorem flat_inj {n : Nat} {G : Nat → List Nat} {σ : Nat → Nat} (hn : ((List.range N).flatMap G).Nodup) (hσ : ∀ j, j < n → σ j < N) (hi : ∀ i j, i < n → j < n → σ i = σ j → i = j) : ((List.range n).flatMap fun j => G (σ j)).Nodup := by
 rw [flat_nd] at hn ⊢
 exact ⟨fun j hj => hn.1 _ (hσ j hj), fun i j h1 h2 h3 => hn.2 _ _ (hσ i h1) (hσ j h2) fun e => h3 (hi i j h1 h2 e)⟩
end
theorem ow_find {w : World} {cs : List Value} {f : Fi} {F : List Nat} (h : Ow w sFind cs (fdat f) F) : ∃ T tn tc, cs = [.int .i64 f.1.1, .int .i64 f.1.2.1, .slice T tn tc, .int .i64 (f.2.1 : Int), .int .i64 (f.2.2 : Int)] ∧
  Ow w sStep [.int .i64 f.1.1, .int .i64 f.1.2.1, .slice T tn tc] f.1 F ∧ Ow w sI [.slice T tn tc] (termF f) F := by
 obtain ⟨ca, cb, Fa, Fb, rfl, rfl, h1, h2⟩ := h
 obtain ⟨cb1, cb2, Fb1, Fb2, rfl, rfl, h3, h4⟩ := h2
 obtain ⟨rfl, rfl⟩ := h3
 obtain ⟨rfl, rfl⟩ := h4
 have h1' := h1
 obtain ⟨ca1, ca2, Fa1, Fa2, rfl, rfl, h5, h6⟩ := h1'
 obtain ⟨rfl, rfl⟩ := h5
 obtain ⟨cc1, cc2, Fc1, Fc2, rfl, rfl, h7, h8⟩ := h6
 obtain ⟨rfl, rfl⟩ := h7
 have h8' := h8
 obtain ⟨T, tn, tc, rfl, h9⟩ := h8'
 refine ⟨T, tn, tc, rfl, ?_, ?_⟩
 ·simp only [List.nil_append, List.append_nil] at h1 ⊢; exact h1
 ·simp only [List.nil_append, List.append_nil] at h8 ⊢; exact h8
section
variable {w : World} {lo mid on oc : Nat} {O : Option Addr} {L : List Fi} {vs : List Value} {G : Nat → List Nat}
theorem OwnG.find (h : OwnG w lo mid 137 sFind O on oc (L.map fdat) vs G) {i : Nat} {f : Fi} (hf : L[i]? = some f) : ∃ (g : Nat) (T : Option Addr) (tn tc : Nat), O = some ⟨g, 0, none⟩ ∧ on = L.length ∧ lo ≤ g ∧ g < mid ∧ cellsOf 5 vs i = [.int .i64 f.1.1, .int .i64 f.1.2.1, .slice T tn tc, .int .i64 (f.2.1 : Int), .int .i64 (f.2.2 : Int)] ∧
  (w.cell? ⟨g, i * 5, none⟩ = some (.int .i64 f.1.1) ∧ w.cell? ⟨g, i * 5 + 1, none⟩ = some (.int .i64 f.1.2.1) ∧ w.cell? ⟨g, i * 5 + 2, none⟩ = some (.slice T tn tc) ∧ w.cell? ⟨g, i * 5 + 3, none⟩ = some (.int .i64 (f.2.1 : Int)) ∧ w.cell? ⟨g, i * 5 + 4, none⟩ = some (.int .i64 (f.2.2 : Int))) ∧
  Ow w sStep [.int .i64 f.1.1, .int .i64 f.1.2.1, .slice T tn tc] f.1 (G i) ∧ Ow w sI [.slice T tn tc] (termF f) (G i) := by
 obtain ⟨h1, h2, h3, h4, h5, h6⟩ := h
 have hiL : i < L.length := (List.getElem?_eq_some_iff.1 hf).1
 have hon : L.length = on := by simpa using h1
 have hi : i < on := by omega
 have hd : (L.map fdat).getD i (dft sFind) = fdat f := by simp [List.getD, hf]
 have h7 := (h6 i hi).1
 rw [hd] at h7
 obtain ⟨T, tn, tc, e, o1, o2⟩ := ow_find h7
 rcases h3.2 with ⟨-, q⟩ | ⟨g, cap, cur, e1, hg, hr, hn, hm, hs, ht⟩
 ·omega
 ·injection e1 with e1
  subst e1
  have hcell : ∀ q, q < 5 → w.cell? ⟨g, i * 5 + q, none⟩ = (cellsOf 5 vs i)[q]? := fun q hq => by
   have hb : i * 5 + q < on * 5 := by omega
   rw [Row.cell (t := 137) (cs := cur) hr, ← Array.getElem?_toList]
   unfold cellsOf
   rw [List.getElem?_take, if_pos hq, List.getElem?_drop, ← ht, List.getElem?_take, if_pos (show i * 5 + q < on * nc sFind from hb)]
  have e' : cellsOf 5 vs i = [.int .i64 f.1.1, .int .i64 f.1.2.1, .slice T tn tc, .int .i64 (f.2.1 : Int), .int .i64 (f.2.2 : Int)] := e
  rw [e'] at hcell
  exact ⟨g, T, tn, tc, rfl, hon.symm, hg, h2 g rfl, e', ⟨hcell 0 (by omega), hcell 1 (by omega), hcell 2 (by omega), hcell 3 (by omega), hcell 4 (by omega)⟩, o1, o2⟩
end
section
variable {w : World} {lo hi mid n c N C : Nat} {e e' : TypeId} {s s' : Sh} {A B : Option Addr} {D : List (Dat s)} {D' : List (Dat s')} {vs us : List Value} {G : Nat → List Nat}
theorem OwnG.ow (h : OwnG w lo hi e s A n c D vs G) : ∃ F, Ow w (.row e s) [.slice A n c] D F ∧ F.Nodup ∧ ∀ q ∈ F, blk A = some q ∨ ∃ j, j < n ∧ q ∈ G j := by
 obtain ⟨h1, h2, h3, h4, h5, h6⟩ := h
 have hl : vs.length = n * nc s := h3.1
 rcases h3.2 with ⟨e1, e2⟩ | ⟨g, cap, cur, e1, hg, hrow, hn, hm, hs, ht⟩
 ·injection e1 with a1 a2 a3
  subst a1 a2 a3
  exact ⟨[], ⟨none, 0, 0, rfl, h1, .inl ⟨rfl, rfl, rfl, rfl⟩⟩, by simp, fun k hk => by cases hk⟩
 ·injection e1 with a1 a2 a3
  subst a1 a3
  refine ⟨g :: (List.range n).flatMap G, ⟨_, n, c, rfl, h1, .inr ⟨g, cur, cellsOf (nc s) vs, G, rfl, hrow, hn, by unfold maxLen at hm; omega, hs, rfl, fun j hj => ?_⟩⟩, List.nodup_cons.2 ⟨fun hb => ?_, h5⟩, fun k hk => ?_⟩
  ·have hjn : j * nc s + nc s ≤ n * nc s := by
    have := Nat.mul_le_mul_right (nc s) (show j + 1 ≤ n by omega)
    rw [Nat.add_mul] at this
    omega
   refine ⟨(h6 j hj).1.len, fun i hi => ?_, (h6 j hj).1⟩
   have h7 : cur.toList[j * nc s + i]? = vs[j * nc s + i]? := by rw [← ht, List.getElem?_take, if_pos (by omega)]
   rw [← Array.getElem?_toList, h7]
   unfold cellsOf
   rw [List.getElem?_take, if_pos hi, List.getElem?_drop]
  ·obtain ⟨j, hj, hb⟩ := List.mem_flatMap.1 hb
   exact ((h6 j (List.mem_range.1 hj)).2 g hb).2.2 rfl
  ·rcases List.mem_cons.1 hk with hk | hk
   ·rw [hk]; exact .inl rfl
   ·obtain ⟨j, hj, hb⟩ := List.mem_flatMap.1 hk
    exact .inr ⟨j, List.mem_range.1 hj, hb⟩
end
theorem cells_one {us : List Value} {j : Nat} {u : Value} (h : us[j]? = some u) : cellsOf 1 us j = [u] := by
 unfold cellsOf
 rw [Nat.mul_one]
 refine List.ext_getElem? fun i => ?_
 rw [List.getElem?_take]
 cases i with
 | zero => rw [if_pos (by omega), List.getElem?_drop, Nat.add_zero, h]; rfl
 | succ i => rw [if_neg (by omega)]; rfl
end pickOwn
end
section
namespace rootSpec
open Go.RowKit base ints sig sym varsOf marks app appAt segs kinds shape kindsR kindsP drawX ruleMath ruleSpec peakMath pkAns pkAll pksMath pksAns ownL pickOwn
set_option maxRecDepth 100000
def atRoot (p : Pk) : Bool := decide (p.2.2.2.1 = 0)
def posP (D : List Pk) (j : Nat) : List Nat := (List.range j).filter fun k => atRoot (D.getD k (dft sPeak))
def rootA (D : List Pk) : List Pk := D.filter atRoot
section
variable {D : List Pk} {j : Nat}
theorem posP_mem {k : Nat} (h : k ∈ posP D j) : k < j := List.mem_range.1 (List.mem_filter.1 h).1
theorem posP_nodup : (posP D j).Nodup := List.Nodup.sublist List.filter_sublist List.nodup_range
theorem root_posP : rootA D = (posP D D.length).map fun k => D.getD k (dft sPeak) := by
 unfold posP rootA
 have e : D = (List.range D.length).map fun k => D.getD k (dft sPeak) := by
  refine List.ext_getElem (by simp) fun i h1 h2 => ?_
  simp [List.getD, h1]
 conv => lhs; rw [e]
 rw [List.filter_map]
 rfl
end
section
variable {w : World} {lo mid on oc : Nat} {O : Option Addr} {D : List Pk} {vs : List Value} {G : Nat → List Nat}
theorem OwnG.peak (h : OwnG w lo mid 38 sPeak O on oc D vs G) {i : Nat} (hi : i < on) : ∃ (g : Nat) (v0 v1 v2 : Value), O = some ⟨g, 0, none⟩ ∧ lo ≤ g ∧ g < mid ∧ cellsOf 6 vs i = [v0, v1, v2, .int .i64 (D.getD i (dft sPeak)).2.2.2.1, .int .i64 (D.getD i (dft sPeak)).2.2.2.2.1, .int .i64 (D.getD i (dft sPeak)).2.2.2.2.2] ∧
  (w.cell? ⟨g, i * 6, none⟩ = some v0 ∧ w.cell? ⟨g, i * 6 + 1, none⟩ = some v1 ∧ w.cell? ⟨g, i * 6 + 2, none⟩ = some v2 ∧ w.cell? ⟨g, i * 6 + 3, none⟩ = some (.int .i64 (D.getD i (dft sPeak)).2.2.2.1) ∧ w.cell? ⟨g, i * 6 + 4, none⟩ = some (.int .i64 (D.getD i (dft sPeak)).2.2.2.2.1) ∧ w.cell? ⟨g, i * 6 + 5, none⟩ = some (.int .i64 (D.getD i (dft sPeak)).2.2.2.2.2)) ∧
  Ow w sPeak (cellsOf 6 vs i) (D.getD i (dft sPeak)) (G i) := by
 obtain ⟨h1, h2, h3, h4, h5, h6⟩ := h
 have h7 := (h6 i hi).1
 obtain ⟨v0, v1, v2, e⟩ := cells_Peak h7.rd
 rcases h3.2 with ⟨-, q⟩ | ⟨g, cap, cur, e1, hg, hr, hn, hm, hs, ht⟩
 ·omega
 ·injection e1 with e1
  subst e1
  have hcell : ∀ q, q < 6 → w.cell? ⟨g, i * 6 + q, none⟩ = (cellsOf 6 vs i)[q]? := fun q hq => by
   have hb : i * 6 + q < on * 6 := by omega
   rw [Row.cell (t := 38) (cs := cur) hr, ← Array.getElem?_toList]
   unfold cellsOf
   rw [List.getElem?_take, if_pos hq, List.getElem?_drop, ← ht, List.getElem?_take, if_pos (show i * 6 + q < on * nc sPeak from hb)]
  have e' : cellsOf 6 vs i = [v0, v1, v2, .int .i64 (D.getD i (dft sPeak)).2.2.2.1, .int .i64 (D.getD i (dft sPeak)).2.2.2.2.1, .int .i64 (D.getD i (dft sPeak)).2.2.2.2.2] := e
  rw [e'] at hcell
  exact ⟨g, v0, v1, v2, rfl, hg, h2 g rfl, e', ⟨hcell 0 (by omega), hcell 1 (by omega), hcell 2 (by omega), hcell 3 (by omega), hcell 4 (by omega), hcell 5 (by omega)⟩, h7⟩
theorem cells_flat {vs : List Value} (hv : ∀ k, k ∈ ([] : List Nat) → True) : ∀ (Q : List Nat), (∀ k ∈ Q, (cellsOf 6 vs k).length = 6) → ∀ j, j < Q.length → cellsOf 6 (Q.flatMap fun k => cellsOf 6 vs k) j = cellsOf 6 vs (Q.getD j 0)
 | [], _, j, hj => absurd hj (Nat.not_lt_zero _)
 | q :: r, h, 0, _ => by
  have h0 := h q (List.mem_cons_self ..)
  show List.take 6 (List.drop (0 * 6) _) = _
  rw [Nat.zero_mul, List.drop_zero, List.flatMap_cons, List.take_append_of_le_length (by omega), List.take_of_length_le (by omega)]
  rfl
 | q :: r, h, j + 1, hj => by
  have h0 := h q (List.mem_cons_self ..)
  have ih := cells_flat hv r (fun k hk => h k (List.mem_cons_of_mem _ hk)) j (by simpa using hj)
  have e : (q :: r).getD (j + 1) 0 = r.getD j 0 := by simp [List.getD]
  rw [e, ← ih]
  show List.take 6 (List.drop ((j + 1) * 6) _) = List.take 6 (List.drop (j * 6) _)
  rw [List.flatMap_cons, show (j + 1) * 6 = (cellsOf 6 vs q).length + j * 6 by omega, ← List.drop_drop, List.drop_left']
  rfl
end
def AnsRt (w : World) (L : List Pk) (e : Ending) (w' : World) : Prop := ∃ A n c, e = .returned (.slice A n c) ∧ OwnL w' w.heap.size w'.heap.size 38 sPeak A n c L ∧ Below w.heap.size w w'
structure Rt (w : World) (B mid : Nat) (A : Option Addr) (n c : Nat) (D : List Pk) (vs : List Value) (G : Nat → List Nat) (j : Nat) (O : Option Addr) (on oc : Nat) (wr : World) : Prop where
 d : OwnG wr B mid 38 sPeak A n c D vs G
 o : wr.ownsRow w.heap.size 38 6 (.slice O on oc) on ((posP D j).flatMap fun k => cellsOf 6 vs k)
 len : (posP D j).length = on
 nz : O ≠ none
 far : ∀ g, blk O = some g → g < B ∨ mid ≤ g
 b : Below w.heap.size w wr
 sz : mid ≤ wr.heap.size
section
variable {w : World} {B mid : Nat} {A : Option Addr} {n c : Nat} {D : List Pk} {vs : List Value} {G : Nat → List Nat} {j : Nat} {O : Option Addr} {on oc : Nat} {wr : World}
theorem Rt.done (h : Rt w B mid A n c D vs G n O on oc wr) (hB : w.heap.size ≤ B) : AnsRt w (rootA D) (.returned (.slice O on oc)) wr := by
 have hd := h.d
 obtain ⟨h1, h2, h3, h4, h5, h6⟩ := hd
 have hQ : ∀ k, k < on → (posP D n).getD k 0 < n := fun k hk => by
  have hk2 : k < (posP D n).length := by rw [h.len]; exact hk
  have e : (posP D n).getD k 0 = (posP D n)[k] := by simp [List.getD, hk2]
  rw [e]
  exact posP_mem (List.getElem_mem hk2)
 have hinj : ∀ a b, a < on → b < on → (posP D n).getD a 0 = (posP D n).getD b 0 → a = b := fun a b ha hb e => by
  have ha2 : a < (posP D n).length := by rw [h.len]; exact ha
  have hb2 : b < (posP D n).length := by rw [h.len]; exact hb
  have e1 : (posP D n).getD a 0 = (posP D n)[a] := by simp [List.getD, ha2]
  have e2 : (posP D n).getD b 0 = (posP D n)[b] := by simp [List.getD, hb2]
  rw [e1, e2] at e
  have hp := List.pairwise_iff_getElem.1 (posP_nodup (D := D) (j := n))
  rcases Nat.lt_trichotomy a b with h3 | h3 | h3
  ·exact absurd e (hp _ _ ha2 hb2 h3)
  ·exact h3
  ·exact absurd e.symm (hp _ _ hb2 ha2 h3)
 have hc6 : ∀ k ∈ posP D n, (cellsOf 6 vs k).length = 6 := fun k hk => by
  have := (h6 k (posP_mem hk)).1.len
  exact this
 have hlt := World.ownsRow.lt h.o
 refine ⟨O, on, oc, rfl, ⟨?_, fun k hk => (hlt k (by rw [blk_own]; exact hk)).2, _, fun k => G ((posP D n).getD k 0), h.o, fun e => absurd e h.nz, flat_inj h5 hQ hinj, fun k hk => ⟨?_, fun q hq => ?_⟩⟩, h.b⟩
 ·rw [root_posP, h1, List.length_map, h.len]
 ·have hk2 : k < (posP D n).length := by rw [h.len]; exact hk
  have e3 : (rootA D).getD k (dft sPeak) = D.getD ((posP D n).getD k 0) (dft sPeak) := by
   rw [root_posP, h1]
   simp [List.getD, hk2]
  rw [e3]
  show Ow wr sPeak (cellsOf 6 _ k) _ _
  rw [cells_flat (fun _ _ => trivial) (posP D n) hc6 k hk2]
  exact (h6 _ (hQ k hk)).1
 ·have h9 := (h6 _ (hQ k hk)).2 q hq
  refine ⟨Nat.le_trans hB h9.1, Nat.lt_of_lt_of_le h9.2.1 h.sz, fun e => ?_⟩
  rcases h.far q e.symm with h8 | h8
  ·omega
  ·omega
end
end rootSpec
end
section
namespace delFunc
open Go.RowKit base ints sig marks app appAt sym segs segsHelp inside shape kindsR ownL drawX findW findSpec pickOwn
set_option maxRecDepth 100000
def posn (f : List Int → Bool) (D : List (List Int)) (j : Nat) : List Nat := (List.range j).filter fun k => !f (D.getD k [])
section
variable {f : List Int → Bool} {D : List (List Int)} {j : Nat}
theorem posn_mem {k : Nat} (h : k ∈ posn f D j) : k < j := List.mem_range.1 (List.mem_filter.1 h).1
theorem posn_nodup : (posn f D j).Nodup := List.Nodup.sublist List.filter_sublist List.nodup_range
theorem filter_posn : D.filter (fun x => !f x) = (posn f D D.length).map fun k => D.getD k [] := by
 unfold posn
 have e : D = (List.range D.length).map fun k => D.getD k [] := by
  refine List.ext_getElem (by simp) fun i h1 h2 => ?_
  simp [List.getD, h1]
 conv => lhs; rw [e]
 rw [List.filter_map]
 rfl
end
structure Dl (w : World) (g0 n c : Nat) (vs : List Value) (Q : List Nat) (i j : Nat) (W : World) : Prop where
 gr : w.grownBy W (some g0)
 len : Q.length = i
 lt : i < j
 row : ∃ cur, Row W g0 22 cur ∧ cur.size = c ∧ (∀ k, j ≤ k → k < n → cur[k]? = vs[k]?) ∧ ∀ k, k < i → cur[k]? = vs[Q.getD k 0]?
theorem Dl.next {w W W' : World} {g0 n c i j : Nat} {vs : List Value} {Q : List Nat} (h : Dl w g0 n c vs Q i j W) (hb : Below W.heap.size W W') : Dl w g0 n c vs Q i j W' := by
 obtain ⟨cur, h1, h2⟩ := h.row
 exact ⟨⟨hb.os.trans h.gr.os, hb.tape.trans h.gr.tape, hb.output.trans h.gr.output, Nat.le_trans h.gr.size hb.size, fun k hk hne => (hb.block k (Nat.lt_of_lt_of_le hk h.gr.size)).trans (h.gr.block k hk hne)⟩, h.len, h.lt, cur, h1.next hb, h2⟩
theorem Dl.skip {w W : World} {g0 n c i j : Nat} {vs : List Value} {Q : List Nat} (h : Dl w g0 n c vs Q i j W) : Dl w g0 n c vs Q i (j + 1) W := by
 obtain ⟨cur, h1, h2, h3, h4⟩ := h.row
 exact ⟨h.gr, h.len, by have := h.lt; omega, cur, h1, h2, fun k hk => h3 k (by omega), h4⟩
theorem Dl.keep {w W : World} {g0 n c i j : Nat} {vs : List Value} {Q : List Nat} {u : Value} (h : Dl w g0 n c vs Q i j W) (hu : vs[j]? = some u) (hj : j < n) (hc : n ≤ c) : Dl w g0 n c vs (Q ++ [j]) (i + 1) (j + 1) (W.setCell ⟨g0, i, none⟩ u) := by
 obtain ⟨cur, h1, h2, h3, h4⟩ := h.row
 have hlt := h.lt
 have gs := grown_set W g0 i u
 refine ⟨⟨gs.os.trans h.gr.os, gs.tape.trans h.gr.tape, gs.output.trans h.gr.output, Nat.le_trans h.gr.size gs.size, fun k hk hne => (gs.block k (Nat.lt_of_lt_of_le hk h.gr.size) hne).trans (h.gr.block k hk hne)⟩, by simp [h.len], by omega, _, h1.put i u, by simpa using h2, fun k hk hkn => ?_, fun k hk => ?_⟩
 ·rw [Array.getElem?_setIfInBounds, if_neg (by omega)]
  exact h3 k (by omega) hkn
 ·by_cases e : k = i
  ·subst e
   rw [Array.getElem?_setIfInBounds, if_pos rfl, if_pos (by omega)]
   have e2 : (Q ++ [j]).getD k 0 = j := by simp [List.getD, ← h.len]
   rw [e2, hu]
  ·rw [Array.getElem?_setIfInBounds, if_neg (by omega), h4 k (by omega)]
   have e2 : (Q ++ [j]).getD k 0 = Q.getD k 0 := by simp [List.getD, List.getElem?_append_left (show k < Q.length by rw [h.len]; omega)]
   rw [e2]
theorem set_run {g : Nat} {t : TypeId} : ∀ (vs : List Value) (o : Nat) (W : World) (cur : Array Value), Row W g t cur → ∃ cur', Row (W.setCells g o vs) g t cur' ∧ cur'.size = cur.size ∧ (∀ k, k < o → cur'[k]? = cur[k]?) ∧ W.grownBy (W.setCells g o vs) (some g) ∧ (W.setCells g o vs).heap.size = W.heap.size
 | [], o, W, cur, h => ⟨cur, h, rfl, fun _ _ => rfl, ⟨rfl, rfl, rfl, Nat.le_refl _, fun _ _ _ => rfl⟩, rfl⟩
 | v :: r, o, W, cur, h => by
  obtain ⟨cur', h1, h2, h3, h4, h5⟩ := set_run r (o + 1) (W.setCell ⟨g, o, none⟩ v) _ (h.put o v)
  have gs := grown_set W g o v
  refine ⟨cur', h1, by simpa using h2, fun k hk => ?_, ⟨h4.os.trans gs.os, h4.tape.trans gs.tape, h4.output.trans gs.output, Nat.le_trans gs.size h4.size, fun k hk hne => (h4.block k (Nat.lt_of_lt_of_le hk gs.size) hne).trans (gs.block k hk hne)⟩, h5.trans (by simp)⟩
  rw [h3 k (by omega), Array.getElem?_setIfInBounds, if_neg (by omega)]
theorem Dl.done {w W : World} {g0 n c i lo hi : Nat} {vs : List Value} {D : List (List Int)} {f : List Int → Bool} {G : Nat → List Nat} (h : Dl w g0 n c vs (posn f D n) i n W) (o : OwnG w lo hi 22 sI (some ⟨g0, 0, none⟩) n c D vs G) (hc : n ≤ c) (hcm : c ≤ maxLen) (hlo : lo ≤ w.heap.size) :
  OwnL (W.setCells g0 i (List.replicate (n - i) (.slice none 0 0))) lo (W.setCells g0 i (List.replicate (n - i) (.slice none 0 0))).heap.size 22 sI (some ⟨g0, 0, none⟩) i c (D.filter fun x => !f x) ∧ Below lo w (W.setCells g0 i (List.replicate (n - i) (.slice none 0 0))) := by
 obtain ⟨cur, h1, h2, -, h4⟩ := h.row
 obtain ⟨o1, o2, o3, o4, o5, o6⟩ := o
 have hg0 : lo ≤ g0 ∧ g0 < w.heap.size := World.ownsRow.lt o3 g0 rfl
 have hlt := h.lt
 obtain ⟨cur', r1, r2, r3, r4, r5⟩ := set_run (List.replicate (n - i) (Value.slice none 0 0)) i W cur h1
 generalize W.setCells g0 i (List.replicate (n - i) (.slice none 0 0)) = V at r1 r4 r5 ⊢
 have hgr : w.grownBy V (some g0) := ⟨r4.os.trans h.gr.os, r4.tape.trans h.gr.tape, r4.output.trans h.gr.output, Nat.le_trans h.gr.size r4.size, fun k hk hne => (r4.block k (Nat.lt_of_lt_of_le hk h.gr.size) hne).trans (h.gr.block k hk hne)⟩
 have hlen : (D.filter fun x => !f x).length = i := by rw [filter_posn, List.length_map, o1, h.len]
 have hQ : ∀ k, k < i → (posn f D n).getD k 0 < n := fun k hk => by
  have hk2 : k < (posn f D n).length := by rw [h.len]; exact hk
  have e : (posn f D n).getD k 0 = (posn f D n)[k] := by simp [List.getD, hk2]
  rw [e]
  exact posn_mem (List.getElem_mem hk2)
 have hinj : ∀ a b, a < i → b < i → (posn f D n).getD a 0 = (posn f D n).getD b 0 → a = b := fun a b ha hb e => by
  have ha2 : a < (posn f D n).length := by rw [h.len]; exact ha
  have hb2 : b < (posn f D n).length := by rw [h.len]; exact hb
  have e1 : (posn f D n).getD a 0 = (posn f D n)[a] := by simp [List.getD, ha2]
  have e2 : (posn f D n).getD b 0 = (posn f D n)[b] := by simp [List.getD, hb2]
  rw [e1, e2] at e
  have hp := List.pairwise_iff_getElem.1 (posn_nodup (f := f) (D := D) (j := n))
  rcases Nat.lt_trichotomy a b with h3 | h3 | h3
  ·exact absurd e (hp _ _ ha2 hb2 h3)
  ·exact h3
  ·exact absurd e.symm (hp _ _ hb2 ha2 h3)
 refine ⟨⟨hlen, fun k hk => ?_, cur'.toList.take (i * 1), fun k => G ((posn f D n).getD k 0), ⟨by simp [nc]; omega, .inr ⟨g0, c, cur', rfl, hg0.1, r1, by omega, hcm, by show cur'.size = c * 1; omega, rfl⟩⟩, (fun e => by cases e), flat_inj o5 hQ hinj, fun k hk => ⟨?_, fun q hq => ?_⟩⟩, (Below.refl lo w).grown hgr hlo (fun k hk => by injection hk with hk; rw [← hk]; exact hg0.1)⟩
 ·injection hk with hk
  rw [← hk]
  exact Nat.lt_of_lt_of_le hg0.2 hgr.size
 ·have hq := hQ k hk
  have hvl : vs.length = n := by have := o3.1; simpa [nc] using this
  have hv : vs[(posn f D n).getD k 0]? = some (vs[(posn f D n).getD k 0]'(by omega)) := List.getElem?_eq_getElem _
  have e1 : (cur'.toList.take (i * 1))[k]? = some (vs[(posn f D n).getD k 0]'(by omega)) := by
   rw [List.getElem?_take, if_pos (by omega), Array.getElem?_toList, r3 k hk, h4 k hk, hv]
  have e2 := (o6 _ hq).1
  have e3 : (D.filter fun x => !f x).getD k [] = D.getD ((posn f D n).getD k 0) [] := by
   have hk2 : k < (posn f D n).length := by rw [h.len]; exact hk
   rw [filter_posn, o1]
   simp [List.getD, hk2]
  show Ow V sI (cellsOf 1 _ k) ((D.filter fun x => !f x).getD k []) _
  rw [cells_one e1, e3]
  have e4 : cellsOf (nc sI) vs ((posn f D n).getD k 0) = [vs[(posn f D n).getD k 0]'(by omega)] := cells_one hv
  rw [e4] at e2
  exact e2.keep fun q hq' => hgr.block q (e2.lt q hq') ((o6 _ hq).2 q hq').2.2
 ·have h9 := o6 _ (hQ k hk)
  exact ⟨(h9.2 q hq).1, Nat.lt_of_lt_of_le (h9.1.lt q hq) hgr.size, (h9.2 q hq).2.2⟩
end delFunc
end
end Go.Proofs.YtlmofkeemlfpgaaGreat
