/-
  MERGED: my texts StepImplC, Known, ReachAdd, FindAt, PickOwn, DelFunc, ReachSpec, KindsT, NormsSpec, ShelfC, SortedC, WalkImpl, Big, one behind the other, as they are. By an AI agent.
-/
import Derived.Test.YtifckjchmjmhoabGreatMFnLongest8
import Derived.Laws.BytesArg
import Derived.StringKeys
import Derived.Maps.Own
import Derived.Maps.OwnOps
import Derived.Maps.OwnSet
import Derived.Maps.Views
import Derived.Deep.LoopGhost
import Derived.Shelf.Abstract
import Derived.Lib.SliceRun
import Derived.Deep.RegionHeld3
import Derived.Shelf.SlGeneric
import Derived.Ground.SlgnProg
import Derived.Shelf.SlicesG.CompactI
import Derived.Shelf.SlicesG.Reverse
import Derived.Test.YtifckjchmjmhoabGreatProg
namespace Go.Proofs.YtifckjchmjmhoabGreat
section
namespace stepImpl
open Go.RowKit base ints sig term termOk endAt inside marks app sym sub segs segsHelp kinds termFacts matchMath whole takeMath take extended varsOf shape kindsR ruleMath ruleSpec ruleImpl stepMath walkMath stepSpec
set_option maxRecDepth 100000
theorem right_of {sg : List Int} {rs : List Rl} {t : List Int} (h : sysOkB sg rs = true) : rightB sg rs t = termOkB sg t := by unfold rightB; rw [h]; rfl
theorem there_eq {sg : List Int} {rs : List Rl} {t : List Int} {a r : Int} (h : sysOkB sg rs = true) : thereR sg rs t a r = (thereB sg t a && walkMath.inB r rs.length) := by
 unfold thereR thereB walkMath.inB endAt.inB
 rw [right_of h, Bool.and_assoc]
set_option maxHeartbeats 4000000 in
theorem hasRedex (a v u : Value) (d : Dat sSystem) (t : List Int) (x r : Int) (w : World) (h : Rd w w.heap.size sSystem [a, v] d) (ht : Rd w w.heap.size sI [u] t) (hz : sz sSystem d ≤ 1048576) (hz' : sz sI t ≤ 1048576) (oks : sysOkB d.1 d.2 = true) :
   Calls Tryz.prog 96 #[.agg #[a, v], u, .int .i64 x, .int .i64 r] w (AnsB w (redexB d.1 d.2 t x r)) := by
 have h0 := h
 have ht0 := ht
 obtain ⟨T, m, c, rfl, hT, hcT⟩ := rd_ints.1 ht
 have hm := len_ints hT.1 hz'
 obtain ⟨A, n, cs, V, q, cv, rfl, rfl, hs, hc, hcv, hq, hn, hq1, hrs, hsg, hE⟩ := rd_sys h hz
 obtain ⟨W, hW, rA, bel⟩ := box1 w 60 #[.slice A n cs, .slice V q cv]
 have HW := Lib.hid hW
 have LP := Lib.hid (placeIn A T n cs m c d.1 t x W (hs.next bel) (hT.next bel) hn hm)
 have HQ := Lib.hid hq
 have LMA := Lib.hid (fun (w1 : World) (bb : Below w.heap.size w w1) (x k : Nat) hok hx hk => matchAt _ _ _ d t x k w1 (h0.next bb) (ht0.next bb) hz hok hx hk)
 have OKS := Lib.hid oks
 clear hW h h0 ht ht0 hz hz' hs hc hcv hq hrs hsg hE hT hcT oks
 obtain ⟨bp, hbp⟩ : ∃ bp, thereB d.1 t x = bp := ⟨_, rfl⟩
 have HP := Lib.hid hbp
 have HTH := Lib.hid (show thereR d.1 d.2 t x r = (bp && walkMath.inB r d.2.length) by rw [there_eq OKS.out, hbp])
 rw [hbp] at LP
 clear hbp
 cases bp with
 | false =>
   go_enter Tryz.func96, Tryz.ntmps96
   go_wp2_with fail
   rw [← HW.out]
   refine LP.out.mono ?_
   rintro e w1 ⟨rfl, bb⟩
   have F := Lib.hid (ansB (b := redexB d.1 d.2 t x r) (a := false) (by rw [redex_no (by rw [HTH.out]; rfl)]) (next_trans bel bb))
   clear bb bel rA LMA
   go_wp2
   go_ret
   exact F.out
 | true =>
   by_cases hr0 : r < 0
   · go_enter Tryz.func96, Tryz.ntmps96
     go_wp2_with fail
     rw [← HW.out]
     refine LP.out.mono ?_
     rintro e w1 ⟨rfl, bb⟩
     have F := Lib.hid (ansB (b := redexB d.1 d.2 t x r) (a := false) (by rw [redex_no (by rw [HTH.out]; unfold walkMath.inB; rw [decide_eq_false (by omega)]; rfl)]) (next_trans bel bb))
     clear bb bel rA LMA
     go_wp2
     go_ret
     exact F.out
   · obtain ⟨k, rfl⟩ := Int.eq_ofNat_of_zero_le (Int.not_lt.1 hr0)
     by_cases hkq : k < q
     · have hx := endAt.there_parts HP.out
       obtain ⟨i, rfl⟩ := Int.eq_ofNat_of_zero_le hx.2.1
       have hix : i < t.length := by omega
       have okR : rightB d.1 d.2 t = true := by rw [right_of OKS.out]; exact hx.1
       have hkl : k < d.2.length := by rw [HQ.out]; exact hkq
       have HRE := Lib.hid (show redexB d.1 d.2 t (i : Int) (k : Int) = (mst d.1 t (d.2.getD k ([], [])).1 i s0).isSome by
         rw [redex_yes (by rw [HTH.out]; unfold walkMath.inB; rw [decide_eq_true (by omega)]; rfl), red_at (sys_rule OKS.out hkl) hx.1 hix]
         unfold rl
         rw [Int.toNat_natCast, Int.toNat_natCast])
       have LM := Lib.hid (fun w1 bb => LMA.out w1 bb i k okR hix hkl)
       clear hx okR LMA HTH
       obtain ⟨R, hR⟩ : ∃ R, mst d.1 t (d.2.getD k ([], [])).1 i s0 = R := ⟨_, rfl⟩
       rw [hR] at LM HRE
       clear hR
       go_enter Tryz.func96, Tryz.ntmps96
       go_wp2_with fail
       rw [← HW.out]
       refine LP.out.mono ?_
       rintro e w1 ⟨rfl, bb⟩
       replace rA := rA.next bb
       replace bel := next_trans bel bb
       have K0 : w1.cell? ⟨w.heap.size, 0, none⟩ = some (.slice A n cs) := rA.cell 0
       have K1 : w1.cell? ⟨w.heap.size, 1, none⟩ = some (.slice V q cv) := rA.cell 1
       have hge : ¬ (q : Int) ≤ (k : Int) := by omega
       have LM1 := Lib.hid (LM.out w1 bel)
       clear bb LP LM rA
       go_wp2_with fail
       refine LM1.out.mono ?_
       rintro e w3 ⟨rs, rfl, tab, hsz, bb⟩
       have one := Lib.hid tab.one
       have h24 := Lib.hid tab.1
       obtain ⟨bo, hbo⟩ : ∃ bo, R.isSome = bo := ⟨_, rfl⟩
       rw [hbo]
       have F := Lib.hid (show AnsB w (redexB d.1 d.2 t (i : Int) (k : Int)) (.returned (.bool bo)) (w3.alloc (.cells rs 158)) from ⟨by rw [HRE.out, hbo], (next_trans bel bb).alloc (next_trans bel bb).size _⟩)
       clear tab hsz bb bel K0 K1 hbo LM1 HRE
       go_wp2_with (first
         | (refine rowAlloc rfl 158 rfl z24 zero_b ?_)
         | (refine rowStore rfl 158 _ _ rfl w3.heap.size rs z24 158 rfl rfl (heap_alloc_new w3 _) (by rw [h24.out]; exact size_b) (by rw [h24.out]; rfl) one.out ?_; rw [World.setRow_alloc_new]))
       go_ret
       exact F.out
     · go_enter Tryz.func96, Tryz.ntmps96
       go_wp2_with fail
       rw [← HW.out]
       refine LP.out.mono ?_
       rintro e w1 ⟨rfl, bb⟩
       replace rA := rA.next bb
       have K1 : w1.cell? ⟨w.heap.size, 1, none⟩ = some (.slice V q cv) := rA.cell 1
       have F := Lib.hid (ansB (b := redexB d.1 d.2 t x (k : Int)) (a := false) (by rw [redex_no (by rw [HTH.out, HQ.out]; unfold walkMath.inB; rw [decide_eq_false (by omega)]; rfl)]) (next_trans bel bb))
       have hge : (q : Int) ≤ (k : Int) := by omega
       clear bb bel rA LMA
       go_wp2
       go_ret
       exact F.out
end stepImpl
end
section
namespace known
open Go.RowKit Go.Maps base ints sig term termOk termFacts marks app sym segs segsHelp varsOf reachMath
set_option maxRecDepth 100000
def keyN (t : List Int) : List Int := t.map (· + 24)
def klit (t : List Int) : Lit := .string (strOfNums (keyN t)).data.toList
def Small (t : List Int) : Prop := t.length ≤ 60 ∧ ∀ x ∈ t, -24 ≤ x ∧ x < 8
theorem small_term {sg t : List Int} (h : termOkB sg t = true) : Small t := ⟨(term_len h).2, fun _ hx => term_mem h hx⟩
theorem str_data (xs : List Int) : (strOfNums xs).data.toList = xs.map fun n => UInt8.ofNat n.toNat := by simp [strOfNums]
theorem klit_inj {t u : List Int} (ht : Small t) (hu : Small u) (h : klit t = klit u) : t = u := by
 unfold klit at h
 injection h with h
 rw [str_data, str_data] at h
 unfold keyN at h
 rw [List.map_map, List.map_map] at h
 have hl : t.length = u.length := by have := congrArg List.length h; simpa using this
 refine List.ext_getElem hl fun i h1 h2 => ?_
 have h3 : (t.map ((fun n : Int => UInt8.ofNat n.toNat) ∘ (· + 24)))[i]'(by simpa using h1) = (u.map ((fun n : Int => UInt8.ofNat n.toNat) ∘ (· + 24)))[i]'(by simpa using h2) := by simp only [h]
 simp only [List.getElem_map, Function.comp_apply] at h3
 have b1 := ht.2 _ (List.getElem_mem h1)
 have b2 := hu.2 _ (List.getElem_mem h2)
 have h4 := congrArg UInt8.toNat h3
 rw [UInt8.toNat_ofNat', UInt8.toNat_ofNat'] at h4
 omega
theorem str_size (xs : List Int) : (strOfNums xs).size = xs.length := by
 show (strOfNums xs).data.size = _
 rw [← Array.length_toList, str_data, List.length_map]
theorem info_byte : (Tryz.prog.info? 5).map (fun i => (i.zero, i.size, i.bytes)) = some (some (.int .u8 0), 1, 1) := by kernel_rfl
theorem run_make_bytes (n : Nat) (hn : n ≤ 1048576) (W : World) : (Instr.makeSlice 22 (.int .i64 (n : Int)) (.int .i64 (n : Int))).run Tryz.prog W =
   .ok (.slice (some ⟨W.heap.size, 0, none⟩) n n) (W.alloc (.cells (madeCells #[.int .u8 0] n) 5)) := by
 obtain ⟨i0, hi, hz0, hz1, hz2⟩ := info_parts info_byte
 have hr := run_make (P := Tryz.prog) W 22 5 i0 _ Tryz.underlying22 hi hz0 .i64 .i64 n n (by omega) (by omega) (by rw [hz2]; omega) (by omega)
 simpa [hz1, Value.cells] using hr
theorem made_size (n : Nat) (v : Value) : (madeCells #[v] n).size = n := by simp [madeCells]
def AnsKey (w : World) (t : List Int) (e : Ending) (w' : World) : Prop := e = .returned (.string (strOfNums (keyN t))) ∧ Below w.heap.size w w'
set_option maxHeartbeats 1000000 in
theorem implKeyOf (T : Option Addr) (m c : Nat) (t : List Int) (w : World) (h : Seg w w.heap.size T m t) (ht : Small t) :
   Calls Tryz.prog 61 #[.slice T m c] w (AnsKey w t) := by
 have hm : m ≤ 60 := by rw [← h.1]; exact ht.1
 have hmk := run_make_bytes m (by omega) w
 have HT := Lib.hid h.1
 have H := Lib.hid h
 have HS := Lib.hid ht
 obtain ⟨W, hW, rW, bW⟩ : ∃ W, W = w.alloc (.cells (madeCells #[.int .u8 0] m) 5) ∧ Row W w.heap.size 5 (madeCells #[.int .u8 0] m) ∧ Below w.heap.size w W := ⟨_, rfl, Row.new _ _ _, (Below.refl _ _).alloc (Nat.le_refl _) _⟩
 rw [← hW] at hmk
 clear hW h ht
 go_enter Tryz.func61, Tryz.ntmps61
 go_wp2_with fail
 go_loopg [11] m (fun g i_ wr => ∃ (i : Nat) (cs : Array Value), i_ = .int .i64 i ∧ i + g = m ∧ Row wr w.heap.size 5 cs ∧ cs.size = m ∧ (∀ j, j < i → cs[j]? = some (.int .u8 ((keyN t).getD j 0))) ∧ Below w.heap.size w wr)
 case atStart => exact ⟨0, _, rfl, by omega, rW, made_size _ _, fun j hj => absurd hj (Nat.not_lt_zero _), bW⟩
 case round =>
   obtain ⟨i, cs, rfl, hg, rC, hcs, hin, bel⟩ := hrel
   by_cases hi : i < m
   · obtain ⟨b, off, x, rfl, hb, c0, hx⟩ := Seg.spot H.out hi
     have c0 := (bel.cell (p := ⟨b, off + i, none⟩) hb).trans c0
     have hxb : -24 ≤ x ∧ x < 8 := by
       rw [← hx.out]
       have hil : i < t.length := by rw [HT.out]; exact hi
       have := HS.out.2 t[i] (List.getElem_mem hil)
       simpa [List.getD, hil] using this
     have hk : (keyN t).getD i 0 = x + 24 := by
       rw [← hx.out]
       have hil : i < t.length := by rw [HT.out]; exact hi
       simp [keyN, List.getD, hil]
     obtain ⟨v0, hv0⟩ : ∃ v0, cs[i]? = some v0 := ⟨_, Array.getElem?_eq_getElem (by omega)⟩
     have c1 : wr.cell? ⟨w.heap.size, i, none⟩ = some v0 := by rw [rC.cell]; exact hv0
     have f1 := rC.free i
     have HG := Lib.hid hg
     have i0 : (0 : Int) ≤ (i : Int) := by omega
     have i1 : (i : Int) < (m : Int) := by omega
     have w8 : IntKind.u8.wrap (x + 24) = x + 24 := by unfold IntKind.wrap; simp [IntKind.bits, IntKind.signed]; omega
     have F := Lib.hid (show Row (wr.setCell ⟨w.heap.size, i, none⟩ (.int .u8 (x + 24))) w.heap.size 5 (cs.setIfInBounds i (.int .u8 (x + 24))) ∧ (cs.setIfInBounds i (.int .u8 (x + 24))).size = m ∧ (∀ j, j < i + 1 → (cs.setIfInBounds i (.int .u8 (x + 24)))[j]? = some (.int .u8 ((keyN t).getD j 0))) ∧ Below w.heap.size w (wr.setCell ⟨w.heap.size, i, none⟩ (.int .u8 (x + 24))) from ⟨Row.put rC i _, by simp [hcs], fun j hj => by
       by_cases e : j = i
       · subst e; rw [Array.getElem?_setIfInBounds, if_pos rfl, if_pos (by omega), hk]
       · rw [Array.getElem?_setIfInBounds, if_neg (fun e' => e e'.symm)]; exact hin j (by omega), bel.setCell (Nat.le_refl _) _⟩)
     clear hg rC hcs hin bel hv0 hk hx
     go_wp2
     go_roundg (gk - 1)
     case measure => have := HG.out; omega
     case rel => exact ⟨i + 1, _, by simp, by have := HG.out; omega, F.out.1, F.out.2.1, F.out.2.2.1, F.out.2.2.2⟩
   · obtain rfl : i = m := by omega
     have hc := run_convert_bytes_arg (P := Tryz.prog) wr 22 5 Tryz.underlying22 Tryz.underlying5 w.heap.size 0 i i (keyN t) (by rw [← HT.out]; simp [keyN]) (fun j hj => by rw [Nat.zero_add, rC.cell]; exact hin j hj) 9 Tryz.underlying9
     have F := Lib.hid (show AnsKey w t (.returned (.string (strOfNums (keyN t)))) wr from ⟨rfl, bel⟩)
     clear rC hcs hin bel
     go_wp2
     go_ret
     exact F.out
def Kn (w : World) (b n : Nat) (L : List (List Int)) : Prop := ∃ D : DataW Unit, w.ownsMap Tryz.prog 9 (plainElem Tryz.prog 3) b n D ∧ (∀ t ∈ L, Small t) ∧ (∀ t, Small t → Maps.has D (klit t) = decide (t ∈ L)) ∧ ∀ i, i < L.length → D.atKey (klit (L.getD i [])) (.lit (.int .i64 0)) = .lit (.int .i64 (i : Int))
section
variable {w w' : World} {b n : Nat} {L : List (List Int)} {t : List Int} {row : Option Nat}
theorem Kn.kept (h : Kn w b n L) (hg : w.grownBy w' row) (hne : some b ≠ row) : Kn w' b n L := by
 obtain ⟨D, h1, h2⟩ := h
 exact ⟨D, h1.kept hg hne, h2⟩
theorem Kn.lt (h : Kn w b n L) : b < w.heap.size := by
 obtain ⟨D, h1, h2⟩ := h
 exact h1.lt
theorem Kn.below (h : Kn w b n L) (hb : Below w.heap.size w w') : Kn w' b n L := h.kept (row := none) ⟨hb.os, hb.tape, hb.output, hb.size, fun k hk _ => hb.block k hk⟩ (fun e => by cases e)
theorem Kn.drew (h : Kn w b n L) : Kn w.drew b n L := h
theorem Kn.small (h : Kn w b n L) : ∀ t ∈ L, Small t := by
 obtain ⟨D, h1, h2, h3⟩ := h
 exact h2
theorem kn_made (w : World) : Kn (w.alloc (.map #[] 0)) w.heap.size 0 [] := ⟨.map [], World.ownsMap_made _ _ _ _, (fun t h => by cases h), (fun t _ => by simp [Maps.has]), fun i h => absurd h (Nat.not_lt_zero _)⟩
theorem key_lit (t : List Int) : WideAt.IsKeyLit (klit t) := by unfold klit; simp [WideAt.IsKeyLit]
theorem key_of (t : List Int) (h : Small t) : keyOf Tryz.prog 9 (.string (strOfNums (keyN t))) = some (klit t) := Go.WideMaps.keyOf_string_mk Tryz.underlying9 (by rw [str_size]; unfold keyN maxLen; have := h.1; simp; omega)
theorem kn_put {D : DataW Unit} (hD : Maps.IsMap D) (h2 : ∀ t ∈ L, Small t) (h3 : ∀ t, Small t → Maps.has D (klit t) = decide (t ∈ L)) (h4 : ∀ i, i < L.length → D.atKey (klit (L.getD i [])) (.lit (.int .i64 0)) = .lit (.int .i64 (i : Int))) (ht : Small t) (hn : t ∉ L) :
   (∀ u ∈ L ++ [t], Small u) ∧ (∀ u, Small u → Maps.has (D.put (klit t) (.lit (.int .i64 (L.length : Int)))) (klit u) = decide (u ∈ L ++ [t])) ∧ ∀ i, i < (L ++ [t]).length → (D.put (klit t) (.lit (.int .i64 (L.length : Int)))).atKey (klit ((L ++ [t]).getD i [])) (.lit (.int .i64 0)) = .lit (.int .i64 (i : Int)) := by
 refine ⟨fun u hu => ?_, fun u hu => ?_, fun i hi => ?_⟩
 · rcases List.mem_append.1 hu with hu | hu
   · exact h2 u hu
   · rw [List.mem_singleton.1 hu]; exact ht
 · by_cases e : u = t
   · subst e; rw [Maps.has_put_same hD (key_lit _)]; simp
   · rw [Maps.has_put_other (fun q => e (klit_inj hu ht q)), h3 u hu]; simp [e]
 · rw [List.length_append, List.length_singleton] at hi
   by_cases e : i = L.length
   · subst e
     rw [show (L ++ [t]).getD L.length [] = t by simp [List.getD], Maps.atKey_put_same hD (key_lit _)]
   · have hl : i < L.length := by omega
     have e2 : (L ++ [t]).getD i [] = L.getD i [] := by simp [List.getD, List.getElem?_append_left hl]
     have hm : L.getD i [] ∈ L := by simp [List.getD, hl]
     rw [e2, Maps.atKey_put_other (fun q => hn (by rw [← klit_inj (h2 _ hm) ht q]; exact hm)), h4 i hl]
theorem kn_del {D : DataW Unit} (h2 : ∀ u ∈ L ++ [t], Small u) (h3 : ∀ u, Small u → Maps.has D (klit u) = decide (u ∈ L ++ [t])) (h4 : ∀ i, i < (L ++ [t]).length → D.atKey (klit ((L ++ [t]).getD i [])) (.lit (.int .i64 0)) = .lit (.int .i64 (i : Int))) (hn : t ∉ L) :
   (∀ u ∈ L, Small u) ∧ (∀ u, Small u → Maps.has (D.del (klit t)) (klit u) = decide (u ∈ L)) ∧ ∀ i, i < L.length → (D.del (klit t)).atKey (klit (L.getD i [])) (.lit (.int .i64 0)) = .lit (.int .i64 (i : Int)) := by
 have ht : Small t := h2 t (by simp)
 refine ⟨fun u hu => h2 u (by simp [hu]), fun u hu => ?_, fun i hi => ?_⟩
 · by_cases e : u = t
   · subst e; rw [Maps.has_del_same]; simp [hn]
   · rw [Maps.has_del_other (fun q => e (klit_inj hu ht q)), h3 u hu]; simp [e]
 · have e2 : (L ++ [t]).getD i [] = L.getD i [] := by simp [List.getD, List.getElem?_append_left hi]
   have hm : L.getD i [] ∈ L := by simp [List.getD, hi]
   rw [Maps.atKey_del_other (fun q => hn (by rw [← klit_inj (h2 _ (List.mem_append_left _ hm)) ht q]; exact hm)), ← e2]
   exact h4 i (by simp; omega)
end
theorem zero_int (w : World) : (zeroValue 3).run Tryz.prog w = .ok (.int .i64 0) w := by kernel_rfl
set_option maxHeartbeats 1000000 in
theorem addNew (T : Option Addr) (m c b n : Nat) (t : List Int) (L : List (List Int)) (w : World) (hK : Kn w b n L) (h : Seg w w.heap.size T m t) (ht : Small t) (hnot : t ∉ L) (hn : n ≤ 1048576) (hl : L.length ≤ 1048576) :
   Calls Tryz.prog 86 #[.map (some b), .slice T m c, .int .i64 (L.length : Int)] w fun e w' => e = .returned (.bool true) ∧ Kn w' b (n + 1) (L ++ [t]) ∧ w.grownBy w' (some b) := by
 have LK := Lib.hid (implKeyOf T m c t w h ht)
 obtain ⟨D, hown, h2, h3, h4⟩ := hK
 have hhas : Maps.has D (klit t) = false := by rw [h3 t ht]; simp [hnot]
 have hP := Lib.hid (kn_put hown.isMap h2 h3 h4 ht hnot)
 have hkey := key_of t ht
 clear h h2 h3 h4
 go_enter Tryz.func86, Tryz.ntmps86
 go_wp2_with fail
 refine LK.out.mono ?_
 rintro e w1 ⟨rfl, bb⟩
 have hown1 := hown.kept (row := none) ⟨bb.os, bb.tape, bb.output, bb.size, fun k hk _ => bb.block k hk⟩ (fun e => by cases e)
 have BB := Lib.hid bb
 clear bb hown LK
 go_wp2_with (first
   | (at_lookup; refine wpList_lookup_own_ok_int _ rfl _ _ 65 rfl 9 3 .i64 (string_keyed Tryz.underlying9) Tryz.underlying65 Tryz.underlying3 (zero_int _) b n _ rfl hown1 _ _ rfl hkey ?_; intro c0 hat hwc; rw [hhas])
   | (at_mapUpdate; refine wpList_mapUpdate_own _ rfl _ _ _ 65 rfl 9 3 (string_keyed Tryz.underlying9) Tryz.underlying65 _ b n _ rfl hown1 (by unfold maxLen; omega) _ _ _ rfl rfl hkey _ [] (plainElem_int Tryz.underlying3 (WalkArith.wf_i64 (by omega))) ?_; intro w2 hown2 hgrow2))
 have F := Lib.hid (show Kn w2 b (n + 1) (L ++ [t]) ∧ w.grownBy w2 (some b) from ⟨⟨_, hown2, hP.out⟩, ⟨hgrow2.os.trans BB.out.os, hgrow2.tape.trans BB.out.tape, hgrow2.output.trans BB.out.output, Nat.le_trans BB.out.size hgrow2.size, fun k hk hne => (hgrow2.block k (Nat.lt_of_lt_of_le hk BB.out.size) hne).trans (BB.out.block k hk)⟩⟩)
 clear hown2 hgrow2 hown1
 go_wp2
 go_ret
 exact ⟨rfl, F.out⟩
set_option maxHeartbeats 1000000 in
theorem addOld (T : Option Addr) (m c b n : Nat) (t : List Int) (i : Int) (L : List (List Int)) (w : World) (hK : Kn w b n L) (h : Seg w w.heap.size T m t) (ht : Small t) (hin : t ∈ L) :
   Calls Tryz.prog 86 #[.map (some b), .slice T m c, .int .i64 i] w fun e w' => e = .returned (.bool false) ∧ Below w.heap.size w w' := by
 have LK := Lib.hid (implKeyOf T m c t w h ht)
 obtain ⟨D, hown, h2, h3, h4⟩ := hK
 have hhas : Maps.has D (klit t) = true := by rw [h3 t ht]; simp [hin]
 have hkey := key_of t ht
 clear h h2 h3 h4
 go_enter Tryz.func86, Tryz.ntmps86
 go_wp2_with fail
 refine LK.out.mono ?_
 rintro e w1 ⟨rfl, bb⟩
 have hown1 := hown.kept (row := none) ⟨bb.os, bb.tape, bb.output, bb.size, fun k hk _ => bb.block k hk⟩ (fun e => by cases e)
 have BB := Lib.hid bb
 clear bb hown LK
 go_wp2_with (first
   | (at_lookup; refine wpList_lookup_own_ok_int _ rfl _ _ 65 rfl 9 3 .i64 (string_keyed Tryz.underlying9) Tryz.underlying65 Tryz.underlying3 (zero_int _) b n _ rfl hown1 _ _ rfl hkey ?_; intro c0 hat hwc; rw [hhas]))
 go_ret
 exact ⟨rfl, BB.out⟩
set_option maxHeartbeats 1000000 in
theorem forget (T : Option Addr) (m c b n : Nat) (t : List Int) (L : List (List Int)) (w : World) (hK : Kn w b n (L ++ [t])) (h : Seg w w.heap.size T m t) (hnot : t ∉ L) :
   Calls Tryz.prog 87 #[.map (some b), .slice T m c] w fun e w' => (∃ v, e = .returned v) ∧ Kn w' b n L ∧ w.grownBy w' (some b) := by
 have ht := hK.small t (by simp)
 have LK := Lib.hid (implKeyOf T m c t w h ht)
 obtain ⟨D, hown, h2, h3, h4⟩ := hK
 have hP := Lib.hid (kn_del h2 h3 h4 hnot)
 have hkey := key_of t ht
 clear h h2 h3 h4
 go_enter Tryz.func87, Tryz.ntmps87
 go_wp2_with fail
 refine LK.out.mono ?_
 rintro e w1 ⟨rfl, bb⟩
 have hown1 := hown.kept (row := none) ⟨bb.os, bb.tape, bb.output, bb.size, fun k hk _ => bb.block k hk⟩ (fun e => by cases e)
 have BB := Lib.hid bb
 clear bb hown LK
 go_wp2_with (at_delete; refine wpList_delete_own _ rfl _ _ 65 9 rfl 3 (string_keyed Tryz.underlying9) Tryz.underlying65 _ b n _ rfl hown1 _ _ rfl hkey ?_; intro w2 hown2 hturn2)
 have hgrow2 := hturn2.grown
 have F := Lib.hid (show Kn w2 b n L ∧ w.grownBy w2 (some b) from ⟨⟨_, hown2, hP.out⟩, ⟨hgrow2.os.trans BB.out.os, hgrow2.tape.trans BB.out.tape, hgrow2.output.trans BB.out.output, Nat.le_trans BB.out.size hgrow2.size, fun k hk hne => (hgrow2.block k (Nat.lt_of_lt_of_le hk BB.out.size) hne).trans (BB.out.block k hk)⟩⟩)
 clear hown2 hgrow2 hturn2 hown1
 go_wp2
 first | (go_end0; exact ⟨⟨_, rfl⟩, F.out⟩) | (go_ret; exact F.out) | (go_ret; simpa using F.out)
end known
end
section
namespace reachImpl
open Go.RowKit base ints sig term termOk termFacts marks app sub varsOf appAt sym segs segsHelp kinds shape kindsR kindsW ruleMath ruleSpec stepMath stepSpec ownL drawX walkMath reachMath findW findSpec heldT known
set_option maxRecDepth 100000
abbrev sFind : Sh := .cat sStep (.cat .num .num)
def fdat (f : Fi) : Dat sFind := (f.1, ((f.2.1 : Int), (f.2.2 : Int)))
theorem info_find : (Tryz.prog.info? 72).map (fun i => (i.zero, i.size, i.bytes)) = some (some (.agg #[.int .i64 0, .int .i64 0, .slice none 0 0, .int .i64 0, .int .i64 0]), nc sFind, 56) := by kernel_rfl
structure Rf (lo mid rb mb cnt : Nat) (S : Fs) (O : Option Addr) (on oc : Nat) (W : World) : Prop where
 row : Row W rb 67 #[.slice O on oc, .map (some mb), .bool S.2]
 ow : OwnL W lo mid 72 sFind O on oc (S.1.map fdat)
 kn : Kn W mb cnt (termsF S.1)
structure Tcr (rb mb : Nat) (O : Option Addr) (X Y : World) : Prop where
 os : Y.os = X.os
 tape : Y.tape = X.tape
 output : Y.output = X.output
 size : X.heap.size ≤ Y.heap.size
 block : ∀ k, k < X.heap.size → k ≠ rb → k ≠ mb → some k ≠ blk O → Y.heap[k]? = X.heap[k]?
section
variable {rb mb : Nat} {O : Option Addr} {X Y Z : World}
theorem Tcr.trans (h : Tcr rb mb O X Y) (k : Tcr rb mb O Y Z) : Tcr rb mb O X Z := ⟨k.os.trans h.os, k.tape.trans h.tape, k.output.trans h.output, Nat.le_trans h.size k.size, fun i h1 h2 h3 h4 => (k.block i (Nat.lt_of_lt_of_le h1 h.size) h2 h3 h4).trans (h.block i h1 h2 h3 h4)⟩
theorem Tcr.of_below (h : Below X.heap.size X Y) : Tcr rb mb O X Y := ⟨h.os, h.tape, h.output, h.size, fun k hk _ _ _ => h.block k hk⟩
theorem Tcr.of_grown {r : Option Nat} (h : X.grownBy Y r) (hr : ∀ k, r = some k → k = rb ∨ k = mb ∨ some k = blk O) : Tcr rb mb O X Y := ⟨h.os, h.tape, h.output, h.size, fun k hk h1 h2 h3 => h.block k hk (fun e => by rcases hr k e.symm with q | q | q; exact h1 q; exact h2 q; exact h3 q)⟩
theorem Tcr.row {g : Nat} {t : TypeId} {cs : Array Value} (h : Tcr rb mb O X Y) (r : Row X g t cs) (h1 : g ≠ rb) (h2 : g ≠ mb) (h3 : some g ≠ blk O) : Row Y g t cs := (h.block g r.lt h1 h2 h3).trans r
end
def AnsAdd (lo rb mb cnt ln : Nat) (S : Fs) (O : Option Addr) (X : World) (e : Ending) (Y : World) : Prop := (∃ v, e = .returned v) ∧ ∃ (O' : Option Addr) (on' oc' cnt' : Nat), Rf lo Y.heap.size rb mb cnt' S O' on' oc' Y ∧ (cnt' ≤ cnt + 1 ∧ (S.2 = true → cnt' + ln ≤ cnt + S.1.length)) ∧ Tcr rb mb O X Y ∧ ∀ k, blk O' = some k → blk O = some k ∨ X.heap.size ≤ k
theorem owned_find {w : World} {lo hi : Nat} {U : Option Addr} {un uc : Nat} {x : St} {p dd : Nat} (h : Owned w lo hi sI [.slice U un uc] x.2.2) : Owned w lo hi sFind [.int .i64 x.1, .int .i64 x.2.1, .slice U un uc, .int .i64 (p : Int), .int .i64 (dd : Int)] (fdat (x, p, dd)) := by
 obtain ⟨F, h1, h2, h3⟩ := h
 refine ⟨F, ⟨[.int .i64 x.1, .int .i64 x.2.1, .slice U un uc], [.int .i64 (p : Int), .int .i64 (dd : Int)], F, [], rfl, by simp, ⟨[.int .i64 x.1], [.int .i64 x.2.1, .slice U un uc], [], F, rfl, rfl, ⟨rfl, rfl⟩, ⟨[.int .i64 x.2.1], [.slice U un uc], [], F, rfl, rfl, ⟨rfl, rfl⟩, h1⟩⟩, ⟨[.int .i64 (p : Int)], [.int .i64 (dd : Int)], [], [], rfl, rfl, ⟨rfl, rfl⟩, ⟨rfl, rfl⟩⟩⟩, h2, h3⟩
set_option maxHeartbeats 4000000 in
theorem implAdd (lo mid rb mb cnt : Nat) (S : Fs) (O : Option Addr) (on oc : Nat) (x : St) (U : Option Addr) (un uc p dd : Nat) (X : World) (h : Rf lo mid rb mb cnt S O on oc X) (hU : Owned X mid X.heap.size sI [.slice U un uc] x.2.2) (hx : Small x.2.2) (hall : S.2 = true) (h60 : S.1.length ≤ 60) (hcnt : cnt ≤ 1000) (hlo : rb < lo) (hmb : mb < lo) (hne : rb ≠ mb) (hmid : lo ≤ mid) (hmx : mid ≤ X.heap.size) :
   Calls Tryz.prog 55 #[.pointer (some ⟨rb, 0, none⟩), .agg #[.int .i64 x.1, .int .i64 x.2.1, .slice U un uc, .int .i64 (p : Int), .int .i64 (dd : Int)]] X (AnsAdd lo rb mb cnt S.1.length (addF p dd S x) O X) := by
 obtain ⟨W, hW, rB, bW⟩ := box1 X 72 #[.int .i64 x.1, .int .i64 x.2.1, .slice U un uc, .int .i64 (p : Int), .int .i64 (dd : Int)]
 have HW := Lib.hid hW
 obtain ⟨B, hB⟩ : ∃ B, X.heap.size = B := ⟨_, rfl⟩
 have hLon : S.1.length = on := by have := h.ow.1; simpa using this
 have hon : on ≤ 60 := by omega
 have zrX : rb < X.heap.size := h.row.lt
 have sU : Seg W.drew W.drew.heap.size U un x.2.2 := ((hU.rd.seg).next bW).drew
 have k0 : W.cell? ⟨rb, 0, none⟩ = some (.slice O on oc) := (h.row.next bW).cell 0
 have k1 : W.cell? ⟨rb, 1, none⟩ = some (.map (some mb)) := (h.row.next bW).cell 1
 have k2 : W.cell? ⟨B, 2, none⟩ = some (.slice U un uc) := by rw [← hB]; exact rB.cell 2
 have zr : rb < W.drew.heap.size := (h.row.next bW).lt
 have zB : B < W.drew.heap.size := by rw [← hB]; exact rB.lt
 have nO : blk O ≠ some rb := fun e => by have := (h.ow.ge rb e).1; omega
 have HX := Lib.hid (show Rf lo mid rb mb cnt S O on oc W.drew ∧ Owned W.drew mid X.heap.size sI [.slice U un uc] x.2.2 ∧ Row W.drew B 72 #[.int .i64 x.1, .int .i64 x.2.1, .slice U un uc, .int .i64 (p : Int), .int .i64 (dd : Int)] ∧ Below X.heap.size X W.drew ∧ X.heap.size = B ∧ X.heap.size ≤ W.drew.heap.size from ⟨⟨(h.row.next bW).drew, (h.ow.next bW).next (drew_below W), (h.kn.below bW).drew⟩, (hU.next bW).drew, by rw [← hB]; exact rB.drew, next_trans bW (drew_below W), hB, bW.size⟩)
 by_cases hin : x.2.2 ∈ termsF S.1
 · have LA := Lib.hid (addOld U un uc mb cnt x.2.2 (on : Int) (termsF S.1) W.drew HX.out.1.kn sU hx hin)
   have HI := Lib.hid hin
   clear hin hW rB bW h hU sU
   go_enter Tryz.func55, Tryz.ntmps55
   go_upto_region 1 with fail
   rw [← HW.out]
   try rw [hB]
   refine AnyT.start (S := (fun w' => w'.cell? ⟨rb, 0, none⟩ = some (.slice O on oc) ∧ w'.cell? ⟨rb, 1, none⟩ = some (.map (some mb)) ∧ w'.cell? ⟨B, 2, none⟩ = some (.slice U un uc))) (fun _ => false) (by kernel_rfl) ⟨k0, k1, k2⟩ (fun hHeld => ?_)
   refine AnyT.takeA (i := 0) (v := ?_) rfl (by kernel_rfl) (by kernel_rfl) (by kernel_rfl) (fun _ _ _ h => h) (Or.inl ⟨by rfl, ?_⟩) ?_
   rotate_left 1
   · (intro w0 _; go_simp; try with_reducible rfl)
   try simp only [Act.put, List.setIfInBounds_toArray, List.set_cons_zero, List.set_cons_succ, List.getElem_toArray, List.getElem_cons_zero, List.getElem_cons_succ]
   refine AnyT.takeA (i := 1) (v := ?_) rfl (by kernel_rfl) (by kernel_rfl) (by kernel_rfl) (fun _ _ _ h => h) (Or.inl ⟨by rfl, ?_⟩) ?_
   rotate_left 1
   · (intro w0 _; go_simp; try with_reducible rfl)
   try simp only [Act.put, List.setIfInBounds_toArray, List.set_cons_zero, List.set_cons_succ, List.getElem_toArray, List.getElem_cons_zero, List.getElem_cons_succ]
   refine AnyT.takeA (i := 2) (v := ?_) rfl (by kernel_rfl) (by kernel_rfl) (by kernel_rfl) (fun _ _ _ h => h) (Or.inl ⟨by rfl, ?_⟩) ?_
   rotate_left 1
   · (intro w0 _; go_simp; try with_reducible rfl)
   try simp only [Act.put, List.setIfInBounds_toArray, List.set_cons_zero, List.set_cons_succ, List.getElem_toArray, List.getElem_cons_zero, List.getElem_cons_succ]
   refine AnyT.takeU (i := 3) (v := ?_) rfl (by kernel_rfl) (by kernel_rfl) (by kernel_rfl) (by kernel_rfl) (by kernel_rfl) (fun _ _ _ h => h) (Or.inl ⟨by rfl, ?_⟩) (by assumption) ?_
   rotate_left 1
   · (intro w0 hSw; (try dsimp only at hSw); go_simp; try with_reducible rfl)
   try simp only [Act.put, List.setIfInBounds_toArray, List.set_cons_zero, List.set_cons_succ, List.getElem_toArray, List.getElem_cons_zero, List.getElem_cons_succ]
   refine AnyT.takeA (i := 4) (v := ?_) rfl (by kernel_rfl) (by kernel_rfl) (by kernel_rfl) (fun _ _ _ h => h) (Or.inl ⟨by rfl, ?_⟩) ?_
   rotate_left 1
   · (intro w0 _; go_simp; try with_reducible rfl)
   try simp only [Act.put, List.setIfInBounds_toArray, List.set_cons_zero, List.set_cons_succ, List.getElem_toArray, List.getElem_cons_zero, List.getElem_cons_succ]
   refine AnyT.takeA (i := 5) (v := ?_) rfl (by kernel_rfl) (by kernel_rfl) (by kernel_rfl) (fun _ _ _ h => h) (Or.inl ⟨by rfl, ?_⟩) ?_
   rotate_left 1
   · (intro w0 _; go_simp; try with_reducible rfl)
   try simp only [Act.put, List.setIfInBounds_toArray, List.set_cons_zero, List.set_cons_succ, List.getElem_toArray, List.getElem_cons_zero, List.getElem_cons_succ]
   refine AnyT.takeU (i := 6) (v := ?_) rfl (by kernel_rfl) (by kernel_rfl) (by kernel_rfl) (by kernel_rfl) (by kernel_rfl) (fun _ _ _ h => h) (Or.inl ⟨by rfl, ?_⟩) (by assumption) ?_
   rotate_left 1
   · (intro w0 hSw; (try dsimp only at hSw); go_simp; try with_reducible rfl)
   try simp only [Act.put, List.setIfInBounds_toArray, List.set_cons_zero, List.set_cons_succ, List.getElem_toArray, List.getElem_cons_zero, List.getElem_cons_succ]
   refine AnyT.takeA (i := 7) (v := ?_) rfl (by kernel_rfl) (by kernel_rfl) (by kernel_rfl) (fun _ _ _ h => h) (Or.inl ⟨by rfl, ?_⟩) ?_
   rotate_left 1
   · (intro w0 _; go_simp; try with_reducible rfl)
   try simp only [Act.put, List.setIfInBounds_toArray, List.set_cons_zero, List.set_cons_succ, List.getElem_toArray, List.getElem_cons_zero, List.getElem_cons_succ]
   refine AnyT.takeA (i := 8) (v := ?_) rfl (by kernel_rfl) (by kernel_rfl) (by kernel_rfl) (fun _ _ _ h => h) (Or.inl ⟨by rfl, ?_⟩) ?_
   rotate_left 1
   · (intro w0 _; go_simp; try with_reducible rfl)
   try simp only [Act.put, List.setIfInBounds_toArray, List.set_cons_zero, List.set_cons_succ, List.getElem_toArray, List.getElem_cons_zero, List.getElem_cons_succ]
   refine AnyT.takeA (i := 9) (v := ?_) rfl (by kernel_rfl) (by kernel_rfl) (by kernel_rfl) (fun _ _ _ h => h) (Or.inl ⟨by rfl, ?_⟩) ?_
   rotate_left 1
   · (intro w0 _; go_simp; try with_reducible rfl)
   try simp only [Act.put, List.setIfInBounds_toArray, List.set_cons_zero, List.set_cons_succ, List.getElem_toArray, List.getElem_cons_zero, List.getElem_cons_succ]
   refine AnyT.takeU (i := 10) (v := ?_) rfl (by kernel_rfl) (by kernel_rfl) (by kernel_rfl) (by kernel_rfl) (by kernel_rfl) (fun _ _ _ h => h) (Or.inl ⟨by rfl, ?_⟩) (by assumption) ?_
   rotate_left 1
   · (intro w0 hSw; (try dsimp only at hSw); go_simp; try with_reducible rfl)
   try simp only [Act.put, List.setIfInBounds_toArray, List.set_cons_zero, List.set_cons_succ, List.getElem_toArray, List.getElem_cons_zero, List.getElem_cons_succ]
   refine AnyT.takeA (i := 11) (v := ?_) rfl (by kernel_rfl) (by kernel_rfl) (by kernel_rfl) (fun _ _ _ h => h) (Or.inl ⟨by rfl, ?_⟩) ?_
   rotate_left 1
   · (intro w0 _; go_simp; try with_reducible rfl)
   try simp only [Act.put, List.setIfInBounds_toArray, List.set_cons_zero, List.set_cons_succ, List.getElem_toArray, List.getElem_cons_zero, List.getElem_cons_succ]
   refine AnyT.call (i := 12) (by kernel_rfl) rfl (fun K hK => ?_)
   try simp only [Act.put, List.setIfInBounds_toArray, List.set_cons_zero, List.set_cons_succ, List.getElem_toArray, List.getElem_cons_zero, List.getElem_cons_succ]
   rw [if_pos (by rfl)]
   go_simp
   (go_at_call 86; refine LA.out.mono ?_; rintro e w2 ⟨rfl, bb⟩; have d0 : w2.cell? ⟨rb, 0, none⟩ = some (.slice O on oc) := (bb.cell (p := ⟨rb, 0, none⟩) zr).trans k0; have d1 : w2.cell? ⟨rb, 1, none⟩ = some (.map (some mb)) := (bb.cell (p := ⟨rb, 1, none⟩) zr).trans k1; have d2 : w2.cell? ⟨B, 2, none⟩ = some (.slice U un uc) := (bb.cell (p := ⟨B, 2, none⟩) zB).trans k2; go_wp2_with fail)
   refine hK.out _ _ (fun _ _ => ?_) (fun hKeep => ?_)
   · exact ⟨d0, d1, d2⟩
   replace hHeld := hKeep (by first | rfl | trivial) hHeld
   clear hK K hKeep
   try simp only [Act.put, List.setIfInBounds_toArray, List.set_cons_zero, List.set_cons_succ, List.getElem_toArray, List.getElem_cons_zero, List.getElem_cons_succ]
   refine AnyT.takeA (i := 13) (v := ?_) rfl (by kernel_rfl) (by kernel_rfl) (by kernel_rfl) (fun _ _ _ h => h) (Or.inl ⟨by rfl, ?_⟩) ?_
   rotate_left 1
   · (intro w0 _; go_simp; try with_reducible rfl)
   try simp only [Act.put, List.setIfInBounds_toArray, List.set_cons_zero, List.set_cons_succ, List.getElem_toArray, List.getElem_cons_zero, List.getElem_cons_succ]
   refine AnyT.done (by kernel_rfl) ?_ _
   have F := Lib.hid (show AnsAdd lo rb mb cnt S.1.length (addF p dd S x) O X (.returned (.tuple #[])) w2 from by
     rw [add_in HI.out]
     have h2 := HX.out.1
     have hs2 := bb.size
     refine ⟨⟨_, rfl⟩, O, on, oc, cnt, ⟨h2.row.next bb, (h2.ow.next bb).wider (Nat.le_refl _) (by have := HX.out.2.2.2.2.2; omega), h2.kn.below bb⟩, ⟨by omega, fun _ => Nat.le_refl _⟩, Tcr.of_below (next_trans HX.out.2.2.2.1 bb), fun k e => .inl e⟩)
   clear bb LA HX d0 d1 d2 k0 k1 k2
   go_wp2
   first | (go_ret; exact F.out) | (go_end0; exact F.out)
 · have hl : (termsF S.1).length = on := by rw [← hLon]; unfold termsF; simp
   have LA := Lib.hid (show Calls Tryz.prog 86 #[.map (some mb), .slice U un uc, .int .i64 (on : Int)] W.drew _ from by have q := addNew U un uc mb cnt x.2.2 (termsF S.1) W.drew HX.out.1.kn sU hx hin (by omega) (by omega); rw [hl] at q; exact q)
   have HI := Lib.hid (show x.2.2 ∉ termsF S.1 ∧ S.2 = true ∧ S.1.length = on ∧ (termsF S.1).length = on ∧ Small x.2.2 from ⟨hin, hall, hLon, hl, hx⟩)
   have nrm : (⟨rb, 0, none⟩ : Addr).block ≠ mb := hne
   have nBm : (⟨B, 2, none⟩ : Addr).block ≠ mb := by show B ≠ mb; have := HX.out.1.kn.lt; omega
   clear hin hW rB bW h hU sU hLon hl hx hall
   go_enter Tryz.func55, Tryz.ntmps55
   go_upto_region 1 with fail
   rw [← HW.out]
   try rw [hB]
   refine AnyT.start (S := (fun w' => w'.cell? ⟨rb, 0, none⟩ = some (.slice O on oc) ∧ w'.cell? ⟨rb, 1, none⟩ = some (.map (some mb)) ∧ w'.cell? ⟨B, 2, none⟩ = some (.slice U un uc))) (fun _ => false) (by kernel_rfl) ⟨k0, k1, k2⟩ (fun hHeld => ?_)
   refine AnyT.takeA (i := 0) (v := ?_) rfl (by kernel_rfl) (by kernel_rfl) (by kernel_rfl) (fun _ _ _ h => h) (Or.inl ⟨by rfl, ?_⟩) ?_
   rotate_left 1
   · (intro w0 _; go_simp; try with_reducible rfl)
   try simp only [Act.put, List.setIfInBounds_toArray, List.set_cons_zero, List.set_cons_succ, List.getElem_toArray, List.getElem_cons_zero, List.getElem_cons_succ]
   refine AnyT.takeA (i := 1) (v := ?_) rfl (by kernel_rfl) (by kernel_rfl) (by kernel_rfl) (fun _ _ _ h => h) (Or.inl ⟨by rfl, ?_⟩) ?_
   rotate_left 1
   · (intro w0 _; go_simp; try with_reducible rfl)
   try simp only [Act.put, List.setIfInBounds_toArray, List.set_cons_zero, List.set_cons_succ, List.getElem_toArray, List.getElem_cons_zero, List.getElem_cons_succ]
   refine AnyT.takeA (i := 2) (v := ?_) rfl (by kernel_rfl) (by kernel_rfl) (by kernel_rfl) (fun _ _ _ h => h) (Or.inl ⟨by rfl, ?_⟩) ?_
   rotate_left 1
   · (intro w0 _; go_simp; try with_reducible rfl)
   try simp only [Act.put, List.setIfInBounds_toArray, List.set_cons_zero, List.set_cons_succ, List.getElem_toArray, List.getElem_cons_zero, List.getElem_cons_succ]
   refine AnyT.takeU (i := 3) (v := ?_) rfl (by kernel_rfl) (by kernel_rfl) (by kernel_rfl) (by kernel_rfl) (by kernel_rfl) (fun _ _ _ h => h) (Or.inl ⟨by rfl, ?_⟩) (by assumption) ?_
   rotate_left 1
   · (intro w0 hSw; (try dsimp only at hSw); go_simp; try with_reducible rfl)
   try simp only [Act.put, List.setIfInBounds_toArray, List.set_cons_zero, List.set_cons_succ, List.getElem_toArray, List.getElem_cons_zero, List.getElem_cons_succ]
   refine AnyT.takeA (i := 4) (v := ?_) rfl (by kernel_rfl) (by kernel_rfl) (by kernel_rfl) (fun _ _ _ h => h) (Or.inl ⟨by rfl, ?_⟩) ?_
   rotate_left 1
   · (intro w0 _; go_simp; try with_reducible rfl)
   try simp only [Act.put, List.setIfInBounds_toArray, List.set_cons_zero, List.set_cons_succ, List.getElem_toArray, List.getElem_cons_zero, List.getElem_cons_succ]
   refine AnyT.takeA (i := 5) (v := ?_) rfl (by kernel_rfl) (by kernel_rfl) (by kernel_rfl) (fun _ _ _ h => h) (Or.inl ⟨by rfl, ?_⟩) ?_
   rotate_left 1
   · (intro w0 _; go_simp; try with_reducible rfl)
   try simp only [Act.put, List.setIfInBounds_toArray, List.set_cons_zero, List.set_cons_succ, List.getElem_toArray, List.getElem_cons_zero, List.getElem_cons_succ]
   refine AnyT.takeU (i := 6) (v := ?_) rfl (by kernel_rfl) (by kernel_rfl) (by kernel_rfl) (by kernel_rfl) (by kernel_rfl) (fun _ _ _ h => h) (Or.inl ⟨by rfl, ?_⟩) (by assumption) ?_
   rotate_left 1
   · (intro w0 hSw; (try dsimp only at hSw); go_simp; try with_reducible rfl)
   try simp only [Act.put, List.setIfInBounds_toArray, List.set_cons_zero, List.set_cons_succ, List.getElem_toArray, List.getElem_cons_zero, List.getElem_cons_succ]
   refine AnyT.takeA (i := 7) (v := ?_) rfl (by kernel_rfl) (by kernel_rfl) (by kernel_rfl) (fun _ _ _ h => h) (Or.inl ⟨by rfl, ?_⟩) ?_
   rotate_left 1
   · (intro w0 _; go_simp; try with_reducible rfl)
   try simp only [Act.put, List.setIfInBounds_toArray, List.set_cons_zero, List.set_cons_succ, List.getElem_toArray, List.getElem_cons_zero, List.getElem_cons_succ]
   refine AnyT.takeA (i := 8) (v := ?_) rfl (by kernel_rfl) (by kernel_rfl) (by kernel_rfl) (fun _ _ _ h => h) (Or.inl ⟨by rfl, ?_⟩) ?_
   rotate_left 1
   · (intro w0 _; go_simp; try with_reducible rfl)
   try simp only [Act.put, List.setIfInBounds_toArray, List.set_cons_zero, List.set_cons_succ, List.getElem_toArray, List.getElem_cons_zero, List.getElem_cons_succ]
   refine AnyT.takeA (i := 9) (v := ?_) rfl (by kernel_rfl) (by kernel_rfl) (by kernel_rfl) (fun _ _ _ h => h) (Or.inl ⟨by rfl, ?_⟩) ?_
   rotate_left 1
   · (intro w0 _; go_simp; try with_reducible rfl)
   try simp only [Act.put, List.setIfInBounds_toArray, List.set_cons_zero, List.set_cons_succ, List.getElem_toArray, List.getElem_cons_zero, List.getElem_cons_succ]
   refine AnyT.takeU (i := 10) (v := ?_) rfl (by kernel_rfl) (by kernel_rfl) (by kernel_rfl) (by kernel_rfl) (by kernel_rfl) (fun _ _ _ h => h) (Or.inl ⟨by rfl, ?_⟩) (by assumption) ?_
   rotate_left 1
   · (intro w0 hSw; (try dsimp only at hSw); go_simp; try with_reducible rfl)
   try simp only [Act.put, List.setIfInBounds_toArray, List.set_cons_zero, List.set_cons_succ, List.getElem_toArray, List.getElem_cons_zero, List.getElem_cons_succ]
   refine AnyT.takeA (i := 11) (v := ?_) rfl (by kernel_rfl) (by kernel_rfl) (by kernel_rfl) (fun _ _ _ h => h) (Or.inl ⟨by rfl, ?_⟩) ?_
   rotate_left 1
   · (intro w0 _; go_simp; try with_reducible rfl)
   try simp only [Act.put, List.setIfInBounds_toArray, List.set_cons_zero, List.set_cons_succ, List.getElem_toArray, List.getElem_cons_zero, List.getElem_cons_succ]
   refine AnyT.call (i := 12) (by kernel_rfl) rfl (fun K hK => ?_)
   try simp only [Act.put, List.setIfInBounds_toArray, List.set_cons_zero, List.set_cons_succ, List.getElem_toArray, List.getElem_cons_zero, List.getElem_cons_succ]
   rw [if_pos (by rfl)]
   go_simp
   (go_at_call 86; refine LA.out.mono ?_; rintro e w2 ⟨rfl, kk, gg⟩; have d0 : w2.cell? ⟨rb, 0, none⟩ = some (.slice O on oc) := (cell_far gg (p := ⟨rb, 0, none⟩) zr nrm).trans k0; have d1 : w2.cell? ⟨rb, 1, none⟩ = some (.map (some mb)) := (cell_far gg (p := ⟨rb, 1, none⟩) zr nrm).trans k1; have d2 : w2.cell? ⟨B, 2, none⟩ = some (.slice U un uc) := (cell_far gg (p := ⟨B, 2, none⟩) zB nBm).trans k2; go_wp2_with fail)
   refine hK.out _ _ (fun _ _ => ?_) (fun hKeep => ?_)
   · exact ⟨d0, d1, d2⟩
   replace hHeld := hKeep (by first | rfl | trivial) hHeld
   clear hK K hKeep
   try simp only [Act.put, List.setIfInBounds_toArray, List.set_cons_zero, List.set_cons_succ, List.getElem_toArray, List.getElem_cons_zero, List.getElem_cons_succ]
   refine AnyT.takeA (i := 13) (v := ?_) rfl (by kernel_rfl) (by kernel_rfl) (by kernel_rfl) (fun _ _ _ h => h) (Or.inl ⟨by rfl, ?_⟩) ?_
   rotate_left 1
   · (intro w0 _; go_simp; try with_reducible rfl)
   try simp only [Act.put, List.setIfInBounds_toArray, List.set_cons_zero, List.set_cons_succ, List.getElem_toArray, List.getElem_cons_zero, List.getElem_cons_succ]
   refine AnyT.done (by kernel_rfl) ?_ _
   have hs2 := gg.size
   have bt2 : Btw mb (mb + 1) W.drew w2 := Btw.of_grown gg (fun k e => by injection e with e; omega)
   have HX2 := Lib.hid (show Row w2 rb 67 #[.slice O on oc, .map (some mb), .bool S.2] ∧ OwnL w2 lo mid 72 sFind O on oc (S.1.map fdat) ∧ Kn w2 mb (cnt + 1) (termsF S.1 ++ [x.2.2]) ∧ Owned w2 mid X.heap.size sI [.slice U un uc] x.2.2 ∧ Row w2 B 72 #[.int .i64 x.1, .int .i64 x.2.1, .slice U un uc, .int .i64 (p : Int), .int .i64 (dd : Int)] ∧ Tcr rb mb O X w2 from
     ⟨Row.btw HX.out.1.row bt2 (by omega), HX.out.1.ow.btw bt2 (.inr (by omega)), kk, HX.out.2.1.btw bt2 (.inr (by omega)), Row.btw HX.out.2.2.1 bt2 (by have := HX.out.2.2.2.2.1; omega), (Tcr.of_below HX.out.2.2.2.1).trans (Tcr.of_grown gg (fun k e => .inr (.inl (by injection e with e; exact e.symm))))⟩)
   have HS := Lib.hid (show X.heap.size = B ∧ X.heap.size ≤ w2.heap.size from ⟨HX.out.2.2.2.2.1, by have := HX.out.2.2.2.2.2; omega⟩)
   clear kk gg bt2 LA HX k0 k1 k2 zr zB
   by_cases h6 : on = 60
   · have zr : rb < w2.drew.heap.size := HX2.out.1.lt
     have zB : B < w2.drew.heap.size := HX2.out.2.2.2.2.1.lt
     have k1 : w2.cell? ⟨rb, 1, none⟩ = some (.map (some mb)) := HX2.out.1.cell 1
     have k2 : w2.cell? ⟨B, 2, none⟩ = some (.slice U un uc) := HX2.out.2.2.2.2.1.cell 2
     have LF := Lib.hid (forget U un uc mb (cnt + 1) x.2.2 (termsF S.1) w2.drew HX2.out.2.2.1.drew (((HX2.out.2.2.2.1.rd.seg)).drew) HI.out.1)
     have h6i : (on : Int) = 60 := by omega
     have H6 := Lib.hid h6
     clear h6
     go_upto_region 3 with fail
     refine AnyT.start (S := (fun w' => w'.cell? ⟨rb, 1, none⟩ = some (.map (some mb)) ∧ w'.cell? ⟨B, 2, none⟩ = some (.slice U un uc))) (fun _ => false) (by kernel_rfl) ⟨k1, k2⟩ (fun hHeld => ?_)
     refine AnyT.takeA (i := 0) (v := ?_) rfl (by kernel_rfl) (by kernel_rfl) (by kernel_rfl) (fun _ _ _ h => h) (Or.inl ⟨by rfl, ?_⟩) ?_
     rotate_left 1
     · (intro w0 _; go_simp; try with_reducible rfl)
     try simp only [Act.put, List.setIfInBounds_toArray, List.set_cons_zero, List.set_cons_succ, List.getElem_toArray, List.getElem_cons_zero, List.getElem_cons_succ]
     refine AnyT.takeA (i := 1) (v := ?_) rfl (by kernel_rfl) (by kernel_rfl) (by kernel_rfl) (fun _ _ _ h => h) (Or.inl ⟨by rfl, ?_⟩) ?_
     rotate_left 1
     · (intro w0 _; go_simp; try with_reducible rfl)
     try simp only [Act.put, List.setIfInBounds_toArray, List.set_cons_zero, List.set_cons_succ, List.getElem_toArray, List.getElem_cons_zero, List.getElem_cons_succ]
     refine AnyT.takeA (i := 2) (v := ?_) rfl (by kernel_rfl) (by kernel_rfl) (by kernel_rfl) (fun _ _ _ h => h) (Or.inl ⟨by rfl, ?_⟩) ?_
     rotate_left 1
     · (intro w0 _; go_simp; try with_reducible rfl)
     try simp only [Act.put, List.setIfInBounds_toArray, List.set_cons_zero, List.set_cons_succ, List.getElem_toArray, List.getElem_cons_zero, List.getElem_cons_succ]
     refine AnyT.takeU (i := 3) (v := ?_) rfl (by kernel_rfl) (by kernel_rfl) (by kernel_rfl) (by kernel_rfl) (by kernel_rfl) (fun _ _ _ h => h) (Or.inl ⟨by rfl, ?_⟩) (by assumption) ?_
     rotate_left 1
     · (intro w0 hSw; (try dsimp only at hSw); go_simp; try with_reducible rfl)
     try simp only [Act.put, List.setIfInBounds_toArray, List.set_cons_zero, List.set_cons_succ, List.getElem_toArray, List.getElem_cons_zero, List.getElem_cons_succ]
     refine AnyT.takeA (i := 4) (v := ?_) rfl (by kernel_rfl) (by kernel_rfl) (by kernel_rfl) (fun _ _ _ h => h) (Or.inl ⟨by rfl, ?_⟩) ?_
     rotate_left 1
     · (intro w0 _; go_simp; try with_reducible rfl)
     try simp only [Act.put, List.setIfInBounds_toArray, List.set_cons_zero, List.set_cons_succ, List.getElem_toArray, List.getElem_cons_zero, List.getElem_cons_succ]
     refine AnyT.takeA (i := 5) (v := ?_) rfl (by kernel_rfl) (by kernel_rfl) (by kernel_rfl) (fun _ _ _ h => h) (Or.inl ⟨by rfl, ?_⟩) ?_
     rotate_left 1
     · (intro w0 _; go_simp; try with_reducible rfl)
     try simp only [Act.put, List.setIfInBounds_toArray, List.set_cons_zero, List.set_cons_succ, List.getElem_toArray, List.getElem_cons_zero, List.getElem_cons_succ]
     refine AnyT.takeU (i := 6) (v := ?_) rfl (by kernel_rfl) (by kernel_rfl) (by kernel_rfl) (by kernel_rfl) (by kernel_rfl) (fun _ _ _ h => h) (Or.inl ⟨by rfl, ?_⟩) (by assumption) ?_
     rotate_left 1
     · (intro w0 hSw; (try dsimp only at hSw); go_simp; try with_reducible rfl)
     try simp only [Act.put, List.setIfInBounds_toArray, List.set_cons_zero, List.set_cons_succ, List.getElem_toArray, List.getElem_cons_zero, List.getElem_cons_succ]
     refine AnyT.call (i := 7) (by kernel_rfl) rfl (fun K hK => ?_)
     try simp only [Act.put, List.setIfInBounds_toArray, List.set_cons_zero, List.set_cons_succ, List.getElem_toArray, List.getElem_cons_zero, List.getElem_cons_succ]
     rw [if_pos (by rfl)]
     go_simp
     (go_at_call 87; refine LF.out.mono ?_; rintro e w3 ⟨⟨v9, rfl⟩, k3, g3⟩; have e1 : w3.cell? ⟨rb, 1, none⟩ = some (.map (some mb)) := (cell_far g3 (p := ⟨rb, 1, none⟩) zr nrm).trans k1; have e2 : w3.cell? ⟨B, 2, none⟩ = some (.slice U un uc) := (cell_far g3 (p := ⟨B, 2, none⟩) zB nBm).trans k2; go_wp2_with fail)
     refine hK.out _ _ (fun _ _ => ?_) (fun hKeep => ?_)
     · exact ⟨e1, e2⟩
     replace hHeld := hKeep (by first | rfl | trivial) hHeld
     clear hK K hKeep
     try simp only [Act.put, List.setIfInBounds_toArray, List.set_cons_zero, List.set_cons_succ, List.getElem_toArray, List.getElem_cons_zero, List.getElem_cons_succ]
     refine AnyT.done (by kernel_rfl) ?_ _
     have hs3 := g3.size
     have bt3 : Btw mb (mb + 1) w2.drew w3 := Btw.of_grown g3 (fun k e => by injection e with e; omega)
     have r3 : Row w3 rb 67 #[.slice O on oc, .map (some mb), .bool S.2] := Row.btw HX2.out.1.drew bt3 (by omega)
     have y3 : w3.cell? ⟨rb, 2, none⟩ = some (.bool S.2) := r3.cell 2
     have f3 := r3.free 2
     have F := Lib.hid (show AnsAdd lo rb mb cnt S.1.length (addF p dd S x) O X (.returned (.tuple #[])) (w3.setCell ⟨rb, 2, none⟩ (.bool false)) from by
       rw [add_full HI.out.2.1 HI.out.1 (by rw [HI.out.2.2.1]; exact H6.out)]
       have gS := grown_set w3 rb 2 (.bool false)
       refine ⟨⟨_, rfl⟩, O, on, oc, cnt + 1, ⟨Row.put r3 2 _, ((((HX2.out.2.1.next (drew_below w2)).btw bt3 (.inr (by omega))).btw (Btw.of_grown gS (lo := rb) (hi := rb + 1) (fun k e => by injection e with e; omega)) (.inr (by omega)))).wider (Nat.le_refl _) ?_, k3.kept gS (fun e => hne (by injection e with e; exact e.symm))⟩, ⟨Nat.le_refl _, fun h => by cases h⟩, ((HX2.out.2.2.2.2.2.trans (Tcr.of_below (drew_below w2))).trans (Tcr.of_grown g3 (fun k e => .inr (.inl (by injection e with e; exact e.symm))))).trans (Tcr.of_grown gS (fun k e => .inl (by injection e with e; exact e.symm))), fun k e => .inl e⟩
       have h1 := HS.out.2
       have h2 : w2.heap.size ≤ w3.heap.size := hs3
       show mid ≤ (w3.setCell ⟨rb, 2, none⟩ (.bool false)).heap.size
       simp
       omega)
     clear g3 bt3 r3 k3 LF HX2 e1 e2 k1 k2
     go_wp2
     first | (go_ret; exact F.out) | (go_end0; exact F.out)
   · have h6i : ¬ (on : Int) = 60 := by omega
     have hk0 : w2.cell? ⟨rb, 0, none⟩ = some (.slice O on oc) := HX2.out.1.cell 0
     have SV := Lib.hid (show w2.drew.cell? ⟨rb, 0, none⟩ = some (.slice O on oc) ∧ w2.drew.cell? ⟨B, 0, none⟩ = some (.int .i64 x.1) ∧ w2.drew.cell? ⟨B, 1, none⟩ = some (.int .i64 x.2.1) ∧ w2.drew.cell? ⟨B, 2, none⟩ = some (.slice U un uc) ∧ w2.drew.cell? ⟨B, 3, none⟩ = some (.int .i64 (p : Int)) ∧ w2.drew.cell? ⟨B, 4, none⟩ = some (.int .i64 (dd : Int)) from ⟨HX2.out.1.cell 0, HX2.out.2.2.2.2.1.cell 0, HX2.out.2.2.2.2.1.cell 1, HX2.out.2.2.2.2.1.cell 2, HX2.out.2.2.2.2.1.cell 3, HX2.out.2.2.2.2.1.cell 4⟩)
     have HV := Lib.hid (show OwnL w2.drew lo mid 72 sFind O on oc (S.1.map fdat) ∧ Owned w2.drew mid X.heap.size sI [.slice U un uc] x.2.2 ∧ Row w2.drew rb 67 #[.slice O on oc, .map (some mb), .bool S.2] ∧ (Kn w2.drew mb (cnt + 1) (termsF S.1 ++ [x.2.2]) ∧ Tcr rb mb O X w2.drew) ∧ X.heap.size ≤ w2.drew.heap.size from ⟨HX2.out.2.1.next (drew_below w2), HX2.out.2.2.2.1.drew, HX2.out.1.drew, ⟨HX2.out.2.2.1.drew, HX2.out.2.2.2.2.2.trans (Tcr.of_below (drew_below w2))⟩, HS.out.2⟩)
     have H6 := Lib.hid h6
     clear HX2 d0 d1 d2 h6
     go_upto_region 5 with fail
     clear hk0
     refine AnyT.start (S := (fun w' => w'.cell? ⟨rb, 0, none⟩ = some (.slice O on oc) ∧ w'.cell? ⟨B, 0, none⟩ = some (.int .i64 x.1) ∧ w'.cell? ⟨B, 1, none⟩ = some (.int .i64 x.2.1) ∧ w'.cell? ⟨B, 2, none⟩ = some (.slice U un uc) ∧ w'.cell? ⟨B, 3, none⟩ = some (.int .i64 (p : Int)) ∧ w'.cell? ⟨B, 4, none⟩ = some (.int .i64 (dd : Int)))) (fun j => j == 7 || j == 10) (by kernel_rfl) ⟨SV.out.1, SV.out.2⟩ (fun hHeld => ?_)
     generalize w2.drew = V at SV HV hHeld ⊢
     have bA : Below V.heap.size V (V.alloc (.cells #[.int .i64 x.1, .int .i64 x.2.1, .slice U un uc, .int .i64 (p : Int), .int .i64 (dd : Int)] 72)) := (Below.refl _ _).alloc (Nat.le_refl _) _
     have hVs := HV.out.2.2.2.2
     have HAPP := Lib.hid (show OwnL (V.alloc (.cells #[.int .i64 x.1, .int .i64 x.2.1, .slice U un uc, .int .i64 (p : Int), .int .i64 (dd : Int)] 72)) lo mid 72 sFind O on oc (S.1.map fdat) ∧ OwnL (V.alloc (.cells #[.int .i64 x.1, .int .i64 x.2.1, .slice U un uc, .int .i64 (p : Int), .int .i64 (dd : Int)] 72)) mid (V.heap.size + 1) 72 sFind (some ⟨V.heap.size, 0, none⟩) 1 1 [fdat (x, p, dd)] ∧ Row (V.alloc (.cells #[.int .i64 x.1, .int .i64 x.2.1, .slice U un uc, .int .i64 (p : Int), .int .i64 (dd : Int)] 72)) rb 67 #[.slice O on oc, .map (some mb), .bool S.2] from
       ⟨HV.out.1.next bA, OwnL.single (e := 72) (s := sFind) (Row.new V 72 #[.int .i64 x.1, .int .i64 x.2.1, .slice U un uc, .int .i64 (p : Int), .int .i64 (dd : Int)]) (owned_find (HV.out.2.1.next bA)) hVs (by omega), HV.out.2.2.1.next bA⟩)
     refine AnyT.takeA (i := 0) (v := ?_) rfl (by kernel_rfl) (by kernel_rfl) (by kernel_rfl) (fun _ _ _ h => h) (Or.inl ⟨by rfl, ?_⟩) ?_
     rotate_left 1
     · (intro w0 _; go_simp; try with_reducible rfl)
     try simp only [Act.put, List.setIfInBounds_toArray, List.set_cons_zero, List.set_cons_succ, List.getElem_toArray, List.getElem_cons_zero, List.getElem_cons_succ]
     refine AnyT.takeA (i := 1) (v := ?_) rfl (by kernel_rfl) (by kernel_rfl) (by kernel_rfl) (fun _ _ _ h => h) (Or.inl ⟨by rfl, ?_⟩) ?_
     rotate_left 1
     · (intro w0 _; go_simp; try with_reducible rfl)
     try simp only [Act.put, List.setIfInBounds_toArray, List.set_cons_zero, List.set_cons_succ, List.getElem_toArray, List.getElem_cons_zero, List.getElem_cons_succ]
     refine AnyT.takeA (i := 2) (v := ?_) rfl (by kernel_rfl) (by kernel_rfl) (by kernel_rfl) (fun _ _ _ h => h) (Or.inl ⟨by rfl, ?_⟩) ?_
     rotate_left 1
     · (intro w0 _; go_simp; try with_reducible rfl)
     try simp only [Act.put, List.setIfInBounds_toArray, List.set_cons_zero, List.set_cons_succ, List.getElem_toArray, List.getElem_cons_zero, List.getElem_cons_succ]
     refine AnyT.takeA (i := 3) (v := ?_) rfl (by kernel_rfl) (by kernel_rfl) (by kernel_rfl) (fun _ _ _ h => h) (Or.inl ⟨by rfl, ?_⟩) ?_
     rotate_left 1
     · (intro w0 _; go_simp; try with_reducible rfl)
     try simp only [Act.put, List.setIfInBounds_toArray, List.set_cons_zero, List.set_cons_succ, List.getElem_toArray, List.getElem_cons_zero, List.getElem_cons_succ]
     refine AnyT.takeU (i := 4) (v := ?_) rfl (by kernel_rfl) (by kernel_rfl) (by kernel_rfl) (by kernel_rfl) (by kernel_rfl) (fun _ _ _ h => h) (Or.inl ⟨by rfl, ?_⟩) (by assumption) ?_
     rotate_left 1
     · (intro w0 hSw; (try dsimp only at hSw); go_simp; try with_reducible rfl)
     try simp only [Act.put, List.setIfInBounds_toArray, List.set_cons_zero, List.set_cons_succ, List.getElem_toArray, List.getElem_cons_zero, List.getElem_cons_succ]
     refine AnyT.takeU (i := 5) (v := ?_) rfl (by kernel_rfl) (by kernel_rfl) (by kernel_rfl) (by kernel_rfl) (by kernel_rfl) (fun _ _ _ h => h) (Or.inl ⟨by rfl, ?_⟩) (by assumption) ?_
     rotate_left 1
     · (intro w0 hSw; (try dsimp only at hSw); go_simp; try with_reducible rfl)
     try simp only [Act.put, List.setIfInBounds_toArray, List.set_cons_zero, List.set_cons_succ, List.getElem_toArray, List.getElem_cons_zero, List.getElem_cons_succ]
     refine AnyT.call (i := 6) (by kernel_rfl) rfl (fun K hK => ?_)
     try simp only [Act.put, List.setIfInBounds_toArray, List.set_cons_zero, List.set_cons_succ, List.getElem_toArray, List.getElem_cons_zero, List.getElem_cons_succ]
     rw [if_pos (by rfl)]
     go_simp
     refine hK.out _ _ (fun _ _ => ?_) (fun hKeep => ?_)
     · exact ⟨keep_alloc hHeld.1, keep_alloc hHeld.2.1, keep_alloc hHeld.2.2.1, keep_alloc hHeld.2.2.2.1, keep_alloc hHeld.2.2.2.2.1, keep_alloc hHeld.2.2.2.2.2⟩
     replace hHeld := hKeep (by first | rfl | trivial) hHeld
     clear hK K hKeep
     try simp only [Act.put, List.setIfInBounds_toArray, List.set_cons_zero, List.set_cons_succ, List.getElem_toArray, List.getElem_cons_zero, List.getElem_cons_succ]
     refine AnyT.call (i := 7) (by kernel_rfl) rfl (fun K hK => ?_)
     try simp only [Act.put, List.setIfInBounds_toArray, List.set_cons_zero, List.set_cons_succ, List.getElem_toArray, List.getElem_cons_zero, List.getElem_cons_succ]
     rw [if_pos (by rfl)]
     refine wp_appL _ _ 63 72 sFind _ _ Tryz.underlying63 info_find rfl (by decide) rfl lo mid mid (V.heap.size + 1) O on oc V.heap.size 1 1 _ _ rfl HAPP.out.1 rfl HAPP.out.2.1 (Nat.le_refl _) (by omega) (by omega) (by omega) (by simp; omega) ?_
     intro A4 oc' w4 oL4 hg4 hat4 b4 hf4
     obtain ⟨O', rfl⟩ := hf4 (.inr (by omega))
     have r4 := Row.away HAPP.out.2.2 hg4 nO
     have y4 : w4.cell? ⟨rb, 0, none⟩ = some (.slice O on oc) := r4.cell 0
     have f4 := r4.free 0
     refine hK.out _ _ (fun h => by cases h) (fun _ => ?_)
     clear hK K
     try simp only [Act.put, List.setIfInBounds_toArray, List.set_cons_zero, List.set_cons_succ, List.getElem_toArray, List.getElem_cons_zero, List.getElem_cons_succ]
     refine AnyT.takeA (i := 8) (v := ?_) rfl (by kernel_rfl) (by kernel_rfl) (by kernel_rfl) (fun _ _ _ h => h) (Or.inl ⟨by rfl, ?_⟩) ?_
     rotate_left 1
     · (intro w0 _; go_simp; try with_reducible rfl)
     try simp only [Act.put, List.setIfInBounds_toArray, List.set_cons_zero, List.set_cons_succ, List.getElem_toArray, List.getElem_cons_zero, List.getElem_cons_succ]
     refine AnyT.takeA (i := 9) (v := ?_) rfl (by kernel_rfl) (by kernel_rfl) (by kernel_rfl) (fun _ _ _ h => h) (Or.inl ⟨by rfl, ?_⟩) ?_
     rotate_left 1
     · (intro w0 _; go_simp; try with_reducible rfl)
     try simp only [Act.put, List.setIfInBounds_toArray, List.set_cons_zero, List.set_cons_succ, List.getElem_toArray, List.getElem_cons_zero, List.getElem_cons_succ]
     refine AnyT.call (i := 10) (by kernel_rfl) rfl (fun K hK => ?_)
     try simp only [Act.put, List.setIfInBounds_toArray, List.set_cons_zero, List.set_cons_succ, List.getElem_toArray, List.getElem_cons_zero, List.getElem_cons_succ]
     rw [if_pos (by rfl)]
     go_simp
     refine hK.out _ _ (fun h => by cases h) (fun _ => ?_)
     clear hK K
     try simp only [Act.put, List.setIfInBounds_toArray, List.set_cons_zero, List.set_cons_succ, List.getElem_toArray, List.getElem_cons_zero, List.getElem_cons_succ]
     refine AnyT.done (by kernel_rfl) ?_ _
     have F := Lib.hid (show AnsAdd lo rb mb cnt S.1.length (addF p dd S x) O X (.returned (.tuple #[])) (w4.setCell ⟨rb, 0, none⟩ (.slice (some ⟨O', 0, none⟩) (on + 1) oc')) from by
       rw [add_new HI.out.2.1 HI.out.1 (by rw [HI.out.2.2.1]; exact H6.out)]
       have gS := grown_set w4 rb 0 (.slice (some ⟨O', 0, none⟩) (on + 1) oc')
       have r5 := Row.put r4 0 (.slice (some ⟨O', 0, none⟩) (on + 1) oc')
       rw [HI.out.2.1] at r5
       have hbs := b4.size
       have hA1 : V.heap.size + 1 ≤ (V.alloc (.cells #[.int .i64 x.1, .int .i64 x.2.1, .slice U un uc, .int .i64 (p : Int), .int .i64 (dd : Int)] 72)).heap.size := by simp
       refine ⟨⟨_, rfl⟩, some ⟨O', 0, none⟩, on + 1, oc', cnt + 1, ⟨r5, ?_, ?_⟩, ⟨Nat.le_refl _, fun _ => by show cnt + 1 + S.1.length ≤ cnt + (S.1 ++ [(x, p, dd)]).length; rw [List.length_append, List.length_singleton]; omega⟩, ((HV.out.2.2.2.1.2.trans (Tcr.of_below bA)).trans (Tcr.of_grown hg4 (fun k e => .inr (.inr e.symm)))).trans (Tcr.of_grown gS (fun k e => .inl (by injection e with e; exact e.symm))), fun k e => ?_⟩
       · have e1 : (S.1 ++ [(x, p, dd)]).map fdat = S.1.map fdat ++ [fdat (x, p, dd)] := by rw [List.map_append]; rfl
         show OwnL _ lo _ _ _ _ _ _ ((S.1 ++ [(x, p, dd)]).map fdat)
         rw [e1]
         exact (oL4.btw (Btw.of_grown gS (lo := rb) (hi := rb + 1) (fun k e => by injection e with e; omega)) (.inr (by omega))).wider (Nat.le_refl _) (by simp)
       · show Kn _ mb (cnt + 1) (termsF (S.1 ++ [(x, p, dd)]))
         rw [termsF_app]
         exact ((HV.out.2.2.2.1.1.below bA).kept hg4 (fun e => by have := (HV.out.1.ge mb e.symm).1; omega)).kept gS (fun e => hne (by injection e with e; exact e.symm))
       · rcases hat4 with q | q
         · exact .inl (by rw [← q]; exact e)
         · right
           have e2 : some k = some (V.alloc (.cells #[.int .i64 x.1, .int .i64 x.2.1, .slice U un uc, .int .i64 (p : Int), .int .i64 (dd : Int)] 72)).heap.size := by rw [← q]; exact e.symm
           injection e2 with e2
           omega)
     clear oL4 hg4 hat4 b4 hf4 r4 HAPP HV SV y4 f4 bA
     go_wp2
     first | (go_ret; exact F.out) | (go_end0; exact F.out)
end reachImpl
end
section
namespace reachImpl
open Go.RowKit base ints sig term marks app segs shape kindsR kindsW ownL drawX walkMath reachMath
set_option maxRecDepth 100000
variable {w : World}
theorem ow_rdq : ∀ {s : Sh} {cs : List Value} {d : Dat s} {F : List Nat}, Ow w s cs d F → RdQ w (fun b => b ∈ F) s cs d
 | .num, _, _, _, h => h.1
 | .bit, _, _, _, h => h.1
 | .row e s, _, _, F, h => by
   obtain ⟨A, n, c, e1, hl, h1⟩ := h
   rcases h1 with ⟨rfl, rfl, rfl, _⟩ | ⟨g, cur, E, G, e2, hr, h2, h3, h4, h5, h6⟩
   · exact ⟨none, 0, 0, e1, ⟨by omega, by omega, fun _ => rfl⟩, hl, fun h => absurd h (by omega)⟩
   · refine ⟨A, n, c, e1, ⟨h2, h3, fun e => by rw [e] at e2; cases e2⟩, hl, fun hn => ⟨g, 0, e2, by rw [h5]; exact List.mem_cons_self .., fun j hj => ?_⟩⟩
     obtain ⟨q1, q2, q3⟩ := h6 j hj
     refine ⟨E j, q1, fun i hi => ?_, (ow_rdq q3).mono fun b hb => ?_⟩
     · rw [Nat.zero_add, hr.cell, q2 i (by omega)]
     · rw [h5]
       exact List.mem_cons_of_mem _ (List.mem_flatMap.2 ⟨j, List.mem_range.2 hj, hb⟩)
 | .cat a b, _, _, F, h => by
   obtain ⟨ca, cb, Fa, Fb, e, e2, h1, h2⟩ := h
   exact ⟨ca, cb, e, (ow_rdq h1).mono fun b hb => by rw [e2]; exact List.mem_append_left _ hb, (ow_rdq h2).mono fun b hb => by rw [e2]; exact List.mem_append_right _ hb⟩
theorem step_parts {Q : Nat → Prop} {es : List Value} {d : Dat sStep} (h : RdQ w Q sStep es d) : ∃ V vn vc, es = [.int .i64 d.1, .int .i64 d.2.1, .slice V vn vc] ∧ RdQ w Q sI [.slice V vn vc] d.2.2 := by
 obtain ⟨ca0, cb0, e0, p0, ca1, cb1, e1, p1, q⟩ := h
 have p0 : ca0 = [.int .i64 d.1] := p0
 have p1 : ca1 = [.int .i64 d.2.1] := p1
 have hq := q
 obtain ⟨V, vn, vc, e2, -⟩ := hq
 subst p0 p1 e2
 exact ⟨V, vn, vc, by rw [e0, e1]; rfl, q⟩
theorem find_parts {Q : Nat → Prop} {es : List Value} {f : Fi} (h : RdQ w Q sFind es (fdat f)) : ∃ T tn tc, es = [.int .i64 f.1.1, .int .i64 f.1.2.1, .slice T tn tc, .int .i64 (f.2.1 : Int), .int .i64 (f.2.2 : Int)] ∧ RdQ w Q sI [.slice T tn tc] (termF f) := by
 obtain ⟨ca, cb, e, hs, hr⟩ := h
 obtain ⟨T, tn, tc, e1, q⟩ := step_parts hs
 obtain ⟨ca2, cb2, e2, p1, p2⟩ := hr
 have p1 : ca2 = [.int .i64 (f.2.1 : Int)] := p1
 have p2 : cb2 = [.int .i64 (f.2.2 : Int)] := p2
 subst e1 p1 p2
 exact ⟨T, tn, tc, by rw [e, e2]; rfl, q⟩
theorem find_at {lo hi : Nat} {O : Option Addr} {on oc i : Nat} {L : List Fi} {f : Fi} (h : OwnL w lo hi 72 sFind O on oc (L.map fdat)) (hf : L[i]? = some f) : ∃ (g : Nat) (T : Option Addr) (tn tc : Nat) (G : List Nat), O = some ⟨g, 0, none⟩ ∧ on = L.length ∧
   (w.cell? ⟨g, i * 5, none⟩ = some (.int .i64 f.1.1) ∧ w.cell? ⟨g, i * 5 + 1, none⟩ = some (.int .i64 f.1.2.1) ∧ w.cell? ⟨g, i * 5 + 2, none⟩ = some (.slice T tn tc) ∧ w.cell? ⟨g, i * 5 + 3, none⟩ = some (.int .i64 (f.2.1 : Int)) ∧ w.cell? ⟨g, i * 5 + 4, none⟩ = some (.int .i64 (f.2.2 : Int))) ∧
   g ∉ G ∧ (∀ k ∈ G, lo ≤ k ∧ k < hi ∧ k < w.heap.size) ∧ RdQ w (fun b => b ∈ G) sI [.slice T tn tc] (termF f) := by
 obtain ⟨F, ho, hn, hl⟩ := h.owned
 have hi' := (List.getElem?_eq_some_iff.1 hf).1
 obtain ⟨g, nn, c, es, G, e1, e2, e3, hp, hg, hoG, hGn, hgG, hGF, -⟩ := ho.elem' hn (j := i) (by simpa using hi')
 injection e1 with e1 e4 e5
 subst e1 e4 e5
 have ef : (L.map fdat).getD i (dft sFind) = fdat f := by rw [List.getD_eq_getElem?_getD, List.getElem?_map, hf]; rfl
 rw [ef] at hoG
 obtain ⟨T, tn, tc, e6, q⟩ := find_parts (ow_rdq hoG)
 subst e6
 have e7 : nc sFind = 5 := rfl
 rw [e7] at hp
 refine ⟨g, T, tn, tc, G, rfl, by rw [← e2, List.length_map], ⟨hp 0 (by simp), hp 1 (by simp), hp 2 (by simp), hp 3 (by simp), hp 4 (by simp)⟩, hgG, fun k hk => ⟨(hl k (hGF k hk)).1, (hl k (hGF k hk)).2, ?_⟩, q⟩
 exact hoG.lt k hk
theorem rd_q {B : Nat} : ∀ {s : Sh} {cs : List Value} {d : Dat s}, Rd w B s cs d → RdQ w (fun b => b < B) s cs d
 | .num, _, _, h => h
 | .bit, _, _, h => h
 | .row e s, _, _, h => by
   obtain ⟨A, n, c, e1, hc, hl, h1⟩ := h
   refine ⟨A, n, c, e1, hc, hl, fun hn => ?_⟩
   obtain ⟨b, off, e2, hb, h2⟩ := h1 hn
   refine ⟨b, off, e2, hb, fun j hj => ?_⟩
   obtain ⟨es, q1, q2, q3⟩ := h2 j hj
   exact ⟨es, q1, q2, rd_q q3⟩
 | .cat a b, _, _, h => by
   obtain ⟨ca, cb, e, h1, h2⟩ := h
   exact ⟨ca, cb, e, rd_q h1, rd_q h2⟩
theorem step_owned {lo hi : Nat} {es : List Value} {y : Dat sStep} (h : Owned w lo hi sStep es y) : ∃ (U : Option Addr) (un uc : Nat), es = [.int .i64 y.1, .int .i64 y.2.1, .slice U un uc] ∧ Owned w lo hi sI [.slice U un uc] y.2.2 := by
 obtain ⟨F, ⟨ca, cb, Fa, Fb, e1, e2, h1, h2⟩, hn, hl⟩ := h
 obtain ⟨ca2, cb2, Fa2, Fb2, e3, e4, h3, h4⟩ := h2
 have h1 : ca = [.int .i64 y.1] ∧ Fa = [] := h1
 have h3 : ca2 = [.int .i64 y.2.1] ∧ Fa2 = [] := h3
 have h5 := h4
 obtain ⟨A, n, c, e5, -⟩ := h5
 obtain ⟨rfl, rfl⟩ := h1
 obtain ⟨rfl, rfl⟩ := h3
 subst e5
 refine ⟨A, n, c, by rw [e1, e3]; rfl, Fb2, h4, ?_, fun k hk => hl k ?_⟩
 · rw [e2, e4] at hn; simpa using hn
 · rw [e2, e4]; simpa using hk
end reachImpl
end
section
namespace pickOwn
open Go.RowKit base ints sig marks app appAt segs shape kindsR kindsW ownL drawX walkMath reachMath reachImpl findW
set_option maxRecDepth 100000
def OwnG (w : World) (lo hi : Nat) (e : TypeId) (s : Sh) (A : Option Addr) (n c : Nat) (D : List (Dat s)) (vs : List Value) (G : Nat → List Nat) : Prop :=
 D.length = n ∧ (∀ k, blk A = some k → k < hi) ∧ w.ownsRow lo e (nc s) (.slice A n c) n vs ∧ (A = none → c = 0) ∧ ((List.range n).flatMap G).Nodup ∧
   ∀ j, j < n → Ow w s (cellsOf (nc s) vs j) (D.getD j (dft s)) (G j) ∧ ∀ q ∈ G j, lo ≤ q ∧ q < hi ∧ some q ≠ blk A
section
variable {w w' : World} {lo hi mid n c N C : Nat} {e e' : TypeId} {s s' : Sh} {A B : Option Addr} {D : List (Dat s)} {D' : List (Dat s')} {vs us : List Value} {G : Nat → List Nat}
theorem named (h : OwnL w lo hi e s A n c D) : ∃ vs G, OwnG w lo hi e s A n c D vs G := by
 obtain ⟨h1, h2, vs, G, h3⟩ := h
 exact ⟨vs, G, h1, h2, h3⟩
theorem OwnG.own (h : OwnG w lo hi e s A n c D vs G) : OwnL w lo hi e s A n c D := ⟨h.1, h.2.1, vs, G, h.2.2⟩
theorem OwnG.keep (h : OwnG w lo hi e s A n c D vs G) (hk : ∀ k, lo ≤ k → k < hi → k < w.heap.size → w'.heap[k]? = w.heap[k]?) (hs : w.heap.size ≤ w'.heap.size) : OwnG w' lo hi e s A n c D vs G := by
 obtain ⟨h1, h2, h3, h4, h5, h6⟩ := h
 refine ⟨h1, h2, ?_, h4, h5, fun j hj => ⟨(h6 j hj).1.keep fun q hq => ?_, (h6 j hj).2⟩⟩
 · refine ⟨h3.1, ?_⟩
   rcases h3.2 with q | ⟨g, cap, cur, e1, hg, hr, q⟩
   · exact .inl q
   · have hlt := (Array.getElem?_eq_some_iff.1 hr).1
     injection e1 with e2 e3 e4
     exact .inr ⟨g, cap, cur, by rw [e2, e4], hg, (hk g hg (h2 g (by rw [e2]; rfl)) hlt).trans hr, q⟩
 · have := (h6 j hj).2 q hq
   exact hk q this.1 this.2.1 ((h6 j hj).1.lt q hq)
theorem OwnG.below (h : OwnG w lo hi e s A n c D vs G) (hb : Below hi w w') : OwnG w' lo hi e s A n c D vs G := h.keep (fun k _ h2 _ => hb.block k h2) hb.size
theorem row_lower (h : w.ownsRow mid e n (.slice A N c) N vs) (hl : lo ≤ mid) : w.ownsRow lo e n (.slice A N c) N vs := by
 refine ⟨h.1, ?_⟩
 rcases h.2 with q | ⟨g, cap, cur, e1, hg, q⟩
 · exact .inl q
 · exact .inr ⟨g, cap, cur, e1, Nat.le_trans hl hg, q⟩
theorem flat_nd {G : Nat → List Nat} : ∀ {n : Nat}, ((List.range n).flatMap G).Nodup ↔ (∀ j, j < n → (G j).Nodup) ∧ ∀ i j, i < n → j < n → i ≠ j → ∀ x ∈ G i, x ∉ G j
 | 0 => ⟨fun _ => ⟨fun j h => by omega, fun i j h => by omega⟩, fun _ => by simp⟩
 | n + 1 => by
   rw [List.range_succ, List.flatMap_append, List.nodup_append, flat_nd]
   simp only [List.flatMap_cons, List.flatMap_nil, List.append_nil]
   constructor
   · rintro ⟨⟨h1, h2⟩, h3, h4⟩
     refine ⟨fun j hj => ?_, fun i j hi hj hne x hx hx' => ?_⟩
     · by_cases e : j = n
       · rw [e]; exact h3
       · exact h1 j (by omega)
     · by_cases e1 : i = n
       · by_cases e2 : j = n
         · omega
         · exact h4 x (List.mem_flatMap.2 ⟨j, List.mem_range.2 (by omega), hx'⟩) x (e1 ▸ hx) rfl
       · by_cases e2 : j = n
         · exact h4 x (List.mem_flatMap.2 ⟨i, List.mem_range.2 (by omega), hx⟩) x (e2 ▸ hx') rfl
         · exact h2 i j (by omega) (by omega) hne x hx hx'
   · rintro ⟨h1, h2⟩
     refine ⟨⟨fun j hj => h1 j (by omega), fun i j hi hj => h2 i j (by omega) (by omega)⟩, h1 n (by omega), fun x hx y hy e => ?_⟩
     obtain ⟨i, hi, hx⟩ := List.mem_flatMap.1 hx
     have hi := List.mem_range.1 hi
     rw [e] at hx
     exact h2 i n (by omega) (by omega) (by omega) y hx hy
theorem flat_inj {n : Nat} {G : Nat → List Nat} {σ : Nat → Nat} (hn : ((List.range N).flatMap G).Nodup) (hσ : ∀ j, j < n → σ j < N) (hi : ∀ i j, i < n → j < n → σ i = σ j → i = j) : ((List.range n).flatMap fun j => G (σ j)).Nodup := by
 rw [flat_nd] at hn ⊢
 exact ⟨fun j hj => hn.1 _ (hσ j hj), fun i j h1 h2 h3 => hn.2 _ _ (hσ i h1) (hσ j h2) fun e => h3 (hi i j h1 h2 e)⟩
theorem pick (h : OwnG w lo mid e s A N C D vs G) (hr : w.ownsRow mid e' (nc s') (.slice B n c) n us) (hB : B = none → c = 0) (hlo : lo ≤ mid) {σ : Nat → Nat} (hσ : ∀ j, j < n → σ j < N) (hi : ∀ i j, i < n → j < n → σ i = σ j → i = j) (hl : D'.length = n)
   (hj : ∀ j, j < n → Ow w s' (cellsOf (nc s') us j) (D'.getD j (dft s')) (G (σ j))) : OwnL w lo w.heap.size e' s' B n c D' := by
 have hlt := World.ownsRow.lt hr
 refine ⟨hl, fun k hk => (hlt k (by rw [blk_own]; exact hk)).2, us, fun j => G (σ j), row_lower hr hlo, hB, flat_inj h.2.2.2.2.1 hσ hi, fun j hjn => ⟨hj j hjn, fun q hq => ?_⟩⟩
 have h6 := (h.2.2.2.2.2 (σ j) (hσ j hjn)).2 q hq
 refine ⟨h6.1, (hj j hjn).lt q hq, fun e1 => ?_⟩
 have := (hlt q (by rw [blk_own]; exact e1.symm)).1
 omega
end
theorem ow_find {w : World} {cs : List Value} {f : Fi} {F : List Nat} (h : Ow w sFind cs (fdat f) F) : ∃ T tn tc, cs = [.int .i64 f.1.1, .int .i64 f.1.2.1, .slice T tn tc, .int .i64 (f.2.1 : Int), .int .i64 (f.2.2 : Int)] ∧
   Ow w sStep [.int .i64 f.1.1, .int .i64 f.1.2.1, .slice T tn tc] f.1 F ∧ Ow w sI [.slice T tn tc] (termF f) F := by
 obtain ⟨ca, cb, Fa, Fb, rfl, rfl, h1, h2⟩ := h
 obtain ⟨cb1, cb2, Fb1, Fb2, rfl, rfl, h3, h4⟩ := h2
 obtain ⟨rfl, rfl⟩ := h3
 obtain ⟨rfl, rfl⟩ := h4
 have h1' := h1
 obtain ⟨ca1, ca2, Fa1, Fa2, rfl, rfl, h5, h6⟩ := h1'
 obtain ⟨rfl, rfl⟩ := h5
 obtain ⟨cc1, cc2, Fc1, Fc2, rfl, rfl, h7, h8⟩ := h6
 obtain ⟨rfl, rfl⟩ := h7
 have h8' := h8
 obtain ⟨T, tn, tc, rfl, h9⟩ := h8'
 refine ⟨T, tn, tc, rfl, ?_, ?_⟩
 · simp only [List.nil_append, List.append_nil] at h1 ⊢; exact h1
 · simp only [List.nil_append, List.append_nil] at h8 ⊢; exact h8
section
variable {w : World} {lo mid on oc : Nat} {O : Option Addr} {L : List Fi} {vs : List Value} {G : Nat → List Nat}
theorem OwnG.find (h : OwnG w lo mid 72 sFind O on oc (L.map fdat) vs G) {i : Nat} {f : Fi} (hf : L[i]? = some f) : ∃ (g : Nat) (T : Option Addr) (tn tc : Nat), O = some ⟨g, 0, none⟩ ∧ on = L.length ∧ lo ≤ g ∧ g < mid ∧ cellsOf 5 vs i = [.int .i64 f.1.1, .int .i64 f.1.2.1, .slice T tn tc, .int .i64 (f.2.1 : Int), .int .i64 (f.2.2 : Int)] ∧
   (w.cell? ⟨g, i * 5, none⟩ = some (.int .i64 f.1.1) ∧ w.cell? ⟨g, i * 5 + 1, none⟩ = some (.int .i64 f.1.2.1) ∧ w.cell? ⟨g, i * 5 + 2, none⟩ = some (.slice T tn tc) ∧ w.cell? ⟨g, i * 5 + 3, none⟩ = some (.int .i64 (f.2.1 : Int)) ∧ w.cell? ⟨g, i * 5 + 4, none⟩ = some (.int .i64 (f.2.2 : Int))) ∧
   Ow w sStep [.int .i64 f.1.1, .int .i64 f.1.2.1, .slice T tn tc] f.1 (G i) ∧ Ow w sI [.slice T tn tc] (termF f) (G i) := by
 obtain ⟨h1, h2, h3, h4, h5, h6⟩ := h
 have hiL : i < L.length := (List.getElem?_eq_some_iff.1 hf).1
 have hon : L.length = on := by simpa using h1
 have hi : i < on := by omega
 have hd : (L.map fdat).getD i (dft sFind) = fdat f := by simp [List.getD, hf]
 have h7 := (h6 i hi).1
 rw [hd] at h7
 obtain ⟨T, tn, tc, e, o1, o2⟩ := ow_find h7
 rcases h3.2 with ⟨-, q⟩ | ⟨g, cap, cur, e1, hg, hr, hn, hm, hs, ht⟩
 · omega
 · injection e1 with e1
   subst e1
   have hcell : ∀ q, q < 5 → w.cell? ⟨g, i * 5 + q, none⟩ = (cellsOf 5 vs i)[q]? := fun q hq => by
     have hb : i * 5 + q < on * 5 := by omega
     rw [Row.cell (t := 72) (cs := cur) hr, ← Array.getElem?_toList]
     unfold cellsOf
     rw [List.getElem?_take, if_pos hq, List.getElem?_drop, ← ht, List.getElem?_take, if_pos (show i * 5 + q < on * nc sFind from hb)]
   have e' : cellsOf 5 vs i = [.int .i64 f.1.1, .int .i64 f.1.2.1, .slice T tn tc, .int .i64 (f.2.1 : Int), .int .i64 (f.2.2 : Int)] := e
   rw [e'] at hcell
   exact ⟨g, T, tn, tc, rfl, hon.symm, hg, h2 g rfl, e', ⟨hcell 0 (by omega), hcell 1 (by omega), hcell 2 (by omega), hcell 3 (by omega), hcell 4 (by omega)⟩, o1, o2⟩
end
theorem wp_appR {w : World} {o : Oper} {a : Act} {K : Act → World → Prop} {Q : Exit → Act → World → Prop} (sx x : Operand) (T e : TypeId) (k : Nat) (z : Value) (bytes : Nat) (hT : Tryz.prog.underlying T = some (.slice e))
   (hI : (Tryz.prog.info? e).map (fun i => (i.zero, i.size, i.bytes)) = some (some z, k, bytes)) (hzc : z.cells.size = k) (hk : 0 < k) (hby : bytes ≤ 4096)
   (ho : o.op = .call { callee := .builtin .append, args := #[sx, x], argTypes := #[T, T] })
   (lo : Nat) (A : Option Addr) (n c : Nat) (vs : List Value) (hs : a.eval sx = .slice A n c) (hown : w.ownsRow lo e k (.slice A n c) n vs)
   (g c2 : Nat) (es : List Value) (hel : es.length = k) (hone : ∀ u ∈ es, u.oneCell' = true) (hx : a.eval x = .slice (some ⟨g, 0, none⟩) 1 c2) (hy : ∀ i, i < es.length → w.cell? ⟨g, i, none⟩ = es[i]?) (hn : n ≤ 1048576) (hlo : lo ≤ w.heap.size)
   (h : ∀ g' c' w', w'.ownsRow lo e k (.slice (some ⟨g', 0, none⟩) (n + 1) c') (n + 1) (vs ++ es) → w.grownBy w' (blk A) → (blk A = some g' ∨ g' = w.heap.size) → Below lo w w' → K (a.put o.dst (.slice (some ⟨g', 0, none⟩) (n + 1) c')) w') : o.wp Tryz.prog a w K Q := by
 obtain ⟨i0, hi, hz0, hz1, hz2⟩ := info_parts hI
 have hcells : ∀ j u, es[j]? = some u → w.cell? ((⟨g, 0, none⟩ : Addr).add j) = some u := fun j u hj => by
   have e2 : (⟨g, 0, none⟩ : Addr).add j = ⟨g, j, none⟩ := by unfold Addr.add; split <;> simp_all
   rw [e2, hy j (List.getElem?_eq_some_iff.1 hj).1, hj]
 obtain ⟨v', w', hrun, hown', hg, _, hat⟩ := run_append_own_at (P := Tryz.prog) w lo T o.type e i0 z k bytes hT hi hz0 hz1 hz2 hzc hk (.slice A n c) n vs hown ⟨g, 0, none⟩ 1 c2 es (by rw [hel]; simp) hcells hone (by unfold maxLen; omega) (by have h1 : (n + 1) * bytes ≤ 1048577 * 4096 := Nat.mul_le_mul (by omega) hby; omega) hlo
 have hform : ∃ g' c', v' = .slice (some ⟨g', 0, none⟩) (n + 1) c' := by
   rcases hown'.2 with ⟨_, h0⟩ | ⟨g', cap, cur, e, _⟩
   · omega
   · exact ⟨_, _, e⟩
 obtain ⟨g', c', rfl⟩ := hform
 rw [blk_own] at hg
 rw [blk_own, blk_own] at hat
 unfold Oper.wp execOp
 simp only [ho, resolve, invoke, builtin, Sem.run_bind, Sem.run_pure, Result.andThen_ok, List.map_toArray, List.map_cons, List.map_nil, hs, hx, hrun]
 refine h g' c' w' hown' hg ?_ ((Below.refl lo w).grown hg hlo (fun k hk => (World.ownsRow.lt hown k (by rw [blk_own]; exact hk)).1))
 rcases hat with e1 | e1
 · exact .inl e1.symm
 · injection e1 with e1; exact .inr e1
theorem appR {w : World} {ops : Array Oper} {rest : List Oper} {o : Oper} {a : Act} {Q : Exit → Act → World → Prop} (hgd : o.guard = none) (sx x : Operand) (T e : TypeId) (k : Nat) (z : Value) (bytes : Nat) (hT : Tryz.prog.underlying T = some (.slice e))
   (hI : (Tryz.prog.info? e).map (fun i => (i.zero, i.size, i.bytes)) = some (some z, k, bytes)) (hzc : z.cells.size = k) (hk : 0 < k) (hby : bytes ≤ 4096)
   (ho : o.op = .call { callee := .builtin .append, args := #[sx, x], argTypes := #[T, T] })
   (lo : Nat) (A : Option Addr) (n c : Nat) (vs : List Value) (hs : a.eval sx = .slice A n c) (hown : w.ownsRow lo e k (.slice A n c) n vs)
   (g c2 : Nat) (es : List Value) (hel : es.length = k) (hone : ∀ u ∈ es, u.oneCell' = true) (hx : a.eval x = .slice (some ⟨g, 0, none⟩) 1 c2) (hy : ∀ i, i < es.length → w.cell? ⟨g, i, none⟩ = es[i]?) (hn : n ≤ 1048576) (hlo : lo ≤ w.heap.size)
   (h : ∀ g' c' w', w'.ownsRow lo e k (.slice (some ⟨g', 0, none⟩) (n + 1) c') (n + 1) (vs ++ es) → w.grownBy w' (blk A) → (blk A = some g' ∨ g' = w.heap.size) → Below lo w w' → wpList Tryz.prog ops Q rest (a.put o.dst (.slice (some ⟨g', 0, none⟩) (n + 1) c')) w') : wpList Tryz.prog ops Q (o :: rest) a w :=
 wpList_plain hgd fun _ hK => wp_appR sx x T e k z bytes hT hI hzc hk hby ho lo A n c vs hs hown g c2 es hel hone hx hy hn hlo fun g' c' w' h1 h2 h3 h4 => hK _ _ (h g' c' w' h1 h2 h3 h4)
section
variable {w : World} {lo hi mid n c N C : Nat} {e e' : TypeId} {s s' : Sh} {A B : Option Addr} {D : List (Dat s)} {D' : List (Dat s')} {vs us : List Value} {G : Nat → List Nat}
theorem pickG (h : OwnG w lo mid e s A N C D vs G) (hr : w.ownsRow mid e' (nc s') (.slice B n c) n us) (hB : B = none → c = 0) (hlo : lo ≤ mid) {σ : Nat → Nat} (hσ : ∀ j, j < n → σ j < N) (hi : ∀ i j, i < n → j < n → σ i = σ j → i = j) (hl : D'.length = n)
   (hj : ∀ j, j < n → Ow w s' (cellsOf (nc s') us j) (D'.getD j (dft s')) (G (σ j))) : OwnG w lo w.heap.size e' s' B n c D' us (fun j => G (σ j)) := by
 have hlt := World.ownsRow.lt hr
 refine ⟨hl, fun k hk => (hlt k (by rw [blk_own]; exact hk)).2, row_lower hr hlo, hB, flat_inj h.2.2.2.2.1 hσ hi, fun j hjn => ⟨hj j hjn, fun q hq => ?_⟩⟩
 have h6 := (h.2.2.2.2.2 (σ j) (hσ j hjn)).2 q hq
 refine ⟨h6.1, (hj j hjn).lt q hq, fun e1 => ?_⟩
 have := (hlt q (by rw [blk_own]; exact e1.symm)).1
 omega
theorem OwnG.ow (h : OwnG w lo hi e s A n c D vs G) : ∃ F, Ow w (.row e s) [.slice A n c] D F ∧ F.Nodup ∧ ∀ q ∈ F, blk A = some q ∨ ∃ j, j < n ∧ q ∈ G j := by
 obtain ⟨h1, h2, h3, h4, h5, h6⟩ := h
 have hl : vs.length = n * nc s := h3.1
 rcases h3.2 with ⟨e1, e2⟩ | ⟨g, cap, cur, e1, hg, hrow, hn, hm, hs, ht⟩
 · injection e1 with a1 a2 a3
   subst a1 a2 a3
   exact ⟨[], ⟨none, 0, 0, rfl, h1, .inl ⟨rfl, rfl, rfl, rfl⟩⟩, by simp, fun k hk => by cases hk⟩
 · injection e1 with a1 a2 a3
   subst a1 a3
   refine ⟨g :: (List.range n).flatMap G, ⟨_, n, c, rfl, h1, .inr ⟨g, cur, cellsOf (nc s) vs, G, rfl, hrow, hn, by unfold maxLen at hm; omega, hs, rfl, fun j hj => ?_⟩⟩, List.nodup_cons.2 ⟨fun hb => ?_, h5⟩, fun k hk => ?_⟩
   · have hjn : j * nc s + nc s ≤ n * nc s := by
       have := Nat.mul_le_mul_right (nc s) (show j + 1 ≤ n by omega)
       rw [Nat.add_mul] at this
       omega
     refine ⟨(h6 j hj).1.len, fun i hi => ?_, (h6 j hj).1⟩
     have h7 : cur.toList[j * nc s + i]? = vs[j * nc s + i]? := by rw [← ht, List.getElem?_take, if_pos (by omega)]
     rw [← Array.getElem?_toList, h7]
     unfold cellsOf
     rw [List.getElem?_take, if_pos hi, List.getElem?_drop]
   · obtain ⟨j, hj, hb⟩ := List.mem_flatMap.1 hb
     exact ((h6 j (List.mem_range.1 hj)).2 g hb).2.2 rfl
   · rcases List.mem_cons.1 hk with hk | hk
     · rw [hk]; exact .inl rfl
     · obtain ⟨j, hj, hb⟩ := List.mem_flatMap.1 hk
       exact .inr ⟨j, List.mem_range.1 hj, hb⟩
end
theorem cells_one {us : List Value} {j : Nat} {u : Value} (h : us[j]? = some u) : cellsOf 1 us j = [u] := by
 unfold cellsOf
 rw [Nat.mul_one]
 refine List.ext_getElem? fun i => ?_
 rw [List.getElem?_take]
 cases i with
 | zero => rw [if_pos (by omega), List.getElem?_drop, Nat.add_zero, h]; rfl
 | succ i => rw [if_neg (by omega)]; rfl
end pickOwn
end
section
namespace delFunc
open Go.RowKit base ints sig marks app appAt sym segs segsHelp inside shape kindsR ownL drawX findW findSpec pickOwn
set_option maxRecDepth 100000
def TestsL (g : Nat) (lb : Array Value) (lo : Nat) (w : World) (f : List Int → Bool) : Prop :=
 ∀ (W : World) (D : Option Addr) (dn dc : Nat) (ys : List Int), Below lo w W → Seg W W.heap.size D dn ys → dn ≤ 1048576 → Cap D dn dc → Calls Tryz.prog g (#[.slice D dn dc] ++ lb) W (Tells W (f ys))
def FstB (f : List Int → Bool) (D : List (List Int)) (z : Int) : Prop := (z = -1 ∧ ∀ j, j < D.length → f (D.getD j []) = false) ∨ ∃ k : Nat, z = (k : Int) ∧ k < D.length ∧ f (D.getD k []) = true ∧ ∀ j, j < k → f (D.getD j []) = false
def AnsFst (w : World) (f : List Int → Bool) (D : List (List Int)) (e : Ending) (w' : World) : Prop := ∃ z : Int, e = .returned (.int .i64 z) ∧ FstB f D z ∧ Below w.heap.size w w'
def HeadFst (w : World) (n : Nat) (f : List Int → Bool) (D : List (List Int)) (i : Value) (wr : World) : Prop := ∃ k : Nat, k ≤ n ∧ i = .int .i64 k ∧ (∀ j, j < k → f (D.getD j []) = false) ∧ Below w.heap.size w wr
set_option maxHeartbeats 2000000 in
theorem indexFst (g : Nat) (lb : Array Value) (eg : ∀ args w, (callFunc g args).run Tryz.prog w = .ok (.enter g args) w) (f : List Int → Bool) (A : Option Addr) (n c lo : Nat) (D : List (List Int)) (w : World) (hT : TestsL g lb lo w f) (hlo : lo ≤ w.heap.size)
   (h : Rd w w.heap.size sTs [.slice A n c] D) (hn : n ≤ 1048576) (hE : ∀ j, (D.getD j []).length ≤ 1048576) :
   Calls Tryz.prog 71 #[.slice A n c, .func (.func g) #[] lb] w (AnsFst w f D) := by
 have HE := Lib.hid hE
 have HL := Lib.hid (rd_ts h)
 have HK := Lib.hid (show TestsL g lb lo w f ∧ lo ≤ w.heap.size from ⟨hT, hlo⟩)
 have HR := Lib.hid h
 have HH : Hid (HeadFst w n f D (.int .i64 0) w) := Lib.hid ⟨0, Nat.zero_le _, rfl, fun j hj => absurd hj (Nat.not_lt_zero _), Below.refl _ _⟩
 clear hE hT h hlo
 go_enter Tryz.func71, Tryz.ntmps71
 go_wp2_with fail
 go_loopw [8] (fun i wr => HeadFst w n f D i wr) (fun i _ => n - (intOf i).toNat)
 case atStart => exact HH.out
 case round =>
   obtain ⟨k, hk, rfl, hlow, hb⟩ := hrel
   have HLOW := Lib.hid hlow
   clear hlow HH
   by_cases hlt : k < n
   · obtain ⟨b, off, A', n', cc, rfl, hbB, hx, hseg, hcap⟩ := rd_term HR.out hb hlt
     have hn' : n' ≤ 1048576 := by rw [← hseg.1]; exact HE.out k
     obtain ⟨ys, hys⟩ : ∃ ys, D.getD k [] = ys := ⟨_, rfl⟩
     rw [hys] at hseg
     have HY := Lib.hid hys
     have hcall := HK.out.1 wr A' n' cc ys (hb.mono HK.out.2) (hseg.more hb.size) hn' hcap
     obtain ⟨v, hv⟩ : ∃ v, f ys = v := ⟨_, rfl⟩
     rw [hv] at hcall
     have HV := Lib.hid hv
     have HC := Lib.hid hcall
     have i0 : (0 : Int) ≤ (k : Int) := by omega
     have i1 : (k : Int) < (n : Int) := by omega
     clear hseg hcap hys hv hcall
     cases v with
     | true =>
       go_wp2_with (first
         | (go_at_fn g; refine HC.out.mono ?_; rintro e w1 ⟨rfl, bb⟩))
       have F : AnsFst w f D (.returned (.int .i64 (k : Int))) w1 := ⟨k, rfl, .inr ⟨k, rfl, by rw [HL.out]; exact hlt, by rw [HY.out]; exact HV.out, HLOW.out⟩, next_trans hb bb⟩
       have HF := Lib.hid F
       clear F hx bb hb HC
       go_wp2
       go_ret
       exact HF.out
     | false =>
       go_wp2_with (first
         | (go_at_fn g; refine HC.out.mono ?_; rintro e w1 ⟨rfl, bb⟩))
       have S1 : HeadFst w n f D (.int .i64 ((k : Int) + 1)) w1 := ⟨k + 1, hlt, by simp, fun j hj => by
         by_cases e : j = k
         · rw [e, HY.out]; exact HV.out
         · exact HLOW.out j (by omega), next_trans hb bb⟩
       have HS1 := Lib.hid S1
       clear S1 hx bb hb HC
       go_wp2
       go_roundw
       case rel => exact HS1.out
       case measure => simp [intOf]; omega
   · have F : AnsFst w f D (.returned (.int .i64 (-1))) wr := ⟨-1, rfl, .inl ⟨rfl, fun j hj => HLOW.out j (by rw [HL.out] at hj; omega)⟩, hb⟩
     have HF := Lib.hid F
     clear F hb
     go_wp2
     go_ret
     exact HF.out
def posn (f : List Int → Bool) (D : List (List Int)) (j : Nat) : List Nat := (List.range j).filter fun k => !f (D.getD k [])
section
variable {f : List Int → Bool} {D : List (List Int)} {j : Nat}
theorem posn_succ : posn f D (j + 1) = posn f D j ++ if f (D.getD j []) = true then [] else [j] := by
 unfold posn
 rw [List.range_succ, List.filter_append]
 congr 1
 rw [List.filter_cons]
 cases f (D.getD j []) <;> rfl
theorem posn_all (h : ∀ k, k < j → f (D.getD k []) = false) : posn f D j = List.range j := by
 unfold posn
 rw [List.filter_eq_self]
 intro k hk
 rw [h k (List.mem_range.1 hk)]; rfl
theorem posn_mem {k : Nat} (h : k ∈ posn f D j) : k < j := List.mem_range.1 (List.mem_filter.1 h).1
theorem posn_nodup : (posn f D j).Nodup := List.Nodup.sublist List.filter_sublist List.nodup_range
theorem filter_posn : D.filter (fun x => !f x) = (posn f D D.length).map fun k => D.getD k [] := by
 unfold posn
 have e : D = (List.range D.length).map fun k => D.getD k [] := by
   refine List.ext_getElem (by simp) fun i h1 h2 => ?_
   simp [List.getD, h1]
 conv => lhs; rw [e]
 rw [List.filter_map]
 rfl
end
structure Dl (w : World) (g0 n c : Nat) (vs : List Value) (Q : List Nat) (i j : Nat) (W : World) : Prop where
 gr : w.grownBy W (some g0)
 len : Q.length = i
 lt : i < j
 row : ∃ cur, Row W g0 24 cur ∧ cur.size = c ∧ (∀ k, j ≤ k → k < n → cur[k]? = vs[k]?) ∧ ∀ k, k < i → cur[k]? = vs[Q.getD k 0]?
theorem Dl.next {w W W' : World} {g0 n c i j : Nat} {vs : List Value} {Q : List Nat} (h : Dl w g0 n c vs Q i j W) (hb : Below W.heap.size W W') : Dl w g0 n c vs Q i j W' := by
 obtain ⟨cur, h1, h2⟩ := h.row
 exact ⟨⟨hb.os.trans h.gr.os, hb.tape.trans h.gr.tape, hb.output.trans h.gr.output, Nat.le_trans h.gr.size hb.size, fun k hk hne => (hb.block k (Nat.lt_of_lt_of_le hk h.gr.size)).trans (h.gr.block k hk hne)⟩, h.len, h.lt, cur, h1.next hb, h2⟩
theorem Dl.skip {w W : World} {g0 n c i j : Nat} {vs : List Value} {Q : List Nat} (h : Dl w g0 n c vs Q i j W) : Dl w g0 n c vs Q i (j + 1) W := by
 obtain ⟨cur, h1, h2, h3, h4⟩ := h.row
 exact ⟨h.gr, h.len, by have := h.lt; omega, cur, h1, h2, fun k hk => h3 k (by omega), h4⟩
theorem Dl.keep {w W : World} {g0 n c i j : Nat} {vs : List Value} {Q : List Nat} {u : Value} (h : Dl w g0 n c vs Q i j W) (hu : vs[j]? = some u) (hj : j < n) (hc : n ≤ c) : Dl w g0 n c vs (Q ++ [j]) (i + 1) (j + 1) (W.setCell ⟨g0, i, none⟩ u) := by
 obtain ⟨cur, h1, h2, h3, h4⟩ := h.row
 have hlt := h.lt
 have gs := grown_set W g0 i u
 refine ⟨⟨gs.os.trans h.gr.os, gs.tape.trans h.gr.tape, gs.output.trans h.gr.output, Nat.le_trans h.gr.size gs.size, fun k hk hne => (gs.block k (Nat.lt_of_lt_of_le hk h.gr.size) hne).trans (h.gr.block k hk hne)⟩, by simp [h.len], by omega, _, h1.put i u, by simpa using h2, fun k hk hkn => ?_, fun k hk => ?_⟩
 · rw [Array.getElem?_setIfInBounds, if_neg (by omega)]
   exact h3 k (by omega) hkn
 · by_cases e : k = i
   · subst e
     rw [Array.getElem?_setIfInBounds, if_pos rfl, if_pos (by omega)]
     have e2 : (Q ++ [j]).getD k 0 = j := by simp [List.getD, ← h.len]
     rw [e2, hu]
   · rw [Array.getElem?_setIfInBounds, if_neg (by omega), h4 k (by omega)]
     have e2 : (Q ++ [j]).getD k 0 = Q.getD k 0 := by simp [List.getD, List.getElem?_append_left (show k < Q.length by rw [h.len]; omega)]
     rw [e2]
theorem set_run {g : Nat} {t : TypeId} : ∀ (vs : List Value) (o : Nat) (W : World) (cur : Array Value), Row W g t cur → ∃ cur', Row (W.setCells g o vs) g t cur' ∧ cur'.size = cur.size ∧ (∀ k, k < o → cur'[k]? = cur[k]?) ∧ W.grownBy (W.setCells g o vs) (some g) ∧ (W.setCells g o vs).heap.size = W.heap.size
 | [], o, W, cur, h => ⟨cur, h, rfl, fun _ _ => rfl, ⟨rfl, rfl, rfl, Nat.le_refl _, fun _ _ _ => rfl⟩, rfl⟩
 | v :: r, o, W, cur, h => by
   obtain ⟨cur', h1, h2, h3, h4, h5⟩ := set_run r (o + 1) (W.setCell ⟨g, o, none⟩ v) _ (h.put o v)
   have gs := grown_set W g o v
   refine ⟨cur', h1, by simpa using h2, fun k hk => ?_, ⟨h4.os.trans gs.os, h4.tape.trans gs.tape, h4.output.trans gs.output, Nat.le_trans gs.size h4.size, fun k hk hne => (h4.block k (Nat.lt_of_lt_of_le hk gs.size) hne).trans (gs.block k hk hne)⟩, h5.trans (by simp)⟩
   rw [h3 k (by omega), Array.getElem?_setIfInBounds, if_neg (by omega)]
theorem Dl.cell {w W : World} {g0 n c i j : Nat} {vs : List Value} {Q : List Nat} (h : Dl w g0 n c vs Q i j W) (hj : j ≤ n) (hc : n ≤ c) : ∃ old, W.cell? ⟨g0, i, none⟩ = some old ∧ W.frozen? ⟨g0, i, none⟩ = false := by
 obtain ⟨cur, h1, h2, -, -⟩ := h.row
 have := h.lt
 exact ⟨cur[i]'(by omega), by rw [h1.cell i]; exact Array.getElem?_eq_getElem _, h1.free i⟩
theorem Dl.done {w W : World} {g0 n c i lo hi : Nat} {vs : List Value} {D : List (List Int)} {f : List Int → Bool} {G : Nat → List Nat} (h : Dl w g0 n c vs (posn f D n) i n W) (o : OwnG w lo hi 24 sI (some ⟨g0, 0, none⟩) n c D vs G) (hc : n ≤ c) (hcm : c ≤ maxLen) (hlo : lo ≤ w.heap.size) :
   OwnL (W.setCells g0 i (List.replicate (n - i) (.slice none 0 0))) lo (W.setCells g0 i (List.replicate (n - i) (.slice none 0 0))).heap.size 24 sI (some ⟨g0, 0, none⟩) i c (D.filter fun x => !f x) ∧ Below lo w (W.setCells g0 i (List.replicate (n - i) (.slice none 0 0))) := by
 obtain ⟨cur, h1, h2, -, h4⟩ := h.row
 obtain ⟨o1, o2, o3, o4, o5, o6⟩ := o
 have hg0 : lo ≤ g0 ∧ g0 < w.heap.size := World.ownsRow.lt o3 g0 rfl
 have hlt := h.lt
 obtain ⟨cur', r1, r2, r3, r4, r5⟩ := set_run (List.replicate (n - i) (Value.slice none 0 0)) i W cur h1
 generalize W.setCells g0 i (List.replicate (n - i) (.slice none 0 0)) = V at r1 r4 r5 ⊢
 have hgr : w.grownBy V (some g0) := ⟨r4.os.trans h.gr.os, r4.tape.trans h.gr.tape, r4.output.trans h.gr.output, Nat.le_trans h.gr.size r4.size, fun k hk hne => (r4.block k (Nat.lt_of_lt_of_le hk h.gr.size) hne).trans (h.gr.block k hk hne)⟩
 have hlen : (D.filter fun x => !f x).length = i := by rw [filter_posn, List.length_map, o1, h.len]
 have hQ : ∀ k, k < i → (posn f D n).getD k 0 < n := fun k hk => by
   have hk2 : k < (posn f D n).length := by rw [h.len]; exact hk
   have e : (posn f D n).getD k 0 = (posn f D n)[k] := by simp [List.getD, hk2]
   rw [e]
   exact posn_mem (List.getElem_mem hk2)
 have hinj : ∀ a b, a < i → b < i → (posn f D n).getD a 0 = (posn f D n).getD b 0 → a = b := fun a b ha hb e => by
   have ha2 : a < (posn f D n).length := by rw [h.len]; exact ha
   have hb2 : b < (posn f D n).length := by rw [h.len]; exact hb
   have e1 : (posn f D n).getD a 0 = (posn f D n)[a] := by simp [List.getD, ha2]
   have e2 : (posn f D n).getD b 0 = (posn f D n)[b] := by simp [List.getD, hb2]
   rw [e1, e2] at e
   have hp := List.pairwise_iff_getElem.1 (posn_nodup (f := f) (D := D) (j := n))
   rcases Nat.lt_trichotomy a b with h3 | h3 | h3
   · exact absurd e (hp _ _ ha2 hb2 h3)
   · exact h3
   · exact absurd e.symm (hp _ _ hb2 ha2 h3)
 refine ⟨⟨hlen, fun k hk => ?_, cur'.toList.take (i * 1), fun k => G ((posn f D n).getD k 0), ⟨by simp [nc]; omega, .inr ⟨g0, c, cur', rfl, hg0.1, r1, by omega, hcm, by show cur'.size = c * 1; omega, rfl⟩⟩, (fun e => by cases e), flat_inj o5 hQ hinj, fun k hk => ⟨?_, fun q hq => ?_⟩⟩, (Below.refl lo w).grown hgr hlo (fun k hk => by injection hk with hk; rw [← hk]; exact hg0.1)⟩
 · injection hk with hk
   rw [← hk]
   exact Nat.lt_of_lt_of_le hg0.2 hgr.size
 · have hq := hQ k hk
   have hvl : vs.length = n := by have := o3.1; simpa [nc] using this
   have hv : vs[(posn f D n).getD k 0]? = some (vs[(posn f D n).getD k 0]'(by omega)) := List.getElem?_eq_getElem _
   have e1 : (cur'.toList.take (i * 1))[k]? = some (vs[(posn f D n).getD k 0]'(by omega)) := by
     rw [List.getElem?_take, if_pos (by omega), Array.getElem?_toList, r3 k hk, h4 k hk, hv]
   have e2 := (o6 _ hq).1
   have e3 : (D.filter fun x => !f x).getD k [] = D.getD ((posn f D n).getD k 0) [] := by
     have hk2 : k < (posn f D n).length := by rw [h.len]; exact hk
     rw [filter_posn, o1]
     simp [List.getD, hk2]
   show Ow V sI (cellsOf 1 _ k) ((D.filter fun x => !f x).getD k []) _
   rw [cells_one e1, e3]
   have e4 : cellsOf (nc sI) vs ((posn f D n).getD k 0) = [vs[(posn f D n).getD k 0]'(by omega)] := cells_one hv
   rw [e4] at e2
   exact e2.keep fun q hq' => hgr.block q (e2.lt q hq') ((o6 _ hq).2 q hq').2.2
 · have h9 := o6 _ (hQ k hk)
   exact ⟨(h9.2 q hq).1, Nat.lt_of_lt_of_le (h9.1.lt q hq) hgr.size, (h9.2 q hq).2.2⟩
set_option maxHeartbeats 4000000 in
theorem delFunc (g : Nat) (lb : Array Value) (eg : ∀ args w, (callFunc g args).run Tryz.prog w = .ok (.enter g args) w) (f : List Int → Bool) (A : Option Addr) (n c lo hi : Nat) (D : List (List Int)) (w : World) (hT : TestsL g lb lo w f)
   (hO : OwnL w lo hi 24 sI A n c D) (hn : n ≤ 1048576) (hE : ∀ j, (D.getD j []).length ≤ 1048576) (hlo : lo ≤ w.heap.size) :
   Calls Tryz.prog 46 #[.slice A n c, .func (.func g) #[] lb] w (fun e w' => ∃ m, e = .returned (.slice A m c) ∧ OwnL w' lo w'.heap.size 24 sI A m c (D.filter fun x => !f x) ∧ Below lo w w') := by
 have LI := Lib.hid (indexFst g lb eg f A n c lo D w hT hlo hO.rd hn hE)
 have HO := Lib.hid (show OwnL w lo hi 24 sI A n c D ∧ TestsL g lb lo w f ∧ lo ≤ w.heap.size ∧ (∀ j, (D.getD j []).length ≤ 1048576) ∧ D.length = n from ⟨hO, hT, hlo, hE, hO.1⟩)
 clear hT hO hE hlo
 go_enter Tryz.func46, Tryz.ntmps46
 go_wp2_with (go_at_call 71; refine LI.out.mono ?_; rintro e w1 ⟨z, rfl, hz, bb⟩; refine (?_ : Hid _).out)
 rcases hz with ⟨rfl, hall⟩ | ⟨k0, rfl, hk0, ht, hlow⟩
 · have F := Lib.hid (show ∃ m, (Ending.returned (.slice A n c)) = .returned (.slice A m c) ∧ OwnL w1 lo w1.heap.size 24 sI A m c (D.filter fun x => !f x) ∧ Below lo w w1 from by
     refine ⟨n, rfl, ?_, bb.mono HO.out.2.2.1⟩
     have e : (D.filter fun x => !f x) = D := by
       rw [List.filter_eq_self]
       intro x hx
       obtain ⟨i, hi, rfl⟩ := List.getElem_of_mem hx
       have := hall i hi
       simp only [List.getD, List.getElem?_eq_getElem hi, Option.getD_some] at this
       rw [this]; rfl
     rw [e]
     exact ⟨(HO.out.1.next bb).1, fun k hk => Nat.lt_of_lt_of_le (HO.out.1.ge k hk).2 bb.size, by
       obtain ⟨-, -, vs, G, h3, h4, h5, h6⟩ := HO.out.1.next bb
       exact ⟨vs, G, h3, h4, h5, fun j hj => ⟨(h6 j hj).1, fun q hq => ⟨((h6 j hj).2 q hq).1, (h6 j hj).1.lt q hq, ((h6 j hj).2 q hq).2.2⟩⟩⟩⟩)
   clear hall bb LI
   refine Lib.hid ?_
   go_wp2
   go_ret
   exact F.out
 · obtain ⟨vs, G, oG⟩ := named HO.out.1
   have o3 := oG.2.2.1
   have hnn : 0 < n := by have := HO.out.2.2.2.2; omega
   rcases o3.2 with ⟨-, h0⟩ | ⟨g0, cap, cur, e1, hg, hrow, hnc, hcm, hcs, htk⟩
   · omega
   injection e1 with e1 e2 e3
   subst e1 e3
   have hvl : vs.length = n := by have := o3.1; simpa [nc] using this
   have hcv : ∀ k, k < n → cur[k]? = vs[k]? := fun k hk => by
     rw [← htk, List.getElem?_take, if_pos (by simp [nc]; omega), Array.getElem?_toList]
   have hp0 : posn f D (k0 + 1) = List.range k0 := by rw [posn_succ, if_pos ht, List.append_nil, posn_all hlow]
   have D0 := Lib.hid (show Dl w g0 n c vs (posn f D (k0 + 1)) k0 (k0 + 1) w1 from
     ⟨⟨bb.os, bb.tape, bb.output, bb.size, fun k hk _ => bb.block k hk⟩, by rw [hp0, List.length_range], Nat.lt_succ_self _, cur, Row.next hrow bb, by rw [hcs]; show c * 1 = c; omega, fun k _ hk => hcv k hk, fun k hk => by rw [hp0, hcv k (by have := HO.out.2.2.2.2; omega)]; simp [List.getD, hk]⟩)
   have HG := Lib.hid (show OwnG w lo hi 24 sI (some ⟨g0, 0, none⟩) n c D vs G ∧ n ≤ c ∧ c ≤ maxLen ∧ vs.length = n from ⟨oG, hnc, hcm, hvl⟩)
   have HT := Lib.hid (show TestsL g lb lo w f ∧ lo ≤ w.heap.size ∧ (∀ j, (D.getD j []).length ≤ 1048576) ∧ D.length = n ∧ lo ≤ g0 from ⟨HO.out.2.1, HO.out.2.2.1, HO.out.2.2.2.1, HO.out.2.2.2.2, hg⟩)
   have hk1 : k0 + 1 ≤ n := by have := HO.out.2.2.2.2; omega
   have kne : ¬ ((k0 : Int) = -1) := by omega
   clear hlow bb LI HO oG o3 hrow hcs htk hcv hp0 hvl ht hk0 hg hcm
   refine Lib.hid ?_
   go_wp2_with fail
   go_loopg [5, 6, 7] (n - (k0 + 1)) (fun gg s5 s6 s7 wr => ∃ (i j : Nat) (Q : List Nat), s5 = .int .i64 (i : Int) ∧ s6 = .int .i64 (j : Int) ∧ j + gg = n ∧ Q = posn f D j ∧ Dl w g0 n c vs Q i j wr)
   case atStart => exact ⟨k0, k0 + 1, _, rfl, by simp, by omega, rfl, D0.out⟩
   case round =>
     clear D0
     obtain ⟨i, j, Q, rfl, rfl, hgj, hQ, HDl⟩ := hrel
     have hij := HDl.lt
     by_cases hj : j < n
     · have hbel : Below lo w wr := (Below.refl lo w).grown HDl.gr HT.out.2.1 (fun k hk => by injection hk with hk; rw [← hk]; exact HT.out.2.2.2.2)
       obtain ⟨cur2, q1, q2, q3, -⟩ := HDl.row
       have oj := HG.out.1.2.2.2.2.2 j hj
       have hv : vs[j]? = some (vs[j]'(by rw [HG.out.2.2.2]; exact hj)) := List.getElem?_eq_getElem _
       have e4 : cellsOf (nc sI) vs j = [vs[j]'(by rw [HG.out.2.2.2]; exact hj)] := cells_one hv
       have oj1 := oj.1
       rw [e4] at oj1
       have oW : Ow wr sI [vs[j]'(by rw [HG.out.2.2.2]; exact hj)] (D.getD j []) (G j) := oj1.keep fun q hq => HDl.gr.block q (oj1.lt q hq) (oj.2 q hq).2.2
       obtain ⟨U, un, uc, eU, hU, hcU⟩ := rd_ints.1 oW.rd
       rw [eU] at hv
       obtain ⟨y, hy⟩ : ∃ y, D.getD j [] = y := ⟨_, rfl⟩
       rw [hy] at hU
       have hyl : un ≤ 1048576 := by rw [← hU.1, ← hy]; exact HT.out.2.2.1 j
       have kj : wr.cell? ⟨g0, j, none⟩ = some (.slice U un uc) := by rw [q1.cell j, q3 j (Nat.le_refl _) hj, hv]
       have hcall := HT.out.1 wr U un uc y hbel hU hyl hcU
       obtain ⟨b, hb⟩ : ∃ b, f y = b := ⟨_, rfl⟩
       rw [hb] at hcall
       have HC := Lib.hid hcall
       have HX := Lib.hid (show Dl w g0 n c vs Q i j wr ∧ j + gk = n ∧ Q = posn f D j ∧ f (D.getD j []) = b ∧ vs[j]? = some (.slice U un uc) from ⟨HDl, hgj, hQ, by rw [hy]; exact hb, hv⟩)
       have i0 : (0 : Int) ≤ (j : Int) := by omega
       have i1 : (j : Int) < (n : Int) := by omega
       have i2 : (0 : Int) ≤ (i : Int) := by omega
       have i3 : (i : Int) < (n : Int) := by omega
       clear hbel q1 q2 q3 oj hv e4 oj1 oW eU hU hy hcall hb HDl hgj hQ cur2 hcU
       cases b with
       | false =>
         go_wp2_with (go_at_fn g; refine HC.out.mono ?_; rintro e w5 ⟨rfl, bb⟩; have D5 := HX.out.1.next bb; obtain ⟨old, ko, fo⟩ := D5.cell (by omega) HG.out.2.1)
         have F := Lib.hid (show Dl w g0 n c vs (posn f D (j + 1)) (i + 1) (j + 1) (w5.setCell ⟨g0, i, none⟩ (.slice U un uc)) from by rw [posn_succ, HX.out.2.2.2.1, if_neg (by simp), ← HX.out.2.2.1]; exact D5.keep HX.out.2.2.2.2 hj HG.out.2.1)
         have G1 := Lib.hid HX.out.2.1
         clear D5 ko fo bb HC HX kj
         go_wp2
         go_roundg (gk - 1)
         case measure => have := G1.out; omega
         case rel => exact ⟨i + 1, j + 1, _, by simp, by simp, by have := G1.out; omega, rfl, F.out⟩
       | true =>
         go_wp2_with (go_at_fn g; refine HC.out.mono ?_; rintro e w5 ⟨rfl, bb⟩)
         have F := Lib.hid (show Dl w g0 n c vs (posn f D (j + 1)) i (j + 1) w5 from by rw [posn_succ, HX.out.2.2.2.1, if_pos rfl, List.append_nil, ← HX.out.2.2.1]; exact (HX.out.1.next bb).skip)
         have G1 := Lib.hid HX.out.2.1
         clear bb HC HX kj
         go_wp2
         go_roundg (gk - 1)
         case measure => have := G1.out; omega
         case rel => exact ⟨i, j + 1, _, rfl, by simp, by have := G1.out; omega, rfl, F.out⟩
     · obtain rfl : j = n := by omega
       have i1 : ¬ (j : Int) < (j : Int) := by omega
       obtain ⟨cur2, q1, q2, -, -⟩ := HDl.row
       have hcl : ∀ ty, (Builtin.clear_ #[32] ty #[.slice (some ⟨g0, i, none⟩) (j - i) (c - i)]).run Tryz.prog wr = .ok (.tuple #[]) (wr.setCells g0 i (List.replicate (j - i) (.slice none 0 0))) := fun ty =>
         Lib.run_clear_slice wr _ _ ty _ Tryz.underlying32 Tryz.zeroValue24 rfl rfl g0 i _ _ (by omega) (fun t ht => by rw [q1.cell]; rw [Array.getElem?_eq_getElem (by have := HG.out.2.1; omega)]; rfl) (fun t ht => q1.free _)
       subst hQ
       have F := Lib.hid (HDl.done HG.out.1 HG.out.2.1 HG.out.2.2.1 HT.out.2.1)
       have i2 : (0 : Int) ≤ (i : Int) := by omega
       have i3 : (i : Int) ≤ (j : Int) := by omega
       have hjc : j ≤ c := HG.out.2.1
       clear q1 q2 HDl HT HG
       go_wp2
       go_ret
       exact ⟨i, rfl, F.out⟩
end delFunc
end
section
namespace reachSpec
open Go.RowKit base ints sig term termOk termFacts marks app sub varsOf appAt sym segs segsHelp kinds same shifted shape kindsR kindsW ruleMath ruleSpec stepMath stepSpec ownL drawX walkMath stepsMath reachMath findW findSpec heldT longest
set_option maxRecDepth 100000
def AnsTs (w : World) (D : List (List Int)) (b : Bool) (e : Ending) (w' : World) : Prop := ∃ A n c, e = .returned (.tuple #[.slice A n c, .bool b]) ∧ Owned w' w.heap.size w'.heap.size sTs [.slice A n c] D ∧ Below w.heap.size w w'
theorem reach_no {sg : List Int} {rs : List Rl} {t : List Int} {x : Int} (h : right9 sg rs t x = false) : reachI sg rs t x = [] ∧ allI sg rs t x = false := ⟨by unfold reachI; rw [if_neg (by rw [h]; simp)], by unfold allI; rw [h]; rfl⟩
theorem reach_yes {sg : List Int} {rs : List Rl} {t : List Int} {n : Nat} (h : right9 sg rs t (n : Int) = true) : reachI sg rs t (n : Int) = termsF (fdA sg rs t n).1 ∧ allI sg rs t (n : Int) = (fdA sg rs t n).2 := ⟨by unfold reachI; rw [if_pos h, Int.toNat_natCast], by unfold allI; rw [h, Int.toNat_natCast]; rfl⟩
theorem parts_found {w : World} {B : Nat} {T P Y E : Option Addr} {tn tc pn pc yn yc en ec : Nat} {b : Bool} {S : Fs} (h : Rd w B sFound [.slice T tn tc, .slice P pn pc, .slice Y yn yc, .slice E en ec, .bool b] (fdD S)) :
   Rd w B sTs [.slice T tn tc] (termsF S.1) ∧ Rd w B sI [.slice P pn pc] (fromD S.1) ∧ Rd w B sStepS [.slice Y yn yc] (byD S.1) ∧ Rd w B sI [.slice E en ec] (deepD S.1) := by
 obtain ⟨h1, h2⟩ := Rd.split (ca := [.slice T tn tc]) (cb := [.slice P pn pc, .slice Y yn yc, .slice E en ec, .bool b]) h rfl
 obtain ⟨h3, h4⟩ := Rd.split (ca := [.slice P pn pc]) (cb := [.slice Y yn yc, .slice E en ec, .bool b]) h2 rfl
 obtain ⟨h5, h6⟩ := Rd.split (ca := [.slice Y yn yc]) (cb := [.slice E en ec, .bool b]) h4 rfl
 obtain ⟨h7, h8⟩ := Rd.split (ca := [.slice E en ec]) (cb := [.bool b]) h6 rfl
 exact ⟨h1, h3, h5, h7⟩
theorem termsF_len (L : List Fi) : (termsF L).length = L.length := List.length_map ..
theorem fd_small {sg : List Int} {rs : List Rl} {t : List Int} {n : Nat} (h : rightB sg rs t = true) : (fdA sg rs t n).1.length ≤ 60 ∧ ∀ k, ((termsF (fdA sg rs t n).1).getD k []).length ≤ 1048576 := ⟨fd_inv.len60, small_terms h fd_inv⟩
end reachSpec
end
section
namespace kindsT
open Go.RowKit base ints sig cursor marks app sym appAt segs segsHelp segsMark kinds shape
set_option maxRecDepth 100000
abbrev sInt64SS : Sh := .row 24 sI
end kindsT
end
section
namespace normsSpec
open Go.RowKit base ints sig term termOk termFacts marks app sub varsOf appAt sym segs segsHelp kinds same shifted shape kindsR kindsW ruleMath ruleSpec stepMath stepSpec ownL drawX walkMath stepsMath reachMath findW findSpec heldT longest reachSpec
set_option maxRecDepth 100000
theorem rd_off {w : World} {B g : Nat} {t : TypeId} (hg : Row w g t #[]) : ∀ {s : Sh} {cs : List Value} {d : Dat s}, Rd w B s cs d → RdQ w (fun b => b < B ∧ b ≠ g) s cs d
 | .num, _, _, h => h
 | .bit, _, _, h => h
 | .row _ s, _, _, h => by
   obtain ⟨A, n, c, e, hc, hl, h1⟩ := h
   refine ⟨A, n, c, e, hc, hl, fun h0 => ?_⟩
   obtain ⟨b, off, e1, hb, h2⟩ := h1 h0
   refine ⟨b, off, e1, ⟨hb, fun eg => ?_⟩, fun j hj => ?_⟩
   · subst eg
     obtain ⟨es, hel, hp, -⟩ := h2 0 h0
     have h3 := hp 0 (by rw [hel]; exact nc_pos s)
     rw [hg.cell] at h3
     have h4 : 0 < es.length := by rw [hel]; exact nc_pos s
     rw [List.getElem?_eq_getElem h4] at h3
     simp at h3
   · obtain ⟨es, hel, hp, hr⟩ := h2 j hj
     exact ⟨es, hel, hp, rd_off hg hr⟩
 | .cat a b, _, _, h => by
   obtain ⟨ca, cb, e, h1, h2⟩ := h
   exact ⟨ca, cb, e, rd_off hg h1, rd_off hg h2⟩
theorem norms_no {sg : List Int} {rs : List Rl} {t : List Int} {x : Int} (h : right9 sg rs t x = false) : normsI sg rs t x = [] := by unfold normsI; rw [(reach_no h).1]; rfl
theorem filter_step {P : List Int → Bool} {L : List (List Int)} {i : Nat} {b : Bool} (hi : i < L.length) (hb : P (L.getD i []) = b) : (L.take (i + 1)).filter P = (L.take i).filter P ++ if b = true then [L.getD i []] else [] := by
 rw [List.take_succ_eq_append_getElem hi, List.filter_append]
 have e : L.getD i [] = L[i] := by simp [List.getD, hi]
 rw [e] at hb ⊢
 cases b with
 | true => simp [hb]
 | false => simp [hb]
structure Nm (w : World) (a v : Value) (vB fb : Nat) (fs : Array Value) (T : Value) (L : List (List Int)) (P : List Int → Bool) (i b on oc : Nat) (wr : World) : Prop where
 sys : Row wr w.heap.size 29 #[a, v]
 fnd : Row wr fb 74 fs
 rd : RdQ wr (NotIn wr fun k => k = w.heap.size + 1 ∨ vB ≤ k) sTs [T] L
 o : OwnL wr (w.heap.size + 1) wr.heap.size 24 sI (some ⟨b, 0, none⟩) on oc ((L.take i).filter P)
 at_ : b = w.heap.size + 1 ∨ vB ≤ b
 bel : Below w.heap.size w wr
 z : fb < vB ∧ w.heap.size + 1 < fb ∧ vB ≤ wr.heap.size
theorem Nm.next {w : World} {a v : Value} {vB fb : Nat} {fs : Array Value} {T : Value} {L : List (List Int)} {P : List Int → Bool} {i b on oc : Nat} {wr w' : World} (h : Nm w a v vB fb fs T L P i b on oc wr) (hb : Below wr.heap.size wr w') : Nm w a v vB fb fs T L P i b on oc w' :=
 ⟨h.sys.next hb, h.fnd.next hb, notIn_below h.rd hb, (h.o.next hb).wider (Nat.le_refl _) hb.size, h.at_, next_trans h.bel hb, ⟨h.z.1, h.z.2.1, Nat.le_trans h.z.2.2 hb.size⟩⟩
set_option maxHeartbeats 4000000 in
theorem specNormalsOf (a v u : Value) (d : Dat sSystem) (t : List Int) (x : Int) (w : World) (h : Rd w w.heap.size sSystem [a, v] d) (ht : Rd w w.heap.size sI [u] t) (hz : sz sSystem d ≤ 1048576) (hz' : sz sI t ≤ 1048576) :
   Calls Tryz.prog 23 #[.agg #[a, v], u, .int .i64 x] w (Copy1 w sTs (normsI d.1 d.2 t x)) := by
 obtain ⟨T, m, c, rfl, hT, hcT⟩ := rd_ints.1 ht
 have hm := len_ints hT.1 hz'
 obtain ⟨W, hW, rA, rO, bel⟩ := box2 w 29 24 #[a, v] #[]
 have HW := Lib.hid hW
 have L1 := Lib.hid (l9Right a v d T m c t x W (h.next bel) hz (hT.next bel) hm)
 have HH := Lib.hid (show Rd w w.heap.size sSystem [a, v] d ∧ Rd w w.heap.size sI [.slice T m c] t ∧ sz sSystem d ≤ 1048576 from ⟨h, ht, hz⟩)
 have oL : OwnL W (w.heap.size + 1) W.heap.size 24 sI (some ⟨w.heap.size + 1, 0, none⟩) 0 0 [] := by
   rw [hW]
   have := OwnL.empty (lo := w.heap.size + 1) (hi := ((w.alloc (.cells #[a, v] 29)).alloc (.cells #[] 24)).heap.size) (w.alloc (.cells #[a, v] 29)) 24 sI (by simp) (by simp)
   simpa using this
 have HO := Lib.hid (show OwnL W (w.heap.size + 1) W.heap.size 24 sI (some ⟨w.heap.size + 1, 0, none⟩) 0 0 [] ∧ Row W w.heap.size 29 #[a, v] ∧ Row W (w.heap.size + 1) 24 #[] ∧ Below w.heap.size w W from ⟨oL, rA, rO, bel⟩)
 clear hW h ht hz hT hcT oL rA rO bel
 cases ok : right9 d.1 d.2 t x with
 | false =>
   have HN := Lib.hid (norms_no ok)
   rw [ok] at L1
   clear ok
   go_enter Tryz.func23, Tryz.ntmps23
   go_wp2_with fail
   rw [← HW.out]
   refine L1.out.mono ?_
   rintro e w1 ⟨rfl, bb⟩
   have F := Lib.hid (show Copy1 w sTs (normsI d.1 d.2 t x) (.returned (.slice (some ⟨w.heap.size + 1, 0, none⟩) 0 0)) w1 from
     ⟨_, _, _, rfl, by rw [HN.out]; exact (HO.out.1.next bb).owned.wider (Nat.le_succ _) bb.size, next_trans HO.out.2.2.2 bb⟩)
   clear bb L1 HW
   go_wp2
   go_ret
   exact F.out
 | true =>
   obtain ⟨q1, q2, q3⟩ := r9_parts ok
   obtain ⟨n, rfl⟩ : ∃ n : Nat, x = (n : Int) := ⟨x.toNat, by omega⟩
   have HN := Lib.hid (show normsI d.1 d.2 t (n : Int) = (termsF (fdA d.1 d.2 t n).1).filter (normalB d.1 d.2) from by unfold normsI; rw [(reach_yes ok).1])
   rw [ok] at L1
   have hn : n ≤ 20 := by omega
   have HQ := Lib.hid q1
   clear ok q1 q2 q3
   go_enter Tryz.func23, Tryz.ntmps23
   go_wp2_with fail
   rw [← HW.out]
   refine L1.out.mono ?_
   rintro e w1 ⟨rfl, bb⟩
   have k0 : w1.cell? ⟨w.heap.size, 0, none⟩ = some a := (HO.out.2.1.next bb).cell 0
   have k1 : w1.cell? ⟨w.heap.size, 1, none⟩ = some v := (HO.out.2.1.next bb).cell 1
   have b1 := next_trans HO.out.2.2.2 bb
   have LF := Lib.hid (l9Find a v (.slice T m c) d t n w1 (HH.out.1.next b1) (HH.out.2.1.next b1) HH.out.2.2 HQ.out hn)
   have B1 := Lib.hid (show OwnL w1 (w.heap.size + 1) w1.heap.size 24 sI (some ⟨w.heap.size + 1, 0, none⟩) 0 0 [] ∧ Row w1 w.heap.size 29 #[a, v] ∧ Row w1 (w.heap.size + 1) 24 #[] ∧ Below w.heap.size w w1 from ⟨(HO.out.1.next bb).wider (Nat.le_refl _) bb.size, HO.out.2.1.next bb, HO.out.2.2.1.next bb, b1⟩)
   clear bb L1 HW b1 HO
   go_wp2_with fail
   refine LF.out.mono ?_
   rintro e w2 ⟨T2, tn, tc, P, pn, pc, Y, yn, yc, E, en, ec, rfl, hR, bb⟩
   obtain ⟨S, hS⟩ : ∃ S, fdA d.1 d.2 t n = S := ⟨_, rfl⟩
   have hsm := fd_small (n := n) HQ.out
   rw [hS] at hR hsm HN
   rw [hS]
   obtain ⟨hT2, -⟩ := parts_found hR
   have htl : (termsF S.1).length = tn := rd_ts hT2
   have htn : tn ≤ 60 := by rw [← htl, termsF_len]; exact hsm.1
   obtain ⟨fs, hfs⟩ : ∃ fs : Array Value, fs = #[.slice T2 tn tc, .slice P pn pc, .slice Y yn yc, .slice E en ec, .bool S.2] := ⟨_, rfl⟩
   obtain ⟨V, hV⟩ : ∃ V, V = w2.alloc (.cells #[.slice T2 tn tc, .slice P pn pc, .slice Y yn yc, .slice E en ec, .bool S.2] 74) := ⟨_, rfl⟩
   have bV : Below w2.heap.size w2 V := by rw [hV]; exact (Below.refl _ _).alloc (Nat.le_refl _) _
   have rV : Row V w2.heap.size 74 fs := by rw [hV, hfs]; exact Row.new _ _ _
   have zV : V.heap.size = w2.heap.size + 1 := by rw [hV]; simp
   have zw : w.heap.size + 1 < w2.heap.size := Nat.lt_of_lt_of_le B1.out.2.2.1.lt bb.size
   have hrd : RdQ V (NotIn V fun k => k = w.heap.size + 1 ∨ V.heap.size ≤ k) sTs [.slice T2 tn tc] (termsF S.1) :=
     (rd_off ((B1.out.2.2.1.next bb).next bV) (hT2.next bV)).mono fun k hk => ⟨hk.1, fun h => by rcases h with h | h <;> omega⟩
   have N0 := Lib.hid (show Nm w a v V.heap.size w2.heap.size fs (.slice T2 tn tc) (termsF S.1) (normalB d.1 d.2) 0 (w.heap.size + 1) 0 0 V from
     ⟨(B1.out.2.1.next bb).next bV, rV, hrd, ((B1.out.1.next bb).next bV).wider (Nat.le_refl _) (Nat.le_trans bb.size bV.size), .inl rfl, next_trans (next_trans B1.out.2.2.2 bb) bV, ⟨by omega, zw, Nat.le_refl _⟩⟩)
   have HV := Lib.hid (show V = w2.alloc (.cells #[.slice T2 tn tc, .slice P pn pc, .slice Y yn yc, .slice E en ec, .bool S.2] 74) ∧ (termsF S.1).length = tn ∧ tn ≤ 60 ∧ (∀ k, ((termsF S.1).getD k []).length ≤ 1048576) from ⟨hV, htl, htn, hsm.2⟩)
   have HF := Lib.hid hfs
   clear hR hS hsm bb B1 hT2 htl htn rV LF k0 k1 bV hV zV zw hrd hfs
   go_wp2_with fail
   rw [← HV.out.1]
   go_loopg [7, 9] tn (fun g o_ i_ wr => ∃ (i b on oc : Nat), o_ = .slice (some ⟨b, 0, none⟩) on oc ∧ i_ = .int .i64 (i : Int) ∧ i + g = tn ∧ Nm w a v V.heap.size w2.heap.size fs (.slice T2 tn tc) (termsF S.1) (normalB d.1 d.2) i b on oc wr)
   case atStart => exact ⟨0, _, 0, 0, rfl, rfl, by omega, N0.out⟩
   case round =>
     clear N0
     obtain ⟨i, b, on, oc, rfl, rfl, hg, N⟩ := hrel
     have c0 : wr.cell? ⟨w2.heap.size, 0, none⟩ = some (.slice T2 tn tc) := by rw [N.fnd.cell 0, HF.out]; rfl
     by_cases hi : i < tn
     · obtain ⟨tb, toff, U, un, uc, rfl, htb, ct, hU, hcU⟩ := rd_term (notIn_rd N.rd) (Below.refl _ _) hi
       obtain ⟨y, hy⟩ : ∃ y, (termsF S.1).getD i [] = y := ⟨_, rfl⟩
       rw [hy] at hU
       have hyl : y.length ≤ 1048576 := by rw [← hy]; exact HV.out.2.2.2 i
       have hun : un ≤ 1048576 := by rw [← hU.1]; exact hyl
       obtain ⟨bv, hbv⟩ : ∃ b, normalB d.1 d.2 y = b := ⟨_, rfl⟩
       have hst := filter_step (P := normalB d.1 d.2) (L := termsF S.1) (i := i) (b := bv) (by rw [HV.out.2.1]; exact hi) (by rw [hy]; exact hbv)
       rw [hy] at hst
       have ND := N.next (drew_below wr)
       have LN := Lib.hid (specNormalIn a v (.slice U un uc) d y wr.drew (HH.out.1.next N.bel.drew) (rd_ints.2 ⟨U, un, uc, rfl, hU.drew, hcU⟩) HH.out.2.2 (by rw [sz_ints]; exact hyl))
       rw [hbv] at LN
       have HN2 := Lib.hid (show Nm w a v V.heap.size w2.heap.size fs (.slice (some ⟨tb, toff, none⟩) tn tc) (termsF S.1) (normalB d.1 d.2) i b on oc wr.drew ∧ Seg wr.drew wr.drew.heap.size U un y ∧ Cap U un uc ∧ (List.take (i + 1) (termsF S.1)).filter (normalB d.1 d.2) = (List.take i (termsF S.1)).filter (normalB d.1 d.2) ++ (if bv = true then [y] else []) ∧ i + gk = tn ∧ tb < wr.drew.heap.size from ⟨ND, hU.drew, hcU, hst, hg, htb⟩)
       have k0 : wr.cell? ⟨w.heap.size, 0, none⟩ = some a := N.sys.cell 0
       have k1 : wr.cell? ⟨w.heap.size, 1, none⟩ = some v := N.sys.cell 1
       have i0 : (0 : Int) ≤ (i : Int) := by omega
       have i1 : (i : Int) < (tn : Int) := by omega
       have htn60 : tn ≤ 60 := HV.out.2.2.1
       have hon : on ≤ 60 := by
         have h1 := N.o.1
         rw [← h1]
         have h2 := List.length_filter_le (normalB d.1 d.2) (List.take i (termsF S.1))
         rw [List.length_take] at h2
         have := HV.out.2.2.1
         omega
       clear hU hcU hst ND N hg hbv htb hy
       go_wp2_with fail
       go_region_held3 (fun w' => w'.cell? ⟨w.heap.size, 0, none⟩ = some a ∧ w'.cell? ⟨w.heap.size, 1, none⟩ = some v ∧ w'.cell? ⟨w2.heap.size, 0, none⟩ = some (.slice (some ⟨tb, toff, none⟩) tn tc) ∧ w'.cell? ⟨tb, toff + i, none⟩ = some (.slice U un uc))
         (go_keep)
         (first
           | (go_at_call 47; refine LN.out.mono ?_; rintro e w5 ⟨rfl, bb⟩; have s0 : w5.cell? ⟨w.heap.size, 0, none⟩ = some a := (HN2.out.1.sys.next bb).cell 0; have s1 : w5.cell? ⟨w.heap.size, 1, none⟩ = some v := (HN2.out.1.sys.next bb).cell 1; have s2 : w5.cell? ⟨w2.heap.size, 0, none⟩ = some (.slice (some ⟨tb, toff, none⟩) tn tc) := (by rw [(HN2.out.1.fnd.next bb).cell 0, HF.out]; rfl); have s3 : w5.cell? ⟨tb, toff + i, none⟩ = some (.slice U un uc) := (bb.cell (p := ⟨tb, toff + i, none⟩) HN2.out.2.2.2.2.2).trans ct))
       cases bv with
       | false =>
         have F := Lib.hid (show Nm w a v V.heap.size w2.heap.size fs (.slice (some ⟨tb, toff, none⟩) tn tc) (termsF S.1) (normalB d.1 d.2) (i + 1) b on oc w5 from
           ⟨HN2.out.1.sys.next bb, HN2.out.1.fnd.next bb, notIn_below HN2.out.1.rd bb, by have h := (HN2.out.1.o.next bb).wider (Nat.le_refl _) bb.size; rw [HN2.out.2.2.2.1, if_neg (by simp), List.append_nil]; exact h, HN2.out.1.at_, next_trans HN2.out.1.bel bb, ⟨HN2.out.1.z.1, HN2.out.1.z.2.1, Nat.le_trans HN2.out.1.z.2.2 bb.size⟩⟩)
         have G := Lib.hid HN2.out.2.2.2.2.1
         clear bb LN HN2 s0 s1 s2 s3 k0 k1 c0 ct
         go_wp2
         go_roundg (gk - 1)
         case measure => have := G.out; omega
         case rel => exact ⟨i + 1, b, on, oc, rfl, by simp, by have := G.out; omega, F.out⟩
       | true =>
         have LC := Lib.hid (copyInts U un uc y w5 (HN2.out.2.1.next bb) HN2.out.2.2.1.2.2 hun)
         have N5 := Lib.hid (HN2.out.1.next bb)
         have hst := HN2.out.2.2.2.1
         rw [if_pos rfl] at hst
         have G := Lib.hid (show i + gk = tn ∧ (List.take (i + 1) (termsF S.1)).filter (normalB d.1 d.2) = (List.take i (termsF S.1)).filter (normalB d.1 d.2) ++ [y] from ⟨HN2.out.2.2.2.2.1, hst⟩)
         clear bb LN HN2 k0 k1 c0 ct hst
         go_wp2_with fail
         refine LC.out.mono ?_
         rintro e w6 ⟨X, xn, xc, rfl, oX, bb⟩
         have z6 := bb.size
         have b3 : Below w6.heap.size w6 (w6.alloc (.cells #[.slice X xn xc] 24)) := (Below.refl _ _).alloc (Nat.le_refl _) _
         have zz := N5.out.z
         have HAPP := Lib.hid (show OwnL (w6.alloc (.cells #[.slice X xn xc] 24)) (w.heap.size + 1) w5.heap.size 24 sI (some ⟨b, 0, none⟩) on oc ((List.take i (termsF S.1)).filter (normalB d.1 d.2)) ∧ OwnL (w6.alloc (.cells #[.slice X xn xc] 24)) w5.heap.size (w6.heap.size + 1) 24 sI (some ⟨w6.heap.size, 0, none⟩) 1 1 [y] from
           ⟨(N5.out.o.next bb).next b3, OwnL.single (e := 24) (s := sI) (Row.new w6 24 #[.slice X xn xc]) (((ow_ints (lo := w5.heap.size) (hi := w6.heap.size)).2 (Ownd.of_own oX)).next b3) (Nat.le_refl _) bb.size⟩)
         have N7 := Lib.hid ((N5.out.next bb).next b3)
         clear oX bb LC N5 s0 s1 s2 s3 b3
         go_wp2_with (at_builtin; refine appLm rfl _ _ 32 24 sI _ _ Tryz.underlying32 info_list rfl (by decide) rfl (w.heap.size + 1) w5.heap.size w5.heap.size (w6.heap.size + 1) (some ⟨b, 0, none⟩) on oc w6.heap.size 1 1 _ _ rfl HAPP.out.1 rfl HAPP.out.2 (Nat.le_refl _) (by omega) (by omega) (by omega) (by simp; omega) ?_; intro A4 oc' w4 oL4 hg4 hat4 b4 hf4; obtain ⟨O', rfl⟩ := hf4 (.inr (by omega)))
         have F := Lib.hid (show Nm w a v V.heap.size w2.heap.size fs (.slice (some ⟨tb, toff, none⟩) tn tc) (termsF S.1) (normalB d.1 d.2) (i + 1) O' (on + 1) oc' w4 from by
           have h7 := N7.out
           have ho : O' = b ∨ O' = w6.heap.size + 1 := by
             rcases hat4 with h | h
             · left; injection h with h
             · right; have h : some O' = some (w6.alloc (.cells #[.slice X xn xc] 24)).heap.size := h; injection h with h; simpa using h
           have hne : ∀ k, (k = w.heap.size ∨ k = w2.heap.size) → blk (some ⟨b, 0, none⟩ : Option Addr) ≠ some k := fun k hk e => by
             have e : some b = some k := e
             injection e with e
             rcases h7.at_ with h | h <;> rcases hk with h8 | h8 <;> omega
           refine ⟨Row.away h7.sys hg4 (hne _ (.inl rfl)), Row.away h7.fnd hg4 (hne _ (.inr rfl)), notIn_kept h7.rd hg4 (fun k hk => ?_) (fun k _ hk => hk), by rw [G.out.2]; exact oL4, ?_, ?_, ⟨zz.1, zz.2.1, by have := hg4.size; simp at this; omega⟩⟩
           · have hk : some b = some k := hk
             injection hk with hk
             subst hk
             exact h7.at_
           · rcases ho with h | h
             · rw [h]; exact h7.at_
             · right; omega
           · exact h7.bel.trans (b4.mono (by omega)))
         clear oL4 hg4 hat4 b4 HAPP N7 hf4
         go_wp2
         go_roundg (gk - 1)
         case measure => have := G.out.1; omega
         case rel => exact ⟨i + 1, O', on + 1, oc', rfl, by simp, by have := G.out.1; omega, F.out⟩
     · obtain rfl : i = tn := by omega
       have i1 : ¬ (i : Int) < (i : Int) := by omega
       have F := Lib.hid (show Copy1 w sTs (normsI d.1 d.2 t (n : Int)) (.returned (.slice (some ⟨b, 0, none⟩) on oc)) wr from
         ⟨_, _, _, rfl, by have h := N.o; rw [List.take_of_length_le (by rw [HV.out.2.1]; exact Nat.le_refl _)] at h; rw [HN.out]; exact h.owned.wider (Nat.le_succ _) (Nat.le_refl _), N.bel⟩)
       clear N hg
       go_wp2
       go_ret
       exact F.out
end normsSpec
end
end Go.Proofs.YtifckjchmjmhoabGreat
section
namespace Go.Proofs
open Go.Shelf
def Tryz.laysSlgn43_ren : Go.Shelf.Ren := ⟨fun | 43 => 132 | n => n, fun | 22 => 24 | 23 => 2 | 3 => 3 | 4 => 4 | 0 => 0 | n => n, fun | n => n⟩
theorem Tryz.laysSlgn43 : Go.Proofs.SlLaysN.n43 Tryz.prog Tryz.laysSlgn43_ren := {
 mixed := by kernel_rfl
 f43 := ⟨Tryz.f132.name, by decide, Tryz.func132.trans (congrArg some (by kernel_rfl))⟩
 t0 := Tryz.underlying0
 a0 := Tryz.isAgg0
 z0 := Tryz.sizeOf0
 v0 := Tryz.zeroValue0
 t3 := Tryz.underlying3
 a3 := Tryz.isAgg3
 z3 := Tryz.sizeOf3
 v3 := Tryz.zeroValue3
 t4 := Tryz.underlying4
 a4 := Tryz.isAgg4
 z4 := Tryz.sizeOf4
 v4 := Tryz.zeroValue4
 t22 := Tryz.underlying24
 a22 := Tryz.isAgg24
 z22 := Tryz.sizeOf24
 v22 := Tryz.zeroValue24
 t23 := Tryz.underlying2
 a23 := Tryz.isAgg2
 z23 := Tryz.sizeOf2
 v23 := Tryz.zeroValue2
 i23 := by kernel_rfl }
open Go.Sort Go.RowKit in
theorem Tryz.slices_Compact_int (blk off cap : Nat) (zs : List Int) (w : World) (hH : Holds (Value.int .i64) w blk off zs.toArray) (hsz : zs.length ≤ 9223372036854775807) (hcap : zs.length ≤ cap) :
   Calls Tryz.prog 132 #[.slice (some ⟨blk, off, none⟩) zs.length cap] w fun e w' => e = .returned (.slice (some ⟨blk, off, none⟩) (Lib.compact zs).length cap) ∧ ∃ q, w' = putRow (Value.int .i64) (Sort.ahead w q) blk off (Lib.compact zs ++ List.replicate (zs.length - (Lib.compact zs).length) 0).toArray := AnyG.slices_Compact_int Tryz.laysSlgn43 blk off cap zs w hH hsz hcap
open Go.Sort Go.RowKit in
theorem Tryz.slices_Compact_int_empty (a : Option Addr) (cap : Nat) (w : World) :
   Calls Tryz.prog 132 #[.slice a 0 cap] w fun e w' => e = .returned (.slice a 0 cap) ∧ w' = w := AnyG.slices_Compact_int_empty Tryz.laysSlgn43 a cap w
def Tryz.laysSlgn35_ren : Go.Shelf.Ren := ⟨fun | 35 => 123 | n => n, fun | 22 => 24 | 23 => 2 | 3 => 3 | 4 => 4 | 0 => 0 | n => n, fun | n => n⟩
theorem Tryz.laysSlgn35 : Go.Proofs.SlLaysN.n35 Tryz.prog Tryz.laysSlgn35_ren := {
 mixed := by kernel_rfl
 f35 := ⟨Tryz.f123.name, by decide, Tryz.func123.trans (congrArg some (by kernel_rfl))⟩
 t0 := Tryz.underlying0
 a0 := Tryz.isAgg0
 z0 := Tryz.sizeOf0
 v0 := Tryz.zeroValue0
 t3 := Tryz.underlying3
 a3 := Tryz.isAgg3
 z3 := Tryz.sizeOf3
 v3 := Tryz.zeroValue3
 t4 := Tryz.underlying4
 a4 := Tryz.isAgg4
 z4 := Tryz.sizeOf4
 v4 := Tryz.zeroValue4
 t22 := Tryz.underlying24
 a22 := Tryz.isAgg24
 z22 := Tryz.sizeOf24
 v22 := Tryz.zeroValue24
 t23 := Tryz.underlying2
 a23 := Tryz.isAgg2
 z23 := Tryz.sizeOf2
 v23 := Tryz.zeroValue2 }
open Go.Sort Go.RowKit in
theorem Tryz.slices_Reverse_int (blk off cap : Nat) (zs : List Int) (w : World) (hH : Holds (Value.int .i64) w blk off zs.toArray) (hsz : zs.length ≤ 9223372036854775807) :
   Calls Tryz.prog 123 #[.slice (some ⟨blk, off, none⟩) zs.length cap] w fun e w' => e = .returned (.tuple #[]) ∧ ∃ n, w' = putRow (Value.int .i64) (Sort.ahead w n) blk off zs.reverse.toArray := AnyG.slices_Reverse_int Tryz.laysSlgn35 blk off cap zs w hH hsz
open Go.Sort Go.RowKit in
theorem Tryz.slices_Reverse_int_empty (p : Option Addr) (cap : Nat) (w : World) :
   Calls Tryz.prog 123 #[.slice p 0 cap] w fun e w' => e = .returned (.tuple #[]) ∧ w' = w := AnyG.slices_Reverse_int_empty Tryz.laysSlgn35 p cap w
end Go.Proofs
end
namespace Go.Proofs.YtifckjchmjmhoabGreat
section
namespace sortedC
open Go.RowKit base marks app sym appAt segs varsMath
set_option maxRecDepth 100000
theorem row_put {w : World} {g : Nat} {t : TypeId} {cs : Array Value} (h : Row w g t cs) (d : Array Int) : Row (Sort.putRow (Value.int .i64) w g 0 d) g t (Sort.putCells (Value.int .i64) 0 d cs) := by
 unfold Row at h ⊢
 show (w.heap.modify g (Sort.onCells (Sort.putCells (Value.int .i64) 0 d)))[g]? = _
 rw [Array.getElem?_modify, if_pos rfl, h]
 rfl
theorem grown_putRow (w : World) (g q : Nat) (d : Array Int) : w.grownBy (Sort.putRow (Value.int .i64) (Sort.ahead w q) g 0 d) (some g) := by
 refine ⟨rfl, rfl, rfl, ?_, fun i hi hne => ?_⟩
 · show w.heap.size ≤ (w.heap.modify g _).size
   simp
 · show (w.heap.modify g _)[i]? = _
   rw [Array.getElem?_modify, if_neg (fun e => hne (by rw [e]))]
theorem holds_own {w : World} {g : Nat} {t : TypeId} {cs : Array Value} {xs : List Int} (h : Row w g t cs) (hc : ∀ j, j < xs.length → cs[j]? = some ((xs.map (Value.int .i64)).getD j undef)) : Sort.Holds (Value.int .i64) w g 0 xs.toArray := by
 intro j hj
 have hj' : j < xs.length := by simpa using hj
 refine ⟨?_, by rw [Nat.zero_add]; exact h.free j⟩
 rw [Nat.zero_add, h.cell j, hc j hj']
 simp [List.getD, hj']
theorem putCells_get {cs : Array Value} {d : List Int} {j : Nat} (hj : j < d.length) (hs : d.length ≤ cs.size) : (Sort.putCells (Value.int .i64) 0 d.toArray cs)[j]? = some (.int .i64 (d.getD j 0)) := by
 unfold Sort.putCells
 rw [Array.getElem?_mapIdx, Array.getElem?_eq_getElem (by omega)]
 simp [hj, List.getD]
theorem compact_le (zs : List Int) : (Lib.compact zs).length ≤ zs.length := by
 unfold Lib.compact Lib.compactUpTo
 rw [List.length_map]
 exact Nat.le_trans (List.length_filter_le _ _) (by simp)
def AnsCompact (w : World) (base : Nat) (A : Option Addr) (ys : List Int) (e : Ending) (w' : World) : Prop := ∃ c, e = .returned (.slice A ys.length c) ∧ Own w' base (.slice A ys.length c) ys ∧ w.grownBy w' (blk A)
theorem compactOwn (base : Nat) (A : Option Addr) (n c : Nat) (xs : List Int) (w : World) (h : Own w base (.slice A n c) xs) (hn : n ≤ 1048576) :
   Calls Tryz.prog 132 #[.slice A n c] w (AnsCompact w base A (Lib.compact xs)) := by
 have hl := Own.len h
 subst hl
 rcases own_form (n := xs.length) h with ⟨rfl, h0, rfl, _⟩ | ⟨g, cs, rfl, hb, hr, hnc, hz, hmax, _, hc⟩
 · have hx : xs = [] := List.eq_nil_of_length_eq_zero h0
   subst hx
   refine (Tryz.slices_Compact_int_empty none 0 w).mono ?_
   rintro e w' ⟨rfl, rfl⟩
   exact ⟨0, rfl, h, World.grownBy.refl _ _⟩
 · have hH := holds_own hr hc
   have hle : (Lib.compact xs).length ≤ xs.length := compact_le xs
   refine (Tryz.slices_Compact_int g 0 c xs w hH (by omega) hnc).mono ?_
   rintro e w' ⟨rfl, q, rfl⟩
   refine ⟨c, rfl, ?_, grown_putRow w g q _⟩
   have r1 : Row (Sort.ahead w q) g 2 cs := hr
   have r2 := row_put r1 (Lib.compact xs ++ List.replicate (xs.length - (Lib.compact xs).length) 0).toArray
   refine Own.of_row r2 rfl (by simp [Sort.putCells, hz]) (by omega) hmax hb (fun j hj => ?_)
   rw [putCells_get (by simp; omega) (by simp; omega)]
   simp [List.getD, List.getElem?_append_left hj]
def AnsTurned (w : World) (base : Nat) (A : Option Addr) (n c : Nat) (ys : List Int) (e : Ending) (w' : World) : Prop := e = .returned (.tuple #[]) ∧ Own w' base (.slice A n c) ys ∧ w.grownBy w' (blk A)
theorem reverseOwn (base : Nat) (A : Option Addr) (n c : Nat) (xs : List Int) (w : World) (h : Own w base (.slice A n c) xs) (hn : n ≤ 1048576) :
   Calls Tryz.prog 123 #[.slice A n c] w (AnsTurned w base A n c xs.reverse) := by
 have hl := Own.len h
 subst hl
 rcases own_form (n := xs.length) h with ⟨rfl, h0, rfl, _⟩ | ⟨g, cs, rfl, hb, hr, hnc, hz, hmax, _, hc⟩
 · have hx : xs = [] := List.eq_nil_of_length_eq_zero h0
   subst hx
   refine (Tryz.slices_Reverse_int_empty none 0 w).mono ?_
   rintro e w' ⟨rfl, rfl⟩
   exact ⟨rfl, h, World.grownBy.refl _ _⟩
 · have hH := holds_own hr hc
   refine (Tryz.slices_Reverse_int g 0 c xs w hH (by omega)).mono ?_
   rintro e w' ⟨rfl, q, rfl⟩
   refine ⟨rfl, ?_, grown_putRow w g q _⟩
   have r1 : Row (Sort.ahead w q) g 2 cs := hr
   have r2 := row_put r1 xs.reverse.toArray
   exact Own.of_row r2 (by simp) (by simp [Sort.putCells, hz]) (by omega) hmax hb (fun j hj => putCells_get (by simpa using hj) (by simp; omega))
theorem compact_cons_cons (x y : Int) (r : List Int) : Lib.compact (x :: y :: r) = if x = y then Lib.compact (y :: r) else x :: Lib.compact (y :: r) := by
 unfold Lib.compact Lib.compactUpTo
 have hr : List.range (x :: y :: r).length = 0 :: (List.range (y :: r).length).map (· + 1) := by
   rw [List.length_cons, List.range_succ_eq_map]
 have hr2 : List.range (y :: r).length = 0 :: (List.range r.length).map (· + 1) := by
   rw [List.length_cons, List.range_succ_eq_map]
 have k0 : Lib.keeps (x :: y :: r).toArray 0 = true := by simp [Lib.keeps]
 have k0' : Lib.keeps (y :: r).toArray 0 = true := by simp [Lib.keeps]
 have ks : ∀ j, Lib.keeps (x :: y :: r).toArray (j + 1 + 1) = Lib.keeps (y :: r).toArray (j + 1) := fun j => by
   simp [Lib.keeps]
 have gs : ∀ j, (x :: y :: r).toArray[j + 1]! = (y :: r).toArray[j]! := fun j => by simp
 rw [hr, hr2]
 simp only [List.map_cons, List.filter_cons, k0, k0', if_true, List.filter_map, List.map_map]
 have e1 : Lib.keeps (x :: y :: r).toArray ∘ (fun (j : Nat) => j + 1) ∘ (fun (j : Nat) => j + 1) = Lib.keeps (y :: r).toArray ∘ fun (j : Nat) => j + 1 := by
   funext j
   exact ks j
 have k1 : Lib.keeps (x :: y :: r).toArray (0 + 1) = decide (¬ x = y) := by
   simp [Lib.keeps, eq_comm]
 rw [e1, k1]
 have e2 : (fun j => (x :: y :: r).toArray[j]!) ∘ (fun (j : Nat) => j + 1) ∘ (fun (j : Nat) => j + 1) = (fun j => (y :: r).toArray[j]!) ∘ fun (j : Nat) => j + 1 := by
   funext j
   exact gs (j + 1)
 by_cases h : x = y
 · subst h
   simp [List.map_map, e2]
 · simp [h, List.map_map, e2]
theorem compact_one (x : Int) : Lib.compact [x] = [x] := by simp [Lib.compact, Lib.compactUpTo, Lib.keeps, List.range_succ]
theorem compact_nil : Lib.compact ([] : List Int) = [] := rfl
theorem compact_sorted : ∀ {l : List Int}, l.Pairwise (· ≤ ·) → Rises (Lib.compact l) ∧ (∀ x, x ∈ Lib.compact l ↔ x ∈ l)
 | [], _ => ⟨List.Pairwise.nil, fun x => by rw [compact_nil]⟩
 | [y], _ => ⟨by rw [compact_one]; simp [Rises], fun x => by rw [compact_one]⟩
 | x :: y :: r, h => by
   have h1 := List.pairwise_cons.1 h
   obtain ⟨h2, h3⟩ := compact_sorted h1.2
   rw [compact_cons_cons]
   by_cases e : x = y
   · subst e
     rw [if_pos rfl]
     exact ⟨h2, fun z => by rw [h3]; simp⟩
   · rw [if_neg e]
     refine ⟨List.pairwise_cons.2 ⟨fun z hz => ?_, h2⟩, fun z => by rw [List.mem_cons, h3, List.mem_cons (a := z) (b := x)]⟩
     have h4 := h1.1 y (List.mem_cons_self ..)
     rcases List.mem_cons.1 ((h3 z).1 hz) with e2 | e2
     · omega
     · have := (List.pairwise_cons.1 h1.2).1 z e2
       omega
end sortedC
end
section
namespace walkImpl
open Go.RowKit base ints sig term termOk endAt endOf marks app sym sub segs segsHelp kinds termFacts same shifted shape kindsR kindsW varsOf ruleMath ruleSpec ruleImpl stepMath walkMath stepSpec stepImpl walkSpec
set_option maxRecDepth 100000
set_option maxHeartbeats 2000000 in
theorem endImpl (f s : Value) (k : Dat sWalk) (w : World) (h : Rd w w.heap.size sWalk [f, s] k) (hz : sz sWalk k ≤ 1048576) :
   Calls Tryz.prog 39 #[.agg #[f, s]] w fun e w' => ∃ A n c, e = .returned (.slice A n c) ∧ Rd w' w.heap.size sI [.slice A n c] (endL k) ∧ Below w.heap.size w w' := by
 obtain ⟨F, fn, fc, S, sn, sc, rfl, rfl, hF, hcF, hfn, hsn, hsn1, hcS, hrF, hrS, hzF, hzS⟩ := rd_walk h hz
 obtain ⟨W, hW, rW, bel⟩ := box1 w 41 #[.slice F fn fc, .slice S sn sc]
 have HW := Lib.hid hW
 by_cases h0 : sn = 0
 · subst h0
   have F1 := Lib.hid (show ∃ A n c, Ending.returned (.slice F fn fc) = .returned (.slice A n c) ∧ Rd W w.heap.size sI [.slice A n c] (endL k) ∧ Below w.heap.size w W from ⟨_, _, _, rfl, by rw [end_none hsn]; exact hrF.below bel, bel⟩)
   clear hW h hz hF hcF hsn hcS hrF hrS hzF hzS bel rW
   go_enter Tryz.func39, Tryz.ntmps39
   go_wp2
   rw [← HW.out]
   go_ret
   exact F1.out
 · obtain ⟨n, rfl⟩ : ∃ n, sn = n + 1 := ⟨sn - 1, by omega⟩
   obtain ⟨b, off, u, x, rfl, hb, ex, c0, c1, c2, hx2⟩ := rd_step hrS bel hsn (Nat.lt_succ_self n)
   obtain ⟨U, un, uc, rfl, hU, hcU⟩ := rd_ints.1 hx2
   have F1 := Lib.hid (show ∃ A n c, Ending.returned (.slice U un uc) = .returned (.slice A n c) ∧ Rd W w.heap.size sI [.slice A n c] (endL k) ∧ Below w.heap.size w W from ⟨_, _, _, rfl, by rw [end_last hsn ex.out]; exact hx2, bel⟩)
   have c2' : (w.alloc (.cells #[.slice F fn fc, .slice (some ⟨b, off, none⟩) (n + 1) sc] 41)).cell? ⟨b, off + n * 3 + 2, none⟩ = some (.slice U un uc) := by rw [← hW]; exact c2
   have i1 : ¬ ((n : Int) + 1 = 0) := by omega
   have i2 : ((n : Int) + 1) - 1 = (n : Int) := by omega
   have i3 : (0 : Int) ≤ (n : Int) := by omega
   have i4 : (n : Int) < (n : Int) + 1 := by omega
   clear hW h hz hF hcF hsn hcS hrF hrS hzF hzS ex hx2 hU hcU c0 c1 c2 h0 bel rW
   go_enter Tryz.func39, Tryz.ntmps39
   go_wp2
   rw [← HW.out]
   go_ret
   exact F1.out
end walkImpl
end
section
namespace bigs
open Go.RowKit base ints
theorem bigAns (A : Option Addr) (n c : Nat) (b : Bool) (w : World) (hb : decide (4096 < n) = b) (hn : n ≤ 9223372036854775807) : Calls Tryz.prog 5 #[.slice A n c] w fun e w' => w = w' ∧ e = .returned (.bool b) := by
 cases b with
 | true =>
   have h : (4096 : Int) < (n : Int) := by have := of_decide_eq_true hb; omega
   clear hb
   go_enter Tryz.func5, Tryz.ntmps5
   go_wp2
   go_ret
   exact ⟨rfl, rfl⟩
 | false =>
   have h : ¬ (4096 : Int) < (n : Int) := by have := of_decide_eq_false hb; omega
   have h2 : decide (4096 < n) = false := hb
   clear hb
   go_enter Tryz.func5, Tryz.ntmps5
   go_wp2
   go_ret
   exact ⟨rfl, rfl⟩
end bigs
end
end Go.Proofs.YtifckjchmjmhoabGreat
