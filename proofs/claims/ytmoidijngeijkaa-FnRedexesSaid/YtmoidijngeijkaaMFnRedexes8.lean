/-
  MERGED: my texts WFnRedexes, one behind the other, as they are. By an AI agent.
-/
import Derived.Test.YtmoidijngeijkaaMFnRedexes7
import Derived.Deep.LoopGhost
namespace Go.Proofs.Ytmoidijngeijkaa
section
open Go.Lib (hid)
open List (setIfInBounds_toArray set_cons_zero set_cons_succ getElem_toArray getElem_cons_zero getElem_cons_succ)
namespace wFnRedexes
open Go.RowKit base ints sig term termOk termFacts cursor marks app sym segs dice bigs drawL7 inside shape kinds kindsR varsOf shifted ruleMath ruleSpec stepMath walkMath stepSpec stepImpl orderMath orderSpec orderImpl pickImpl lawS w5 heldT
set_option maxRecDepth 100000
theorem out_mem {E : Int → Int} {l : List Int} {x : Int} : ∀ {i : Nat}, i ≤ l.length → x ∈ (outN E l i).1 → x ∈ l
 | 0, _, h => by cases h
 | i + 1, hi, h => by
  by_cases hh : (outN E l i).2 ≤ l.getD i 0
  ·rw [out_yes hh] at h
   rcases List.mem_append.1 h with h | h
   ·exact out_mem (by omega) h
   ·rw [List.mem_singleton] at h
    rw [h, get_lt (by omega)]
    exact List.getElem_mem _
  ·rw [out_no hh] at h
   exact out_mem (by omega) h
theorem place_bd {sg : List Int} {rs : List Rl} {t : List Int} {x : Int} (h : x ∈ placesI sg rs t) : 0 ≤ x ∧ x < 60 := by
 obtain ⟨hr, a, ha, -, rfl⟩ := placesI_mem h
 have := (term_len (right_parts hr).2).2
 omega
theorem in_sub {sg : List Int} {rs : List Rl} {t : List Int} {x : Int} (h : x ∈ inmostI sg rs t) : x ∈ placesI sg rs t := in_mem (Nat.le_refl _) h
theorem out_sub {sg : List Int} {rs : List Rl} {t : List Int} {x : Int} (h : x ∈ outmostI sg rs t) : x ∈ placesI sg rs t := out_mem (Nat.le_refl _) h
theorem get_mem {l : List Int} {k : Nat} (h : k < l.length) : l.getD k 0 ∈ l := by rw [get_lt h]; exact List.getElem_mem _
theorem in_len2 {sg : List Int} {rs : List Rl} {t : List Int} : (inmostI sg rs t).length ≤ 60 := Nat.le_trans (in_len _ _ _) placesI_len
theorem out_len2 {sg : List Int} {rs : List Rl} {t : List Int} : (outmostI sg rs t).length ≤ 60 := Nat.le_trans (out_len _ _ _) placesI_len
theorem sg_seg {wr : World} {S : Option Addr} {sn sc : Nat} {v : Value} {d : Dat sSystem} (h : Rd wr wr.heap.size sSystem [.slice S sn sc, v] d) : Seg wr wr.heap.size S sn d.1 := by
 obtain ⟨h1, -⟩ := parts_System h
 exact h1.seg
structure Lr (w : World) (o : Nat) (S : Option Addr) (sn sc : Nat) (R : Option Addr) (rn rc : Nat) (d : Dat sSystem) (U : Option Addr) (un uc : Nat) (t : List Int) (A1 : Option Addr) (n1 : Nat) (A2 : Option Addr) (n2 : Nat) (A3 : Option Addr) (n3 : Nat) (wr : World) : Prop where
 y : Sy w o S sn sc R rn rc d (.slice U un uc) t wr
 a : Seg wr wr.heap.size A1 n1 (placesI d.1 d.2 t)
 i : Seg wr wr.heap.size A2 n2 (inmostI d.1 d.2 t)
 q : Seg wr wr.heap.size A3 n3 (outmostI d.1 d.2 t)
section
variable {w : World} {o : Nat} {S : Option Addr} {sn sc : Nat} {R : Option Addr} {rn rc : Nat} {d : Dat sSystem} {U : Option Addr} {un uc : Nat} {t : List Int} {A1 : Option Addr} {n1 : Nat} {A2 : Option Addr} {n2 : Nat} {A3 : Option Addr} {n3 : Nat} {wr w' : World}
theorem Lr.next (h : Lr w o S sn sc R rn rc d U un uc t A1 n1 A2 n2 A3 n3 wr) (hb : Below wr.heap.size wr w') : Lr w o S sn sc R rn rc d U un uc t A1 n1 A2 n2 A3 n3 w' := ⟨h.y.next hb, h.a.next hb, h.i.next hb, h.q.next hb⟩
theorem Lr.drew (h : Lr w o S sn sc R rn rc d U un uc t A1 n1 A2 n2 A3 n3 wr) : Lr w o S sn sc R rn rc d U un uc t A1 n1 A2 n2 A3 n3 wr.drew := h.next (drew_below wr)
end
set_option maxHeartbeats 8000000 in
theorem law (A : Option Addr) (n c : Nat) (_ : List Int) (w : World) (h : SegB w w.heap.size A n) (hN : n ≤ 9223372036854775807) :
  Calls Try.prog 4 #[.slice A n c] w (Fine w) := by
 by_cases hbig : n ≤ 4096
 ·have LB := hid (bigAns A n c false w (by simp; omega) hN)
  go_enter Try.func4, Try.ntmps4
  go_wp2_with fail
  refine LB.out.mono ?_
  rintro e w' ⟨rfl, rfl⟩
  clear LB
  go_wp2_with fail
  refine (drawRedexesIn A n c w h hbig).mono ?_
  rintro e w2 ⟨S, sn, sc, R, rn, rc, d, U, un, uc, t, rfl, sd, hz0, td, ht65, b2⟩
  clear h
  have hz : sz sSystem d ≤ 1048576 := by omega
  have hzt : sz sI t ≤ 1048576 := by rw [sz_ints]; omega
  obtain ⟨o, ho⟩ : ∃ o, w2.heap.size = o := ⟨_, rfl⟩
  obtain ⟨W, hW⟩ : ∃ W, W = w2.alloc (.cells #[.slice S sn sc, .slice R rn rc] 29) := ⟨_, rfl⟩
  have T : Sy w o S sn sc R rn rc d (.slice U un uc) t W := by
   have bb : Below w2.heap.size w2 W := by rw [hW]; exact (Below.refl _ _).alloc (Nat.le_refl _) _
   exact ⟨sd.next bb, td.next bb, by rw [hW, ← ho]; exact Row.new _ _ _, next_trans b2 bb⟩
  have hsn : sn ≤ 1048576 ∧ un ≤ 1048576 := by
   obtain ⟨A1, m1, q1, A2, m2, q2, e1, e2, h3, -, -, -, h7, -⟩ := rd_sys sd hz
   injection e1 with e3 e4 e5
   have h4 := td.seg.1
   omega
  have HW := hid hW
  have HO := hid ho
  clear sd td b2 hW ho
  have c0 : W.cell? ⟨o, 0, none⟩ = some (.slice S sn sc) := T.c0
  have c1 : W.cell? ⟨o, 1, none⟩ = some (.slice R rn rc) := T.c1
  have HZ := hid (And.intro hz hzt)
  clear hz hzt hz0 ht65
  go_wp2_with fail
  rw [← HW.out, HO.out]
  refine (implRedexesIn _ _ _ d t W T.s T.t HZ.out.1 HZ.out.2).mono ?_
  rintro e w3 ⟨A1, n1, k1, rfl, o1, bb⟩
  replace T := T.next bb
  have s1 := Own.seg o1
  clear bb c0 c1 HW HO o1
  have c0 : w3.cell? ⟨o, 0, none⟩ = some (.slice S sn sc) := T.c0
  have c1 : w3.cell? ⟨o, 1, none⟩ = some (.slice R rn rc) := T.c1
  go_wp2_with fail
  refine (implInmostIn _ _ _ d t w3 T.s T.t HZ.out.1 HZ.out.2).mono ?_
  rintro e w4 ⟨A2, n2, k2, rfl, o1, bb⟩
  replace T := T.next bb
  replace s1 := s1.next bb
  have s2 := Own.seg o1
  clear bb c0 c1 o1
  have c0 : w4.cell? ⟨o, 0, none⟩ = some (.slice S sn sc) := T.c0
  have c1 : w4.cell? ⟨o, 1, none⟩ = some (.slice R rn rc) := T.c1
  go_wp2_with fail
  refine (implOutmostIn _ _ _ d t w4 T.s T.t HZ.out.1 HZ.out.2).mono ?_
  rintro e w5 ⟨A3, n3, k3, rfl, o1, bb⟩
  have L : Lr w o S sn sc R rn rc d U un uc t A1 n1 A2 n2 A3 n3 w5 := ⟨T.next bb, s1.next bb, s2.next bb, Own.seg o1⟩
  have hn1 : n1 ≤ 60 := by rw [← L.a.1]; exact placesI_len
  have hn2 : n2 ≤ 60 := by rw [← L.i.1]; exact in_len2
  have hn3 : n3 ≤ 60 := by rw [← L.q.1]; exact out_len2
  clear bb c0 c1 o1 T s1 s2
  have c0 : w5.cell? ⟨o, 0, none⟩ = some (.slice S sn sc) := L.y.c0
  have c1 : w5.cell? ⟨o, 1, none⟩ = some (.slice R rn rc) := L.y.c1
  go_wp2_with fail
  refine (specRedexesIn _ _ _ d t w5 L.y.s L.y.t HZ.out.1 HZ.out.2).mono ?_
  rintro e w6 ⟨A9, n9, k9, rfl, o9, bb⟩
  replace L := L.next bb
  have LK := hid (fun c9 => likeYes _ _ _ _ c9 k9 _ w6 L.a (Own.seg o9) (by omega))
  clear bb c0 c1 o9
  go_wp2_with fail
  refine (LK.out _).mono ?_
  rintro e w7 ⟨rfl, bb⟩
  replace L := L.next bb
  clear bb LK
  have c0 : w7.cell? ⟨o, 0, none⟩ = some (.slice S sn sc) := L.y.c0
  have c1 : w7.cell? ⟨o, 1, none⟩ = some (.slice R rn rc) := L.y.c1
  go_wp2_with fail
  refine (specInmostIn _ _ _ d t w7 L.y.s L.y.t HZ.out.1 HZ.out.2).mono ?_
  rintro e w8 ⟨A9, n9, k9, rfl, o9, bb⟩
  replace L := L.next bb
  have LK := hid (fun c9 => likeYes _ _ _ _ c9 k9 _ w8 L.i (Own.seg o9) (by omega))
  clear bb c0 c1 o9
  go_wp2_with fail
  refine (LK.out _).mono ?_
  rintro e w9 ⟨rfl, bb⟩
  replace L := L.next bb
  clear bb LK
  have c0 : w9.cell? ⟨o, 0, none⟩ = some (.slice S sn sc) := L.y.c0
  have c1 : w9.cell? ⟨o, 1, none⟩ = some (.slice R rn rc) := L.y.c1
  go_wp2_with fail
  refine (specOutmostIn _ _ _ d t w9 L.y.s L.y.t HZ.out.1 HZ.out.2).mono ?_
  rintro e w10 ⟨A9, n9, k9, rfl, o9, bb⟩
  replace L := L.next bb
  have LK := hid (fun c9 => likeYes _ _ _ _ c9 k9 _ w10 L.q (Own.seg o9) (by omega))
  clear bb c0 c1 o9
  go_wp2_with fail
  refine (LK.out _).mono ?_
  rintro e w11 ⟨rfl, bb⟩
  replace L := L.next bb
  clear bb LK
  have c0 : w11.cell? ⟨o, 0, none⟩ = some (.slice S sn sc) := L.y.c0
  have c1 : w11.cell? ⟨o, 1, none⟩ = some (.slice R rn rc) := L.y.c1
  have HL := hid L
  clear L c0 c1
  go_wp2_with fail
  go_loopg [8] n2 (fun g i_ wr => ∃ i : Nat, i_ = .int .i64 i ∧ i + g = n2 ∧ Lr w o S sn sc R rn rc d U un uc t A1 n1 A2 n2 A3 n3 wr)
  case atStart => exact ⟨0, rfl, by omega, HL.out⟩
  case round =>
   clear HL
   obtain ⟨i, rfl, hig, L⟩ := hrel
   obtain ⟨G, hG⟩ : ∃ G, G = gk := ⟨_, rfl⟩
   subst hG
   have HI := hid hig
   clear hig
   by_cases hi : i < n2
   ·obtain ⟨bi, offi, x, eA, hbi, ci, ex⟩ := L.i.spot hi
    subst eA
    have HXX := hid (show (inmostI d.1 d.2 t).getD i 0 = x from ex.out)
    have hx : x ∈ inmostI d.1 d.2 t := by rw [← ex.out]; exact get_mem (by rw [L.i.1]; exact hi)
    obtain ⟨x1, x2⟩ := place_bd (in_sub hx)
    have HX := hid hx
    have i0 : (0 : Int) ≤ (i : Int) := by omega
    have i1 : (i : Int) < (n2 : Int) := by omega
    have HL := hid L
    clear L ci ex hx
    go_wp2_with fail
    go_loopg [9] n1 (fun g k_ wr => ∃ k : Nat, k_ = .int .i64 k ∧ k + g = n1 ∧ Lr w o S sn sc R rn rc d U un uc t A1 n1 (some ⟨bi, offi, none⟩) n2 A3 n3 wr)
    case atStart => exact ⟨0, rfl, by omega, HL.out⟩
    case round =>
     clear HL
     obtain ⟨k, rfl, hkg, L⟩ := hrel
     have HK := hid hkg
     clear hkg
     by_cases hk : k < n1
     ·obtain ⟨ba, offa, y, eA, hba, ca, ey⟩ := L.a.spot hk
      subst eA
      obtain ⟨b9, off9, y9, e9, hbi, ci, ex⟩ := L.i.spot hi
      injection e9 with e9
      injection e9 with e91 e92
      subst e91 e92
      rw [← ex.out, HXX.out] at ci
      have hy : y ∈ placesI d.1 d.2 t := by rw [← ey.out]; exact get_mem (by rw [L.a.1]; exact hk)
      obtain ⟨y1, y2⟩ := place_bd hy
      have k0 : (0 : Int) ≤ (k : Int) := by omega
      have k1 : (k : Int) < (n1 : Int) := by omega
      have hsg := (rd_sys L.y.s HZ.out.1)
      have c0 : wr.drew.cell? ⟨o, 0, none⟩ = some (.slice S sn sc) := L.y.c0
      have ca : wr.drew.cell? ⟨ba, offa + k, none⟩ = some (.int .i64 y) := ca
      have ci : wr.drew.cell? ⟨bi, offi + i, none⟩ = some (.int .i64 x) := ci
      by_cases hxy : y = x
      ·subst hxy
       have hne : (y != y) = false := by simp
       have HL := hid L.drew
       clear L hy ey ex hsg
       go_wp2_with fail
       refine AnyT.start (S := (fun w' => w'.cell? ⟨o, 0, none⟩ = some (.slice S sn sc) ∧ w'.cell? ⟨ba, offa + k, none⟩ = some (.int .i64 y) ∧ w'.cell? ⟨bi, offi + i, none⟩ = some (.int .i64 y))) (fun _ => false) (by kernel_rfl) ⟨c0, ca, ci⟩ (fun hHeld => ?_)
       refine AnyT.takeA (i := 0) (v := ?_) rfl (by kernel_rfl) (by kernel_rfl) (by kernel_rfl) (fun _ _ _ h => h) (Or.inl ⟨by rfl, ?_⟩) ?_
       rotate_left 1
       ·(intro w0 _; go_simp; try with_reducible rfl)
       try simp only [Act.put, setIfInBounds_toArray, set_cons_zero, set_cons_succ, getElem_toArray, getElem_cons_zero, getElem_cons_succ]
       refine AnyT.takeA (i := 1) (v := ?_) rfl (by kernel_rfl) (by kernel_rfl) (by kernel_rfl) (fun _ _ _ h => h) (Or.inl ⟨by rfl, ?_⟩) ?_
       rotate_left 1
       ·(intro w0 _; go_simp; try with_reducible rfl)
       try simp only [Act.put, setIfInBounds_toArray, set_cons_zero, set_cons_succ, getElem_toArray, getElem_cons_zero, getElem_cons_succ]
       refine AnyT.takeA (i := 2) (v := ?_) rfl (by kernel_rfl) (by kernel_rfl) (by kernel_rfl) (fun _ _ _ h => h) (Or.inl ⟨by rfl, ?_⟩) ?_
       rotate_left 1
       ·(intro w0 _; go_simp; try with_reducible rfl)
       try simp only [Act.put, setIfInBounds_toArray, set_cons_zero, set_cons_succ, getElem_toArray, getElem_cons_zero, getElem_cons_succ]
       refine AnyT.take (i := 3) (v := ?_) rfl (by kernel_rfl) (by kernel_rfl) (by kernel_rfl) (by kernel_rfl) (fun _ _ _ h => h) (Or.inl ⟨by rfl, ?_⟩) (by assumption) ?_
       rotate_left 1
       ·(intro w0 hSw; (try dsimp only at hSw); go_simp; try with_reducible rfl)
       try simp only [Act.put, setIfInBounds_toArray, set_cons_zero, set_cons_succ, getElem_toArray, getElem_cons_zero, getElem_cons_succ]
       refine AnyT.takeA (i := 4) (v := ?_) rfl (by kernel_rfl) (by kernel_rfl) (by kernel_rfl) (fun _ _ _ h => h) (Or.inl ⟨by rfl, ?_⟩) ?_
       rotate_left 1
       ·(intro w0 _; go_simp; try with_reducible rfl)
       try simp only [Act.put, setIfInBounds_toArray, set_cons_zero, set_cons_succ, getElem_toArray, getElem_cons_zero, getElem_cons_succ]
       refine AnyT.takeA (i := 5) (v := ?_) rfl (by kernel_rfl) (by kernel_rfl) (by kernel_rfl) (fun _ _ _ h => h) (Or.inl ⟨by rfl, ?_⟩) ?_
       rotate_left 1
       ·(intro w0 _; go_simp; try with_reducible rfl)
       try simp only [Act.put, setIfInBounds_toArray, set_cons_zero, set_cons_succ, getElem_toArray, getElem_cons_zero, getElem_cons_succ]
       refine AnyT.takeA (i := 6) (v := ?_) rfl (by kernel_rfl) (by kernel_rfl) (by kernel_rfl) (fun _ _ _ h => h) (Or.inl ⟨by rfl, ?_⟩) ?_
       rotate_left 1
       ·(intro w0 _; go_simp; try with_reducible rfl)
       try simp only [Act.put, setIfInBounds_toArray, set_cons_zero, set_cons_succ, getElem_toArray, getElem_cons_zero, getElem_cons_succ]
       refine AnyT.take (i := 7) (v := ?_) rfl (by kernel_rfl) (by kernel_rfl) (by kernel_rfl) (by kernel_rfl) (fun _ _ _ h => h) (Or.inl ⟨by rfl, ?_⟩) (by assumption) ?_
       rotate_left 1
       ·(intro w0 hSw; (try dsimp only at hSw); go_simp; try with_reducible rfl)
       try simp only [Act.put, setIfInBounds_toArray, set_cons_zero, set_cons_succ, getElem_toArray, getElem_cons_zero, getElem_cons_succ]
       refine AnyT.takeA (i := 8) (v := ?_) rfl (by kernel_rfl) (by kernel_rfl) (by kernel_rfl) (fun _ _ _ h => h) (Or.inl ⟨by rfl, ?_⟩) ?_
       rotate_left 1
       ·(intro w0 _; go_simp; try with_reducible rfl)
       try simp only [Act.put, setIfInBounds_toArray, set_cons_zero, set_cons_succ, getElem_toArray, getElem_cons_zero, getElem_cons_succ]
       refine AnyT.takeA (i := 9) (v := ?_) rfl (by kernel_rfl) (by kernel_rfl) (by kernel_rfl) (fun _ _ _ h => h) (Or.inl ⟨by rfl, ?_⟩) ?_
       rotate_left 1
       ·(intro w0 _; go_simp; try with_reducible rfl)
       try simp only [Act.put, setIfInBounds_toArray, set_cons_zero, set_cons_succ, getElem_toArray, getElem_cons_zero, getElem_cons_succ]
       refine AnyT.takeA (i := 10) (v := undef) rfl (by kernel_rfl) (by kernel_rfl) (by kernel_rfl) (fun _ _ _ h => h) (Or.inr ⟨by rfl, rfl⟩) ?_
       try simp only [Act.put, setIfInBounds_toArray, set_cons_zero, set_cons_succ, getElem_toArray, getElem_cons_zero, getElem_cons_succ]
       refine AnyT.takeA (i := 11) (v := undef) rfl (by kernel_rfl) (by kernel_rfl) (by kernel_rfl) (fun _ _ _ h => h) (Or.inr ⟨by rfl, rfl⟩) ?_
       try simp only [Act.put, setIfInBounds_toArray, set_cons_zero, set_cons_succ, getElem_toArray, getElem_cons_zero, getElem_cons_succ]
       refine AnyT.takeA (i := 12) (v := undef) rfl (by kernel_rfl) (by kernel_rfl) (by kernel_rfl) (fun _ _ _ h => h) (Or.inr ⟨by rfl, rfl⟩) ?_
       try simp only [Act.put, setIfInBounds_toArray, set_cons_zero, set_cons_succ, getElem_toArray, getElem_cons_zero, getElem_cons_succ]
       refine AnyT.takeA (i := 13) (v := undef) rfl (by kernel_rfl) (by kernel_rfl) (by kernel_rfl) (fun _ _ _ h => h) (Or.inr ⟨by rfl, rfl⟩) ?_
       try simp only [Act.put, setIfInBounds_toArray, set_cons_zero, set_cons_succ, getElem_toArray, getElem_cons_zero, getElem_cons_succ]
       refine AnyT.takeA (i := 14) (v := undef) rfl (by kernel_rfl) (by kernel_rfl) (by kernel_rfl) (fun _ _ _ h => h) (Or.inr ⟨by rfl, rfl⟩) ?_
       try simp only [Act.put, setIfInBounds_toArray, set_cons_zero, set_cons_succ, getElem_toArray, getElem_cons_zero, getElem_cons_succ]
       refine AnyT.takeA (i := 15) (v := undef) rfl (by kernel_rfl) (by kernel_rfl) (by kernel_rfl) (fun _ _ _ h => h) (Or.inr ⟨by rfl, rfl⟩) ?_
       try simp only [Act.put, setIfInBounds_toArray, set_cons_zero, set_cons_succ, getElem_toArray, getElem_cons_zero, getElem_cons_succ]
       refine AnyT.takeA (i := 16) (v := undef) rfl (by kernel_rfl) (by kernel_rfl) (by kernel_rfl) (fun _ _ _ h => h) (Or.inr ⟨by rfl, rfl⟩) ?_
       try simp only [Act.put, setIfInBounds_toArray, set_cons_zero, set_cons_succ, getElem_toArray, getElem_cons_zero, getElem_cons_succ]
       refine AnyT.takeA (i := 17) (v := undef) rfl (by kernel_rfl) (by kernel_rfl) (by kernel_rfl) (fun _ _ _ h => h) (Or.inr ⟨by rfl, rfl⟩) ?_
       try simp only [Act.put, setIfInBounds_toArray, set_cons_zero, set_cons_succ, getElem_toArray, getElem_cons_zero, getElem_cons_succ]
       refine AnyT.takeA (i := 18) (v := undef) rfl (by kernel_rfl) (by kernel_rfl) (by kernel_rfl) (fun _ _ _ h => h) (Or.inr ⟨by rfl, rfl⟩) ?_
       try simp only [Act.put, setIfInBounds_toArray, set_cons_zero, set_cons_succ, getElem_toArray, getElem_cons_zero, getElem_cons_succ]
       refine AnyT.takeA (i := 19) (v := undef) rfl (by kernel_rfl) (by kernel_rfl) (by kernel_rfl) (fun _ _ _ h => h) (Or.inr ⟨by rfl, rfl⟩) ?_
       try simp only [Act.put, setIfInBounds_toArray, set_cons_zero, set_cons_succ, getElem_toArray, getElem_cons_zero, getElem_cons_succ]
       refine AnyT.takeA (i := 20) (v := undef) rfl (by kernel_rfl) (by kernel_rfl) (by kernel_rfl) (fun _ _ _ h => h) (Or.inr ⟨by rfl, rfl⟩) ?_
       try simp only [Act.put, setIfInBounds_toArray, set_cons_zero, set_cons_succ, getElem_toArray, getElem_cons_zero, getElem_cons_succ]
       refine AnyT.call (i := 21) (by kernel_rfl) rfl (fun K hK => ?_)
       try simp only [Act.put, setIfInBounds_toArray, set_cons_zero, set_cons_succ, getElem_toArray, getElem_cons_zero, getElem_cons_succ]
       rw [if_neg (by intro h; cases h)]
       refine hK.out _ _ (fun _ h => h) (fun _ => ?_)
       clear hK K
       try simp only [Act.put, setIfInBounds_toArray, set_cons_zero, set_cons_succ, getElem_toArray, getElem_cons_zero, getElem_cons_succ]
       refine AnyT.takeA (i := 22) (v := ?_) rfl (by kernel_rfl) (by kernel_rfl) (by kernel_rfl) (fun _ _ _ h => h) (Or.inl ⟨by rfl, ?_⟩) ?_
       rotate_left 1
       ·(intro w0 _; go_simp; try with_reducible rfl)
       try simp only [Act.put, setIfInBounds_toArray, set_cons_zero, set_cons_succ, getElem_toArray, getElem_cons_zero, getElem_cons_succ]
       refine AnyT.done (by kernel_rfl) ?_ _
       clear c0 ca ci
       go_wp2
       go_roundg (gk - 1)
       case measure => have := HK.out; omega
       case rel => exact ⟨k + 1, by simp, by have := HK.out; omega, HL.out⟩
      ·have hne : (y != x) = true := by simp; exact hxy
       have hap : insideB d.1 t x y = false := in_apart HX.out hy hxy
       have LI := hid (implInsideIn S U sn sc un uc d.1 t x y wr.drew (sg_seg L.drew.y.s) (L.drew.y.t.seg) hsn.1 hsn.2 (by omega) (by omega))
       rw [hap] at LI
       have HL := hid L.drew
       have zo : o < wr.drew.heap.size := L.drew.y.r.lt
       have zba : ba < wr.drew.heap.size := hba
       have zbi : bi < wr.drew.heap.size := hbi
       clear L hy ey ex hap hxy hsg
       go_wp2_with fail
       refine AnyT.start (S := (fun w' => w'.cell? ⟨o, 0, none⟩ = some (.slice S sn sc) ∧ w'.cell? ⟨ba, offa + k, none⟩ = some (.int .i64 y) ∧ w'.cell? ⟨bi, offi + i, none⟩ = some (.int .i64 x))) (fun _ => false) (by kernel_rfl) ⟨c0, ca, ci⟩ (fun hHeld => ?_)
       refine AnyT.takeA (i := 0) (v := ?_) rfl (by kernel_rfl) (by kernel_rfl) (by kernel_rfl) (fun _ _ _ h => h) (Or.inl ⟨by rfl, ?_⟩) ?_
       rotate_left 1
       ·(intro w0 _; go_simp; try with_reducible rfl)
       try simp only [Act.put, setIfInBounds_toArray, set_cons_zero, set_cons_succ, getElem_toArray, getElem_cons_zero, getElem_cons_succ]
       refine AnyT.takeA (i := 1) (v := ?_) rfl (by kernel_rfl) (by kernel_rfl) (by kernel_rfl) (fun _ _ _ h => h) (Or.inl ⟨by rfl, ?_⟩) ?_
       rotate_left 1
       ·(intro w0 _; go_simp; try with_reducible rfl)
       try simp only [Act.put, setIfInBounds_toArray, set_cons_zero, set_cons_succ, getElem_toArray, getElem_cons_zero, getElem_cons_succ]
       refine AnyT.takeA (i := 2) (v := ?_) rfl (by kernel_rfl) (by kernel_rfl) (by kernel_rfl) (fun _ _ _ h => h) (Or.inl ⟨by rfl, ?_⟩) ?_
       rotate_left 1
       ·(intro w0 _; go_simp; try with_reducible rfl)
       try simp only [Act.put, setIfInBounds_toArray, set_cons_zero, set_cons_succ, getElem_toArray, getElem_cons_zero, getElem_cons_succ]
       refine AnyT.take (i := 3) (v := ?_) rfl (by kernel_rfl) (by kernel_rfl) (by kernel_rfl) (by kernel_rfl) (fun _ _ _ h => h) (Or.inl ⟨by rfl, ?_⟩) (by assumption) ?_
       rotate_left 1
       ·(intro w0 hSw; (try dsimp only at hSw); go_simp; try with_reducible rfl)
       try simp only [Act.put, setIfInBounds_toArray, set_cons_zero, set_cons_succ, getElem_toArray, getElem_cons_zero, getElem_cons_succ]
       refine AnyT.takeA (i := 4) (v := ?_) rfl (by kernel_rfl) (by kernel_rfl) (by kernel_rfl) (fun _ _ _ h => h) (Or.inl ⟨by rfl, ?_⟩) ?_
       rotate_left 1
       ·(intro w0 _; go_simp; try with_reducible rfl)
       try simp only [Act.put, setIfInBounds_toArray, set_cons_zero, set_cons_succ, getElem_toArray, getElem_cons_zero, getElem_cons_succ]
       refine AnyT.takeA (i := 5) (v := ?_) rfl (by kernel_rfl) (by kernel_rfl) (by kernel_rfl) (fun _ _ _ h => h) (Or.inl ⟨by rfl, ?_⟩) ?_
       rotate_left 1
       ·(intro w0 _; go_simp; try with_reducible rfl)
       try simp only [Act.put, setIfInBounds_toArray, set_cons_zero, set_cons_succ, getElem_toArray, getElem_cons_zero, getElem_cons_succ]
       refine AnyT.takeA (i := 6) (v := ?_) rfl (by kernel_rfl) (by kernel_rfl) (by kernel_rfl) (fun _ _ _ h => h) (Or.inl ⟨by rfl, ?_⟩) ?_
       rotate_left 1
       ·(intro w0 _; go_simp; try with_reducible rfl)
       try simp only [Act.put, setIfInBounds_toArray, set_cons_zero, set_cons_succ, getElem_toArray, getElem_cons_zero, getElem_cons_succ]
       refine AnyT.take (i := 7) (v := ?_) rfl (by kernel_rfl) (by kernel_rfl) (by kernel_rfl) (by kernel_rfl) (fun _ _ _ h => h) (Or.inl ⟨by rfl, ?_⟩) (by assumption) ?_
       rotate_left 1
       ·(intro w0 hSw; (try dsimp only at hSw); go_simp; try with_reducible rfl)
       try simp only [Act.put, setIfInBounds_toArray, set_cons_zero, set_cons_succ, getElem_toArray, getElem_cons_zero, getElem_cons_succ]
       refine AnyT.takeA (i := 8) (v := ?_) rfl (by kernel_rfl) (by kernel_rfl) (by kernel_rfl) (fun _ _ _ h => h) (Or.inl ⟨by rfl, ?_⟩) ?_
       rotate_left 1
       ·(intro w0 _; go_simp; try with_reducible rfl)
       try simp only [Act.put, setIfInBounds_toArray, set_cons_zero, set_cons_succ, getElem_toArray, getElem_cons_zero, getElem_cons_succ]
       refine AnyT.takeA (i := 9) (v := ?_) rfl (by kernel_rfl) (by kernel_rfl) (by kernel_rfl) (fun _ _ _ h => h) (Or.inl ⟨by rfl, ?_⟩) ?_
       rotate_left 1
       ·(intro w0 _; go_simp; try with_reducible rfl)
       try simp only [Act.put, setIfInBounds_toArray, set_cons_zero, set_cons_succ, getElem_toArray, getElem_cons_zero, getElem_cons_succ]
       refine AnyT.takeA (i := 10) (v := ?_) rfl (by kernel_rfl) (by kernel_rfl) (by kernel_rfl) (fun _ _ _ h => h) (Or.inl ⟨by rfl, ?_⟩) ?_
       rotate_left 1
       ·(intro w0 _; go_simp; try with_reducible rfl)
       try simp only [Act.put, setIfInBounds_toArray, set_cons_zero, set_cons_succ, getElem_toArray, getElem_cons_zero, getElem_cons_succ]
       refine AnyT.take (i := 11) (v := ?_) rfl (by kernel_rfl) (by kernel_rfl) (by kernel_rfl) (by kernel_rfl) (fun _ _ _ h => h) (Or.inl ⟨by rfl, ?_⟩) (by assumption) ?_
       rotate_left 1
       ·(intro w0 hSw; (try dsimp only at hSw); go_simp; try with_reducible rfl)
       try simp only [Act.put, setIfInBounds_toArray, set_cons_zero, set_cons_succ, getElem_toArray, getElem_cons_zero, getElem_cons_succ]
       refine AnyT.takeA (i := 12) (v := ?_) rfl (by kernel_rfl) (by kernel_rfl) (by kernel_rfl) (fun _ _ _ h => h) (Or.inl ⟨by rfl, ?_⟩) ?_
       rotate_left 1
       ·(intro w0 _; go_simp; try with_reducible rfl)
       try simp only [Act.put, setIfInBounds_toArray, set_cons_zero, set_cons_succ, getElem_toArray, getElem_cons_zero, getElem_cons_succ]
       refine AnyT.takeA (i := 13) (v := ?_) rfl (by kernel_rfl) (by kernel_rfl) (by kernel_rfl) (fun _ _ _ h => h) (Or.inl ⟨by rfl, ?_⟩) ?_
       rotate_left 1
       ·(intro w0 _; go_simp; try with_reducible rfl)
       try simp only [Act.put, setIfInBounds_toArray, set_cons_zero, set_cons_succ, getElem_toArray, getElem_cons_zero, getElem_cons_succ]
       refine AnyT.takeA (i := 14) (v := ?_) rfl (by kernel_rfl) (by kernel_rfl) (by kernel_rfl) (fun _ _ _ h => h) (Or.inl ⟨by rfl, ?_⟩) ?_
       rotate_left 1
       ·(intro w0 _; go_simp; try with_reducible rfl)
       try simp only [Act.put, setIfInBounds_toArray, set_cons_zero, set_cons_succ, getElem_toArray, getElem_cons_zero, getElem_cons_succ]
       refine AnyT.takeA (i := 15) (v := ?_) rfl (by kernel_rfl) (by kernel_rfl) (by kernel_rfl) (fun _ _ _ h => h) (Or.inl ⟨by rfl, ?_⟩) ?_
       rotate_left 1
       ·(intro w0 _; go_simp; try with_reducible rfl)
       try simp only [Act.put, setIfInBounds_toArray, set_cons_zero, set_cons_succ, getElem_toArray, getElem_cons_zero, getElem_cons_succ]
       refine AnyT.take (i := 16) (v := ?_) rfl (by kernel_rfl) (by kernel_rfl) (by kernel_rfl) (by kernel_rfl) (fun _ _ _ h => h) (Or.inl ⟨by rfl, ?_⟩) (by assumption) ?_
       rotate_left 1
       ·(intro w0 hSw; (try dsimp only at hSw); go_simp; try with_reducible rfl)
       try simp only [Act.put, setIfInBounds_toArray, set_cons_zero, set_cons_succ, getElem_toArray, getElem_cons_zero, getElem_cons_succ]
       refine AnyT.takeA (i := 17) (v := ?_) rfl (by kernel_rfl) (by kernel_rfl) (by kernel_rfl) (fun _ _ _ h => h) (Or.inl ⟨by rfl, ?_⟩) ?_
       rotate_left 1
       ·(intro w0 _; go_simp; try with_reducible rfl)
       try simp only [Act.put, setIfInBounds_toArray, set_cons_zero, set_cons_succ, getElem_toArray, getElem_cons_zero, getElem_cons_succ]
       refine AnyT.takeA (i := 18) (v := ?_) rfl (by kernel_rfl) (by kernel_rfl) (by kernel_rfl) (fun _ _ _ h => h) (Or.inl ⟨by rfl, ?_⟩) ?_
       rotate_left 1
       ·(intro w0 _; go_simp; try with_reducible rfl)
       try simp only [Act.put, setIfInBounds_toArray, set_cons_zero, set_cons_succ, getElem_toArray, getElem_cons_zero, getElem_cons_succ]
       refine AnyT.takeA (i := 19) (v := ?_) rfl (by kernel_rfl) (by kernel_rfl) (by kernel_rfl) (fun _ _ _ h => h) (Or.inl ⟨by rfl, ?_⟩) ?_
       rotate_left 1
       ·(intro w0 _; go_simp; try with_reducible rfl)
       try simp only [Act.put, setIfInBounds_toArray, set_cons_zero, set_cons_succ, getElem_toArray, getElem_cons_zero, getElem_cons_succ]
       refine AnyT.take (i := 20) (v := ?_) rfl (by kernel_rfl) (by kernel_rfl) (by kernel_rfl) (by kernel_rfl) (fun _ _ _ h => h) (Or.inl ⟨by rfl, ?_⟩) (by assumption) ?_
       rotate_left 1
       ·(intro w0 hSw; (try dsimp only at hSw); go_simp; try with_reducible rfl)
       try simp only [Act.put, setIfInBounds_toArray, set_cons_zero, set_cons_succ, getElem_toArray, getElem_cons_zero, getElem_cons_succ]
       refine AnyT.call (i := 21) (by kernel_rfl) rfl (fun K hK => ?_)
       try simp only [Act.put, setIfInBounds_toArray, set_cons_zero, set_cons_succ, getElem_toArray, getElem_cons_zero, getElem_cons_succ]
       rw [if_pos (by rfl)]
       go_simp
       (go_at_call 23; refine LI.out.mono ?_; rintro e wz ⟨rfl, bb⟩; have e0 : wz.cell? ⟨o, 0, none⟩ = some (.slice S sn sc) := (bb.cell (p := ⟨o, 0, none⟩) zo).trans c0; have ea : wz.cell? ⟨ba, offa + k, none⟩ = some (.int .i64 y) := (bb.cell (p := ⟨ba, offa + k, none⟩) zba).trans ca; have ei : wz.cell? ⟨bi, offi + i, none⟩ = some (.int .i64 x) := (bb.cell (p := ⟨bi, offi + i, none⟩) zbi).trans ci; go_wp2_with fail)
       refine hK.out _ _ (fun _ _ => ?_) (fun hKeep => ?_)
       ·exact ⟨e0, ea, ei⟩
       replace hHeld := hKeep (by first | rfl | trivial) hHeld
       clear hK K hKeep
       try simp only [Act.put, setIfInBounds_toArray, set_cons_zero, set_cons_succ, getElem_toArray, getElem_cons_zero, getElem_cons_succ]
       refine AnyT.takeA (i := 22) (v := ?_) rfl (by kernel_rfl) (by kernel_rfl) (by kernel_rfl) (fun _ _ _ h => h) (Or.inl ⟨by rfl, ?_⟩) ?_
       rotate_left 1
       ·(intro w0 _; go_simp; try with_reducible rfl)
       try simp only [Act.put, setIfInBounds_toArray, set_cons_zero, set_cons_succ, getElem_toArray, getElem_cons_zero, getElem_cons_succ]
       refine AnyT.done (by kernel_rfl) ?_ _
       have HL2 := hid (HL.out.next bb)
       clear c0 ca ci bb HL LI e0 ea ei
       go_wp2
       go_roundg (gk - 1)
       case measure => have := HK.out; omega
       case rel => exact ⟨k + 1, by simp, by have := HK.out; omega, HL2.out⟩
     ·have e1 : k = n1 := by have := HK.out; omega
      subst e1
      have HL := hid L
      have h1 : ¬ (k : Int) < (k : Int) := by omega
      clear L
      go_wp2
      go_roundg (G - 1)
      case measure => have := HI.out; omega
      case rel => exact ⟨i + 1, by simp, by have := HI.out; omega, HL.out⟩
   ·have e1 : i = n2 := by have := HI.out; omega
    have h1 : ¬ (i : Int) < (n2 : Int) := by omega
    have HL := hid L
    clear L hi e1 HI
    go_wp2_with fail
    go_loopg [10] n3 (fun g i_ wr => ∃ i : Nat, i_ = .int .i64 i ∧ i + g = n3 ∧ Lr w o S sn sc R rn rc d U un uc t A1 n1 A2 n2 A3 n3 wr)
    case atStart => exact ⟨0, rfl, by omega, HL.out⟩
    case round =>
     clear HL
     obtain ⟨i, rfl, hig, L⟩ := hrel
     obtain ⟨G, hG⟩ : ∃ G, G = gk := ⟨_, rfl⟩
     subst hG
     have HI := hid hig
     clear hig
     by_cases hi : i < n3
     ·obtain ⟨bi, offi, x, eA, hbi, ci, ex⟩ := L.q.spot hi
      subst eA
      have HXX := hid (show (outmostI d.1 d.2 t).getD i 0 = x from ex.out)
      have hx : x ∈ outmostI d.1 d.2 t := by rw [← ex.out]; exact get_mem (by rw [L.q.1]; exact hi)
      obtain ⟨x1, x2⟩ := place_bd (out_sub hx)
      have HX := hid hx
      have i0 : (0 : Int) ≤ (i : Int) := by omega
      have i1 : (i : Int) < (n3 : Int) := by omega
      have HL := hid L
      clear L ci ex hx
      go_wp2_with fail
      go_loopg [11] n1 (fun g k_ wr => ∃ k : Nat, k_ = .int .i64 k ∧ k + g = n1 ∧ Lr w o S sn sc R rn rc d U un uc t A1 n1 A2 n2 (some ⟨bi, offi, none⟩) n3 wr)
      case atStart => exact ⟨0, rfl, by omega, HL.out⟩
      case round =>
       clear HL
       obtain ⟨k, rfl, hkg, L⟩ := hrel
       have HK := hid hkg
       clear hkg
       by_cases hk : k < n1
       ·obtain ⟨ba, offa, y, eA, hba, ca, ey⟩ := L.a.spot hk
        subst eA
        obtain ⟨b9, off9, y9, e9, hbi, ci, ex⟩ := L.q.spot hi
        injection e9 with e9
        injection e9 with e91 e92
        subst e91 e92
        rw [← ex.out, HXX.out] at ci
        have hy : y ∈ placesI d.1 d.2 t := by rw [← ey.out]; exact get_mem (by rw [L.a.1]; exact hk)
        obtain ⟨y1, y2⟩ := place_bd hy
        have k0 : (0 : Int) ≤ (k : Int) := by omega
        have k1 : (k : Int) < (n1 : Int) := by omega
        have hsg := (rd_sys L.y.s HZ.out.1)
        have c0 : wr.drew.cell? ⟨o, 0, none⟩ = some (.slice S sn sc) := L.y.c0
        have ca : wr.drew.cell? ⟨ba, offa + k, none⟩ = some (.int .i64 y) := ca
        have ci : wr.drew.cell? ⟨bi, offi + i, none⟩ = some (.int .i64 x) := ci
        by_cases hxy : y = x
        ·subst hxy
         have hne : (y != y) = false := by simp
         have HL := hid L.drew
         clear L hy ey ex hsg
         go_wp2_with fail
         refine AnyT.start (S := (fun w' => w'.cell? ⟨o, 0, none⟩ = some (.slice S sn sc) ∧ w'.cell? ⟨ba, offa + k, none⟩ = some (.int .i64 y) ∧ w'.cell? ⟨bi, offi + i, none⟩ = some (.int .i64 y))) (fun _ => false) (by kernel_rfl) ⟨c0, ca, ci⟩ (fun hHeld => ?_)
         refine AnyT.takeA (i := 0) (v := ?_) rfl (by kernel_rfl) (by kernel_rfl) (by kernel_rfl) (fun _ _ _ h => h) (Or.inl ⟨by rfl, ?_⟩) ?_
         rotate_left 1
         ·(intro w0 _; go_simp; try with_reducible rfl)
         try simp only [Act.put, setIfInBounds_toArray, set_cons_zero, set_cons_succ, getElem_toArray, getElem_cons_zero, getElem_cons_succ]
         refine AnyT.takeA (i := 1) (v := ?_) rfl (by kernel_rfl) (by kernel_rfl) (by kernel_rfl) (fun _ _ _ h => h) (Or.inl ⟨by rfl, ?_⟩) ?_
         rotate_left 1
         ·(intro w0 _; go_simp; try with_reducible rfl)
         try simp only [Act.put, setIfInBounds_toArray, set_cons_zero, set_cons_succ, getElem_toArray, getElem_cons_zero, getElem_cons_succ]
         refine AnyT.takeA (i := 2) (v := ?_) rfl (by kernel_rfl) (by kernel_rfl) (by kernel_rfl) (fun _ _ _ h => h) (Or.inl ⟨by rfl, ?_⟩) ?_
         rotate_left 1
         ·(intro w0 _; go_simp; try with_reducible rfl)
         try simp only [Act.put, setIfInBounds_toArray, set_cons_zero, set_cons_succ, getElem_toArray, getElem_cons_zero, getElem_cons_succ]
         refine AnyT.take (i := 3) (v := ?_) rfl (by kernel_rfl) (by kernel_rfl) (by kernel_rfl) (by kernel_rfl) (fun _ _ _ h => h) (Or.inl ⟨by rfl, ?_⟩) (by assumption) ?_
         rotate_left 1
         ·(intro w0 hSw; (try dsimp only at hSw); go_simp; try with_reducible rfl)
         try simp only [Act.put, setIfInBounds_toArray, set_cons_zero, set_cons_succ, getElem_toArray, getElem_cons_zero, getElem_cons_succ]
         refine AnyT.takeA (i := 4) (v := ?_) rfl (by kernel_rfl) (by kernel_rfl) (by kernel_rfl) (fun _ _ _ h => h) (Or.inl ⟨by rfl, ?_⟩) ?_
         rotate_left 1
         ·(intro w0 _; go_simp; try with_reducible rfl)
         try simp only [Act.put, setIfInBounds_toArray, set_cons_zero, set_cons_succ, getElem_toArray, getElem_cons_zero, getElem_cons_succ]
         refine AnyT.takeA (i := 5) (v := ?_) rfl (by kernel_rfl) (by kernel_rfl) (by kernel_rfl) (fun _ _ _ h => h) (Or.inl ⟨by rfl, ?_⟩) ?_
         rotate_left 1
         ·(intro w0 _; go_simp; try with_reducible rfl)
         try simp only [Act.put, setIfInBounds_toArray, set_cons_zero, set_cons_succ, getElem_toArray, getElem_cons_zero, getElem_cons_succ]
         refine AnyT.takeA (i := 6) (v := ?_) rfl (by kernel_rfl) (by kernel_rfl) (by kernel_rfl) (fun _ _ _ h => h) (Or.inl ⟨by rfl, ?_⟩) ?_
         rotate_left 1
         ·(intro w0 _; go_simp; try with_reducible rfl)
         try simp only [Act.put, setIfInBounds_toArray, set_cons_zero, set_cons_succ, getElem_toArray, getElem_cons_zero, getElem_cons_succ]
         refine AnyT.take (i := 7) (v := ?_) rfl (by kernel_rfl) (by kernel_rfl) (by kernel_rfl) (by kernel_rfl) (fun _ _ _ h => h) (Or.inl ⟨by rfl, ?_⟩) (by assumption) ?_
         rotate_left 1
         ·(intro w0 hSw; (try dsimp only at hSw); go_simp; try with_reducible rfl)
         try simp only [Act.put, setIfInBounds_toArray, set_cons_zero, set_cons_succ, getElem_toArray, getElem_cons_zero, getElem_cons_succ]
         refine AnyT.takeA (i := 8) (v := ?_) rfl (by kernel_rfl) (by kernel_rfl) (by kernel_rfl) (fun _ _ _ h => h) (Or.inl ⟨by rfl, ?_⟩) ?_
         rotate_left 1
         ·(intro w0 _; go_simp; try with_reducible rfl)
         try simp only [Act.put, setIfInBounds_toArray, set_cons_zero, set_cons_succ, getElem_toArray, getElem_cons_zero, getElem_cons_succ]
         refine AnyT.takeA (i := 9) (v := ?_) rfl (by kernel_rfl) (by kernel_rfl) (by kernel_rfl) (fun _ _ _ h => h) (Or.inl ⟨by rfl, ?_⟩) ?_
         rotate_left 1
         ·(intro w0 _; go_simp; try with_reducible rfl)
         try simp only [Act.put, setIfInBounds_toArray, set_cons_zero, set_cons_succ, getElem_toArray, getElem_cons_zero, getElem_cons_succ]
         refine AnyT.takeA (i := 10) (v := undef) rfl (by kernel_rfl) (by kernel_rfl) (by kernel_rfl) (fun _ _ _ h => h) (Or.inr ⟨by rfl, rfl⟩) ?_
         try simp only [Act.put, setIfInBounds_toArray, set_cons_zero, set_cons_succ, getElem_toArray, getElem_cons_zero, getElem_cons_succ]
         refine AnyT.takeA (i := 11) (v := undef) rfl (by kernel_rfl) (by kernel_rfl) (by kernel_rfl) (fun _ _ _ h => h) (Or.inr ⟨by rfl, rfl⟩) ?_
         try simp only [Act.put, setIfInBounds_toArray, set_cons_zero, set_cons_succ, getElem_toArray, getElem_cons_zero, getElem_cons_succ]
         refine AnyT.takeA (i := 12) (v := undef) rfl (by kernel_rfl) (by kernel_rfl) (by kernel_rfl) (fun _ _ _ h => h) (Or.inr ⟨by rfl, rfl⟩) ?_
         try simp only [Act.put, setIfInBounds_toArray, set_cons_zero, set_cons_succ, getElem_toArray, getElem_cons_zero, getElem_cons_succ]
         refine AnyT.takeA (i := 13) (v := undef) rfl (by kernel_rfl) (by kernel_rfl) (by kernel_rfl) (fun _ _ _ h => h) (Or.inr ⟨by rfl, rfl⟩) ?_
         try simp only [Act.put, setIfInBounds_toArray, set_cons_zero, set_cons_succ, getElem_toArray, getElem_cons_zero, getElem_cons_succ]
         refine AnyT.takeA (i := 14) (v := undef) rfl (by kernel_rfl) (by kernel_rfl) (by kernel_rfl) (fun _ _ _ h => h) (Or.inr ⟨by rfl, rfl⟩) ?_
         try simp only [Act.put, setIfInBounds_toArray, set_cons_zero, set_cons_succ, getElem_toArray, getElem_cons_zero, getElem_cons_succ]
         refine AnyT.takeA (i := 15) (v := undef) rfl (by kernel_rfl) (by kernel_rfl) (by kernel_rfl) (fun _ _ _ h => h) (Or.inr ⟨by rfl, rfl⟩) ?_
         try simp only [Act.put, setIfInBounds_toArray, set_cons_zero, set_cons_succ, getElem_toArray, getElem_cons_zero, getElem_cons_succ]
         refine AnyT.takeA (i := 16) (v := undef) rfl (by kernel_rfl) (by kernel_rfl) (by kernel_rfl) (fun _ _ _ h => h) (Or.inr ⟨by rfl, rfl⟩) ?_
         try simp only [Act.put, setIfInBounds_toArray, set_cons_zero, set_cons_succ, getElem_toArray, getElem_cons_zero, getElem_cons_succ]
         refine AnyT.takeA (i := 17) (v := undef) rfl (by kernel_rfl) (by kernel_rfl) (by kernel_rfl) (fun _ _ _ h => h) (Or.inr ⟨by rfl, rfl⟩) ?_
         try simp only [Act.put, setIfInBounds_toArray, set_cons_zero, set_cons_succ, getElem_toArray, getElem_cons_zero, getElem_cons_succ]
         refine AnyT.takeA (i := 18) (v := undef) rfl (by kernel_rfl) (by kernel_rfl) (by kernel_rfl) (fun _ _ _ h => h) (Or.inr ⟨by rfl, rfl⟩) ?_
         try simp only [Act.put, setIfInBounds_toArray, set_cons_zero, set_cons_succ, getElem_toArray, getElem_cons_zero, getElem_cons_succ]
         refine AnyT.takeA (i := 19) (v := undef) rfl (by kernel_rfl) (by kernel_rfl) (by kernel_rfl) (fun _ _ _ h => h) (Or.inr ⟨by rfl, rfl⟩) ?_
         try simp only [Act.put, setIfInBounds_toArray, set_cons_zero, set_cons_succ, getElem_toArray, getElem_cons_zero, getElem_cons_succ]
         refine AnyT.takeA (i := 20) (v := undef) rfl (by kernel_rfl) (by kernel_rfl) (by kernel_rfl) (fun _ _ _ h => h) (Or.inr ⟨by rfl, rfl⟩) ?_
         try simp only [Act.put, setIfInBounds_toArray, set_cons_zero, set_cons_succ, getElem_toArray, getElem_cons_zero, getElem_cons_succ]
         refine AnyT.call (i := 21) (by kernel_rfl) rfl (fun K hK => ?_)
         try simp only [Act.put, setIfInBounds_toArray, set_cons_zero, set_cons_succ, getElem_toArray, getElem_cons_zero, getElem_cons_succ]
         rw [if_neg (by intro h; cases h)]
         refine hK.out _ _ (fun _ h => h) (fun _ => ?_)
         clear hK K
         try simp only [Act.put, setIfInBounds_toArray, set_cons_zero, set_cons_succ, getElem_toArray, getElem_cons_zero, getElem_cons_succ]
         refine AnyT.takeA (i := 22) (v := ?_) rfl (by kernel_rfl) (by kernel_rfl) (by kernel_rfl) (fun _ _ _ h => h) (Or.inl ⟨by rfl, ?_⟩) ?_
         rotate_left 1
         ·(intro w0 _; go_simp; try with_reducible rfl)
         try simp only [Act.put, setIfInBounds_toArray, set_cons_zero, set_cons_succ, getElem_toArray, getElem_cons_zero, getElem_cons_succ]
         refine AnyT.done (by kernel_rfl) ?_ _
         clear c0 ca ci
         go_wp2
         go_roundg (gk - 1)
         case measure => have := HK.out; omega
         case rel => exact ⟨k + 1, by simp, by have := HK.out; omega, HL.out⟩
        ·have hne : (y != x) = true := by simp; exact hxy
         have hap : insideB d.1 t y x = false := out_apart HX.out hy hxy
         have LI := hid (implInsideIn S U sn sc un uc d.1 t y x wr.drew (sg_seg L.drew.y.s) (L.drew.y.t.seg) hsn.1 hsn.2 (by omega) (by omega))
         rw [hap] at LI
         have HL := hid L.drew
         have zo : o < wr.drew.heap.size := L.drew.y.r.lt
         have zba : ba < wr.drew.heap.size := hba
         have zbi : bi < wr.drew.heap.size := hbi
         clear L hy ey ex hap hxy hsg
         go_wp2_with fail
         refine AnyT.start (S := (fun w' => w'.cell? ⟨o, 0, none⟩ = some (.slice S sn sc) ∧ w'.cell? ⟨ba, offa + k, none⟩ = some (.int .i64 y) ∧ w'.cell? ⟨bi, offi + i, none⟩ = some (.int .i64 x))) (fun _ => false) (by kernel_rfl) ⟨c0, ca, ci⟩ (fun hHeld => ?_)
         refine AnyT.takeA (i := 0) (v := ?_) rfl (by kernel_rfl) (by kernel_rfl) (by kernel_rfl) (fun _ _ _ h => h) (Or.inl ⟨by rfl, ?_⟩) ?_
         rotate_left 1
         ·(intro w0 _; go_simp; try with_reducible rfl)
         try simp only [Act.put, setIfInBounds_toArray, set_cons_zero, set_cons_succ, getElem_toArray, getElem_cons_zero, getElem_cons_succ]
         refine AnyT.takeA (i := 1) (v := ?_) rfl (by kernel_rfl) (by kernel_rfl) (by kernel_rfl) (fun _ _ _ h => h) (Or.inl ⟨by rfl, ?_⟩) ?_
         rotate_left 1
         ·(intro w0 _; go_simp; try with_reducible rfl)
         try simp only [Act.put, setIfInBounds_toArray, set_cons_zero, set_cons_succ, getElem_toArray, getElem_cons_zero, getElem_cons_succ]
         refine AnyT.takeA (i := 2) (v := ?_) rfl (by kernel_rfl) (by kernel_rfl) (by kernel_rfl) (fun _ _ _ h => h) (Or.inl ⟨by rfl, ?_⟩) ?_
         rotate_left 1
         ·(intro w0 _; go_simp; try with_reducible rfl)
         try simp only [Act.put, setIfInBounds_toArray, set_cons_zero, set_cons_succ, getElem_toArray, getElem_cons_zero, getElem_cons_succ]
         refine AnyT.take (i := 3) (v := ?_) rfl (by kernel_rfl) (by kernel_rfl) (by kernel_rfl) (by kernel_rfl) (fun _ _ _ h => h) (Or.inl ⟨by rfl, ?_⟩) (by assumption) ?_
         rotate_left 1
         ·(intro w0 hSw; (try dsimp only at hSw); go_simp; try with_reducible rfl)
         try simp only [Act.put, setIfInBounds_toArray, set_cons_zero, set_cons_succ, getElem_toArray, getElem_cons_zero, getElem_cons_succ]
         refine AnyT.takeA (i := 4) (v := ?_) rfl (by kernel_rfl) (by kernel_rfl) (by kernel_rfl) (fun _ _ _ h => h) (Or.inl ⟨by rfl, ?_⟩) ?_
         rotate_left 1
         ·(intro w0 _; go_simp; try with_reducible rfl)
         try simp only [Act.put, setIfInBounds_toArray, set_cons_zero, set_cons_succ, getElem_toArray, getElem_cons_zero, getElem_cons_succ]
         refine AnyT.takeA (i := 5) (v := ?_) rfl (by kernel_rfl) (by kernel_rfl) (by kernel_rfl) (fun _ _ _ h => h) (Or.inl ⟨by rfl, ?_⟩) ?_
         rotate_left 1
         ·(intro w0 _; go_simp; try with_reducible rfl)
         try simp only [Act.put, setIfInBounds_toArray, set_cons_zero, set_cons_succ, getElem_toArray, getElem_cons_zero, getElem_cons_succ]
         refine AnyT.takeA (i := 6) (v := ?_) rfl (by kernel_rfl) (by kernel_rfl) (by kernel_rfl) (fun _ _ _ h => h) (Or.inl ⟨by rfl, ?_⟩) ?_
         rotate_left 1
         ·(intro w0 _; go_simp; try with_reducible rfl)
         try simp only [Act.put, setIfInBounds_toArray, set_cons_zero, set_cons_succ, getElem_toArray, getElem_cons_zero, getElem_cons_succ]
         refine AnyT.take (i := 7) (v := ?_) rfl (by kernel_rfl) (by kernel_rfl) (by kernel_rfl) (by kernel_rfl) (fun _ _ _ h => h) (Or.inl ⟨by rfl, ?_⟩) (by assumption) ?_
         rotate_left 1
         ·(intro w0 hSw; (try dsimp only at hSw); go_simp; try with_reducible rfl)
         try simp only [Act.put, setIfInBounds_toArray, set_cons_zero, set_cons_succ, getElem_toArray, getElem_cons_zero, getElem_cons_succ]
         refine AnyT.takeA (i := 8) (v := ?_) rfl (by kernel_rfl) (by kernel_rfl) (by kernel_rfl) (fun _ _ _ h => h) (Or.inl ⟨by rfl, ?_⟩) ?_
         rotate_left 1
         ·(intro w0 _; go_simp; try with_reducible rfl)
         try simp only [Act.put, setIfInBounds_toArray, set_cons_zero, set_cons_succ, getElem_toArray, getElem_cons_zero, getElem_cons_succ]
         refine AnyT.takeA (i := 9) (v := ?_) rfl (by kernel_rfl) (by kernel_rfl) (by kernel_rfl) (fun _ _ _ h => h) (Or.inl ⟨by rfl, ?_⟩) ?_
         rotate_left 1
         ·(intro w0 _; go_simp; try with_reducible rfl)
         try simp only [Act.put, setIfInBounds_toArray, set_cons_zero, set_cons_succ, getElem_toArray, getElem_cons_zero, getElem_cons_succ]
         refine AnyT.takeA (i := 10) (v := ?_) rfl (by kernel_rfl) (by kernel_rfl) (by kernel_rfl) (fun _ _ _ h => h) (Or.inl ⟨by rfl, ?_⟩) ?_
         rotate_left 1
         ·(intro w0 _; go_simp; try with_reducible rfl)
         try simp only [Act.put, setIfInBounds_toArray, set_cons_zero, set_cons_succ, getElem_toArray, getElem_cons_zero, getElem_cons_succ]
         refine AnyT.take (i := 11) (v := ?_) rfl (by kernel_rfl) (by kernel_rfl) (by kernel_rfl) (by kernel_rfl) (fun _ _ _ h => h) (Or.inl ⟨by rfl, ?_⟩) (by assumption) ?_
         rotate_left 1
         ·(intro w0 hSw; (try dsimp only at hSw); go_simp; try with_reducible rfl)
         try simp only [Act.put, setIfInBounds_toArray, set_cons_zero, set_cons_succ, getElem_toArray, getElem_cons_zero, getElem_cons_succ]
         refine AnyT.takeA (i := 12) (v := ?_) rfl (by kernel_rfl) (by kernel_rfl) (by kernel_rfl) (fun _ _ _ h => h) (Or.inl ⟨by rfl, ?_⟩) ?_
         rotate_left 1
         ·(intro w0 _; go_simp; try with_reducible rfl)
         try simp only [Act.put, setIfInBounds_toArray, set_cons_zero, set_cons_succ, getElem_toArray, getElem_cons_zero, getElem_cons_succ]
         refine AnyT.takeA (i := 13) (v := ?_) rfl (by kernel_rfl) (by kernel_rfl) (by kernel_rfl) (fun _ _ _ h => h) (Or.inl ⟨by rfl, ?_⟩) ?_
         rotate_left 1
         ·(intro w0 _; go_simp; try with_reducible rfl)
         try simp only [Act.put, setIfInBounds_toArray, set_cons_zero, set_cons_succ, getElem_toArray, getElem_cons_zero, getElem_cons_succ]
         refine AnyT.takeA (i := 14) (v := ?_) rfl (by kernel_rfl) (by kernel_rfl) (by kernel_rfl) (fun _ _ _ h => h) (Or.inl ⟨by rfl, ?_⟩) ?_
         rotate_left 1
         ·(intro w0 _; go_simp; try with_reducible rfl)
         try simp only [Act.put, setIfInBounds_toArray, set_cons_zero, set_cons_succ, getElem_toArray, getElem_cons_zero, getElem_cons_succ]
         refine AnyT.takeA (i := 15) (v := ?_) rfl (by kernel_rfl) (by kernel_rfl) (by kernel_rfl) (fun _ _ _ h => h) (Or.inl ⟨by rfl, ?_⟩) ?_
         rotate_left 1
         ·(intro w0 _; go_simp; try with_reducible rfl)
         try simp only [Act.put, setIfInBounds_toArray, set_cons_zero, set_cons_succ, getElem_toArray, getElem_cons_zero, getElem_cons_succ]
         refine AnyT.take (i := 16) (v := ?_) rfl (by kernel_rfl) (by kernel_rfl) (by kernel_rfl) (by kernel_rfl) (fun _ _ _ h => h) (Or.inl ⟨by rfl, ?_⟩) (by assumption) ?_
         rotate_left 1
         ·(intro w0 hSw; (try dsimp only at hSw); go_simp; try with_reducible rfl)
         try simp only [Act.put, setIfInBounds_toArray, set_cons_zero, set_cons_succ, getElem_toArray, getElem_cons_zero, getElem_cons_succ]
         refine AnyT.takeA (i := 17) (v := ?_) rfl (by kernel_rfl) (by kernel_rfl) (by kernel_rfl) (fun _ _ _ h => h) (Or.inl ⟨by rfl, ?_⟩) ?_
         rotate_left 1
         ·(intro w0 _; go_simp; try with_reducible rfl)
         try simp only [Act.put, setIfInBounds_toArray, set_cons_zero, set_cons_succ, getElem_toArray, getElem_cons_zero, getElem_cons_succ]
         refine AnyT.takeA (i := 18) (v := ?_) rfl (by kernel_rfl) (by kernel_rfl) (by kernel_rfl) (fun _ _ _ h => h) (Or.inl ⟨by rfl, ?_⟩) ?_
         rotate_left 1
         ·(intro w0 _; go_simp; try with_reducible rfl)
         try simp only [Act.put, setIfInBounds_toArray, set_cons_zero, set_cons_succ, getElem_toArray, getElem_cons_zero, getElem_cons_succ]
         refine AnyT.takeA (i := 19) (v := ?_) rfl (by kernel_rfl) (by kernel_rfl) (by kernel_rfl) (fun _ _ _ h => h) (Or.inl ⟨by rfl, ?_⟩) ?_
         rotate_left 1
         ·(intro w0 _; go_simp; try with_reducible rfl)
         try simp only [Act.put, setIfInBounds_toArray, set_cons_zero, set_cons_succ, getElem_toArray, getElem_cons_zero, getElem_cons_succ]
         refine AnyT.take (i := 20) (v := ?_) rfl (by kernel_rfl) (by kernel_rfl) (by kernel_rfl) (by kernel_rfl) (fun _ _ _ h => h) (Or.inl ⟨by rfl, ?_⟩) (by assumption) ?_
         rotate_left 1
         ·(intro w0 hSw; (try dsimp only at hSw); go_simp; try with_reducible rfl)
         try simp only [Act.put, setIfInBounds_toArray, set_cons_zero, set_cons_succ, getElem_toArray, getElem_cons_zero, getElem_cons_succ]
         refine AnyT.call (i := 21) (by kernel_rfl) rfl (fun K hK => ?_)
         try simp only [Act.put, setIfInBounds_toArray, set_cons_zero, set_cons_succ, getElem_toArray, getElem_cons_zero, getElem_cons_succ]
         rw [if_pos (by rfl)]
         go_simp
         (go_at_call 23; refine LI.out.mono ?_; rintro e wz ⟨rfl, bb⟩; have e0 : wz.cell? ⟨o, 0, none⟩ = some (.slice S sn sc) := (bb.cell (p := ⟨o, 0, none⟩) zo).trans c0; have ea : wz.cell? ⟨ba, offa + k, none⟩ = some (.int .i64 y) := (bb.cell (p := ⟨ba, offa + k, none⟩) zba).trans ca; have ei : wz.cell? ⟨bi, offi + i, none⟩ = some (.int .i64 x) := (bb.cell (p := ⟨bi, offi + i, none⟩) zbi).trans ci; go_wp2_with fail)
         refine hK.out _ _ (fun _ _ => ?_) (fun hKeep => ?_)
         ·exact ⟨e0, ea, ei⟩
         replace hHeld := hKeep (by first | rfl | trivial) hHeld
         clear hK K hKeep
         try simp only [Act.put, setIfInBounds_toArray, set_cons_zero, set_cons_succ, getElem_toArray, getElem_cons_zero, getElem_cons_succ]
         refine AnyT.takeA (i := 22) (v := ?_) rfl (by kernel_rfl) (by kernel_rfl) (by kernel_rfl) (fun _ _ _ h => h) (Or.inl ⟨by rfl, ?_⟩) ?_
         rotate_left 1
         ·(intro w0 _; go_simp; try with_reducible rfl)
         try simp only [Act.put, setIfInBounds_toArray, set_cons_zero, set_cons_succ, getElem_toArray, getElem_cons_zero, getElem_cons_succ]
         refine AnyT.done (by kernel_rfl) ?_ _
         have HL2 := hid (HL.out.next bb)
         clear c0 ca ci bb HL LI e0 ea ei
         go_wp2
         go_roundg (gk - 1)
         case measure => have := HK.out; omega
         case rel => exact ⟨k + 1, by simp, by have := HK.out; omega, HL2.out⟩
       ·have e1 : k = n1 := by have := HK.out; omega
        subst e1
        have HL := hid L
        have h1 : ¬ (k : Int) < (k : Int) := by omega
        clear L
        go_wp2
        go_roundg (G - 1)
        case measure => have := HI.out; omega
        case rel => exact ⟨i + 1, by simp, by have := HI.out; omega, HL.out⟩
     ·have e1 : i = n3 := by have := HI.out; omega
      subst e1
      have HL := hid L
      have h1 : ¬ (i : Int) < (i : Int) := by omega
      clear L
      have hz0 := HL.out
      cases hp : placesI d.1 d.2 t with
      | nil =>
       have e1 : n1 = 0 := by rw [← HL.out.a.1, hp]; rfl
       have e2 : n2 = 0 := by rw [← HL.out.i.1, in_none.2 hp]; rfl
       have e3 : i = 0 := by rw [← HL.out.q.1, out_none.2 hp]; rfl
       have c0 : wr.cell? ⟨o, 0, none⟩ = some (.slice S sn sc) := HL.out.y.c0
       have c1 : wr.cell? ⟨o, 1, none⟩ = some (.slice R rn rc) := HL.out.y.c1
       have LP := hid (implPickBy _ _ _ d t 2 wr HL.out.y.s HL.out.y.t HZ.out.1 HZ.out.2 (by omega) (by omega))
       rw [pick_two, hp] at LP
       have LP := hid (show Calls Try.prog 24 #[.agg #[.slice S sn sc, .slice R rn rc], .slice U un uc, .int .i64 2] wr (fun e w' => e = .returned (.tuple #[.int .i64 0, .int .i64 0, .bool false]) ∧ Below wr.heap.size wr w') from LP.out)
       subst e1 e2 e3
       clear hp hz0
       go_wp2_with fail
       refine LP.out.mono ?_
       rintro e wz ⟨rfl, bb⟩
       have F := hid (HL.out.y.next bb).b
       clear bb HL LP c0 c1
       go_wp2
       go_ret
       exact ⟨rfl, F.out⟩
      | cons y r =>
       have p1 : 0 < n1 := by rw [← HL.out.a.1, hp]; simp
       have p2 : 0 < n2 := by rw [← HL.out.i.1]; exact List.length_pos_iff.2 (fun e => by rw [in_none.1 e] at hp; cases hp)
       have hoh : (outmostI d.1 d.2 t).head? = some y := by rw [outI_head, hp]; rfl
       have p3 : 0 < i := by rw [← HL.out.q.1]; exact List.length_pos_iff.2 (fun e => by rw [e] at hoh; cases hoh)
       obtain ⟨bq, offq, z, eA, hbq, cq, ez⟩ := HL.out.q.spot p3
       have hzy : z = y := by
        have h1 := ez.out
        cases hq : outmostI d.1 d.2 t with
        | nil => rw [hq] at hoh; cases hoh
        | cons q1 q2 =>
         rw [hq] at hoh h1
         injection hoh with hoh
         simp at h1
         omega
       subst hzy
       subst eA
       have hm : z ∈ placesI d.1 d.2 t := by rw [hp]; exact List.mem_cons_self ..
       have hmb := place_bd hm
       have hpk : pickO d.1 d.2 t 2 = some (z, ruleF d.1 d.2 t z.toNat) := by rw [pick_two, hp]; rfl
       have hred := pick_redex hpk
       obtain ⟨hrr, zz, hzz, hzh, ezz⟩ := placesI_mem hm
       obtain ⟨kk, hkk, ek, -, -⟩ := has_rule hzh
       have hkk12 : kk < 12 := by have := (sys_parts (right_parts hrr).1).2.1; omega
       have erk : ruleF d.1 d.2 t z.toNat = (kk : Int) := by rw [ezz, Int.toNat_natCast]; exact ek
       rw [erk] at hpk hred
       have c0 : wr.cell? ⟨o, 0, none⟩ = some (.slice S sn sc) := HL.out.y.c0
       have c1 : wr.cell? ⟨o, 1, none⟩ = some (.slice R rn rc) := HL.out.y.c1
       have LP := hid (implPickBy _ _ _ d t 2 wr HL.out.y.s HL.out.y.t HZ.out.1 HZ.out.2 (by omega) (by omega))
       rw [hpk] at LP
       have LP := hid (show Calls Try.prog 24 #[.agg #[.slice S sn sc, .slice R rn rc], .slice U un uc, .int .i64 2] wr (fun e w' => e = .returned (.tuple #[.int .i64 z, .int .i64 (kk : Int), .bool true]) ∧ Below wr.heap.size wr w') from LP.out)
       have LR := hid (fun (w9 : World) (T9 : Sy w o S sn sc R rn rc d (.slice U un uc) t w9) => implRedexAt _ _ _ d t z (kk : Int) w9 T9.s T9.t HZ.out.1 HZ.out.2 (by omega) (by omega) (by omega) (by omega))
       rw [hred] at LR
       have q1 : (0 : Int) < (n1 : Int) := by omega
       have q2 : (0 : Int) < (n2 : Int) := by omega
       have q3 : (0 : Int) < (i : Int) := by omega
       have eqz : (z == z) = true := by simp
       have hbq := hbq
       clear hp hz0 hoh ez hm hmb hpk hred hrr hzz hzh ezz hkk ek erk
       go_wp2_with fail
       refine LP.out.mono ?_
       rintro e wz ⟨rfl, bb⟩
       have TZ := HL.out.y.next bb
       have d0 : wz.cell? ⟨o, 0, none⟩ = some (.slice S sn sc) := TZ.c0
       have d1 : wz.cell? ⟨o, 1, none⟩ = some (.slice R rn rc) := TZ.c1
       have dq : wz.cell? ⟨bq, offq + 0, none⟩ = some (.int .i64 z) := (bb.cell (p := ⟨bq, offq + 0, none⟩) hbq).trans cq
       have dq0 : wz.cell? ⟨bq, offq, none⟩ = some (.int .i64 z) := dq
       have LRZ := hid (LR.out wz TZ)
       have HTZ := hid TZ
       clear bb HL LP c0 c1 cq TZ LR
       go_wp2_with fail
       refine LRZ.out.mono ?_
       rintro e wy ⟨rfl, bb⟩
       have F := hid (HTZ.out.next bb).b
       clear bb LRZ HTZ d0 d1 dq dq0
       go_wp2
       go_ret
       exact ⟨rfl, F.out⟩
 ·have LB := hid (bigAns A n c true w (by simp; omega) hN)
  clear h
  go_enter Try.func4, Try.ntmps4
  go_wp2_with fail
  refine LB.out.mono ?_
  rintro e w' ⟨rfl, rfl⟩
  go_wp2
  go_ret
  exact ⟨rfl, Below.refl _ _⟩
end wFnRedexes
end
end Go.Proofs.Ytmoidijngeijkaa
