/-
  MERGED: my texts ConcatS, WalkImplB, WalkX3, LawW, LawT, W5, HeldT2, one behind the other, as they are. By an AI agent.
-/
import Derived.Test.YtpcnjcgglonifaaGreatMFnWalksGoOn7
import Derived.Lib.AppendZeros
import Derived.Deep.LoopGhost
import Derived.Deep.QuietTactic
import Derived.BigQuiet
section
namespace Go.Proofs.YtpcnjcgglonifaaGreat.concatS
open Go.RowKit base ints sig cursor marks app appAt sym segs shape drawX ownL kindsW
set_option maxRecDepth 100000

theorem Rd.one {w : World} {B : Nat} : ∀ {s : Sh} {cs : List Value} {d : Dat s}, Rd w B s cs d → ∀ u ∈ cs, u.oneCell' = true
  | .num, _, _, h, u, hu => by have h : _ = _ := h; rw [h] at hu; rw [List.mem_singleton.1 hu]; rfl
  | .bit, _, _, h, u, hu => by have h : _ = _ := h; rw [h] at hu; rw [List.mem_singleton.1 hu]; rfl
  | .row _ _, _, _, h, u, hu => by obtain ⟨A, n, c, e, _⟩ := h; rw [e] at hu; rw [List.mem_singleton.1 hu]; rfl
  | .cat a b, _, _, h, u, hu => by
    obtain ⟨ca, cb, e, h1, h2⟩ := h
    rw [e] at hu
    rcases List.mem_append.1 hu with hu | hu
    · exact Rd.one h1 u hu
    · exact Rd.one h2 u hu
def Flat (w : World) (B : Nat) (s : Sh) (vs : List Value) (n : Nat) (D : List (Dat s)) : Prop := D.length = n ∧ vs.length = n * nc s ∧ ∀ j, j < n → Rd w B s (cellsOf (nc s) vs j) (D.getD j (dft s))
section
variable {w w' : World} {B n m : Nat} {s : Sh} {vs us : List Value} {D E : List (Dat s)}
theorem Flat.nil (w : World) (B : Nat) (s : Sh) : Flat w B s [] 0 [] := ⟨rfl, by simp, fun j hj => absurd hj (Nat.not_lt_zero _)⟩
theorem Flat.below (h : Flat w B s vs n D) (hb : Below B w w') : Flat w' B s vs n D := ⟨h.1, h.2.1, fun j hj => (h.2.2 j hj).below hb⟩
theorem Flat.app (h : Flat w B s vs n D) (h' : Flat w B s us m E) : Flat w B s (vs ++ us) (n + m) (D ++ E) := by
  refine ⟨by rw [List.length_append, h.1, h'.1], by rw [List.length_append, h.2.1, h'.2.1, Nat.add_mul], fun j hj => ?_⟩
  by_cases ej : j < n
  · rw [cells_left h.2.1 ej, show (D ++ E).getD j (dft s) = D.getD j (dft s) by simp [List.getD, List.getElem?_append_left (show j < D.length by rw [h.1]; exact ej)]]
    exact h.2.2 j ej
  · obtain ⟨i, rfl⟩ : ∃ i, j = n + i := ⟨j - n, by omega⟩
    rw [cells_right h.2.1, show (D ++ E).getD (n + i) (dft s) = E.getD i (dft s) by simp [List.getD, List.getElem?_append_right (show D.length ≤ n + i by rw [h.1]; omega), h.1]]
    exact h'.2.2 i (by omega)
theorem rd_flat {e : TypeId} {S : Option Addr} {c : Nat} (h : Rd w B (.row e s) [.slice S m c] E) (hm : 0 < m) : ∃ b off us, S = some ⟨b, off, none⟩ ∧ b < B ∧ (∀ q u, us[q]? = some u → w.cell? ⟨b, off + q, none⟩ = some u) ∧ (∀ u ∈ us, u.oneCell' = true) ∧ Flat w B s us m E := by
  obtain ⟨A, n', c', e1, hc, hl, h1⟩ := h
  injection e1 with e1
  injection e1 with a1 a2 a3
  subst a1 a2 a3
  obtain ⟨b, off, rfl, hb, h2⟩ := h1 hm
  have hnp := nc_pos s
  obtain ⟨us, hus⟩ : ∃ us, us = (List.range (m * nc s)).map fun q => (w.cell? ⟨b, off + q, none⟩).getD undef := ⟨_, rfl⟩
  have hul : us.length = m * nc s := by rw [hus]; simp
  have hcell : ∀ j, j < m → ∃ es, es.length = nc s ∧ cellsOf (nc s) us j = es ∧ Piece w b (off + j * nc s) es ∧ Rd w B s es (E.getD j (dft s)) := fun j hj => by
    obtain ⟨es, he, hp, hr⟩ := h2 j hj
    have hjn : j * nc s + nc s ≤ m * nc s := by
      have := Nat.mul_le_mul_right (nc s) (show j + 1 ≤ m by omega)
      rw [Nat.add_mul] at this
      omega
    refine ⟨es, he, List.ext_getElem? fun i => ?_, hp, hr⟩
    unfold cellsOf
    rw [List.getElem?_take]
    split
    · rename_i hi
      rw [List.getElem?_drop, hus, List.getElem?_map, List.getElem?_range (show j * nc s + i < m * nc s by omega)]
      have := hp i (by omega)
      show some ((w.cell? ⟨b, off + (j * nc s + i), none⟩).getD undef) = es[i]?
      rw [← Nat.add_assoc, this]
      have hie : i < es.length := by omega
      simp [hie]
    · exact (List.getElem?_eq_none (by omega)).symm
  refine ⟨b, off, us, rfl, hb, fun q u hq => ?_, fun u hu => ?_, hl, hul, fun j hj => ?_⟩
  · have hql := (List.getElem?_eq_some_iff.1 hq).1
    have hj : q / nc s < m := by rw [Nat.div_lt_iff_lt_mul hnp]; omega
    obtain ⟨es, he, hce, hp, _⟩ := hcell _ hj
    have hdm : q / nc s * nc s + q % nc s = q := by rw [Nat.mul_comm]; exact Nat.div_add_mod q (nc s)
    have hmod := Nat.mod_lt q hnp
    have h3 := hp (q % nc s) (by omega)
    rw [show off + q / nc s * nc s + q % nc s = off + q by omega] at h3
    rw [h3, ← hce]
    unfold cellsOf
    rw [List.getElem?_take, if_pos hmod, List.getElem?_drop, hdm]
    exact hq
  · obtain ⟨q, hql, rfl⟩ := List.getElem_of_mem hu
    have hj : q / nc s < m := by rw [Nat.div_lt_iff_lt_mul hnp]; omega
    obtain ⟨es, he, hce, hp, hr⟩ := hcell _ hj
    have hdm : q / nc s * nc s + q % nc s = q := by rw [Nat.mul_comm]; exact Nat.div_add_mod q (nc s)
    have hmod := Nat.mod_lt q hnp
    refine Rd.one hr _ ?_
    rw [← hce]
    refine List.mem_of_getElem? (i := q % nc s) ?_
    unfold cellsOf
    rw [List.getElem?_take, if_pos hmod, List.getElem?_drop, hdm]
    exact List.getElem?_eq_getElem hql
  · obtain ⟨es, _, hce, _, hr⟩ := hcell j hj
    rw [hce]; exact hr
end
theorem appF {w : World} {ops : Array Oper} {rest : List Oper} {o : Oper} {a : Act} {Q : Exit → Act → World → Prop} (hgd : o.guard = none) (sx x : Operand) (T e : TypeId) (s : Sh) (z : Value) (bytes : Nat) (hT : Tryz.prog.underlying T = some (.slice e))
    (hI : (Tryz.prog.info? e).map (fun i => (i.zero, i.size, i.bytes)) = some (some z, nc s, bytes)) (hzc : z.cells.size = nc s) (hby : bytes ≤ 4096)
    (ho : o.op = .call { callee := .builtin .append, args := #[sx, x], argTypes := #[T, T] })
    (lo B : Nat) (A : Option Addr) (n c : Nat) (vs : List Value) (D E : List (Dat s)) (hs : a.eval sx = .slice A n c) (hown : w.ownsRow lo e (nc s) (.slice A n c) n vs) (hF : Flat w B s vs n D)
    (S : Option Addr) (m c2 : Nat) (hx : a.eval x = .slice S m c2) (hR : Rd w B (.row e s) [.slice S m c2] E) (hB : B ≤ lo) (hn : n ≤ 1048576) (hm : m ≤ 1048576) (hlo : lo ≤ w.heap.size)
    (h : ∀ A' c' vs' w', w'.ownsRow lo e (nc s) (.slice A' (n + m) c') (n + m) vs' → Flat w' B s vs' (n + m) (D ++ E) → Below lo w w' → wpList Tryz.prog ops Q rest (a.put o.dst (.slice A' (n + m) c')) w') : wpList Tryz.prog ops Q (o :: rest) a w := by
  obtain ⟨i0, hi', hz0, hz1, hz2⟩ := info_parts hI
  rcases Nat.eq_zero_or_pos m with hm0 | hm0
  · subst hm0
    have hE : E = [] := by
      obtain ⟨A', n', c', e1, _, hl, _⟩ := hR
      injection e1 with e1
      injection e1 with a1 a2 a3
      rw [← a2] at hl
      exact List.eq_nil_of_length_eq_zero hl
    subst hE
    cases S with
    | none =>
      have hc2 : c2 = 0 := by
        obtain ⟨A', n', c', e1, hc, _, _⟩ := hR
        injection e1 with e1
        injection e1 with a1 a2 a3
        rw [← a1, ← a3] at hc
        exact hc.2.2 rfl
      subst hc2
      refine wpList_append_own_none hgd sx x T ho lo e i0 (nc s) hT hi' (.slice A n c) n vs hs hown hx ?_
      exact h A c vs w hown (by rw [List.append_nil]; exact hF) (Below.refl _ _)
    | some ad =>
      refine wpList_append_own_at w hgd sx x T ho lo e i0 z (nc s) bytes hT hi' hz0 hz1 hz2 hzc (nc_pos s) (.slice A n c) n vs hs hown ad 0 c2 [] hx (by simp) (fun j u hj => by simp at hj) (fun u hu => by cases hu) (by unfold maxLen; omega) (by have h1 : (n + 0) * bytes ≤ 1048576 * 4096 := Nat.mul_le_mul (by omega) hby; omega) hlo ?_
      intro v' w' hown' hg hnn hat
      rw [List.append_nil] at hown'
      have hform : ∃ A' c', v' = .slice A' (n + 0) c' := by
        rcases hown'.2 with ⟨e1, h0⟩ | ⟨g', cap, cur, e1, _⟩
        · exact ⟨none, 0, by rw [e1, h0]⟩
        · exact ⟨_, _, e1⟩
      obtain ⟨A', c', rfl⟩ := hform
      rw [blk_own] at hg
      have hbl : Below lo w w' := (Below.refl lo w).grown hg hlo (fun k hk => (World.ownsRow.lt hown k (by rw [blk_own]; exact hk)).1)
      exact h A' c' vs w' hown' (by rw [List.append_nil]; exact hF.below (hbl.mono hB)) hbl
  · obtain ⟨b, off, us, rfl, hb, hcell, hone, hFE⟩ := rd_flat hR hm0
    refine wpList_append_own_at w hgd sx x T ho lo e i0 z (nc s) bytes hT hi' hz0 hz1 hz2 hzc (nc_pos s) (.slice A n c) n vs hs hown ⟨b, off, none⟩ m c2 us hx hFE.2.1 (fun j u hj => ?_) hone (by unfold maxLen; omega) (by have h1 : (n + m) * bytes ≤ 2097152 * 4096 := Nat.mul_le_mul (by omega) hby; omega) hlo ?_
    · have e2 : (⟨b, off, none⟩ : Addr).add j = ⟨b, off + j, none⟩ := by unfold Addr.add; split <;> simp_all
      rw [e2]; exact hcell j u hj
    · intro v' w' hown' hg hnn hat
      have hform : ∃ A' c', v' = .slice A' (n + m) c' := by
        rcases hown'.2 with ⟨e1, h0⟩ | ⟨g', cap, cur, e1, _⟩
        · omega
        · exact ⟨_, _, e1⟩
      obtain ⟨A', c', rfl⟩ := hform
      rw [blk_own] at hg
      have hbl : Below lo w w' := (Below.refl lo w).grown hg hlo (fun k hk => (World.ownsRow.lt hown k (by rw [blk_own]; exact hk)).1)
      exact h A' c' (vs ++ us) w' hown' ((hF.app hFE).below (hbl.mono hB)) hbl

set_option maxHeartbeats 1000000 in
theorem growNilS (s : Nat) (w : World) (hs : s ≤ 2097152) :
    Calls Tryz.prog 128 #[.slice none 0 0, .int .i64 (s : Int)] w fun e w' => ∃ A c, e = .returned (.slice A 0 c) ∧ w'.ownsRow w.heap.size 81 3 (.slice A 0 c) 0 [] ∧ Below w.heap.size w w' := by
  by_cases h0 : s = 0
  · subst h0
    go_enter Tryz.func128, Tryz.ntmps128
    go_wp2
    go_ret
    exact ⟨none, 0, rfl, ⟨by simp, .inl ⟨rfl, rfl⟩⟩, Below.refl _ _⟩
  · obtain ⟨i0, hi, hz0, hz1, hz2⟩ := info_parts info_StepS
    obtain ⟨G, hG⟩ : ∃ G, G = grownCap w s 0 81 := ⟨_, rfl⟩
    have hge : s ≤ G := by rw [hG]; exact grownCap_ge w _ _ _
    have hcm : G ≤ maxLen := by rw [hG]; exact grownCap_le_maxLen w _ _ _ (by unfold maxLen; omega)
    obtain ⟨cs, hcs⟩ : ∃ cs, cs = Builtin.zeroCells (Value.agg #[.int .i64 0, .int .i64 0, .slice none 0 0]).cells s ++ Builtin.zeroCells (Value.agg #[.int .i64 0, .int .i64 0, .slice none 0 0]).cells (G - s) := ⟨_, rfl⟩
    have hsz : cs.size = G * 3 := by
      rw [hcs]
      have e : (Value.agg #[.int .i64 0, .int .i64 0, .slice none 0 0]).cells.size = 3 := rfl
      simp only [Array.size_append, size_zeroCells, e]
      omega
    have hr : ∀ ty, (Builtin.append_ #[39, 3] ty #[.slice none 0 0, .int .i64 (s : Int)]).run Tryz.prog w = .ok (.slice (some ⟨w.heap.size, 0, none⟩) s G) (w.drew.alloc (.cells cs 81)) := fun ty => by
      rw [hG, hcs, hG]
      exact Lib.run_append_nil_zeros w 39 3 ty 81 i0 (.agg #[.int .i64 0, .int .i64 0, .slice none 0 0]) .i64 .i64 Tryz.underlying39 Tryz.underlying3 hi hz0 s (by omega) (by rw [hz1]; omega) (by omega) (by rw [hz2]; omega)
    have hrow : Row (w.drew.alloc (.cells cs 81)) w.heap.size 81 cs := Row.new w.drew _ _
    have hG63 : G ≤ 9223372036854775807 := by unfold maxLen at hcm; omega
    have HF := Lib.hid (show ∃ A c, Ending.returned (.slice (some ⟨w.heap.size, 0, none⟩) 0 G) = .returned (.slice A 0 c) ∧ (w.drew.alloc (.cells cs 81)).ownsRow w.heap.size 81 3 (.slice A 0 c) 0 [] ∧ Below w.heap.size w (w.drew.alloc (.cells cs 81)) from
      ⟨_, _, rfl, ⟨by simp, .inr ⟨w.heap.size, G, cs, rfl, Nat.le_refl _, hrow, Nat.zero_le _, hcm, hsz, by simp⟩⟩, ((Below.refl _ _).drew).alloc (Nat.le_refl _) _⟩)
    clear hrow hsz hcs hG hcm
    have h1 : (0 : Int) < (s : Int) := by omega
    go_enter Tryz.func128, Tryz.ntmps128
    go_wp2_with (at_builtin; refine Lib.wpList_append_run _ rfl _ _ _ _ rfl _ _ rfl rfl _ _ (hr _) ?_)
    go_wp2
    go_ret
    exact HF.out

def sm (n m j : Nat) : Nat := if j = 0 then 0 else if j = 1 then n else n + m
def catS (a b : List (Int × Int × List Int)) (j : Nat) : List (Int × Int × List Int) := if j = 0 then [] else if j = 1 then a else a ++ b

set_option maxHeartbeats 2000000 in
theorem concat2 (G : Nat) (S S' : Option Addr) (n c n' c' B : Nat) (a b : List (Int × Int × List Int)) (w : World) (hG : G < w.heap.size) (h0 : w.cell? ⟨G, 0, none⟩ = some (.slice S n c)) (h1 : w.cell? ⟨G, 1, none⟩ = some (.slice S' n' c')) (ha : Rd w B sStepS [.slice S n c] a) (hb : Rd w B sStepS [.slice S' n' c'] b) (hB : B ≤ w.heap.size) (hn : n ≤ 1048576) (hn' : n' ≤ 1048576) :
    Calls Tryz.prog 85 #[.slice (some ⟨G, 0, none⟩) 2 2] w fun e w' => ∃ A cc vs, e = .returned (.slice A (n + n') cc) ∧ w'.ownsRow w.heap.size 81 3 (.slice A (n + n') cc) (n + n') vs ∧ Flat w' B sStep vs (n + n') (a ++ b) ∧ Below w.heap.size w w' := by
  have HA := Lib.hid ha
  have HB := Lib.hid hb
  clear ha hb
  go_enter Tryz.func85, Tryz.ntmps85
  go_wp2
  go_loopg [3, 11] 2 (fun g s i wr => w = wr ∧ ∃ j : Nat, i = .int .i64 j ∧ j + g = 2 ∧ s = .int .i64 (sm n n' j : Nat))
  case atStart => exact ⟨rfl, 0, rfl, by omega, rfl⟩
  case round =>
    obtain ⟨rfl, j, rfl, hj, rfl⟩ := hrel
    have hcases : j = 0 ∨ j = 1 ∨ j = 2 := by omega
    rcases hcases with rfl | rfl | rfl
    · have HJ := Lib.hid hj
      clear hj
      have e0 : ((sm n n' 0 : Nat) : Int) = 0 := rfl
      rw [e0]
      go_wp2
      go_roundg (gk - 1)
      case measure => have := HJ.out; omega
      case rel => exact ⟨rfl, 1, by simp, by have := HJ.out; omega, by simp [sm]⟩
    · have HJ := Lib.hid hj
      clear hj
      have e0 : ((sm n n' 1 : Nat) : Int) = (n : Int) := rfl
      rw [e0]
      go_wp2
      go_roundg (gk - 1)
      case measure => have := HJ.out; omega
      case rel => exact ⟨rfl, 2, by simp, by have := HJ.out; omega, by simp [sm]⟩
    · have e0 : ((sm n n' 2 : Nat) : Int) = ((n + n' : Nat) : Int) := rfl
      rw [e0]
      have LG := Lib.hid (growNilS (n + n') w (by omega))
      clear hj e0
      go_wp2_with fail
      refine LG.out.mono ?_
      rintro e w1 ⟨O, oc, rfl, o1, b1⟩
      have HP := Lib.hid (show w1.ownsRow w.heap.size 81 3 (.slice O (sm n n' 0) oc) (sm n n' 0) [] ∧ Flat w1 B sStep [] (sm n n' 0) (catS a b 0) ∧ Below w.heap.size w w1 from ⟨o1, Flat.nil _ _ _, b1⟩)
      clear o1 b1 LG
      go_wp2
      go_loopg [6, 27] 2 (fun g s i wr => ∃ (j : Nat) (O : Option Addr) (oc : Nat) (vs : List Value), i = .int .i64 j ∧ j + g = 2 ∧ s = .slice O (sm n n' j) oc ∧ wr.ownsRow w.heap.size 81 3 (.slice O (sm n n' j) oc) (sm n n' j) vs ∧ Flat wr B sStep vs (sm n n' j) (catS a b j) ∧ Below w.heap.size w wr)
      case atStart => exact ⟨0, O, oc, [], rfl, by omega, rfl, HP.out.1, HP.out.2.1, HP.out.2.2⟩
      case round =>
        obtain ⟨j, O, oc, vs, rfl, hj, rfl, ho, hf, hbl⟩ := hrel
        clear HP
        have hcases : j = 0 ∨ j = 1 ∨ j = 2 := by omega
        have k0 : wr.cell? ⟨G, 0, none⟩ = some (.slice S n c) := (hbl.cell (p := ⟨G, 0, none⟩) hG).trans h0
        have k1 : wr.cell? ⟨G, 1, none⟩ = some (.slice S' n' c') := (hbl.cell (p := ⟨G, 1, none⟩) hG).trans h1
        have hsz := hbl.size
        rcases hcases with rfl | rfl | rfl
        · have HJ := Lib.hid hj
          have hR := HA.out.below (hbl.mono hB)
          have ho : wr.ownsRow w.heap.size 81 (nc sStep) (.slice O 0 oc) 0 vs := ho
          have hf : Flat wr B sStep vs 0 [] := hf
          clear hj
          go_wp2_with (at_builtin; refine appF rfl _ _ 39 81 sStep _ _ Tryz.underlying39 info_StepS rfl (by decide) rfl w.heap.size B O 0 oc vs [] a rfl ho hf S n c rfl hR hB (by omega) hn hsz ?_; intro O' oc' vs' w3 ho3 hf3 b3)
          have F := Lib.hid (show w3.ownsRow w.heap.size 81 3 (.slice O' (sm n n' 1) oc') (sm n n' 1) vs' ∧ Flat w3 B sStep vs' (sm n n' 1) (catS a b 1) ∧ Below w.heap.size w w3 from ⟨by have := ho3; rw [Nat.zero_add] at this; exact this, by have := hf3; rw [Nat.zero_add] at this; exact this, hbl.trans b3⟩)
          clear ho ho3 hf hf3 hbl b3 k0 k1 hR
          go_wp2
          go_roundg (gk - 1)
          case measure => have := HJ.out; omega
          case rel => exact ⟨1, O', oc', vs', by simp, by have := HJ.out; omega, by simp [sm], F.out⟩
        · have HJ := Lib.hid hj
          have hR := HB.out.below (hbl.mono hB)
          have ho : wr.ownsRow w.heap.size 81 (nc sStep) (.slice O n oc) n vs := ho
          have hf : Flat wr B sStep vs n a := hf
          clear hj
          have e0 : Value.slice O (sm n n' 1) oc = .slice O n oc := rfl
          rw [e0]
          go_wp2_with (at_builtin; refine appF rfl _ _ 39 81 sStep _ _ Tryz.underlying39 info_StepS rfl (by decide) rfl w.heap.size B O n oc vs a b rfl ho hf S' n' c' rfl hR hB hn hn' hsz ?_; intro O' oc' vs' w3 ho3 hf3 b3)
          have F := Lib.hid (show w3.ownsRow w.heap.size 81 3 (.slice O' (sm n n' 2) oc') (sm n n' 2) vs' ∧ Flat w3 B sStep vs' (sm n n' 2) (catS a b 2) ∧ Below w.heap.size w w3 from ⟨ho3, hf3, hbl.trans b3⟩)
          clear ho ho3 hf hf3 hbl b3 k0 k1 hR
          go_wp2
          go_roundg (gk - 1)
          case measure => have := HJ.out; omega
          case rel => exact ⟨2, O', oc', vs', by simp, by have := HJ.out; omega, by simp [sm], F.out⟩
        · have F := Lib.hid (show ∃ A cc vs, Ending.returned (.slice O (n + n') oc) = .returned (.slice A (n + n') cc) ∧ wr.ownsRow w.heap.size 81 3 (.slice A (n + n') cc) (n + n') vs ∧ Flat wr B sStep vs (n + n') (a ++ b) ∧ Below w.heap.size w wr from ⟨O, oc, vs, rfl, ho, hf, hbl⟩)
          have e0 : Value.slice O (sm n n' 2) oc = .slice O (n + n') oc := rfl
          rw [e0]
          clear ho hf hbl k0 k1 hj
          go_wp2
          go_ret
          exact F.out
end Go.Proofs.YtpcnjcgglonifaaGreat.concatS
end

section
namespace Go.Proofs.YtpcnjcgglonifaaGreat.walkImpl
open Go.RowKit base ints sig term termOk endAt endOf marks app sym sub segs segsHelp kinds termFacts same shifted shape drawX kindsR kindsW varsOf ruleMath ruleSpec stepMath walkMath stepSpec walkSpec ownL concatS heldT
set_option maxRecDepth 100000

theorem OwnL.put {w : World} {lo hi g i c q : Nat} {e : TypeId} {s : Sh} {D : List (Dat s)} {u : Value} (h : OwnL w lo hi e s (some ⟨g, 0, none⟩) i c D) (hq : i * nc s ≤ q) : OwnL (w.setCell ⟨g, q, none⟩ u) lo hi e s (some ⟨g, 0, none⟩) i c D := by
  obtain ⟨h1, h2, vs, G, h3, h4, h5, h6⟩ := h
  refine ⟨h1, h2, vs, G, ⟨h3.1, ?_⟩, h4, h5, fun j hj => ⟨(h6 j hj).1.keep fun k hk => Below.heap_setCell w _ _ k (fun e => ((h6 j hj).2 k hk).2.2 (by have e : k = g := e; rw [e]; rfl)), (h6 j hj).2⟩⟩
  rcases h3.2 with ⟨e1, _⟩ | ⟨g', cap, cur, e1, hg, hr, hn, hm, hs, ht⟩
  · cases e1
  · injection e1 with a1 a2 a3
    injection a1 with a1
    injection a1 with a1
    subst a1 a3
    refine .inr ⟨g, c, cur.setIfInBounds q u, rfl, hg, Row.put (t := e) hr q u, hn, hm, by simpa using hs, ?_⟩
    rw [← ht]
    refine List.ext_getElem? fun z => ?_
    rw [List.getElem?_take, List.getElem?_take]
    split
    · rename_i hz
      rw [Array.getElem?_toList, Array.getElem?_toList, Array.getElem?_setIfInBounds, if_neg (by omega)]
    · rfl
theorem OwnL.ext {w : World} {lo hi mid hi2 g i c : Nat} {e : TypeId} {s : Sh} {D : List (Dat s)} {es : List Value} {y : Dat s} {cur : Array Value} (h : OwnL w lo hi e s (some ⟨g, 0, none⟩) i c D) (hc : i + 1 ≤ c) (hrow : Row w g e cur) (hcell : ∀ q, q < nc s → cur[i * nc s + q]? = es[q]?) (ho : Owned w mid hi2 s es y) (hmid : hi ≤ mid) (hlo : lo ≤ mid) :
    OwnL w lo w.heap.size e s (some ⟨g, 0, none⟩) (i + 1) c (D ++ [y]) := by
  obtain ⟨h1, h2, vs, G, h3, h4, h5, h6⟩ := h
  obtain ⟨F, hF, hFn, hFb⟩ := ho
  have hel := hF.len
  have c1 : cellsOf (nc s) es 0 = es := by unfold cellsOf; rw [Nat.zero_mul, List.drop_zero, List.take_of_length_le (by omega)]
  refine ownL_app (w' := w) (hi2 := hi2) (mid := mid) (es := es) (E := [y]) (H := fun _ => F) (m := 1) h1 h2 h3 h5 h6 hmid hlo rfl (by simpa using hFn) (fun j hj => ?_) ?_ (World.grownBy.refl _ _) (.inl rfl) (fun e => by cases e)
  · obtain rfl : j = 0 := by omega
    rw [c1]; exact ⟨hF, fun q hq => hFb q hq⟩
  · refine ⟨by rw [List.length_append, h3.1, hel, Nat.add_mul, Nat.one_mul], ?_⟩
    rcases h3.2 with ⟨e1, _⟩ | ⟨g', cap, cur', e1, hg, hr, hn, hm, hs, ht⟩
    · cases e1
    · injection e1 with a1 a2 a3
      injection a1 with a1
      injection a1 with a1
      subst a1 a3
      have ecur : cur' = cur := by
        unfold Row at hrow
        rw [hr] at hrow
        injection hrow with hrow
        injection hrow
      subst ecur
      refine .inr ⟨g, c, cur', rfl, hg, hr, hc, hm, hs, ?_⟩
      have hvl : vs.length = i * nc s := h3.1
      refine List.ext_getElem? fun z => ?_
      rw [List.getElem?_take, Nat.add_mul, Nat.one_mul]
      by_cases hz : z < i * nc s
      · rw [if_pos (by omega), List.getElem?_append_left (by omega), ← ht, List.getElem?_take, if_pos hz]
      · by_cases hz2 : z < i * nc s + nc s
        · rw [if_pos hz2, List.getElem?_append_right (by omega), hvl, Array.getElem?_toList]
          have := hcell (z - i * nc s) (by omega)
          rwa [show i * nc s + (z - i * nc s) = z by omega] at this
        · rw [if_neg hz2, List.getElem?_eq_none (by rw [List.length_append]; omega)]

theorem owned_walk2 {w : World} {lo lo2 mid hi : Nat} {X O : Option Addr} {xn xc n c : Nat} {f : List Int} {L : List St} (h : Ownd w mid hi X xn xc f) (h2 : OwnL w lo2 mid 81 sStep O n c L) (h3 : lo ≤ lo2) (h4 : lo ≤ mid) (h5 : mid ≤ hi) : Owned w lo hi sWalk [.slice X xn xc, .slice O n c] (f, L) := by
  obtain ⟨F1, o1, n1, b1⟩ := ow_ints.2 h
  obtain ⟨F2, o2, n2, b2⟩ := h2.owned
  refine ⟨F1 ++ F2, ⟨[.slice X xn xc], [.slice O n c], F1, F2, rfl, rfl, o1, o2⟩, List.nodup_append.2 ⟨n1, n2, fun x hx y hy e => ?_⟩, fun q hq => ?_⟩
  · have := b1 x hx; have := b2 y hy; omega
  · rcases List.mem_append.1 hq with hq | hq
    · have := b1 q hq; omega
    · have := b2 q hq; omega
def Suf (wr : World) (A : Option Addr) (n cc B : Nat) (L : List St) (i : Nat) : Prop := ∀ j, i ≤ j → j < n → ∃ g cur U un uc, A = some ⟨g, 0, none⟩ ∧ Row wr g 81 cur ∧ cur.size = cc * 3 ∧ n ≤ cc ∧ cur[j * 3]? = some (.int .i64 (L.getD j (0, 0, [])).1) ∧ cur[j * 3 + 1]? = some (.int .i64 (L.getD j (0, 0, [])).2.1) ∧ cur[j * 3 + 2]? = some (.slice U un uc) ∧ Rd wr B sI [.slice U un uc] (L.getD j (0, 0, [])).2.2
theorem Suf.next {wr w' : World} {A : Option Addr} {n cc B : Nat} {L : List St} {i : Nat} (h : Suf wr A n cc B L i) (hb : Below wr.heap.size wr w') (hB : B ≤ wr.heap.size) : Suf w' A n cc B L i := fun j h1 h2 => by
  obtain ⟨g, cur, U, un, uc, q1, q2, q3, q4, q5, q6, q7, q8⟩ := h j h1 h2
  exact ⟨g, cur, U, un, uc, q1, q2.next hb, q3, q4, q5, q6, q7, q8.below (hb.mono hB)⟩
theorem Suf.put {wr : World} {g n cc B : Nat} {L : List St} {i : Nat} {u : Value} (h : Suf wr (some ⟨g, 0, none⟩) n cc B L i) (hB : B ≤ g) : Suf (wr.setCell ⟨g, i * 3 + 2, none⟩ u) (some ⟨g, 0, none⟩) n cc B L (i + 1) := fun j h1 h2 => by
  obtain ⟨g', cur, U, un, uc, q1, q2, q3, q4, q5, q6, q7, q8⟩ := h j (by omega) h2
  injection q1 with q1
  injection q1 with q1
  subst q1
  refine ⟨g, _, U, un, uc, rfl, q2.put (i * 3 + 2) u, by simpa using q3, q4, ?_, ?_, ?_, q8.keep fun p hp => World.cell?_setCell_far _ _ _ _ (by show g ≠ p.block; omega)⟩
  · rw [Array.getElem?_setIfInBounds, if_neg (by omega)]; exact q5
  · rw [Array.getElem?_setIfInBounds, if_neg (by omega)]; exact q6
  · rw [Array.getElem?_setIfInBounds, if_neg (by omega)]; exact q7
theorem concat_start {w' : World} {lo B n cc : Nat} {A : Option Addr} {vs : List Value} {L : List St} (ho : w'.ownsRow lo 81 3 (.slice A n cc) n vs) (hf : Flat w' B sStep vs n L) : OwnL w' lo w'.heap.size 81 sStep A 0 cc (L.take 0) ∧ Suf w' A n cc B L 0 ∧ (∀ g, A = some ⟨g, 0, none⟩ → lo ≤ g ∧ g < w'.heap.size) := by
  rcases ho.2 with ⟨e1, h0⟩ | ⟨g, cap, cur, e1, hg, hr, hn, hm, hs, ht⟩
  · injection e1 with a1 a2 a3
    subst a1 a2 a3
    exact ⟨OwnL.nil _ _ _ _ _, fun j _ hj => absurd hj (Nat.not_lt_zero _), fun g e => by cases e⟩
  · injection e1 with a1 a2 a3
    subst a1 a3
    have hlt : g < w'.heap.size := (Array.getElem?_eq_some_iff.1 hr).1
    refine ⟨⟨rfl, fun k hk => by injection hk with hk; have hk : g = k := hk; omega, [], fun _ => [], ⟨by simp, .inr ⟨g, cc, cur, rfl, hg, hr, Nat.zero_le _, hm, hs, by simp⟩⟩, (fun e => by cases e), by simp, fun j hj => absurd hj (Nat.not_lt_zero _)⟩, fun j _ hj => ?_, fun g' e => by injection e with e; injection e with e; subst e; exact ⟨hg, hlt⟩⟩
    have hrd := hf.2.2 j hj
    obtain ⟨v0, hes⟩ := cells_Step hrd
    rw [hes] at hrd
    obtain ⟨-, -, p2⟩ := parts_Step hrd
    obtain ⟨U, un, uc, rfl, -, -⟩ := rd_ints.1 p2
    have hcell : ∀ q, q < 3 → cur[j * 3 + q]? = (cellsOf (nc sStep) vs j)[q]? := fun q hq => by
      have hjn : j * 3 + 3 ≤ n * 3 := by omega
      have h7 : cur.toList[j * 3 + q]? = vs[j * 3 + q]? := by rw [← ht, List.getElem?_take, if_pos (by omega)]
      rw [← Array.getElem?_toList, h7]
      show vs[j * 3 + q]? = ((vs.drop (j * 3)).take 3)[q]?
      rw [List.getElem?_take, if_pos hq, List.getElem?_drop]
    refine ⟨g, cur, U, un, uc, rfl, hr, hs, hn, ?_, ?_, ?_, p2⟩
    · have := hcell 0 (by omega); rw [hes] at this; exact this
    · have := hcell 1 (by omega); rw [hes] at this; exact this
    · have := hcell 2 (by omega); rw [hes] at this; exact this
theorem join_terms {sg : List Int} {rs : List Rl} {a b : Wk} {j : Nat} (ha : walkB sg rs a = true) (hb : walkB sg rs b = true) (hj : j < (a.2 ++ b.2).length) : termOkB sg ((a.2 ++ b.2).getD j (0, 0, [])).2.2 = true := by
  have hm : (a.2 ++ b.2).getD j (0, 0, []) ∈ a.2 ++ b.2 := by
    have e : (a.2 ++ b.2).getD j (0, 0, []) = (a.2 ++ b.2)[j] := by simp only [List.getD, List.getElem?_eq_getElem hj, Option.getD_some]
    rw [e]; exact List.getElem_mem hj
  rcases List.mem_append.1 hm with h | h
  · obtain ⟨-, q2, -, q4⟩ := walk_parts ha
    exact (go_ok q2 q4).2 _ h
  · obtain ⟨-, q2, -, q4⟩ := walk_parts hb
    exact (go_ok q2 q4).2 _ h

set_option maxHeartbeats 8000000 in
theorem implJoinedWalk (a v f s f' s' : Value) (d : Dat sSystem) (k k' : Dat sWalk) (w : World) (h : Rd w w.heap.size sSystem [a, v] d) (h1 : Rd w w.heap.size sWalk [f, s] k) (h2 : Rd w w.heap.size sWalk [f', s'] k') (hz : sz sSystem d ≤ 1048576) (hz1 : sz sWalk k ≤ 1048576) (hz2 : sz sWalk k' ≤ 1048576) :
    Calls Tryz.prog 34 #[.agg #[a, v], .agg #[f, s], .agg #[f', s']] w (AnsWalk w (joinW d.1 d.2 k k') (joinB d.1 d.2 k k')) := by
  obtain ⟨F, fn, fc, S, sn, sc, rfl, rfl, hF, hcF, hfn, hsn0, hsn, hcS, hrF, hrS, hzF, hzS⟩ := rd_walk h1 hz1
  obtain ⟨F', fn', fc', S', sn', sc', rfl, rfl, hF', hcF', hfn', hsn0', hsn', hcS', hrF', hrS', hzF', hzS'⟩ := rd_walk h2 hz2
  have L1 := Lib.hid (fun (wr : World) (J : Jn w a v (.slice F fn fc) (.slice S sn sc) (.slice F' fn' fc') (.slice S' sn' sc') wr) => implWalkOk a v _ _ d k wr (h.next J.b) (h1.next J.b) hz hz1)
  have L2 := Lib.hid (fun (wr : World) (J : Jn w a v (.slice F fn fc) (.slice S sn sc) (.slice F' fn' fc') (.slice S' sn' sc') wr) => implWalkOk a v _ _ d k' wr (h.next J.b) (h2.next J.b) hz hz2)
  have L3 := Lib.hid (fun (wr : World) (J : Jn w a v (.slice F fn fc) (.slice S sn sc) (.slice F' fn' fc') (.slice S' sn' sc') wr) => endImpl _ _ k wr (h1.next J.b) hz1)
  have L4 := Lib.hid (fun (wr : World) (J : Jn w a v (.slice F fn fc) (.slice S sn sc) (.slice F' fn' fc') (.slice S' sn' sc') wr) (X : Option Addr) (xn xc : Nat) (hX : Rd wr wr.heap.size sI [.slice X xn xc] (endL k)) => (implSame X F' xn fn' xc fc' (endL k) k'.1 wr hX.seg (hF'.next J.b) (by rw [← hX.seg.1]; exact end_len hz1) hfn').mono (R' := fun e w' => e = .returned (.bool (decide (endL k = k'.1))) ∧ Below wr.heap.size wr w') (fun _ _ hh => ⟨hh.1, by obtain ⟨dd, e2⟩ := hh.2; rw [e2]; exact drewN_below wr dd⟩))
  have HSEG := Lib.hid (show Seg w w.heap.size F fn k.1 ∧ Rd w w.heap.size sStepS [.slice S sn sc] k.2 ∧ Rd w w.heap.size sStepS [.slice S' sn' sc'] k'.2 from ⟨hF, hrS, hrS'⟩)
  have HL1 := Lib.hid hsn0
  have HL2 := Lib.hid hsn0'
  clear h h1 h2 hz hz1 hz2 hF hcF hcS hrF hrS hzF hzS hF' hcF' hcS' hrF' hrS' hzF' hzS' hsn0 hsn0' hfn'
  obtain ⟨W, hW, J⟩ := jn_new w a v (.slice F fn fc) (.slice S sn sc) (.slice F' fn' fc') (.slice S' sn' sc')
  have HW := Lib.hid hW
  clear hW
  cases ha : walkB d.1 d.2 k with
  | false =>
    have HA := Lib.hid ha
    clear ha
    go_enter Tryz.func34, Tryz.ntmps34
    go_wp2_with fail
    rw [← HW.out]
    have c00 : W.cell? ⟨w.heap.size, 0, none⟩ = some (a) := J.r0.cell 0
    have c01 : W.cell? ⟨w.heap.size, 1, none⟩ = some (v) := J.r0.cell 1
    have c10 : W.cell? ⟨w.heap.size + 1, 0, none⟩ = some (.slice F fn fc) := J.r1.cell 0
    have c11 : W.cell? ⟨w.heap.size + 1, 1, none⟩ = some (.slice S sn sc) := J.r1.cell 1
    have c20 : W.cell? ⟨w.heap.size + 1 + 1, 0, none⟩ = some (.slice F' fn' fc') := J.r2.cell 0
    have c21 : W.cell? ⟨w.heap.size + 1 + 1, 1, none⟩ = some (.slice S' sn' sc') := J.r2.cell 1
    replace J := J.drew
    refine AnyT.start (S := (fun w' => w'.cell? ⟨w.heap.size, 0, none⟩ = some (a) ∧ w'.cell? ⟨w.heap.size, 1, none⟩ = some (v) ∧ w'.cell? ⟨w.heap.size + 1, 0, none⟩ = some (.slice F fn fc) ∧ w'.cell? ⟨w.heap.size + 1, 1, none⟩ = some (.slice S sn sc) ∧ w'.cell? ⟨w.heap.size + 1 + 1, 0, none⟩ = some (.slice F' fn' fc') ∧ w'.cell? ⟨w.heap.size + 1 + 1, 1, none⟩ = some (.slice S' sn' sc'))) (fun _ => false) (by kernel_rfl) ⟨c00, c01, c10, c11, c20, c21⟩ (fun hHeld => ?_)
    refine AnyT.take (i := 0) (v := ?_) rfl (by kernel_rfl) (by kernel_rfl) (by kernel_rfl) (by kernel_rfl) (fun _ _ _ h => h) (Or.inl ⟨by rfl, ?_⟩) (by assumption) ?_
    rotate_left 1
    · (intro w0 hSw; (try dsimp only at hSw); go_simp; try with_reducible rfl)
    try simp only [Act.put, List.setIfInBounds_toArray, List.set_cons_zero, List.set_cons_succ, List.getElem_toArray, List.getElem_cons_zero, List.getElem_cons_succ]
    refine AnyT.take (i := 1) (v := ?_) rfl (by kernel_rfl) (by kernel_rfl) (by kernel_rfl) (by kernel_rfl) (fun _ _ _ h => h) (Or.inl ⟨by rfl, ?_⟩) (by assumption) ?_
    rotate_left 1
    · (intro w0 hSw; (try dsimp only at hSw); go_simp; try with_reducible rfl)
    try simp only [Act.put, List.setIfInBounds_toArray, List.set_cons_zero, List.set_cons_succ, List.getElem_toArray, List.getElem_cons_zero, List.getElem_cons_succ]
    refine AnyT.call (i := 2) (by kernel_rfl) rfl (fun K hK => ?_)
    try simp only [Act.put, List.setIfInBounds_toArray, List.set_cons_zero, List.set_cons_succ, List.getElem_toArray, List.getElem_cons_zero, List.getElem_cons_succ]
    rw [if_pos (by rfl)]
    go_simp
    (go_at_call 14; refine (L1.out _ J).mono ?_; rintro e q1 ⟨he, bb⟩; rw [HA.out] at he; subst he; replace J := J.next bb; have k00_1 : q1.cell? ⟨w.heap.size, 0, none⟩ = some (a) := J.r0.cell 0; have k01_1 : q1.cell? ⟨w.heap.size, 1, none⟩ = some (v) := J.r0.cell 1; have k10_1 : q1.cell? ⟨w.heap.size + 1, 0, none⟩ = some (.slice F fn fc) := J.r1.cell 0; have k11_1 : q1.cell? ⟨w.heap.size + 1, 1, none⟩ = some (.slice S sn sc) := J.r1.cell 1; have k20_1 : q1.cell? ⟨w.heap.size + 1 + 1, 0, none⟩ = some (.slice F' fn' fc') := J.r2.cell 0; have k21_1 : q1.cell? ⟨w.heap.size + 1 + 1, 1, none⟩ = some (.slice S' sn' sc') := J.r2.cell 1; clear bb; go_wp2_with fail)
    refine hK.out _ _ (fun _ _ => ?_) (fun hKeep => ?_)
    · exact ⟨k00_1,k01_1,k10_1,k11_1,k20_1,k21_1⟩
    replace hHeld := hKeep (by first | rfl | trivial) hHeld
    clear hK K hKeep
    try simp only [Act.put, List.setIfInBounds_toArray, List.set_cons_zero, List.set_cons_succ, List.getElem_toArray, List.getElem_cons_zero, List.getElem_cons_succ]
    refine AnyT.takeA (i := 3) (v := ?_) rfl (by kernel_rfl) (by kernel_rfl) (by kernel_rfl) (fun _ _ _ h => h) (Or.inl ⟨by rfl, ?_⟩) ?_
    rotate_left 1
    · (intro w0 _; go_simp; try with_reducible rfl)
    try simp only [Act.put, List.setIfInBounds_toArray, List.set_cons_zero, List.set_cons_succ, List.getElem_toArray, List.getElem_cons_zero, List.getElem_cons_succ]
    refine AnyT.takeA (i := 4) (v := ?_) rfl (by kernel_rfl) (by kernel_rfl) (by kernel_rfl) (fun _ _ _ h => h) (Or.inl ⟨by rfl, ?_⟩) ?_
    rotate_left 1
    · (intro w0 _; go_simp; try with_reducible rfl)
    try simp only [Act.put, List.setIfInBounds_toArray, List.set_cons_zero, List.set_cons_succ, List.getElem_toArray, List.getElem_cons_zero, List.getElem_cons_succ]
    refine AnyT.takeA (i := 5) (v := undef) rfl (by kernel_rfl) (by kernel_rfl) (by kernel_rfl) (fun _ _ _ h => h) (Or.inr ⟨by rfl, rfl⟩) ?_
    try simp only [Act.put, List.setIfInBounds_toArray, List.set_cons_zero, List.set_cons_succ, List.getElem_toArray, List.getElem_cons_zero, List.getElem_cons_succ]
    refine AnyT.takeA (i := 6) (v := undef) rfl (by kernel_rfl) (by kernel_rfl) (by kernel_rfl) (fun _ _ _ h => h) (Or.inr ⟨by rfl, rfl⟩) ?_
    try simp only [Act.put, List.setIfInBounds_toArray, List.set_cons_zero, List.set_cons_succ, List.getElem_toArray, List.getElem_cons_zero, List.getElem_cons_succ]
    refine AnyT.call (i := 7) (by kernel_rfl) rfl (fun K hK => ?_)
    try simp only [Act.put, List.setIfInBounds_toArray, List.set_cons_zero, List.set_cons_succ, List.getElem_toArray, List.getElem_cons_zero, List.getElem_cons_succ]
    rw [if_neg (by intro h; cases h)]
    refine hK.out _ _ (fun _ h => h) (fun _ => ?_)
    clear hK K
    try simp only [Act.put, List.setIfInBounds_toArray, List.set_cons_zero, List.set_cons_succ, List.getElem_toArray, List.getElem_cons_zero, List.getElem_cons_succ]
    refine AnyT.takeA (i := 8) (v := undef) rfl (by kernel_rfl) (by kernel_rfl) (by kernel_rfl) (fun _ _ _ h => h) (Or.inr ⟨by rfl, rfl⟩) ?_
    try simp only [Act.put, List.setIfInBounds_toArray, List.set_cons_zero, List.set_cons_succ, List.getElem_toArray, List.getElem_cons_zero, List.getElem_cons_succ]
    refine AnyT.takeA (i := 9) (v := ?_) rfl (by kernel_rfl) (by kernel_rfl) (by kernel_rfl) (fun _ _ _ h => h) (Or.inl ⟨by rfl, ?_⟩) ?_
    rotate_left 1
    · (intro w0 _; go_simp; try with_reducible rfl)
    try simp only [Act.put, List.setIfInBounds_toArray, List.set_cons_zero, List.set_cons_succ, List.getElem_toArray, List.getElem_cons_zero, List.getElem_cons_succ]
    refine AnyT.takeA (i := 10) (v := ?_) rfl (by kernel_rfl) (by kernel_rfl) (by kernel_rfl) (fun _ _ _ h => h) (Or.inl ⟨by rfl, ?_⟩) ?_
    rotate_left 1
    · (intro w0 _; go_simp; try with_reducible rfl)
    try simp only [Act.put, List.setIfInBounds_toArray, List.set_cons_zero, List.set_cons_succ, List.getElem_toArray, List.getElem_cons_zero, List.getElem_cons_succ]
    refine AnyT.takeA (i := 11) (v := undef) rfl (by kernel_rfl) (by kernel_rfl) (by kernel_rfl) (fun _ _ _ h => h) (Or.inr ⟨by rfl, rfl⟩) ?_
    try simp only [Act.put, List.setIfInBounds_toArray, List.set_cons_zero, List.set_cons_succ, List.getElem_toArray, List.getElem_cons_zero, List.getElem_cons_succ]
    refine AnyT.takeA (i := 13) (v := undef) rfl (by kernel_rfl) (by kernel_rfl) (by kernel_rfl) (fun _ _ _ h => h) (Or.inr ⟨by rfl, rfl⟩) ?_
    try simp only [Act.put, List.setIfInBounds_toArray, List.set_cons_zero, List.set_cons_succ, List.getElem_toArray, List.getElem_cons_zero, List.getElem_cons_succ]
    refine AnyT.takeA (i := 14) (v := undef) rfl (by kernel_rfl) (by kernel_rfl) (by kernel_rfl) (fun _ _ _ h => h) (Or.inr ⟨by rfl, rfl⟩) ?_
    try simp only [Act.put, List.setIfInBounds_toArray, List.set_cons_zero, List.set_cons_succ, List.getElem_toArray, List.getElem_cons_zero, List.getElem_cons_succ]
    refine AnyT.call (i := 12) (by kernel_rfl) rfl (fun K hK => ?_)
    try simp only [Act.put, List.setIfInBounds_toArray, List.set_cons_zero, List.set_cons_succ, List.getElem_toArray, List.getElem_cons_zero, List.getElem_cons_succ]
    rw [if_neg (by intro h; cases h)]
    refine hK.out _ _ (fun _ h => h) (fun _ => ?_)
    clear hK K
    try simp only [Act.put, List.setIfInBounds_toArray, List.set_cons_zero, List.set_cons_succ, List.getElem_toArray, List.getElem_cons_zero, List.getElem_cons_succ]
    refine AnyT.call (i := 15) (by kernel_rfl) rfl (fun K hK => ?_)
    try simp only [Act.put, List.setIfInBounds_toArray, List.set_cons_zero, List.set_cons_succ, List.getElem_toArray, List.getElem_cons_zero, List.getElem_cons_succ]
    rw [if_neg (by intro h; cases h)]
    refine hK.out _ _ (fun _ h => h) (fun _ => ?_)
    clear hK K
    try simp only [Act.put, List.setIfInBounds_toArray, List.set_cons_zero, List.set_cons_succ, List.getElem_toArray, List.getElem_cons_zero, List.getElem_cons_succ]
    refine AnyT.takeA (i := 16) (v := undef) rfl (by kernel_rfl) (by kernel_rfl) (by kernel_rfl) (fun _ _ _ h => h) (Or.inr ⟨by rfl, rfl⟩) ?_
    try simp only [Act.put, List.setIfInBounds_toArray, List.set_cons_zero, List.set_cons_succ, List.getElem_toArray, List.getElem_cons_zero, List.getElem_cons_succ]
    refine AnyT.takeA (i := 17) (v := ?_) rfl (by kernel_rfl) (by kernel_rfl) (by kernel_rfl) (fun _ _ _ h => h) (Or.inl ⟨by rfl, ?_⟩) ?_
    rotate_left 1
    · (intro w0 _; go_simp; try with_reducible rfl)
    try simp only [Act.put, List.setIfInBounds_toArray, List.set_cons_zero, List.set_cons_succ, List.getElem_toArray, List.getElem_cons_zero, List.getElem_cons_succ]
    refine AnyT.done (by kernel_rfl) ?_ _
    clear c00 c01 c10 c11 c20 c21
    have y0 : q1.cell? ⟨w.heap.size + 1 + 1 + 1, 0, none⟩ = some (.slice none 0 0) := J.r3.cell 0
    have y1 : q1.cell? ⟨w.heap.size + 1 + 1 + 1, 1, none⟩ = some (.slice none 0 0) := J.r3.cell 1
    have g0 := J.r3.free 0
    have g1 := J.r3.free 1
    have ra := J.r3.put 0 (.slice none 0 0)
    have y2 : (q1.setCell ⟨w.heap.size + 1 + 1 + 1, 0, none⟩ (.slice none 0 0)).cell? ⟨w.heap.size + 1 + 1 + 1, 1, none⟩ = some (.slice none 0 0) := ra.cell 1
    have g2 := ra.free 1
    have rb := ra.put 1 (.slice none 0 0)
    have u0 : ((q1.setCell ⟨w.heap.size + 1 + 1 + 1, 0, none⟩ (.slice none 0 0)).setCell ⟨w.heap.size + 1 + 1 + 1, 1, none⟩ (.slice none 0 0)).cell? ⟨w.heap.size + 1 + 1 + 1, 0, none⟩ = some (.slice none 0 0) := rb.cell 0
    have u1 : ((q1.setCell ⟨w.heap.size + 1 + 1 + 1, 0, none⟩ (.slice none 0 0)).setCell ⟨w.heap.size + 1 + 1 + 1, 1, none⟩ (.slice none 0 0)).cell? ⟨w.heap.size + 1 + 1 + 1, 1, none⟩ = some (.slice none 0 0) := rb.cell 1
    have FZ : AnsWalk w (joinW d.1 d.2 k k') (joinB d.1 d.2 k k') (.returned (.tuple #[.agg #[.slice none 0 0, .slice none 0 0], .bool false])) ((q1.setCell ⟨w.heap.size + 1 + 1 + 1, 0, none⟩ (.slice none 0 0)).setCell ⟨w.heap.size + 1 + 1 + 1, 1, none⟩ (.slice none 0 0)) := ansWalk_no (join_no1 HA.out) (((J.b).setCell (show w.heap.size ≤ w.heap.size + 1 + 1 + 1 by omega) _).setCell (show w.heap.size ≤ w.heap.size + 1 + 1 + 1 by omega) _)
    have HFZ := Lib.hid FZ
    clear FZ ra rb k00_1 k01_1 k10_1 k11_1 k20_1 k21_1 J
    go_wp2
    exact bodyPost_ret (v := .tuple #[.agg #[.slice none 0 0, .slice none 0 0], .bool false]) (by simp [results, Tryz.results34, go_sem, u0, u1]) rfl HFZ.out
  | true =>
    have HA := Lib.hid ha
    clear ha
    cases hb : walkB d.1 d.2 k' with
    | false =>
      have HB := Lib.hid hb
      clear hb
      go_enter Tryz.func34, Tryz.ntmps34
      go_wp2_with fail
      rw [← HW.out]
      have c00 : W.cell? ⟨w.heap.size, 0, none⟩ = some (a) := J.r0.cell 0
      have c01 : W.cell? ⟨w.heap.size, 1, none⟩ = some (v) := J.r0.cell 1
      have c10 : W.cell? ⟨w.heap.size + 1, 0, none⟩ = some (.slice F fn fc) := J.r1.cell 0
      have c11 : W.cell? ⟨w.heap.size + 1, 1, none⟩ = some (.slice S sn sc) := J.r1.cell 1
      have c20 : W.cell? ⟨w.heap.size + 1 + 1, 0, none⟩ = some (.slice F' fn' fc') := J.r2.cell 0
      have c21 : W.cell? ⟨w.heap.size + 1 + 1, 1, none⟩ = some (.slice S' sn' sc') := J.r2.cell 1
      replace J := J.drew
      refine AnyT.start (S := (fun w' => w'.cell? ⟨w.heap.size, 0, none⟩ = some (a) ∧ w'.cell? ⟨w.heap.size, 1, none⟩ = some (v) ∧ w'.cell? ⟨w.heap.size + 1, 0, none⟩ = some (.slice F fn fc) ∧ w'.cell? ⟨w.heap.size + 1, 1, none⟩ = some (.slice S sn sc) ∧ w'.cell? ⟨w.heap.size + 1 + 1, 0, none⟩ = some (.slice F' fn' fc') ∧ w'.cell? ⟨w.heap.size + 1 + 1, 1, none⟩ = some (.slice S' sn' sc'))) (fun _ => false) (by kernel_rfl) ⟨c00, c01, c10, c11, c20, c21⟩ (fun hHeld => ?_)
      refine AnyT.take (i := 0) (v := ?_) rfl (by kernel_rfl) (by kernel_rfl) (by kernel_rfl) (by kernel_rfl) (fun _ _ _ h => h) (Or.inl ⟨by rfl, ?_⟩) (by assumption) ?_
      rotate_left 1
      · (intro w0 hSw; (try dsimp only at hSw); go_simp; try with_reducible rfl)
      try simp only [Act.put, List.setIfInBounds_toArray, List.set_cons_zero, List.set_cons_succ, List.getElem_toArray, List.getElem_cons_zero, List.getElem_cons_succ]
      refine AnyT.take (i := 1) (v := ?_) rfl (by kernel_rfl) (by kernel_rfl) (by kernel_rfl) (by kernel_rfl) (fun _ _ _ h => h) (Or.inl ⟨by rfl, ?_⟩) (by assumption) ?_
      rotate_left 1
      · (intro w0 hSw; (try dsimp only at hSw); go_simp; try with_reducible rfl)
      try simp only [Act.put, List.setIfInBounds_toArray, List.set_cons_zero, List.set_cons_succ, List.getElem_toArray, List.getElem_cons_zero, List.getElem_cons_succ]
      refine AnyT.call (i := 2) (by kernel_rfl) rfl (fun K hK => ?_)
      try simp only [Act.put, List.setIfInBounds_toArray, List.set_cons_zero, List.set_cons_succ, List.getElem_toArray, List.getElem_cons_zero, List.getElem_cons_succ]
      rw [if_pos (by rfl)]
      go_simp
      (go_at_call 14; refine (L1.out _ J).mono ?_; rintro e q1 ⟨he, bb⟩; rw [HA.out] at he; subst he; replace J := J.next bb; have k00_1 : q1.cell? ⟨w.heap.size, 0, none⟩ = some (a) := J.r0.cell 0; have k01_1 : q1.cell? ⟨w.heap.size, 1, none⟩ = some (v) := J.r0.cell 1; have k10_1 : q1.cell? ⟨w.heap.size + 1, 0, none⟩ = some (.slice F fn fc) := J.r1.cell 0; have k11_1 : q1.cell? ⟨w.heap.size + 1, 1, none⟩ = some (.slice S sn sc) := J.r1.cell 1; have k20_1 : q1.cell? ⟨w.heap.size + 1 + 1, 0, none⟩ = some (.slice F' fn' fc') := J.r2.cell 0; have k21_1 : q1.cell? ⟨w.heap.size + 1 + 1, 1, none⟩ = some (.slice S' sn' sc') := J.r2.cell 1; clear bb; go_wp2_with fail)
      refine hK.out _ _ (fun _ _ => ?_) (fun hKeep => ?_)
      · exact ⟨k00_1,k01_1,k10_1,k11_1,k20_1,k21_1⟩
      replace hHeld := hKeep (by first | rfl | trivial) hHeld
      clear hK K hKeep
      try simp only [Act.put, List.setIfInBounds_toArray, List.set_cons_zero, List.set_cons_succ, List.getElem_toArray, List.getElem_cons_zero, List.getElem_cons_succ]
      refine AnyT.takeA (i := 3) (v := ?_) rfl (by kernel_rfl) (by kernel_rfl) (by kernel_rfl) (fun _ _ _ h => h) (Or.inl ⟨by rfl, ?_⟩) ?_
      rotate_left 1
      · (intro w0 _; go_simp; try with_reducible rfl)
      try simp only [Act.put, List.setIfInBounds_toArray, List.set_cons_zero, List.set_cons_succ, List.getElem_toArray, List.getElem_cons_zero, List.getElem_cons_succ]
      refine AnyT.takeA (i := 4) (v := ?_) rfl (by kernel_rfl) (by kernel_rfl) (by kernel_rfl) (fun _ _ _ h => h) (Or.inl ⟨by rfl, ?_⟩) ?_
      rotate_left 1
      · (intro w0 _; go_simp; try with_reducible rfl)
      try simp only [Act.put, List.setIfInBounds_toArray, List.set_cons_zero, List.set_cons_succ, List.getElem_toArray, List.getElem_cons_zero, List.getElem_cons_succ]
      refine AnyT.take (i := 5) (v := ?_) rfl (by kernel_rfl) (by kernel_rfl) (by kernel_rfl) (by kernel_rfl) (fun _ _ _ h => h) (Or.inl ⟨by rfl, ?_⟩) (by assumption) ?_
      rotate_left 1
      · (intro w0 hSw; (try dsimp only at hSw); go_simp; try with_reducible rfl)
      try simp only [Act.put, List.setIfInBounds_toArray, List.set_cons_zero, List.set_cons_succ, List.getElem_toArray, List.getElem_cons_zero, List.getElem_cons_succ]
      refine AnyT.take (i := 6) (v := ?_) rfl (by kernel_rfl) (by kernel_rfl) (by kernel_rfl) (by kernel_rfl) (fun _ _ _ h => h) (Or.inl ⟨by rfl, ?_⟩) (by assumption) ?_
      rotate_left 1
      · (intro w0 hSw; (try dsimp only at hSw); go_simp; try with_reducible rfl)
      try simp only [Act.put, List.setIfInBounds_toArray, List.set_cons_zero, List.set_cons_succ, List.getElem_toArray, List.getElem_cons_zero, List.getElem_cons_succ]
      refine AnyT.call (i := 7) (by kernel_rfl) rfl (fun K hK => ?_)
      try simp only [Act.put, List.setIfInBounds_toArray, List.set_cons_zero, List.set_cons_succ, List.getElem_toArray, List.getElem_cons_zero, List.getElem_cons_succ]
      rw [if_pos (by rfl)]
      go_simp
      (go_at_call 14; refine (L2.out _ J).mono ?_; rintro e q2 ⟨he, bb⟩; rw [HB.out] at he; subst he; replace J := J.next bb; have k00_2 : q2.cell? ⟨w.heap.size, 0, none⟩ = some (a) := J.r0.cell 0; have k01_2 : q2.cell? ⟨w.heap.size, 1, none⟩ = some (v) := J.r0.cell 1; have k10_2 : q2.cell? ⟨w.heap.size + 1, 0, none⟩ = some (.slice F fn fc) := J.r1.cell 0; have k11_2 : q2.cell? ⟨w.heap.size + 1, 1, none⟩ = some (.slice S sn sc) := J.r1.cell 1; have k20_2 : q2.cell? ⟨w.heap.size + 1 + 1, 0, none⟩ = some (.slice F' fn' fc') := J.r2.cell 0; have k21_2 : q2.cell? ⟨w.heap.size + 1 + 1, 1, none⟩ = some (.slice S' sn' sc') := J.r2.cell 1; clear bb; go_wp2_with fail)
      refine hK.out _ _ (fun _ _ => ?_) (fun hKeep => ?_)
      · exact ⟨k00_2,k01_2,k10_2,k11_2,k20_2,k21_2⟩
      replace hHeld := hKeep (by first | rfl | trivial) hHeld
      clear hK K hKeep
      try simp only [Act.put, List.setIfInBounds_toArray, List.set_cons_zero, List.set_cons_succ, List.getElem_toArray, List.getElem_cons_zero, List.getElem_cons_succ]
      refine AnyT.takeA (i := 8) (v := ?_) rfl (by kernel_rfl) (by kernel_rfl) (by kernel_rfl) (fun _ _ _ h => h) (Or.inl ⟨by rfl, ?_⟩) ?_
      rotate_left 1
      · (intro w0 _; go_simp; try with_reducible rfl)
      try simp only [Act.put, List.setIfInBounds_toArray, List.set_cons_zero, List.set_cons_succ, List.getElem_toArray, List.getElem_cons_zero, List.getElem_cons_succ]
      refine AnyT.takeA (i := 9) (v := ?_) rfl (by kernel_rfl) (by kernel_rfl) (by kernel_rfl) (fun _ _ _ h => h) (Or.inl ⟨by rfl, ?_⟩) ?_
      rotate_left 1
      · (intro w0 _; go_simp; try with_reducible rfl)
      try simp only [Act.put, List.setIfInBounds_toArray, List.set_cons_zero, List.set_cons_succ, List.getElem_toArray, List.getElem_cons_zero, List.getElem_cons_succ]
      refine AnyT.takeA (i := 10) (v := ?_) rfl (by kernel_rfl) (by kernel_rfl) (by kernel_rfl) (fun _ _ _ h => h) (Or.inl ⟨by rfl, ?_⟩) ?_
      rotate_left 1
      · (intro w0 _; go_simp; try with_reducible rfl)
      try simp only [Act.put, List.setIfInBounds_toArray, List.set_cons_zero, List.set_cons_succ, List.getElem_toArray, List.getElem_cons_zero, List.getElem_cons_succ]
      refine AnyT.takeA (i := 11) (v := undef) rfl (by kernel_rfl) (by kernel_rfl) (by kernel_rfl) (fun _ _ _ h => h) (Or.inr ⟨by rfl, rfl⟩) ?_
      try simp only [Act.put, List.setIfInBounds_toArray, List.set_cons_zero, List.set_cons_succ, List.getElem_toArray, List.getElem_cons_zero, List.getElem_cons_succ]
      refine AnyT.takeA (i := 13) (v := undef) rfl (by kernel_rfl) (by kernel_rfl) (by kernel_rfl) (fun _ _ _ h => h) (Or.inr ⟨by rfl, rfl⟩) ?_
      try simp only [Act.put, List.setIfInBounds_toArray, List.set_cons_zero, List.set_cons_succ, List.getElem_toArray, List.getElem_cons_zero, List.getElem_cons_succ]
      refine AnyT.takeA (i := 14) (v := undef) rfl (by kernel_rfl) (by kernel_rfl) (by kernel_rfl) (fun _ _ _ h => h) (Or.inr ⟨by rfl, rfl⟩) ?_
      try simp only [Act.put, List.setIfInBounds_toArray, List.set_cons_zero, List.set_cons_succ, List.getElem_toArray, List.getElem_cons_zero, List.getElem_cons_succ]
      refine AnyT.call (i := 12) (by kernel_rfl) rfl (fun K hK => ?_)
      try simp only [Act.put, List.setIfInBounds_toArray, List.set_cons_zero, List.set_cons_succ, List.getElem_toArray, List.getElem_cons_zero, List.getElem_cons_succ]
      rw [if_neg (by intro h; cases h)]
      refine hK.out _ _ (fun _ h => h) (fun _ => ?_)
      clear hK K
      try simp only [Act.put, List.setIfInBounds_toArray, List.set_cons_zero, List.set_cons_succ, List.getElem_toArray, List.getElem_cons_zero, List.getElem_cons_succ]
      refine AnyT.call (i := 15) (by kernel_rfl) rfl (fun K hK => ?_)
      try simp only [Act.put, List.setIfInBounds_toArray, List.set_cons_zero, List.set_cons_succ, List.getElem_toArray, List.getElem_cons_zero, List.getElem_cons_succ]
      rw [if_neg (by intro h; cases h)]
      refine hK.out _ _ (fun _ h => h) (fun _ => ?_)
      clear hK K
      try simp only [Act.put, List.setIfInBounds_toArray, List.set_cons_zero, List.set_cons_succ, List.getElem_toArray, List.getElem_cons_zero, List.getElem_cons_succ]
      refine AnyT.takeA (i := 16) (v := undef) rfl (by kernel_rfl) (by kernel_rfl) (by kernel_rfl) (fun _ _ _ h => h) (Or.inr ⟨by rfl, rfl⟩) ?_
      try simp only [Act.put, List.setIfInBounds_toArray, List.set_cons_zero, List.set_cons_succ, List.getElem_toArray, List.getElem_cons_zero, List.getElem_cons_succ]
      refine AnyT.takeA (i := 17) (v := ?_) rfl (by kernel_rfl) (by kernel_rfl) (by kernel_rfl) (fun _ _ _ h => h) (Or.inl ⟨by rfl, ?_⟩) ?_
      rotate_left 1
      · (intro w0 _; go_simp; try with_reducible rfl)
      try simp only [Act.put, List.setIfInBounds_toArray, List.set_cons_zero, List.set_cons_succ, List.getElem_toArray, List.getElem_cons_zero, List.getElem_cons_succ]
      refine AnyT.done (by kernel_rfl) ?_ _
      clear c00 c01 c10 c11 c20 c21
      have y0 : q2.cell? ⟨w.heap.size + 1 + 1 + 1, 0, none⟩ = some (.slice none 0 0) := J.r3.cell 0
      have y1 : q2.cell? ⟨w.heap.size + 1 + 1 + 1, 1, none⟩ = some (.slice none 0 0) := J.r3.cell 1
      have g0 := J.r3.free 0
      have g1 := J.r3.free 1
      have ra := J.r3.put 0 (.slice none 0 0)
      have y2 : (q2.setCell ⟨w.heap.size + 1 + 1 + 1, 0, none⟩ (.slice none 0 0)).cell? ⟨w.heap.size + 1 + 1 + 1, 1, none⟩ = some (.slice none 0 0) := ra.cell 1
      have g2 := ra.free 1
      have rb := ra.put 1 (.slice none 0 0)
      have u0 : ((q2.setCell ⟨w.heap.size + 1 + 1 + 1, 0, none⟩ (.slice none 0 0)).setCell ⟨w.heap.size + 1 + 1 + 1, 1, none⟩ (.slice none 0 0)).cell? ⟨w.heap.size + 1 + 1 + 1, 0, none⟩ = some (.slice none 0 0) := rb.cell 0
      have u1 : ((q2.setCell ⟨w.heap.size + 1 + 1 + 1, 0, none⟩ (.slice none 0 0)).setCell ⟨w.heap.size + 1 + 1 + 1, 1, none⟩ (.slice none 0 0)).cell? ⟨w.heap.size + 1 + 1 + 1, 1, none⟩ = some (.slice none 0 0) := rb.cell 1
      have FZ : AnsWalk w (joinW d.1 d.2 k k') (joinB d.1 d.2 k k') (.returned (.tuple #[.agg #[.slice none 0 0, .slice none 0 0], .bool false])) ((q2.setCell ⟨w.heap.size + 1 + 1 + 1, 0, none⟩ (.slice none 0 0)).setCell ⟨w.heap.size + 1 + 1 + 1, 1, none⟩ (.slice none 0 0)) := ansWalk_no (join_no2 HB.out) (((J.b).setCell (show w.heap.size ≤ w.heap.size + 1 + 1 + 1 by omega) _).setCell (show w.heap.size ≤ w.heap.size + 1 + 1 + 1 by omega) _)
      have HFZ := Lib.hid FZ
      clear FZ ra rb k00_1 k01_1 k10_1 k11_1 k20_1 k21_1 k00_2 k01_2 k10_2 k11_2 k20_2 k21_2 J
      go_wp2
      exact bodyPost_ret (v := .tuple #[.agg #[.slice none 0 0, .slice none 0 0], .bool false]) (by simp [results, Tryz.results34, go_sem, u0, u1]) rfl HFZ.out
    | true =>
      have HB := Lib.hid hb
      clear hb
      cases hc : decide (endL k = k'.1) with
      | false =>
        have HC := Lib.hid hc
        clear hc
        go_enter Tryz.func34, Tryz.ntmps34
        go_wp2_with fail
        rw [← HW.out]
        have c00 : W.cell? ⟨w.heap.size, 0, none⟩ = some (a) := J.r0.cell 0
        have c01 : W.cell? ⟨w.heap.size, 1, none⟩ = some (v) := J.r0.cell 1
        have c10 : W.cell? ⟨w.heap.size + 1, 0, none⟩ = some (.slice F fn fc) := J.r1.cell 0
        have c11 : W.cell? ⟨w.heap.size + 1, 1, none⟩ = some (.slice S sn sc) := J.r1.cell 1
        have c20 : W.cell? ⟨w.heap.size + 1 + 1, 0, none⟩ = some (.slice F' fn' fc') := J.r2.cell 0
        have c21 : W.cell? ⟨w.heap.size + 1 + 1, 1, none⟩ = some (.slice S' sn' sc') := J.r2.cell 1
        replace J := J.drew
        refine AnyT.start (S := (fun w' => w'.cell? ⟨w.heap.size, 0, none⟩ = some (a) ∧ w'.cell? ⟨w.heap.size, 1, none⟩ = some (v) ∧ w'.cell? ⟨w.heap.size + 1, 0, none⟩ = some (.slice F fn fc) ∧ w'.cell? ⟨w.heap.size + 1, 1, none⟩ = some (.slice S sn sc) ∧ w'.cell? ⟨w.heap.size + 1 + 1, 0, none⟩ = some (.slice F' fn' fc') ∧ w'.cell? ⟨w.heap.size + 1 + 1, 1, none⟩ = some (.slice S' sn' sc'))) (fun _ => false) (by kernel_rfl) ⟨c00, c01, c10, c11, c20, c21⟩ (fun hHeld => ?_)
        refine AnyT.take (i := 0) (v := ?_) rfl (by kernel_rfl) (by kernel_rfl) (by kernel_rfl) (by kernel_rfl) (fun _ _ _ h => h) (Or.inl ⟨by rfl, ?_⟩) (by assumption) ?_
        rotate_left 1
        · (intro w0 hSw; (try dsimp only at hSw); go_simp; try with_reducible rfl)
        try simp only [Act.put, List.setIfInBounds_toArray, List.set_cons_zero, List.set_cons_succ, List.getElem_toArray, List.getElem_cons_zero, List.getElem_cons_succ]
        refine AnyT.take (i := 1) (v := ?_) rfl (by kernel_rfl) (by kernel_rfl) (by kernel_rfl) (by kernel_rfl) (fun _ _ _ h => h) (Or.inl ⟨by rfl, ?_⟩) (by assumption) ?_
        rotate_left 1
        · (intro w0 hSw; (try dsimp only at hSw); go_simp; try with_reducible rfl)
        try simp only [Act.put, List.setIfInBounds_toArray, List.set_cons_zero, List.set_cons_succ, List.getElem_toArray, List.getElem_cons_zero, List.getElem_cons_succ]
        refine AnyT.call (i := 2) (by kernel_rfl) rfl (fun K hK => ?_)
        try simp only [Act.put, List.setIfInBounds_toArray, List.set_cons_zero, List.set_cons_succ, List.getElem_toArray, List.getElem_cons_zero, List.getElem_cons_succ]
        rw [if_pos (by rfl)]
        go_simp
        (go_at_call 14; refine (L1.out _ J).mono ?_; rintro e q1 ⟨he, bb⟩; rw [HA.out] at he; subst he; replace J := J.next bb; have k00_1 : q1.cell? ⟨w.heap.size, 0, none⟩ = some (a) := J.r0.cell 0; have k01_1 : q1.cell? ⟨w.heap.size, 1, none⟩ = some (v) := J.r0.cell 1; have k10_1 : q1.cell? ⟨w.heap.size + 1, 0, none⟩ = some (.slice F fn fc) := J.r1.cell 0; have k11_1 : q1.cell? ⟨w.heap.size + 1, 1, none⟩ = some (.slice S sn sc) := J.r1.cell 1; have k20_1 : q1.cell? ⟨w.heap.size + 1 + 1, 0, none⟩ = some (.slice F' fn' fc') := J.r2.cell 0; have k21_1 : q1.cell? ⟨w.heap.size + 1 + 1, 1, none⟩ = some (.slice S' sn' sc') := J.r2.cell 1; clear bb; go_wp2_with fail)
        refine hK.out _ _ (fun _ _ => ?_) (fun hKeep => ?_)
        · exact ⟨k00_1,k01_1,k10_1,k11_1,k20_1,k21_1⟩
        replace hHeld := hKeep (by first | rfl | trivial) hHeld
        clear hK K hKeep
        try simp only [Act.put, List.setIfInBounds_toArray, List.set_cons_zero, List.set_cons_succ, List.getElem_toArray, List.getElem_cons_zero, List.getElem_cons_succ]
        refine AnyT.takeA (i := 3) (v := ?_) rfl (by kernel_rfl) (by kernel_rfl) (by kernel_rfl) (fun _ _ _ h => h) (Or.inl ⟨by rfl, ?_⟩) ?_
        rotate_left 1
        · (intro w0 _; go_simp; try with_reducible rfl)
        try simp only [Act.put, List.setIfInBounds_toArray, List.set_cons_zero, List.set_cons_succ, List.getElem_toArray, List.getElem_cons_zero, List.getElem_cons_succ]
        refine AnyT.takeA (i := 4) (v := ?_) rfl (by kernel_rfl) (by kernel_rfl) (by kernel_rfl) (fun _ _ _ h => h) (Or.inl ⟨by rfl, ?_⟩) ?_
        rotate_left 1
        · (intro w0 _; go_simp; try with_reducible rfl)
        try simp only [Act.put, List.setIfInBounds_toArray, List.set_cons_zero, List.set_cons_succ, List.getElem_toArray, List.getElem_cons_zero, List.getElem_cons_succ]
        refine AnyT.take (i := 5) (v := ?_) rfl (by kernel_rfl) (by kernel_rfl) (by kernel_rfl) (by kernel_rfl) (fun _ _ _ h => h) (Or.inl ⟨by rfl, ?_⟩) (by assumption) ?_
        rotate_left 1
        · (intro w0 hSw; (try dsimp only at hSw); go_simp; try with_reducible rfl)
        try simp only [Act.put, List.setIfInBounds_toArray, List.set_cons_zero, List.set_cons_succ, List.getElem_toArray, List.getElem_cons_zero, List.getElem_cons_succ]
        refine AnyT.take (i := 6) (v := ?_) rfl (by kernel_rfl) (by kernel_rfl) (by kernel_rfl) (by kernel_rfl) (fun _ _ _ h => h) (Or.inl ⟨by rfl, ?_⟩) (by assumption) ?_
        rotate_left 1
        · (intro w0 hSw; (try dsimp only at hSw); go_simp; try with_reducible rfl)
        try simp only [Act.put, List.setIfInBounds_toArray, List.set_cons_zero, List.set_cons_succ, List.getElem_toArray, List.getElem_cons_zero, List.getElem_cons_succ]
        refine AnyT.call (i := 7) (by kernel_rfl) rfl (fun K hK => ?_)
        try simp only [Act.put, List.setIfInBounds_toArray, List.set_cons_zero, List.set_cons_succ, List.getElem_toArray, List.getElem_cons_zero, List.getElem_cons_succ]
        rw [if_pos (by rfl)]
        go_simp
        (go_at_call 14; refine (L2.out _ J).mono ?_; rintro e q2 ⟨he, bb⟩; rw [HB.out] at he; subst he; replace J := J.next bb; have k00_2 : q2.cell? ⟨w.heap.size, 0, none⟩ = some (a) := J.r0.cell 0; have k01_2 : q2.cell? ⟨w.heap.size, 1, none⟩ = some (v) := J.r0.cell 1; have k10_2 : q2.cell? ⟨w.heap.size + 1, 0, none⟩ = some (.slice F fn fc) := J.r1.cell 0; have k11_2 : q2.cell? ⟨w.heap.size + 1, 1, none⟩ = some (.slice S sn sc) := J.r1.cell 1; have k20_2 : q2.cell? ⟨w.heap.size + 1 + 1, 0, none⟩ = some (.slice F' fn' fc') := J.r2.cell 0; have k21_2 : q2.cell? ⟨w.heap.size + 1 + 1, 1, none⟩ = some (.slice S' sn' sc') := J.r2.cell 1; clear bb; go_wp2_with fail)
        refine hK.out _ _ (fun _ _ => ?_) (fun hKeep => ?_)
        · exact ⟨k00_2,k01_2,k10_2,k11_2,k20_2,k21_2⟩
        replace hHeld := hKeep (by first | rfl | trivial) hHeld
        clear hK K hKeep
        try simp only [Act.put, List.setIfInBounds_toArray, List.set_cons_zero, List.set_cons_succ, List.getElem_toArray, List.getElem_cons_zero, List.getElem_cons_succ]
        refine AnyT.takeA (i := 8) (v := ?_) rfl (by kernel_rfl) (by kernel_rfl) (by kernel_rfl) (fun _ _ _ h => h) (Or.inl ⟨by rfl, ?_⟩) ?_
        rotate_left 1
        · (intro w0 _; go_simp; try with_reducible rfl)
        try simp only [Act.put, List.setIfInBounds_toArray, List.set_cons_zero, List.set_cons_succ, List.getElem_toArray, List.getElem_cons_zero, List.getElem_cons_succ]
        refine AnyT.takeA (i := 9) (v := ?_) rfl (by kernel_rfl) (by kernel_rfl) (by kernel_rfl) (fun _ _ _ h => h) (Or.inl ⟨by rfl, ?_⟩) ?_
        rotate_left 1
        · (intro w0 _; go_simp; try with_reducible rfl)
        try simp only [Act.put, List.setIfInBounds_toArray, List.set_cons_zero, List.set_cons_succ, List.getElem_toArray, List.getElem_cons_zero, List.getElem_cons_succ]
        refine AnyT.takeA (i := 10) (v := ?_) rfl (by kernel_rfl) (by kernel_rfl) (by kernel_rfl) (fun _ _ _ h => h) (Or.inl ⟨by rfl, ?_⟩) ?_
        rotate_left 1
        · (intro w0 _; go_simp; try with_reducible rfl)
        try simp only [Act.put, List.setIfInBounds_toArray, List.set_cons_zero, List.set_cons_succ, List.getElem_toArray, List.getElem_cons_zero, List.getElem_cons_succ]
        refine AnyT.take (i := 11) (v := ?_) rfl (by kernel_rfl) (by kernel_rfl) (by kernel_rfl) (by kernel_rfl) (fun _ _ _ h => h) (Or.inl ⟨by rfl, ?_⟩) (by assumption) ?_
        rotate_left 1
        · (intro w0 hSw; (try dsimp only at hSw); go_simp; try with_reducible rfl)
        try simp only [Act.put, List.setIfInBounds_toArray, List.set_cons_zero, List.set_cons_succ, List.getElem_toArray, List.getElem_cons_zero, List.getElem_cons_succ]
        refine AnyT.takeA (i := 13) (v := ?_) rfl (by kernel_rfl) (by kernel_rfl) (by kernel_rfl) (fun _ _ _ h => h) (Or.inl ⟨by rfl, ?_⟩) ?_
        rotate_left 1
        · (intro w0 _; go_simp; try with_reducible rfl)
        try simp only [Act.put, List.setIfInBounds_toArray, List.set_cons_zero, List.set_cons_succ, List.getElem_toArray, List.getElem_cons_zero, List.getElem_cons_succ]
        refine AnyT.take (i := 14) (v := ?_) rfl (by kernel_rfl) (by kernel_rfl) (by kernel_rfl) (by kernel_rfl) (fun _ _ _ h => h) (Or.inl ⟨by rfl, ?_⟩) (by assumption) ?_
        rotate_left 1
        · (intro w0 hSw; (try dsimp only at hSw); go_simp; try with_reducible rfl)
        try simp only [Act.put, List.setIfInBounds_toArray, List.set_cons_zero, List.set_cons_succ, List.getElem_toArray, List.getElem_cons_zero, List.getElem_cons_succ]
        refine AnyT.call (i := 12) (by kernel_rfl) rfl (fun K hK => ?_)
        try simp only [Act.put, List.setIfInBounds_toArray, List.set_cons_zero, List.set_cons_succ, List.getElem_toArray, List.getElem_cons_zero, List.getElem_cons_succ]
        rw [if_pos (by rfl)]
        go_simp
        (go_at_call 50; refine (L3.out _ J).mono ?_; rintro e q3 ⟨X, xn, xc, rfl, hX, bb⟩; replace hX := hX.more bb.size; replace J := J.next bb; have k00_3 : q3.cell? ⟨w.heap.size, 0, none⟩ = some (a) := J.r0.cell 0; have k01_3 : q3.cell? ⟨w.heap.size, 1, none⟩ = some (v) := J.r0.cell 1; have k10_3 : q3.cell? ⟨w.heap.size + 1, 0, none⟩ = some (.slice F fn fc) := J.r1.cell 0; have k11_3 : q3.cell? ⟨w.heap.size + 1, 1, none⟩ = some (.slice S sn sc) := J.r1.cell 1; have k20_3 : q3.cell? ⟨w.heap.size + 1 + 1, 0, none⟩ = some (.slice F' fn' fc') := J.r2.cell 0; have k21_3 : q3.cell? ⟨w.heap.size + 1 + 1, 1, none⟩ = some (.slice S' sn' sc') := J.r2.cell 1; clear bb; go_wp2_with fail)
        refine hK.out _ _ (fun _ _ => ?_) (fun hKeep => ?_)
        · exact ⟨k00_3,k01_3,k10_3,k11_3,k20_3,k21_3⟩
        replace hHeld := hKeep (by first | rfl | trivial) hHeld
        clear hK K hKeep
        try simp only [Act.put, List.setIfInBounds_toArray, List.set_cons_zero, List.set_cons_succ, List.getElem_toArray, List.getElem_cons_zero, List.getElem_cons_succ]
        refine AnyT.call (i := 15) (by kernel_rfl) rfl (fun K hK => ?_)
        try simp only [Act.put, List.setIfInBounds_toArray, List.set_cons_zero, List.set_cons_succ, List.getElem_toArray, List.getElem_cons_zero, List.getElem_cons_succ]
        rw [if_pos (by rfl)]
        go_simp
        (go_at_call 13; refine (L4.out _ J X xn xc hX).mono ?_; rintro e q4 ⟨he, bb⟩; rw [HC.out] at he; subst he; replace J := J.next bb; have k00_4 : q4.cell? ⟨w.heap.size, 0, none⟩ = some (a) := J.r0.cell 0; have k01_4 : q4.cell? ⟨w.heap.size, 1, none⟩ = some (v) := J.r0.cell 1; have k10_4 : q4.cell? ⟨w.heap.size + 1, 0, none⟩ = some (.slice F fn fc) := J.r1.cell 0; have k11_4 : q4.cell? ⟨w.heap.size + 1, 1, none⟩ = some (.slice S sn sc) := J.r1.cell 1; have k20_4 : q4.cell? ⟨w.heap.size + 1 + 1, 0, none⟩ = some (.slice F' fn' fc') := J.r2.cell 0; have k21_4 : q4.cell? ⟨w.heap.size + 1 + 1, 1, none⟩ = some (.slice S' sn' sc') := J.r2.cell 1; clear bb; go_wp2_with fail)
        refine hK.out _ _ (fun _ _ => ?_) (fun hKeep => ?_)
        · exact ⟨k00_4,k01_4,k10_4,k11_4,k20_4,k21_4⟩
        replace hHeld := hKeep (by first | rfl | trivial) hHeld
        clear hK K hKeep
        try simp only [Act.put, List.setIfInBounds_toArray, List.set_cons_zero, List.set_cons_succ, List.getElem_toArray, List.getElem_cons_zero, List.getElem_cons_succ]
        refine AnyT.takeA (i := 16) (v := ?_) rfl (by kernel_rfl) (by kernel_rfl) (by kernel_rfl) (fun _ _ _ h => h) (Or.inl ⟨by rfl, ?_⟩) ?_
        rotate_left 1
        · (intro w0 _; go_simp; try with_reducible rfl)
        try simp only [Act.put, List.setIfInBounds_toArray, List.set_cons_zero, List.set_cons_succ, List.getElem_toArray, List.getElem_cons_zero, List.getElem_cons_succ]
        refine AnyT.takeA (i := 17) (v := ?_) rfl (by kernel_rfl) (by kernel_rfl) (by kernel_rfl) (fun _ _ _ h => h) (Or.inl ⟨by rfl, ?_⟩) ?_
        rotate_left 1
        · (intro w0 _; go_simp; try with_reducible rfl)
        try simp only [Act.put, List.setIfInBounds_toArray, List.set_cons_zero, List.set_cons_succ, List.getElem_toArray, List.getElem_cons_zero, List.getElem_cons_succ]
        refine AnyT.done (by kernel_rfl) ?_ _
        clear c00 c01 c10 c11 c20 c21
        have y0 : q4.cell? ⟨w.heap.size + 1 + 1 + 1, 0, none⟩ = some (.slice none 0 0) := J.r3.cell 0
        have y1 : q4.cell? ⟨w.heap.size + 1 + 1 + 1, 1, none⟩ = some (.slice none 0 0) := J.r3.cell 1
        have g0 := J.r3.free 0
        have g1 := J.r3.free 1
        have ra := J.r3.put 0 (.slice none 0 0)
        have y2 : (q4.setCell ⟨w.heap.size + 1 + 1 + 1, 0, none⟩ (.slice none 0 0)).cell? ⟨w.heap.size + 1 + 1 + 1, 1, none⟩ = some (.slice none 0 0) := ra.cell 1
        have g2 := ra.free 1
        have rb := ra.put 1 (.slice none 0 0)
        have u0 : ((q4.setCell ⟨w.heap.size + 1 + 1 + 1, 0, none⟩ (.slice none 0 0)).setCell ⟨w.heap.size + 1 + 1 + 1, 1, none⟩ (.slice none 0 0)).cell? ⟨w.heap.size + 1 + 1 + 1, 0, none⟩ = some (.slice none 0 0) := rb.cell 0
        have u1 : ((q4.setCell ⟨w.heap.size + 1 + 1 + 1, 0, none⟩ (.slice none 0 0)).setCell ⟨w.heap.size + 1 + 1 + 1, 1, none⟩ (.slice none 0 0)).cell? ⟨w.heap.size + 1 + 1 + 1, 1, none⟩ = some (.slice none 0 0) := rb.cell 1
        have FZ : AnsWalk w (joinW d.1 d.2 k k') (joinB d.1 d.2 k k') (.returned (.tuple #[.agg #[.slice none 0 0, .slice none 0 0], .bool false])) ((q4.setCell ⟨w.heap.size + 1 + 1 + 1, 0, none⟩ (.slice none 0 0)).setCell ⟨w.heap.size + 1 + 1 + 1, 1, none⟩ (.slice none 0 0)) := ansWalk_no (join_no3 HC.out) (((J.b).setCell (show w.heap.size ≤ w.heap.size + 1 + 1 + 1 by omega) _).setCell (show w.heap.size ≤ w.heap.size + 1 + 1 + 1 by omega) _)
        have HFZ := Lib.hid FZ
        clear FZ ra rb k00_1 k01_1 k10_1 k11_1 k20_1 k21_1 k00_2 k01_2 k10_2 k11_2 k20_2 k21_2 k00_3 k01_3 k10_3 k11_3 k20_3 k21_3 k00_4 k01_4 k10_4 k11_4 k20_4 k21_4 J
        go_wp2
        exact bodyPost_ret (v := .tuple #[.agg #[.slice none 0 0, .slice none 0 0], .bool false]) (by simp [results, Tryz.results34, go_sem, u0, u1]) rfl HFZ.out
      | true =>
        have HC := Lib.hid hc
        clear hc
        go_enter Tryz.func34, Tryz.ntmps34
        go_wp2_with fail
        rw [← HW.out]
        have c00 : W.cell? ⟨w.heap.size, 0, none⟩ = some (a) := J.r0.cell 0
        have c01 : W.cell? ⟨w.heap.size, 1, none⟩ = some (v) := J.r0.cell 1
        have c10 : W.cell? ⟨w.heap.size + 1, 0, none⟩ = some (.slice F fn fc) := J.r1.cell 0
        have c11 : W.cell? ⟨w.heap.size + 1, 1, none⟩ = some (.slice S sn sc) := J.r1.cell 1
        have c20 : W.cell? ⟨w.heap.size + 1 + 1, 0, none⟩ = some (.slice F' fn' fc') := J.r2.cell 0
        have c21 : W.cell? ⟨w.heap.size + 1 + 1, 1, none⟩ = some (.slice S' sn' sc') := J.r2.cell 1
        replace J := J.drew
        refine AnyT.start (S := (fun w' => w'.cell? ⟨w.heap.size, 0, none⟩ = some (a) ∧ w'.cell? ⟨w.heap.size, 1, none⟩ = some (v) ∧ w'.cell? ⟨w.heap.size + 1, 0, none⟩ = some (.slice F fn fc) ∧ w'.cell? ⟨w.heap.size + 1, 1, none⟩ = some (.slice S sn sc) ∧ w'.cell? ⟨w.heap.size + 1 + 1, 0, none⟩ = some (.slice F' fn' fc') ∧ w'.cell? ⟨w.heap.size + 1 + 1, 1, none⟩ = some (.slice S' sn' sc'))) (fun _ => false) (by kernel_rfl) ⟨c00, c01, c10, c11, c20, c21⟩ (fun hHeld => ?_)
        refine AnyT.take (i := 0) (v := ?_) rfl (by kernel_rfl) (by kernel_rfl) (by kernel_rfl) (by kernel_rfl) (fun _ _ _ h => h) (Or.inl ⟨by rfl, ?_⟩) (by assumption) ?_
        rotate_left 1
        · (intro w0 hSw; (try dsimp only at hSw); go_simp; try with_reducible rfl)
        try simp only [Act.put, List.setIfInBounds_toArray, List.set_cons_zero, List.set_cons_succ, List.getElem_toArray, List.getElem_cons_zero, List.getElem_cons_succ]
        refine AnyT.take (i := 1) (v := ?_) rfl (by kernel_rfl) (by kernel_rfl) (by kernel_rfl) (by kernel_rfl) (fun _ _ _ h => h) (Or.inl ⟨by rfl, ?_⟩) (by assumption) ?_
        rotate_left 1
        · (intro w0 hSw; (try dsimp only at hSw); go_simp; try with_reducible rfl)
        try simp only [Act.put, List.setIfInBounds_toArray, List.set_cons_zero, List.set_cons_succ, List.getElem_toArray, List.getElem_cons_zero, List.getElem_cons_succ]
        refine AnyT.call (i := 2) (by kernel_rfl) rfl (fun K hK => ?_)
        try simp only [Act.put, List.setIfInBounds_toArray, List.set_cons_zero, List.set_cons_succ, List.getElem_toArray, List.getElem_cons_zero, List.getElem_cons_succ]
        rw [if_pos (by rfl)]
        go_simp
        (go_at_call 14; refine (L1.out _ J).mono ?_; rintro e q1 ⟨he, bb⟩; rw [HA.out] at he; subst he; replace J := J.next bb; have k00_1 : q1.cell? ⟨w.heap.size, 0, none⟩ = some (a) := J.r0.cell 0; have k01_1 : q1.cell? ⟨w.heap.size, 1, none⟩ = some (v) := J.r0.cell 1; have k10_1 : q1.cell? ⟨w.heap.size + 1, 0, none⟩ = some (.slice F fn fc) := J.r1.cell 0; have k11_1 : q1.cell? ⟨w.heap.size + 1, 1, none⟩ = some (.slice S sn sc) := J.r1.cell 1; have k20_1 : q1.cell? ⟨w.heap.size + 1 + 1, 0, none⟩ = some (.slice F' fn' fc') := J.r2.cell 0; have k21_1 : q1.cell? ⟨w.heap.size + 1 + 1, 1, none⟩ = some (.slice S' sn' sc') := J.r2.cell 1; clear bb; go_wp2_with fail)
        refine hK.out _ _ (fun _ _ => ?_) (fun hKeep => ?_)
        · exact ⟨k00_1,k01_1,k10_1,k11_1,k20_1,k21_1⟩
        replace hHeld := hKeep (by first | rfl | trivial) hHeld
        clear hK K hKeep
        try simp only [Act.put, List.setIfInBounds_toArray, List.set_cons_zero, List.set_cons_succ, List.getElem_toArray, List.getElem_cons_zero, List.getElem_cons_succ]
        refine AnyT.takeA (i := 3) (v := ?_) rfl (by kernel_rfl) (by kernel_rfl) (by kernel_rfl) (fun _ _ _ h => h) (Or.inl ⟨by rfl, ?_⟩) ?_
        rotate_left 1
        · (intro w0 _; go_simp; try with_reducible rfl)
        try simp only [Act.put, List.setIfInBounds_toArray, List.set_cons_zero, List.set_cons_succ, List.getElem_toArray, List.getElem_cons_zero, List.getElem_cons_succ]
        refine AnyT.takeA (i := 4) (v := ?_) rfl (by kernel_rfl) (by kernel_rfl) (by kernel_rfl) (fun _ _ _ h => h) (Or.inl ⟨by rfl, ?_⟩) ?_
        rotate_left 1
        · (intro w0 _; go_simp; try with_reducible rfl)
        try simp only [Act.put, List.setIfInBounds_toArray, List.set_cons_zero, List.set_cons_succ, List.getElem_toArray, List.getElem_cons_zero, List.getElem_cons_succ]
        refine AnyT.take (i := 5) (v := ?_) rfl (by kernel_rfl) (by kernel_rfl) (by kernel_rfl) (by kernel_rfl) (fun _ _ _ h => h) (Or.inl ⟨by rfl, ?_⟩) (by assumption) ?_
        rotate_left 1
        · (intro w0 hSw; (try dsimp only at hSw); go_simp; try with_reducible rfl)
        try simp only [Act.put, List.setIfInBounds_toArray, List.set_cons_zero, List.set_cons_succ, List.getElem_toArray, List.getElem_cons_zero, List.getElem_cons_succ]
        refine AnyT.take (i := 6) (v := ?_) rfl (by kernel_rfl) (by kernel_rfl) (by kernel_rfl) (by kernel_rfl) (fun _ _ _ h => h) (Or.inl ⟨by rfl, ?_⟩) (by assumption) ?_
        rotate_left 1
        · (intro w0 hSw; (try dsimp only at hSw); go_simp; try with_reducible rfl)
        try simp only [Act.put, List.setIfInBounds_toArray, List.set_cons_zero, List.set_cons_succ, List.getElem_toArray, List.getElem_cons_zero, List.getElem_cons_succ]
        refine AnyT.call (i := 7) (by kernel_rfl) rfl (fun K hK => ?_)
        try simp only [Act.put, List.setIfInBounds_toArray, List.set_cons_zero, List.set_cons_succ, List.getElem_toArray, List.getElem_cons_zero, List.getElem_cons_succ]
        rw [if_pos (by rfl)]
        go_simp
        (go_at_call 14; refine (L2.out _ J).mono ?_; rintro e q2 ⟨he, bb⟩; rw [HB.out] at he; subst he; replace J := J.next bb; have k00_2 : q2.cell? ⟨w.heap.size, 0, none⟩ = some (a) := J.r0.cell 0; have k01_2 : q2.cell? ⟨w.heap.size, 1, none⟩ = some (v) := J.r0.cell 1; have k10_2 : q2.cell? ⟨w.heap.size + 1, 0, none⟩ = some (.slice F fn fc) := J.r1.cell 0; have k11_2 : q2.cell? ⟨w.heap.size + 1, 1, none⟩ = some (.slice S sn sc) := J.r1.cell 1; have k20_2 : q2.cell? ⟨w.heap.size + 1 + 1, 0, none⟩ = some (.slice F' fn' fc') := J.r2.cell 0; have k21_2 : q2.cell? ⟨w.heap.size + 1 + 1, 1, none⟩ = some (.slice S' sn' sc') := J.r2.cell 1; clear bb; go_wp2_with fail)
        refine hK.out _ _ (fun _ _ => ?_) (fun hKeep => ?_)
        · exact ⟨k00_2,k01_2,k10_2,k11_2,k20_2,k21_2⟩
        replace hHeld := hKeep (by first | rfl | trivial) hHeld
        clear hK K hKeep
        try simp only [Act.put, List.setIfInBounds_toArray, List.set_cons_zero, List.set_cons_succ, List.getElem_toArray, List.getElem_cons_zero, List.getElem_cons_succ]
        refine AnyT.takeA (i := 8) (v := ?_) rfl (by kernel_rfl) (by kernel_rfl) (by kernel_rfl) (fun _ _ _ h => h) (Or.inl ⟨by rfl, ?_⟩) ?_
        rotate_left 1
        · (intro w0 _; go_simp; try with_reducible rfl)
        try simp only [Act.put, List.setIfInBounds_toArray, List.set_cons_zero, List.set_cons_succ, List.getElem_toArray, List.getElem_cons_zero, List.getElem_cons_succ]
        refine AnyT.takeA (i := 9) (v := ?_) rfl (by kernel_rfl) (by kernel_rfl) (by kernel_rfl) (fun _ _ _ h => h) (Or.inl ⟨by rfl, ?_⟩) ?_
        rotate_left 1
        · (intro w0 _; go_simp; try with_reducible rfl)
        try simp only [Act.put, List.setIfInBounds_toArray, List.set_cons_zero, List.set_cons_succ, List.getElem_toArray, List.getElem_cons_zero, List.getElem_cons_succ]
        refine AnyT.takeA (i := 10) (v := ?_) rfl (by kernel_rfl) (by kernel_rfl) (by kernel_rfl) (fun _ _ _ h => h) (Or.inl ⟨by rfl, ?_⟩) ?_
        rotate_left 1
        · (intro w0 _; go_simp; try with_reducible rfl)
        try simp only [Act.put, List.setIfInBounds_toArray, List.set_cons_zero, List.set_cons_succ, List.getElem_toArray, List.getElem_cons_zero, List.getElem_cons_succ]
        refine AnyT.take (i := 11) (v := ?_) rfl (by kernel_rfl) (by kernel_rfl) (by kernel_rfl) (by kernel_rfl) (fun _ _ _ h => h) (Or.inl ⟨by rfl, ?_⟩) (by assumption) ?_
        rotate_left 1
        · (intro w0 hSw; (try dsimp only at hSw); go_simp; try with_reducible rfl)
        try simp only [Act.put, List.setIfInBounds_toArray, List.set_cons_zero, List.set_cons_succ, List.getElem_toArray, List.getElem_cons_zero, List.getElem_cons_succ]
        refine AnyT.takeA (i := 13) (v := ?_) rfl (by kernel_rfl) (by kernel_rfl) (by kernel_rfl) (fun _ _ _ h => h) (Or.inl ⟨by rfl, ?_⟩) ?_
        rotate_left 1
        · (intro w0 _; go_simp; try with_reducible rfl)
        try simp only [Act.put, List.setIfInBounds_toArray, List.set_cons_zero, List.set_cons_succ, List.getElem_toArray, List.getElem_cons_zero, List.getElem_cons_succ]
        refine AnyT.take (i := 14) (v := ?_) rfl (by kernel_rfl) (by kernel_rfl) (by kernel_rfl) (by kernel_rfl) (fun _ _ _ h => h) (Or.inl ⟨by rfl, ?_⟩) (by assumption) ?_
        rotate_left 1
        · (intro w0 hSw; (try dsimp only at hSw); go_simp; try with_reducible rfl)
        try simp only [Act.put, List.setIfInBounds_toArray, List.set_cons_zero, List.set_cons_succ, List.getElem_toArray, List.getElem_cons_zero, List.getElem_cons_succ]
        refine AnyT.call (i := 12) (by kernel_rfl) rfl (fun K hK => ?_)
        try simp only [Act.put, List.setIfInBounds_toArray, List.set_cons_zero, List.set_cons_succ, List.getElem_toArray, List.getElem_cons_zero, List.getElem_cons_succ]
        rw [if_pos (by rfl)]
        go_simp
        (go_at_call 50; refine (L3.out _ J).mono ?_; rintro e q3 ⟨X, xn, xc, rfl, hX, bb⟩; replace hX := hX.more bb.size; replace J := J.next bb; have k00_3 : q3.cell? ⟨w.heap.size, 0, none⟩ = some (a) := J.r0.cell 0; have k01_3 : q3.cell? ⟨w.heap.size, 1, none⟩ = some (v) := J.r0.cell 1; have k10_3 : q3.cell? ⟨w.heap.size + 1, 0, none⟩ = some (.slice F fn fc) := J.r1.cell 0; have k11_3 : q3.cell? ⟨w.heap.size + 1, 1, none⟩ = some (.slice S sn sc) := J.r1.cell 1; have k20_3 : q3.cell? ⟨w.heap.size + 1 + 1, 0, none⟩ = some (.slice F' fn' fc') := J.r2.cell 0; have k21_3 : q3.cell? ⟨w.heap.size + 1 + 1, 1, none⟩ = some (.slice S' sn' sc') := J.r2.cell 1; clear bb; go_wp2_with fail)
        refine hK.out _ _ (fun _ _ => ?_) (fun hKeep => ?_)
        · exact ⟨k00_3,k01_3,k10_3,k11_3,k20_3,k21_3⟩
        replace hHeld := hKeep (by first | rfl | trivial) hHeld
        clear hK K hKeep
        try simp only [Act.put, List.setIfInBounds_toArray, List.set_cons_zero, List.set_cons_succ, List.getElem_toArray, List.getElem_cons_zero, List.getElem_cons_succ]
        refine AnyT.call (i := 15) (by kernel_rfl) rfl (fun K hK => ?_)
        try simp only [Act.put, List.setIfInBounds_toArray, List.set_cons_zero, List.set_cons_succ, List.getElem_toArray, List.getElem_cons_zero, List.getElem_cons_succ]
        rw [if_pos (by rfl)]
        go_simp
        (go_at_call 13; refine (L4.out _ J X xn xc hX).mono ?_; rintro e q4 ⟨he, bb⟩; rw [HC.out] at he; subst he; replace J := J.next bb; have k00_4 : q4.cell? ⟨w.heap.size, 0, none⟩ = some (a) := J.r0.cell 0; have k01_4 : q4.cell? ⟨w.heap.size, 1, none⟩ = some (v) := J.r0.cell 1; have k10_4 : q4.cell? ⟨w.heap.size + 1, 0, none⟩ = some (.slice F fn fc) := J.r1.cell 0; have k11_4 : q4.cell? ⟨w.heap.size + 1, 1, none⟩ = some (.slice S sn sc) := J.r1.cell 1; have k20_4 : q4.cell? ⟨w.heap.size + 1 + 1, 0, none⟩ = some (.slice F' fn' fc') := J.r2.cell 0; have k21_4 : q4.cell? ⟨w.heap.size + 1 + 1, 1, none⟩ = some (.slice S' sn' sc') := J.r2.cell 1; clear bb; go_wp2_with fail)
        refine hK.out _ _ (fun _ _ => ?_) (fun hKeep => ?_)
        · exact ⟨k00_4,k01_4,k10_4,k11_4,k20_4,k21_4⟩
        replace hHeld := hKeep (by first | rfl | trivial) hHeld
        clear hK K hKeep
        try simp only [Act.put, List.setIfInBounds_toArray, List.set_cons_zero, List.set_cons_succ, List.getElem_toArray, List.getElem_cons_zero, List.getElem_cons_succ]
        refine AnyT.takeA (i := 16) (v := ?_) rfl (by kernel_rfl) (by kernel_rfl) (by kernel_rfl) (fun _ _ _ h => h) (Or.inl ⟨by rfl, ?_⟩) ?_
        rotate_left 1
        · (intro w0 _; go_simp; try with_reducible rfl)
        try simp only [Act.put, List.setIfInBounds_toArray, List.set_cons_zero, List.set_cons_succ, List.getElem_toArray, List.getElem_cons_zero, List.getElem_cons_succ]
        refine AnyT.takeA (i := 17) (v := ?_) rfl (by kernel_rfl) (by kernel_rfl) (by kernel_rfl) (fun _ _ _ h => h) (Or.inl ⟨by rfl, ?_⟩) ?_
        rotate_left 1
        · (intro w0 _; go_simp; try with_reducible rfl)
        try simp only [Act.put, List.setIfInBounds_toArray, List.set_cons_zero, List.set_cons_succ, List.getElem_toArray, List.getElem_cons_zero, List.getElem_cons_succ]
        refine AnyT.done (by kernel_rfl) ?_ _
        clear c00 c01 c10 c11 c20 c21
        clear k00_1 k01_1 k10_1 k11_1 k20_1 k21_1 k00_2 k01_2 k10_2 k11_2 k20_2 k21_2 k00_3 k01_3 k10_3 k11_3 k20_3 k21_3 k00_4 k01_4 k10_4 k11_4 k20_4 k21_4
        have m0 : q4.cell? ⟨w.heap.size + 1, 1, none⟩ = some (.slice S sn sc) := J.r1.cell 1
        have m1 : q4.cell? ⟨w.heap.size + 1 + 1, 1, none⟩ = some (.slice S' sn' sc') := J.r2.cell 1
        obtain ⟨q5, hq5⟩ : ∃ q5, q5 = q4.alloc (.cells #[.slice S sn sc, .slice S' sn' sc'] 39) := ⟨_, rfl⟩
        have b5 : Below q4.heap.size q4 q5 := by rw [hq5]; exact (Below.refl _ _).alloc (Nat.le_refl _) _
        have J5 := J.next b5
        have z6 := J5.size
        have r5 : Row q5 q4.heap.size 39 #[.slice S sn sc, .slice S' sn' sc'] := by rw [hq5]; exact Row.new _ _ _
        have LC := Lib.hid (concat2 q4.heap.size S S' sn sc sn' sc' w.heap.size k.2 k'.2 q5 r5.lt (r5.cell 0) (r5.cell 1) (HSEG.out.2.1.below J5.b) (HSEG.out.2.2.below J5.b) J5.b.size hsn hsn')
        have HQ5 := Lib.hid hq5
        clear hq5 r5 b5 J
        go_wp2_with fail
        rw [← HQ5.out]
        refine LC.out.mono ?_
        rintro e q6 ⟨A, cc, vs, rfl, ho, hf, bb⟩
        replace J5 := J5.next bb
        have st := concat_start ho hf
        have zJ := J5.size
        have z56 := bb.size
        clear ho hf bb LC m0 m1
        by_cases hlen : sn + sn' ≤ 60
        · have HLEN := Lib.hid (show k.2.length + k'.2.length ≤ 60 by rw [HL1.out, HL2.out]; exact hlen)
          obtain ⟨N, hN⟩ : ∃ N, sn + sn' = N := ⟨_, rfl⟩
          rw [hN] at st hlen ⊢
          have HNL := Lib.hid (show (k.2 ++ k'.2).length = N by rw [List.length_append, HL1.out, HL2.out, hN])
          have hle : ¬ (60 : Int) < (N : Int) := by omega
          have H0 := Lib.hid (show Jn w a v (.slice F fn fc) (.slice S sn sc) (.slice F' fn' fc') (.slice S' sn' sc') q6 ∧ OwnL q6 q5.heap.size q6.heap.size 81 sStep A 0 cc ((k.2 ++ k'.2).take 0) ∧ Suf q6 A N cc w.heap.size (k.2 ++ k'.2) 0 ∧ ∀ g, A = some ⟨g, 0, none⟩ → q5.heap.size ≤ g ∧ g < q6.heap.size from ⟨J5, st.1, st.2.1, st.2.2⟩)
          clear J5 st hN
          go_wp2_with fail
          go_loopg [9, 41] N (fun g i9 i_ wr => ∃ i : Nat, i_ = .int .i64 i ∧ i + g = N ∧ Jn w a v (.slice F fn fc) (.slice S sn sc) (.slice F' fn' fc') (.slice S' sn' sc') wr ∧ OwnL wr q5.heap.size wr.heap.size 81 sStep A i cc ((k.2 ++ k'.2).take i) ∧ Suf wr A N cc w.heap.size (k.2 ++ k'.2) i ∧ (∀ g, A = some ⟨g, 0, none⟩ → q5.heap.size ≤ g ∧ g < q6.heap.size) ∧ q6.heap.size ≤ wr.heap.size)
          case atStart => exact ⟨0, rfl, by omega, H0.out.1, H0.out.2.1, H0.out.2.2.1, H0.out.2.2.2, Nat.le_refl _⟩
          case round =>
            clear H0
            obtain ⟨i, rfl, hg, J, oL, sf, hA, hsz⟩ := hrel
            have HG := Lib.hid hg
            clear hg
            by_cases hi : i < N
            · obtain ⟨g, cur, U, un, uc, rfl, hrow, hcs, hNc, e0, e1, e2, hU⟩ := sf i (Nat.le_refl _) hi
              have hgA := hA g rfl
              obtain ⟨x, hx⟩ : ∃ x, (k.2 ++ k'.2).getD i (0, 0, []) = x := ⟨_, rfl⟩
              have hil : i < (k.2 ++ k'.2).length := by rw [HNL.out]; exact hi
              have htm := join_terms HA.out HB.out hil
              rw [hx] at e0 e1 hU htm
              obtain ⟨xa, xr, ys⟩ := x
              have hun : 1 ≤ un ∧ un ≤ 60 := by have := term_len htm; have := hU.seg.1; omega
              obtain ⟨b, off, y, rfl, hbB, -, -⟩ := hU.seg.spot (k := 0) (by omega)
              have zg : g < wr.heap.size := by omega
              have zw : w.heap.size ≤ wr.heap.size := J.b.size
              have LCl := Lib.hid (cloneInts b off un uc ys wr (hU.seg.more zw) (by omega))
              have c2 : wr.cell? ⟨g, i * 3 + 2, none⟩ = some (.slice (some ⟨b, off, none⟩) un uc) := by rw [hrow.cell]; exact e2
              have EX := Lib.hid (take_step hil hx)
              have HE := Lib.hid (And.intro e0 e1)
              have i0 : (0 : Int) ≤ (i : Int) := by omega
              have i1 : (i : Int) < (N : Int) := by omega
              have HS := Lib.hid sf
              clear sf e0 e1 e2 hU htm hx
              go_wp2_with fail
              refine LCl.out.mono ?_
              rintro e w2 ⟨X, xn, xc, rfl, oX, bb⟩
              have row2 := hrow.next bb
              have k2 : w2.cell? ⟨g, i * 3 + 2, none⟩ = some (.slice (some ⟨b, off, none⟩) un uc) := (bb.cell (p := ⟨g, i * 3 + 2, none⟩) zg).trans c2
              have f2 := row2.free (i * 3 + 2)
              have J2 := J.next bb
              have zz := bb.size
              have oL2 : OwnL (w2.setCell ⟨g, i * 3 + 2, none⟩ (.slice X xn xc)) q5.heap.size wr.heap.size 81 sStep (some ⟨g, 0, none⟩) i cc ((k.2 ++ k'.2).take i) := OwnL.put (oL.next bb) (show i * 3 ≤ i * 3 + 2 by omega)
              have row3 := row2.put (i * 3 + 2) (.slice X xn xc)
              have oS : Owned (w2.setCell ⟨g, i * 3 + 2, none⟩ (.slice X xn xc)) wr.heap.size w2.heap.size sStep [.int .i64 xa, .int .i64 xr, .slice X xn xc] (xa, xr, ys) := (owned_step oX xa xr).put (by omega)
              have F := Lib.hid (show Jn w a v (.slice F fn fc) (.slice S sn sc) (.slice F' fn' fc') (.slice S' sn' sc') (w2.setCell ⟨g, i * 3 + 2, none⟩ (.slice X xn xc)) ∧ OwnL (w2.setCell ⟨g, i * 3 + 2, none⟩ (.slice X xn xc)) q5.heap.size (w2.setCell ⟨g, i * 3 + 2, none⟩ (.slice X xn xc)).heap.size 81 sStep (some ⟨g, 0, none⟩) (i + 1) cc ((k.2 ++ k'.2).take (i + 1)) ∧ Suf (w2.setCell ⟨g, i * 3 + 2, none⟩ (.slice X xn xc)) (some ⟨g, 0, none⟩) N cc w.heap.size (k.2 ++ k'.2) (i + 1) ∧ q6.heap.size ≤ (w2.setCell ⟨g, i * 3 + 2, none⟩ (.slice X xn xc)).heap.size from by
                refine ⟨⟨J2.r0.far (show w.heap.size ≠ g by omega) _, J2.r1.far (show w.heap.size + 1 ≠ g by omega) _, J2.r2.far (show w.heap.size + 1 + 1 ≠ g by omega) _, J2.r3.far (show w.heap.size + 1 + 1 + 1 ≠ g by omega) _, J2.b.setCell (show w.heap.size ≤ g by omega) _⟩, ?_, Suf.put (HS.out.next bb zw) (by omega), by simp; omega⟩
                rw [← EX.out]
                refine OwnL.ext oL2 (by omega) row3 (fun q hq => ?_) oS (Nat.le_refl _) (by omega)
                have hq : q < 3 := hq
                have hn : nc sStep = 3 := rfl
                rw [hn]
                have hcases : q = 0 ∨ q = 1 ∨ q = 2 := by omega
                rcases hcases with rfl | rfl | rfl
                · rw [Array.getElem?_setIfInBounds, if_neg (by omega)]; exact HE.out.1
                · rw [Array.getElem?_setIfInBounds, if_neg (by omega)]; exact HE.out.2
                · rw [Array.getElem?_setIfInBounds, if_pos rfl, if_pos (by omega)]; rfl)
              clear oX bb J J2 oL oL2 hrow row2 row3 oS HS c2 LCl
              go_wp2
              go_roundg (gk - 1)
              case measure => have := HG.out; omega
              case rel => exact ⟨i + 1, by simp, by have := HG.out; omega, F.out.1, F.out.2.1, F.out.2.2.1, hA, F.out.2.2.2⟩
            · have e1 : i = N := by have := HG.out; omega
              subst e1
              have hfn60 : 1 ≤ fn ∧ fn ≤ 60 := by have := term_len (walk_parts HA.out).2.1; have := HSEG.out.1.1; omega
              obtain ⟨b, off, y, rfl, -, -, -⟩ := HSEG.out.1.spot (k := 0) (by omega)
              have LCl := Lib.hid (cloneInts b off fn fc k.1 wr (HSEG.out.1.next J.b) (by omega))
              have K0 : wr.cell? ⟨w.heap.size + 1, 0, none⟩ = some (.slice (some ⟨b, off, none⟩) fn fc) := J.r1.cell 0
              have HJ := Lib.hid (join_yes HA.out HB.out HC.out HLEN.out)
              have OL := Lib.hid oL
              have HNN := Lib.hid (show (k.2 ++ k'.2).take i = k.2 ++ k'.2 from List.take_of_length_le (by rw [HNL.out]; exact Nat.le_refl _))
              clear oL sf
              go_wp2_with fail
              refine LCl.out.mono ?_
              rintro e w2 ⟨X, xn, xc, rfl, oX, bb⟩
              have zz := bb.size
              have ow : Owned w2 (w.heap.size + 1 + 1 + 1 + 1) w2.heap.size sWalk [.slice X xn xc, .slice A i cc] (k.1, k.2 ++ k'.2) := by
                have o2 := OL.out.next bb
                rw [HNN.out] at o2
                exact owned_walk2 (Ownd.of_own oX) o2 (by omega) (by omega) zz
              have J2 := J.next bb
              have j3 := J2.r3
              have jb := J2.b
              clear J J2 K0 LCl OL
              have y0 : w2.cell? ⟨w.heap.size + 1 + 1 + 1, 0, none⟩ = some (.slice none 0 0) := j3.cell 0
              have y1 : w2.cell? ⟨w.heap.size + 1 + 1 + 1, 1, none⟩ = some (.slice none 0 0) := j3.cell 1
              have g0 := j3.free 0
              have g1 := j3.free 1
              have ra := j3.put 0 (.slice X xn xc)
              have y2 : (w2.setCell ⟨w.heap.size + 1 + 1 + 1, 0, none⟩ (.slice X xn xc)).cell? ⟨w.heap.size + 1 + 1 + 1, 1, none⟩ = some (.slice none 0 0) := ra.cell 1
              have g2 := ra.free 1
              have rb := ra.put 1 (.slice A i cc)
              have u0 : ((w2.setCell ⟨w.heap.size + 1 + 1 + 1, 0, none⟩ (.slice X xn xc)).setCell ⟨w.heap.size + 1 + 1 + 1, 1, none⟩ (.slice A i cc)).cell? ⟨w.heap.size + 1 + 1 + 1, 0, none⟩ = some (.slice X xn xc) := rb.cell 0
              have u1 : ((w2.setCell ⟨w.heap.size + 1 + 1 + 1, 0, none⟩ (.slice X xn xc)).setCell ⟨w.heap.size + 1 + 1 + 1, 1, none⟩ (.slice A i cc)).cell? ⟨w.heap.size + 1 + 1 + 1, 1, none⟩ = some (.slice A i cc) := rb.cell 1
              have FZ : AnsWalk w (joinW d.1 d.2 k k') (joinB d.1 d.2 k k') (.returned (.tuple #[.agg #[.slice X xn xc, .slice A i cc], .bool true])) ((w2.setCell ⟨w.heap.size + 1 + 1 + 1, 0, none⟩ (.slice X xn xc)).setCell ⟨w.heap.size + 1 + 1 + 1, 1, none⟩ (.slice A i cc)) := ⟨_, _, _, _, _, _, by rw [HJ.out.2], by rw [HJ.out.1]; exact ((ow.put (g := w.heap.size + 1 + 1 + 1) (i := 0) (by omega)).put (g := w.heap.size + 1 + 1 + 1) (i := 1) (by omega)).wider (by omega) (by simp), (jb.setCell (show w.heap.size ≤ w.heap.size + 1 + 1 + 1 by omega) _).setCell (show w.heap.size ≤ w.heap.size + 1 + 1 + 1 by omega) _⟩
              have HFZ := Lib.hid FZ
              clear FZ ra rb ow jb j3 oX bb
              go_wp2
              exact bodyPost_ret (v := .tuple #[.agg #[.slice X xn xc, .slice A i cc], .bool true]) (by simp [results, Tryz.results34, go_sem, u0, u1]) rfl HFZ.out
        · have HLEN := Lib.hid (show ¬ k.2.length + k'.2.length ≤ 60 by rw [HL1.out, HL2.out]; exact hlen)
          have hgt : (60 : Int) < ((sn + sn' : Nat) : Int) := by omega
          have hgt2 : (60 : Int) < (sn : Int) + (sn' : Int) := by omega
          have J := J5
          clear hlen st J5
          have y0 : q6.cell? ⟨w.heap.size + 1 + 1 + 1, 0, none⟩ = some (.slice none 0 0) := J.r3.cell 0
          have y1 : q6.cell? ⟨w.heap.size + 1 + 1 + 1, 1, none⟩ = some (.slice none 0 0) := J.r3.cell 1
          have g0 := J.r3.free 0
          have g1 := J.r3.free 1
          have ra := J.r3.put 0 (.slice none 0 0)
          have y2 : (q6.setCell ⟨w.heap.size + 1 + 1 + 1, 0, none⟩ (.slice none 0 0)).cell? ⟨w.heap.size + 1 + 1 + 1, 1, none⟩ = some (.slice none 0 0) := ra.cell 1
          have g2 := ra.free 1
          have rb := ra.put 1 (.slice none 0 0)
          have u0 : ((q6.setCell ⟨w.heap.size + 1 + 1 + 1, 0, none⟩ (.slice none 0 0)).setCell ⟨w.heap.size + 1 + 1 + 1, 1, none⟩ (.slice none 0 0)).cell? ⟨w.heap.size + 1 + 1 + 1, 0, none⟩ = some (.slice none 0 0) := rb.cell 0
          have u1 : ((q6.setCell ⟨w.heap.size + 1 + 1 + 1, 0, none⟩ (.slice none 0 0)).setCell ⟨w.heap.size + 1 + 1 + 1, 1, none⟩ (.slice none 0 0)).cell? ⟨w.heap.size + 1 + 1 + 1, 1, none⟩ = some (.slice none 0 0) := rb.cell 1
          have FZ : AnsWalk w (joinW d.1 d.2 k k') (joinB d.1 d.2 k k') (.returned (.tuple #[.agg #[.slice none 0 0, .slice none 0 0], .bool false])) ((q6.setCell ⟨w.heap.size + 1 + 1 + 1, 0, none⟩ (.slice none 0 0)).setCell ⟨w.heap.size + 1 + 1 + 1, 1, none⟩ (.slice none 0 0)) := ansWalk_no (join_no4 HLEN.out) (((J.b).setCell (show w.heap.size ≤ w.heap.size + 1 + 1 + 1 by omega) _).setCell (show w.heap.size ≤ w.heap.size + 1 + 1 + 1 by omega) _)
          have HFZ := Lib.hid FZ
          clear FZ ra rb  J
          go_wp2
          exact bodyPost_ret (v := .tuple #[.agg #[.slice none 0 0, .slice none 0 0], .bool false]) (by simp [results, Tryz.results34, go_sem, u0, u1]) rfl HFZ.out
end Go.Proofs.YtpcnjcgglonifaaGreat.walkImpl
end

section
namespace Go.Proofs.YtpcnjcgglonifaaGreat.walkX
open Go.RowKit base sig term termOk termFacts segs shape kindsR kindsW ruleMath stepMath walkMath walkSpec walkImpl
end Go.Proofs.YtpcnjcgglonifaaGreat.walkX
end

section
namespace Go.Proofs.YtpcnjcgglonifaaGreat.lawW
open Go.RowKit base ints sig term termOk termFacts marks app sym segs shape kinds kindsR kindsW fillMath gives filled substOk sub putMath ruleMath stepMath walkMath walkSpec und same matchMath
set_option maxRecDepth 100000

theorem same_yes {w : World} {A A' : Option Addr} {n c m c' : Nat} {xs : List Int} (h : Seg w w.heap.size A n xs) (h' : Seg w w.heap.size A' m xs) (hn : n ≤ 1048576) (hm : m ≤ 1048576) :
    Calls Tryz.prog 13 #[.slice A n c, .slice A' m c'] w (fun e w' => e = .returned (.bool true) ∧ Below w.heap.size w w') :=
  (implSame A A' n m c c' xs xs w h h' hn hm).mono fun _ _ ⟨he, d, hd⟩ => ⟨by rw [he, decide_eq_true rfl], by rw [hd]; exact drewN_below w d⟩
theorem rd_take {w : World} {B : Nat} {e : TypeId} {s : Sh} {A : Option Addr} {n m c : Nat} {D : List (Dat s)} (h : Rd w B (.row e s) [.slice A n c] D) (hm : m ≤ n) : Rd w B (.row e s) [.slice A m c] (D.take m : List (Dat s)) := by
  obtain ⟨A1, n1, c1, e1, hc, hl, h1⟩ := h
  injection e1 with e1
  injection e1 with e2 e3 e4
  subst e2 e3 e4
  refine ⟨A, m, c, rfl, ⟨Nat.le_trans hm hc.1, hc.2⟩, by rw [List.length_take, hl]; omega, fun hp => ?_⟩
  obtain ⟨b, off, e2, hb, h2⟩ := h1 (by omega)
  refine ⟨b, off, e2, hb, fun j hj => ?_⟩
  obtain ⟨es, he, hpc, hr⟩ := h2 j (by omega)
  refine ⟨es, he, hpc, ?_⟩
  have : (D.take m).getD j (dft s) = D.getD j (dft s) := by
    rw [List.getD_eq_getElem?_getD, List.getD_eq_getElem?_getD, List.getElem?_take_of_lt hj]
  rw [this]
  exact hr
theorem rd_drop {w : World} {B : Nat} {b off n m c : Nat} {D : List (Dat sStep)} (h : Rd w B sStepS [.slice (some ⟨b, off, none⟩) n c] D) (hm : m ≤ n) : Rd w B sStepS [.slice (some ⟨b, off + m * 3, none⟩) (n - m) (c - m)] (D.drop m : List (Dat sStep)) := by
  obtain ⟨A1, n1, c1, e1, hc, hl, h1⟩ := h
  injection e1 with e1
  injection e1 with e2 e3 e4
  subst e2 e3 e4
  refine ⟨_, n - m, c - m, rfl, ⟨by have := hc.1; omega, by have := hc.2.1; omega, fun e => by cases e⟩, by rw [List.length_drop, hl], fun hp => ?_⟩
  obtain ⟨b', off', e2, hb, h2⟩ := h1 (by omega)
  injection e2 with e2
  injection e2 with e3 e4
  subst e3 e4
  refine ⟨b, off + m * 3, rfl, hb, fun j hj => ?_⟩
  obtain ⟨es, he, hpc, hr⟩ := h2 (m + j) (by omega)
  refine ⟨es, he, ?_, ?_⟩
  · have e : off + (m + j) * nc sStep = off + m * 3 + j * nc sStep := by
      show off + (m + j) * 3 = off + m * 3 + j * 3
      omega
    rw [← e]; exact hpc
  · have : (D.drop m).getD j (dft sStep) = D.getD (m + j) (dft sStep) := by
      rw [List.getD_eq_getElem?_getD, List.getD_eq_getElem?_getD, List.getElem?_drop]
    rw [this]
    exact hr

structure Lo (g : Nat) (F Q : Option Addr) (fn fc qn qc : Nat) (k : Wk) (wr : World) : Prop where
  m : Rd wr wr.heap.size sWalk [.slice F fn fc, .slice Q qn qc] k
  r : Row wr g 41 #[.slice F fn fc, .slice Q qn qc]
section
variable {g : Nat} {F Q : Option Addr} {fn fc qn qc : Nat} {k : Wk} {wr w' : World}
theorem Lo.next (h : Lo g F Q fn fc qn qc k wr) (hb : Below wr.heap.size wr w') : Lo g F Q fn fc qn qc k w' := ⟨h.m.next hb, h.r.next hb⟩
theorem Lo.drew (h : Lo g F Q fn fc qn qc k wr) : Lo g F Q fn fc qn qc k wr.drew := h.next (drew_below wr)
theorem Lo.c0 (h : Lo g F Q fn fc qn qc k wr) : wr.cell? ⟨g, 0, none⟩ = some (.slice F fn fc) := h.r.cell 0
theorem Lo.c1 (h : Lo g F Q fn fc qn qc k wr) : wr.cell? ⟨g, 1, none⟩ = some (.slice Q qn qc) := h.r.cell 1
theorem Lo.steps (h : Lo g F Q fn fc qn qc k wr) : Rd wr wr.heap.size sStepS [.slice Q qn qc] k.2 := (parts_Walk h.m).2
theorem Lo.from_ (h : Lo g F Q fn fc qn qc k wr) : Rd wr wr.heap.size sI [.slice F fn fc] k.1 := (parts_Walk h.m).1
theorem Lo.len (h : Lo g F Q fn fc qn qc k wr) : k.2.length = qn := by
  obtain ⟨A, c, e, -⟩ := h.steps.slice
  injection e with _ e
  exact e.symm
theorem Lo.cap (h : Lo g F Q fn fc qn qc k wr) : Cap Q qn qc := by
  obtain ⟨A, c, e, hc⟩ := h.steps.slice
  injection e with e1 e2 e3
  rw [e1, e2, e3]
  exact hc
theorem Lo.of {W : World} (h : Rd wr wr.heap.size sWalk [.slice F fn fc, .slice Q qn qc] k) (hg : wr.heap.size = g) (hW : W = wr.alloc (.cells #[.slice F fn fc, .slice Q qn qc] 41)) : Lo g F Q fn fc qn qc k W ∧ Below wr.heap.size wr W := by
  have b : Below wr.heap.size wr W := by rw [hW]; exact (Below.refl _ _).alloc (Nat.le_refl _) _
  exact ⟨⟨h.next b, by rw [hW, ← hg]; exact Row.new _ _ _⟩, b⟩
end
theorem walk_join_rd {w : World} {B : Nat} {F Q : Option Addr} {fn fc qn qc : Nat} {f : List Int} {L : List St} (h1 : Rd w B sI [.slice F fn fc] f) (h2 : Rd w B sStepS [.slice Q qn qc] L) : Rd w B sWalk [.slice F fn fc, .slice Q qn qc] ((f, L) : List Int × List St) := ⟨[_], [_], rfl, h1, h2⟩

def KeptW (wr : World) (f : List Int) (G : Option Addr) (gn gc : Nat) (s : Value) (wx : World) : Prop :=
  ∃ bo Y yn yc, s = .pointer (some ⟨bo, 0, none⟩) ∧ Row wx bo 41 #[.slice Y yn yc, .slice G gn gc] ∧ Rd wx wx.heap.size sI [.slice Y yn yc] f ∧ Below wr.heap.size wr wx
theorem kept_a {wr w3 : World} {base g : Nat} {f : List Int} {Y G u v : Option Addr} {yn yc gn gc un uc vn vc : Nat} (h : Own w3 base (.slice Y yn yc) f) (hg : Row w3 g 41 #[.slice u un uc, .slice v vn vc]) (h1 : wr.heap.size ≤ g) (h2 : g < base) (b : Below wr.heap.size wr w3) :
    KeptW wr f G gn gc (.pointer (some ⟨g, 0, none⟩)) ((w3.setCell ⟨g, 0, none⟩ (.slice Y yn yc)).setCell ⟨g, 1, none⟩ (.slice G gn gc)) := by
  have q : Go.Proofs.YtpcnjcgglonifaaGreat.drawX.RdQ w3 (fun b => b < w3.heap.size ∧ b ≠ g) sI [.slice Y yn yc] f := Go.Proofs.YtpcnjcgglonifaaGreat.drawX.rdq_own h fun b hb hb2 _ => ⟨hb2, by omega⟩
  have q2 := (q.keep fun b hb => Below.heap_setCell w3 ⟨g, 0, none⟩ (.slice Y yn yc) b hb.2).keep fun b hb => Below.heap_setCell _ ⟨g, 1, none⟩ (.slice G gn gc) b hb.2
  exact ⟨g, Y, yn, yc, rfl, (hg.put 0 _).put 1 _, q2.rd (fun b hb => by simpa using hb.1), (b.setCell (p := ⟨g, 0, none⟩) h1 _).setCell (p := ⟨g, 1, none⟩) h1 _⟩
theorem rd_drop2 {w : World} {B : Nat} {Q : Option Addr} {n m c : Nat} {D : List (Dat sStep)} (h : Rd w B sStepS [.slice Q n c] D) (hm : m ≤ n) : Rd w B sStepS [.slice (if c = m then Q else Option.map (fun x => x.add (m * 3)) Q) (n - m) (c - m)] (D.drop m : List (Dat sStep)) := by
  have h0 := h
  obtain ⟨A1, n1, c1, e1, hc, hl, h1⟩ := h
  injection e1 with e1
  injection e1 with e2 e3 e4
  subst e2 e3 e4
  by_cases hn : n = m
  · subst hn
    refine ⟨_, n - n, c - n, rfl, ⟨by omega, by have := hc.2.1; omega, fun e => ?_⟩, by rw [List.length_drop, hl], fun hp => by omega⟩
    split at e
    · omega
    · rw [Option.map_eq_none_iff] at e
      have := hc.2.2 e
      omega
  · have hcm : ¬ c = m := by have := hc.1; omega
    rw [if_neg hcm]
    obtain ⟨b, off, e2, -⟩ := h1 (by omega)
    subst e2
    have ea : (⟨b, off, none⟩ : Addr).add (m * 3) = ⟨b, off + m * 3, none⟩ := by unfold Addr.add; split <;> simp_all
    show Rd w B sStepS [.slice (some ((⟨b, off, none⟩ : Addr).add (m * 3))) (n - m) (c - m)] _
    rw [ea]
    exact rd_drop h0 hm
def KeptL (wr : World) (f : List Int) (L : List (Dat sStep)) (s : Value) (wx : World) : Prop :=
  ∃ bo Y yn yc G gn gc, s = .pointer (some ⟨bo, 0, none⟩) ∧ Lo bo Y G yn yc gn gc ((f, L) : List Int × List St) wx ∧ Below wr.heap.size wr wx
theorem keptL_b {wr w3 : World} {base : Nat} {f : List Int} {L : List (Dat sStep)} {Y G : Option Addr} {yn yc gn gc : Nat} (h : Own w3 base (.slice Y yn yc) f) (b : Below wr.heap.size wr w3) (hL : Rd wr wr.heap.size sStepS [.slice G gn gc] L) :
    KeptL wr f L (.pointer (some ⟨w3.heap.size, 0, none⟩)) (w3.alloc (.cells #[.slice Y yn yc, .slice G gn gc] 41)) := by
  have bb : Below w3.heap.size w3 (w3.alloc (.cells #[.slice Y yn yc, .slice G gn gc] 41)) := (Below.refl _ _).alloc (Nat.le_refl _) _
  exact ⟨_, Y, yn, yc, G, gn, gc, rfl, ⟨walk_join_rd ((rd_own h).next bb) (hL.next (next_trans b bb)), Row.new _ _ _⟩, next_trans b bb⟩
theorem keptL_a {wr w3 : World} {base g : Nat} {f : List Int} {L : List (Dat sStep)} {Y G u v : Option Addr} {yn yc gn gc un uc vn vc : Nat} (h : Own w3 base (.slice Y yn yc) f) (hg : Row w3 g 41 #[.slice u un uc, .slice v vn vc]) (h1 : wr.heap.size ≤ g) (h2 : g < base) (b : Below wr.heap.size wr w3) (hL : Rd wr wr.heap.size sStepS [.slice G gn gc] L) :
    KeptL wr f L (.pointer (some ⟨g, 0, none⟩)) ((w3.setCell ⟨g, 0, none⟩ (.slice Y yn yc)).setCell ⟨g, 1, none⟩ (.slice G gn gc)) := by
  obtain ⟨bo, Y', yn', yc', e, r, x, bb⟩ := kept_a (G := G) (gn := gn) (gc := gc) h hg h1 h2 b
  injection e with e
  injection e with e
  injection e with e
  subst e
  have r2 := (hg.put 0 (.slice Y yn yc)).put 1 (.slice G gn gc)
  have er : (#[.slice Y' yn' yc', .slice G gn gc] : Array Value) = #[.slice Y yn yc, .slice G gn gc] := by
    have h1 := (r.cell 0).symm.trans (r2.cell 0)
    have h2 : some (Value.slice Y' yn' yc') = some (Value.slice Y yn yc) := h1
    injection h2 with h2
    rw [h2]
  have ey : (Value.slice Y' yn' yc') = Value.slice Y yn yc := by
    have h3 := congrArg (fun a : Array Value => a[0]?) er
    have h3 : some (Value.slice Y' yn' yc') = some (Value.slice Y yn yc) := h3
    injection h3
  rw [ey] at x
  exact ⟨g, Y, yn, yc, G, gn, gc, rfl, ⟨walk_join_rd x (hL.next bb), r2⟩, bb⟩
theorem sy_seg {w wr : World} {o : Nat} {S : Option Addr} {sn sc : Nat} {R : Option Addr} {rn rc : Nat} {d : Dat sSystem} {u : Value} {t : List Int} (h : Go.Proofs.YtpcnjcgglonifaaGreat.lawS.Sy w o S sn sc R rn rc d u t wr) : Seg wr wr.heap.size S sn d.1 := by
  obtain ⟨h1, -⟩ := parts_System h.s
  exact h1.seg
theorem segB_next {w w' : World} {A : Option Addr} {n : Nat} (h : Go.Proofs.YtpcnjcgglonifaaGreat.dice.SegB w w.heap.size A n) (b0 : Below w.heap.size w w') : Go.Proofs.YtpcnjcgglonifaaGreat.dice.SegB w' w'.heap.size A n := fun hp => by
  obtain ⟨b, off, e, hb, hc⟩ := h hp
  refine ⟨b, off, e, Nat.lt_of_lt_of_le hb b0.size, fun j hj => ?_⟩
  obtain ⟨x, x0, x1, hx⟩ := hc j hj
  exact ⟨x, x0, x1, (b0.cell (p := ⟨b, off + j, none⟩) hb).trans hx⟩
structure Un (g1 g2 g3 : Nat) (S : Option Addr) (sn sc : Nat) (R : Option Addr) (rn rc : Nat) (d : Dat sSystem) (F Q : Option Addr) (fn fc qn qc : Nat) (k : Wk) (B : Option Addr) (m cB : Nat) (ss : Dat Go.Proofs.YtpcnjcgglonifaaGreat.kindsT.sSubst) (wr : World) : Prop where
  s : Rd wr wr.heap.size sSystem [.slice S sn sc, .slice R rn rc] d
  r : Row wr g1 29 #[.slice S sn sc, .slice R rn rc]
  lo : Lo g2 F Q fn fc qn qc k wr
  x : Rd wr wr.heap.size Go.Proofs.YtpcnjcgglonifaaGreat.kindsT.sSubst [.slice B m cB] ss
  rx : Row wr g3 59 #[.slice B m cB]
theorem Un.next {g1 g2 g3 : Nat} {S : Option Addr} {sn sc : Nat} {R : Option Addr} {rn rc : Nat} {d : Dat sSystem} {F Q : Option Addr} {fn fc qn qc : Nat} {k : Wk} {B : Option Addr} {m cB : Nat} {ss : Dat Go.Proofs.YtpcnjcgglonifaaGreat.kindsT.sSubst} {wr w' : World} (h : Un g1 g2 g3 S sn sc R rn rc d F Q fn fc qn qc k B m cB ss wr) (hb : Below wr.heap.size wr w') : Un g1 g2 g3 S sn sc R rn rc d F Q fn fc qn qc k B m cB ss w' :=
  ⟨h.s.next hb, h.r.next hb, h.lo.next hb, h.x.next hb, h.rx.next hb⟩

section
variable {sg : List Int} {rs : List Rl} {k : Wk}
theorem ins_walk {t : List Int} {x : Int} (h : insideB sg rs k t x = true) : walkB sg rs (insideW sg rs k t x) = true ∧ (insideW sg rs k t x).2.length = k.2.length ∧ subI sg (endW sg rs (insideW sg rs k t x)) x = endW sg rs k := by
  have h0 := h
  unfold insideB fitsAll rightB walkMath.inB at h
  simp only [Bool.and_eq_true, decide_eq_true_eq, List.all_eq_true] at h
  obtain ⟨⟨⟨a1, a2⟩, a3⟩, ⟨x0, x1⟩, f1, f2⟩ := h
  obtain ⟨b1, b2, b3, b4⟩ := walk_parts a3
  have hp : x.toNat < t.length := by omega
  have hg := go_inside a2 hp b4 f1 f2
  have hI : insideW sg rs k t x = (putAt sg t k.1 x.toNat, insS sg t x.toNat k.2) := by unfold insideW; rw [if_pos h0]
  have hlen : (insS sg t x.toNat k.2).length = k.2.length := by unfold insS; rw [List.length_map]
  have hw : walkB sg rs (insideW sg rs k t x) = true := by
    rw [hI]
    exact walk_mk (w := (putAt sg t k.1 x.toNat, insS sg t x.toNat k.2)) a1 (put_term a2 b2 hp f1) (by show (insS sg t x.toNat k.2).length ≤ 60; omega) hg
  refine ⟨hw, by rw [hI]; exact hlen, ?_⟩
  have he : endW sg rs (insideW sg rs k t x) = putAt sg t (endL k) x.toNat := by
    unfold endW
    rw [if_pos hw, hI, ← go_end hg]
  have hk : endW sg rs k = endL k := by unfold endW; rw [if_pos a3]
  have hek := (go_ok b2 b4).1
  have hr : subL sg (putAt sg t (endL k) x.toNat) x.toNat = endL k := put_read hek (by omega)
  have hok : termOkB sg (putAt sg t (endL k) x.toNat) = true := by rw [← he]; unfold endW; rw [if_pos hw]; have := walk_parts hw; exact (go_ok this.2.1 this.2.2.2).1
  have hlt : x.toNat < (putAt sg t (endL k) x.toNat).length := by
    rcases Nat.lt_or_ge x.toNat (putAt sg t (endL k) x.toNat).length with h | h
    · exact h
    · have h1 : subL sg (putAt sg t (endL k) x.toNat) x.toNat = [] := by
        unfold subL
        rw [List.drop_eq_nil_of_le h]
        exact List.take_nil
      rw [h1] at hr
      have := (term_len hek).1
      rw [← hr] at this
      exact absurd this (by simp)
  rw [he, hk]
  unfold subI
  rw [if_pos, hr]
  unfold Go.Proofs.YtpcnjcgglonifaaGreat.endAt.thereB Go.Proofs.YtpcnjcgglonifaaGreat.endAt.inB
  rw [hok, Bool.true_and, decide_eq_true_iff]
  omega
theorem go_under2 {M : Nat → List Int} (hM : ∀ i, i < 24 → termOkB sg (M i) = true) : ∀ {ss : List St} {t v : List Int}, goOn sg rs t ss = some v → (fillL M t).length ≤ 60 → (∀ s ∈ ss, (fillL M s.2.2).length ≤ 60) → goOn sg rs (fillL M t) (undS M t ss) = some (fillL M v)
  | [], t, v, h, _, _ => by injection h with h; subst h; rfl
  | s :: ss, t, v, h, h60, hs => by
    obtain ⟨h1, h2⟩ := go_cons.1 h
    obtain ⟨q1, q2⟩ := stepAt_parts h1
    obtain ⟨r1, r2, r3, r4⟩ := walkMath.there_parts q1
    have g60 := hs s (List.mem_cons_self ..)
    have hv : ∀ y ∈ t, y < 0 → termOkB sg (M (vr y)) = true := fun y hy h0 => hM _ (by have := (term_mem r2 hy).1; unfold vr; omega)
    obtain ⟨e1, e2⟩ := step_under (rl_ok r1 r4) r2 (show s.1.toNat < t.length by omega) q2 hv h60 g60
    refine go_cons.2 ⟨?_, go_under2 hM h2 g60 fun u hu => hs u (List.mem_cons_of_mem _ hu)⟩
    show stepAtO sg rs (fillL M t) ((fillL M (t.take s.1.toNat)).length : Int) s.2.1 = some (fillL M s.2.2)
    unfold stepAtO
    rw [if_pos (walkMath.there_mk r1 (fill_term r2 hv h60) (by omega) r4), Int.toNat_natCast]
    exact e1
theorem und_walk {ss : List (List Int)} (h : undB sg rs k ss = true) : walkB sg rs (undW sg rs k ss) = true := by
  have h0 := h
  unfold undB at h
  simp only [Bool.and_eq_true, List.all_eq_true] at h
  obtain ⟨⟨h1, h2⟩, h4, h5⟩ := h
  obtain ⟨b1, b2, b3, b4⟩ := walk_parts h1
  have f1 : (fillL (givesL ss) k.1).length ≤ 60 := undX.fits_len h4
  have f2 : ∀ s ∈ k.2, (fillL (givesL ss) s.2.2).length ≤ 60 := fun s hs => undX.fits_len (h5 s hs)
  have hg := go_under2 (M := givesL ss) (fun i hi => gives_ok h2 hi) b4 f1 f2
  rw [und_eq b4 b2] at hg
  unfold undW
  rw [if_pos h0]
  refine walk_mk (w := (fillL (givesL ss) k.1, undL (givesL ss) k.2)) b1 (fill_term b2 (fun y hy h0 => gives_ok h2 (by have := (term_mem b2 hy).1; omega)) f1) (by show (undL (givesL ss) k.2).length ≤ 60; unfold undL; rw [List.length_map]; exact b3) hg
theorem cut_facts (h : walkB sg rs k = true) (m : Nat) : walkB sg rs (k.1, k.2.take m) = true ∧ walkB sg rs (endW sg rs (k.1, k.2.take m), k.2.drop m) = true ∧ joinB sg rs (k.1, k.2.take m) (endW sg rs (k.1, k.2.take m), k.2.drop m) = true ∧ joinW sg rs (k.1, k.2.take m) (endW sg rs (k.1, k.2.take m), k.2.drop m) = k := by
  obtain ⟨c1, c2⟩ := walk_cut h m
  have he : endW sg rs (k.1, k.2.take m) = endL (k.1, k.2.take m) := by unfold endW; rw [if_pos c1]
  rw [he]
  have hl := (walk_parts h).2.2.1
  have hj : joinB sg rs (k.1, k.2.take m) (endL (k.1, k.2.take m), k.2.drop m) = true := by
    unfold joinB
    rw [c1, c2, decide_eq_true rfl, decide_eq_true]
    · rfl
    · show (k.2.take m).length + (k.2.drop m).length ≤ 60
      rw [List.length_take, List.length_drop]
      omega
  refine ⟨c1, c2, hj, ?_⟩
  unfold joinW
  rw [if_pos hj]
  show (k.1, k.2.take m ++ k.2.drop m) = k
  rw [List.take_append_drop]
theorem end_no (h : walkB sg rs k = false) : endW sg rs k = [] := by unfold endW; rw [if_neg (by rw [h]; simp)]
theorem ins_off {t : List Int} {x : Int} (h : walkB sg rs k = false) : insideB sg rs k t x = false := by unfold insideB; rw [h]; simp
end
end Go.Proofs.YtpcnjcgglonifaaGreat.lawW
end

section
namespace Go.Proofs.YtpcnjcgglonifaaGreat.lawT
open Go.RowKit base ints segs
set_option maxRecDepth 100000

structure T1 (w : World) (v3 : Nat) (S : Option Addr) (sn sc : Nat) (sg : List Int) (O : Option Addr) (on : Nat) (p : List Int) (Q : Option Addr) (qn : Nat) (t : List Int) (wr : World) : Prop where
  s : Seg wr wr.heap.size S sn sg
  o : Seg wr wr.heap.size O on p
  q : Seg wr wr.heap.size Q qn t
  r3 : Row wr v3 26 #[.slice S sn sc]
  bel : Below w.heap.size w wr
section
variable {w : World} {v3 : Nat} {S : Option Addr} {sn sc : Nat} {sg : List Int} {O : Option Addr} {on : Nat} {p : List Int} {Q : Option Addr} {qn : Nat} {t : List Int} {wr w' : World}
theorem T1.next (f : T1 w v3 S sn sc sg O on p Q qn t wr) (hb : Below wr.heap.size wr w') : T1 w v3 S sn sc sg O on p Q qn t w' :=
  ⟨f.s.next hb, f.o.next hb, f.q.next hb, f.r3.next hb, next_trans f.bel hb⟩
end
structure Sv (wr : World) (v : Nat) (D : Option Addr) (dn dc : Nat) (xss : List (List Int)) : Prop where
  r : Row wr v 59 #[.slice D dn dc]
  s : Segs wr wr.heap.size D dn xss
section
variable {v : Nat} {D : Option Addr} {dn dc : Nat} {xss : List (List Int)} {wr w' : World}
theorem Sv.next (f : Sv wr v D dn dc xss) (hb : Below wr.heap.size wr w') : Sv w' v D dn dc xss := ⟨f.r.next hb, f.s.next hb⟩
end
theorem below_drewN (w : World) (d : Nat) : Below w.heap.size w (w.drewN d) := ⟨rfl, rfl, rfl, Nat.le_refl _, fun _ _ => rfl⟩

theorem like (A A' : Option Addr) (n c c' : Nat) (xs : List Int) (w : World) (h : Seg w w.heap.size A n xs) (h' : Seg w w.heap.size A' n xs) (hn : n ≤ 1048576) :
    Calls Tryz.prog 86 #[.slice A n c, .slice A' n c'] w fun e w' => e = .returned (.bool true) ∧ ∃ d, w' = w.drewN d := by
  go_enter Tryz.func86, Tryz.ntmps86
  go_wp2
  go_loopw [5] (fun i wr => ∃ k d : Nat, k ≤ n ∧ i = .int .i64 k ∧ wr = w.drewN d) (fun i _ => n - (intOf i).toNat)
  case atStart => exact ⟨0, 0, Nat.zero_le _, rfl, rfl⟩
  case round =>
    obtain ⟨k, d, hk, rfl, rfl⟩ := hrel
    by_cases hlt : k < n
    · obtain ⟨b, off, x, rfl, -, hx, ex⟩ := h.spot hlt
      obtain ⟨b', off', y, rfl, -, hy, ey⟩ := h'.spot hlt
      obtain rfl : x = y := by rw [← ex.out, ← ey.out]
      clear h h' ex ey
      go_wp2
      go_quiet (fail)
      go_wp2
      go_roundw
      case rel => exact ⟨k + 1, _, hlt, by simp, rfl⟩
      case measure => simp [intOf]; omega
    · clear h h'
      go_wp2
      go_ret
      exact ⟨rfl, _, rfl⟩
end Go.Proofs.YtpcnjcgglonifaaGreat.lawT
end

section
namespace Go.Proofs.YtpcnjcgglonifaaGreat.w5
open Go.RowKit base ints sig cursor marks app sym appAt segs segsHelp segsMark kinds shape kindsW lawT
set_option maxRecDepth 100000

theorem likeYes (A A' : Option Addr) (n n' c c' : Nat) (xs : List Int) (w : World) (h : Seg w w.heap.size A n xs) (h' : Seg w w.heap.size A' n' xs) (hn : n ≤ 1048576) :
    Calls Tryz.prog 86 #[.slice A n c, .slice A' n' c'] w fun e w' => e = .returned (.bool true) ∧ Below w.heap.size w w' := by
  obtain rfl : n = n' := by rw [← h.1, ← h'.1]
  exact (like A A' n c c' xs w h h' hn).mono fun _ _ ⟨e, d, hw⟩ => ⟨e, by rw [hw]; exact drewN_below w d⟩

set_option maxHeartbeats 2000000 in
theorem w5Yes (v u : Value) (D : List (Dat sStep)) (w : World) (h : Rd w w.heap.size sStepS [v] D) (h' : Rd w w.heap.size sStepS [u] D) (hz : sz sStepS D ≤ 1048576) :
    Calls Tryz.prog 35 #[v, u] w (Yes w) := by
  obtain ⟨A, c, rfl, hcap⟩ := h.slice
  obtain ⟨A', c', rfl, hcap'⟩ := h'.slice
  obtain ⟨n, hn⟩ : ∃ n, D.length = n := ⟨_, rfl⟩
  have hn1 : n ≤ 1048576 := by rw [← hn]; exact sz_len hz
  rw [hn] at h h' hcap hcap' ⊢
  have HN := Lib.hid hn
  have H := Lib.hid h
  have H' := Lib.hid h'
  have HZ := Lib.hid hz
  clear hcap hcap' hn h h' hz
  go_enter Tryz.func35, Tryz.ntmps35
  go_wp2
  go_loopw [5] (fun i wr => ∃ k : Nat, k ≤ n ∧ i = .int .i64 k ∧ Below w.heap.size w wr) (fun i _ => n - (intOf i).toNat)
  case atStart => exact ⟨0, Nat.zero_le _, rfl, Below.refl _ _⟩
  case round =>
    obtain ⟨k, hk, rfl, hb⟩ := hrel
    by_cases hlt : k < n
    · have hkD : k < D.length := by rw [HN.out]; exact hlt
      obtain ⟨b, off, n2, c2, es, ev, -, -, hbB, hel, hp, hrd⟩ := H.out.elem hkD
      injection ev with e1 e2 e3
      subst e1 e2 e3
      obtain ⟨b', off', n2, c2, es', ev, -, -, hbB', hel', hp', hrd'⟩ := H'.out.elem hkD
      injection ev with e1 e2 e3
      subst e1 e2 e3
      obtain ⟨y, hy⟩ : ∃ y, D.getD k (dft sStep) = y := ⟨_, rfl⟩
      rw [hy] at hrd hrd'
      obtain ⟨v0, rfl⟩ := cells_Step hrd
      obtain ⟨u0, rfl⟩ := cells_Step hrd'
      obtain ⟨-, -, p2⟩ := parts_Step hrd
      obtain ⟨-, -, p2'⟩ := parts_Step hrd'
      obtain ⟨U, un, uc, rfl, hU, hcU⟩ := rd_ints.1 p2
      obtain ⟨U', un', uc', rfl, hU', hcU'⟩ := rd_ints.1 p2'
      have hun : un ≤ 1048576 := by
        have h1 := sz_each HZ.out hkD
        rw [hy] at h1
        have h2 : sz sStep y = 0 + (0 + sz sI y.2.2) := rfl
        rw [h2, sz_ints] at h1
        have := hU.1
        omega
      replace hb := hb.drew
      have hpw := hp.keep (w' := wr.drew) (fun p hp => hb.cell (p := p) (by rw [hp]; exact hbB))
      have hpw' := hp'.keep (w' := wr.drew) (fun p hp => hb.cell (p := p) (by rw [hp]; exact hbB'))
      have c0 : wr.drew.cell? ⟨b, off + k * 3, none⟩ = some (.int .i64 y.1) := hpw 0 (by simp)
      have c0' : wr.drew.cell? ⟨b', off' + k * 3, none⟩ = some (.int .i64 y.1) := hpw' 0 (by simp)
      have c1 : wr.drew.cell? ⟨b, off + k * 3 + 1, none⟩ = some (.int .i64 y.2.1) := hpw 1 (by simp)
      have c1' : wr.drew.cell? ⟨b', off' + k * 3 + 1, none⟩ = some (.int .i64 y.2.1) := hpw' 1 (by simp)
      have c2 : wr.drew.cell? ⟨b, off + k * 3 + 2, none⟩ = some (.slice U un uc) := hpw 2 (by simp)
      have c2' : wr.drew.cell? ⟨b', off' + k * 3 + 2, none⟩ = some (.slice U' un' uc') := hpw' 2 (by simp)
      have L := Lib.hid (likeYes U U' un un' uc uc' y.2.2 wr.drew ((hU.below hb).more hb.size) ((hU'.below hb).more hb.size) hun)
      have HB := Lib.hid hb
      have hlb : b < wr.drew.heap.size := Nat.lt_of_lt_of_le hbB hb.size
      have hlb' : b' < wr.drew.heap.size := Nat.lt_of_lt_of_le hbB' hb.size
      have i0 : (0 : Int) ≤ (k : Int) := by omega
      have i1 : (k : Int) < (n : Int) := by omega
      clear hrd hrd' hel hel' hp hp' hpw hpw' hb p2 p2' hU hU' hcU hcU' hy
      go_wp2_with fail
      go_region_held3 (fun w' => w'.cell? ⟨b, off + k * 3, none⟩ = some (.int .i64 y.1) ∧ w'.cell? ⟨b', off' + k * 3, none⟩ = some (.int .i64 y.1) ∧ w'.cell? ⟨b, off + k * 3 + 1, none⟩ = some (.int .i64 y.2.1) ∧ w'.cell? ⟨b', off' + k * 3 + 1, none⟩ = some (.int .i64 y.2.1) ∧ w'.cell? ⟨b, off + k * 3 + 2, none⟩ = some (.slice U un uc) ∧ w'.cell? ⟨b', off' + k * 3 + 2, none⟩ = some (.slice U' un' uc'))
        (go_keep)
        (first | (go_at_call 86; refine L.out.mono ?_; rintro e w1 ⟨rfl, bb⟩; have m0 := (bb.cell (p := ⟨b, off + k * 3, none⟩) hlb).trans c0; have m1 := (bb.cell (p := ⟨b', off' + k * 3, none⟩) hlb').trans c0'; have m2 := (bb.cell (p := ⟨b, off + k * 3 + 1, none⟩) hlb).trans c1; have m3 := (bb.cell (p := ⟨b', off' + k * 3 + 1, none⟩) hlb').trans c1'; have m4 := (bb.cell (p := ⟨b, off + k * 3 + 2, none⟩) hlb).trans c2; have m5 := (bb.cell (p := ⟨b', off' + k * 3 + 2, none⟩) hlb').trans c2'))
      have HB1 := Lib.hid (next_trans HB.out bb)
      clear bb L c0 c0' c1 c1' c2 c2' m0 m1 m2 m3 m4 m5
      go_wp2
      go_roundw
      case rel => exact ⟨k + 1, hlt, by simp, HB1.out⟩
      case measure => simp [intOf]; omega
    · have HB := Lib.hid hb
      clear hb
      go_wp2
      go_ret
      exact ⟨rfl, HB.out⟩
end Go.Proofs.YtpcnjcgglonifaaGreat.w5
end

section
namespace Go.Proofs.YtpcnjcgglonifaaGreat.heldT
section
variable {P : Program} {md : Region.Mode} {ops : Array Oper} {Q : Exit → Act → World → Prop} {S : World → Prop} {late : Nat → Bool}
theorem AnyT.two {i j : Nat} {o o' : Oper} {fuel : Nat} {listed : Array Bool} {a : Act} {w : World} (hr : Region.ready md ops listed = [i, j]) (ho : ops[i]? = some o) (ho' : ops[j]? = some o')
    (h : ∀ K' : Act → World → Prop, Shut (∀ a w', (late i = false → S w → S w') → ((late i = false → S w → S w') → AnyT P md ops Q S late fuel (listed.setIfInBounds i true) a w') → K' a w') → if Region.wanted o (yielded ops a.tmps) = true then Oper.wp P o a w K' Q else K' (a.put o.dst undef) w)
    (h' : ∀ K' : Act → World → Prop, Shut (∀ a w', (late j = false → S w → S w') → ((late j = false → S w → S w') → AnyT P md ops Q S late fuel (listed.setIfInBounds j true) a w') → K' a w') → if Region.wanted o' (yielded ops a.tmps) = true then Oper.wp P o' a w K' Q else K' (a.put o'.dst undef) w) : AnyT P md ops Q S late (fuel + 1) listed a w :=
  ⟨fun h0 => absurd (hr ▸ h0) (by simp), fun q hq => by
    rw [hr] at hq
    rcases List.mem_cons.1 hq with rfl | hq
    · exact wpOp_step ho (fun K' hK => h K' (fun a w' hS hW => hK a w' ⟨hS, hW hS⟩))
    · rw [List.mem_singleton] at hq
      subst hq
      exact wpOp_step ho' (fun K' hK => h' K' (fun a w' hS hW => hK a w' ⟨hS, hW hS⟩))⟩
end
end Go.Proofs.YtpcnjcgglonifaaGreat.heldT
end
