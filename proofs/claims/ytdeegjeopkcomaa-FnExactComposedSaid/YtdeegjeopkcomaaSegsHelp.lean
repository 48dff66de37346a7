/-
  CONTRACTS on slices of slices of int64 and on substitutions: the laws' helpers szInt64SS, toInt64SS, eqInt64SS, markInt64SS, heldInt64SS and those for Subst. Conditions: the slices read as lists of lists ('Segs'), at most 1048576 slices of at most 1048576 numbers. By an AI agent.
-/
import Derived.Test.YtdeegjeopkcomaaSegs
import Derived.Deep.QuietTactic
import Derived.BigQuiet
namespace Go.Proofs.Ytdeegjeopkcomaa.segsHelp
open Go.RowKit Go.Proofs.Ytdeegjeopkcomaa.base Go.Proofs.Ytdeegjeopkcomaa.ints Go.Proofs.Ytdeegjeopkcomaa.sig Go.Proofs.Ytdeegjeopkcomaa.cursor Go.Proofs.Ytdeegjeopkcomaa.marks Go.Proofs.Ytdeegjeopkcomaa.app Go.Proofs.Ytdeegjeopkcomaa.sym Go.Proofs.Ytdeegjeopkcomaa.appAt Go.Proofs.Ytdeegjeopkcomaa.segs
set_option maxRecDepth 100000

theorem info_list : (Try.prog.info? 24).map (fun i => (i.zero, i.size, i.bytes)) = some (some (.slice none 0 0), 1, 24) := by kernel_rfl

/-- make([][]int64, n) -/
theorem run_make_lists (n : Nat) (hn : n ≤ 1048576) (W : World) : (Instr.makeSlice 27 (.int .i64 (n : Int)) (.int .i64 (n : Int))).run Try.prog W =
    .ok (.slice (some ⟨W.heap.size, 0, none⟩) n n) (W.alloc (.cells (madeCells #[.slice none 0 0] n) 24)) := by
  obtain ⟨i0, hi, hz0, hz1, hz2⟩ := info_parts info_list
  have hr := run_make (P := Try.prog) W 27 24 i0 _ Try.underlying27 hi hz0 .i64 .i64 n n (by omega) (by omega) (by rw [hz2]; omega) (by omega)
  simpa [hz1, Value.cells] using hr

/-! ### toInt64SS -/
/-- the first k slices are copied -/
def HeadTo (w : World) (n : Nat) (xss : List (List Int)) (i : Value) (wr : World) : Prop :=
  ∃ (k : Nat) (cs : Array Value), k ≤ n ∧ i = .int .i64 k ∧ Row wr w.heap.size 24 cs ∧ cs.size = n ∧ (∀ j, j < k → Inn wr (w.heap.size + 1) wr.heap.size (cs.toList.getD j undef) (xss.getD j [])) ∧ Apart k cs.toList ∧ Below w.heap.size w wr
theorem headTo_step {w wr w1 : World} {n k m : Nat} {xss : List (List Int)} {cs cs1 : Array Value} (hk : k < n) (hr : Row wr w.heap.size 24 cs) (hs : cs.size = n)
    (hi : ∀ j, j < k → Inn wr (w.heap.size + 1) wr.heap.size (cs.toList.getD j undef) (xss.getD j [])) (ha : Apart k cs.toList) (hb : Below w.heap.size w wr)
    (hm : (xss.getD k []).length = m) (h2 : m ≤ 9223372036854775807) (r1 : Row w1 wr.heap.size 2 cs1) (s1 : cs1.size = m) (c1 : ∀ j, j < m → cs1[j]? = some (.int .i64 ((xss.getD k []).getD j 0))) (bb : Below wr.heap.size wr w1) :
    HeadTo w n xss (.int .i64 ((k : Int) + 1)) (w1.setCell ⟨w.heap.size, k, none⟩ (.slice (some ⟨wr.heap.size, 0, none⟩) m m)) := by
  obtain ⟨v, hv⟩ : ∃ v, v = Value.slice (some ⟨wr.heap.size, 0, none⟩) m m := ⟨_, rfl⟩
  have hz := hr.lt
  have hr1 := hr.next bb
  have hg : w1.grownBy (w1.setCell ⟨w.heap.size, k, none⟩ v) (some w.heap.size) := grown_put (World.grownBy.refl _ _) _ _
  have hin : Inn w1 wr.heap.size w1.heap.size v (xss.getD k []) := by
    refine ⟨some ⟨wr.heap.size, 0, none⟩, m, by rw [hv, hm], ?_, fun q hq => ?_⟩
    · rw [hv]
      have := Own.of_row (base := wr.heap.size) (n := m) (c := m) (xs := xss.getD k []) r1 hm s1 (Nat.le_refl _) h2 (Nat.le_refl _) c1
      exact this
    · have : wr.heap.size = q := Option.some.inj hq
      have := r1.lt
      omega
  rw [← hv]
  refine ⟨k + 1, cs.setIfInBounds k v, hk, by simp, hr1.put k v, by simp [hs], fun j hj => ?_, fun i j q hij hj e1 e2 => ?_, ((hb.trans (bb.mono hb.size))).setCell (Nat.le_refl _) _⟩
  · by_cases e : j = k
    · subst e
      have e3 : (cs.setIfInBounds j v).toList.getD j undef = v := by simp [List.getD, hs, hk]
      rw [e3]
      have h5 := (hin.kept hg (.inr (Inn.ne hin hr1)))
      exact Inn.wider h5 (by omega) (by simp)
    · have e3 : (cs.setIfInBounds k v).toList.getD j undef = cs.toList.getD j undef := by
        simp [List.getD, Array.getElem?_setIfInBounds, show ¬ k = j by omega]
      rw [e3]
      have h5 := (hi j (by omega)).next bb
      have h6 := h5.kept hg (.inr (Inn.ne h5 hr1))
      exact Inn.wider h6 (Nat.le_refl _) (by simpa using bb.size)
  · have gi : ∀ i, i < k → (cs.setIfInBounds k v).toList.getD i undef = cs.toList.getD i undef := fun i hi => by
      simp [List.getD, Array.getElem?_setIfInBounds, show ¬ k = i by omega]
    by_cases e : j = k
    · subst e
      rw [gi i hij] at e1
      have e3 : (cs.setIfInBounds j v).toList.getD j undef = v := by simp [List.getD, hs, hk]
      rw [e3] at e2
      have h5 := ((hi i hij).blk q e1).2.1
      have h6 := (hin.blk q e2).1
      omega
    · rw [gi i (by omega)] at e1
      rw [gi j (by omega)] at e2
      exact ha i j q hij (by omega) e1 e2

/-- a copy: all of it new -/
def CopySS (w : World) (n : Nat) (xss : List (List Int)) (e : Ending) (w' : World) : Prop :=
  ∃ g, e = .returned (.slice (some ⟨g, 0, none⟩) n n) ∧ Owns w' w.heap.size w'.heap.size (some ⟨g, 0, none⟩) n n xss ∧ w.heap.size < w'.heap.size ∧ Below w.heap.size w w'
theorem copySS_end {w wr : World} {n : Nat} {xss : List (List Int)} {cs : Array Value} (hl : xss.length = n) (hn : n ≤ 1048576) (hr : Row wr w.heap.size 24 cs) (hs : cs.size = n)
    (hi : ∀ j, j < n → Inn wr (w.heap.size + 1) wr.heap.size (cs.toList.getD j undef) (xss.getD j [])) (ha : Apart n cs.toList) (hb : Below w.heap.size w wr) : CopySS w n xss (.returned (.slice (some ⟨w.heap.size, 0, none⟩) n n)) wr := by
  have e : cs.toList.take n = cs.toList := List.take_of_length_le (by simp [hs])
  refine ⟨w.heap.size, rfl, ⟨hl, ⟨cs.toList, by rw [← e]; exact rowsOf hr hs (Nat.le_refl _) (by omega) (Nat.le_refl _), fun j hj => (hi j hj).wider (by omega) (Nat.le_refl _), ha⟩, fun k hk => ?_⟩, hr.lt, hb⟩
  have : w.heap.size = k := Option.some.inj hk
  have := hr.lt
  omega

set_option maxHeartbeats 1000000 in
theorem toSS (A : Option Addr) (n c : Nat) (xss : List (List Int)) (w : World) (h : Segs w w.heap.size A n xss) (hn : n ≤ 1048576) (hs : ∀ j, (xss.getD j []).length ≤ 1048576) :
    Calls Try.prog 91 #[.slice A n c] w (CopySS w n xss) := by
  have hmk := run_make_lists n hn
  have HS := Lib.hid hs
  have S0 : HeadTo w n xss (.int .i64 0) (w.alloc (.cells (madeCells #[.slice none 0 0] n) 24)) :=
    ⟨0, _, Nat.zero_le _, rfl, Row.new _ _ _, size_madeCells _ _, fun j hj => absurd hj (Nat.not_lt_zero _), fun i j q _ hj => absurd hj (Nat.not_lt_zero _), (Below.refl _ _).alloc (Nat.le_refl _) _⟩
  have HS0 := Lib.hid S0
  clear hs S0
  go_enter Try.func91, Try.ntmps91
  go_wp2
  clear hmk
  go_loopw [4] (fun i wr => HeadTo w n xss i wr) (fun i _ => n - (intOf i).toNat)
  case atStart => exact HS0.out
  case round =>
    obtain ⟨k, cs, hk, rfl, hr, hsz, hi, ha, hb⟩ := hrel
    clear HS0
    by_cases hlt : k < n
    · obtain ⟨b, off, A', n', c', rfl, hbB, hx, hseg, hcap⟩ := h.spot hlt
      have hx' : wr.cell? ⟨b, off + k, none⟩ = some (.slice A' n' c') := (hb.cell (p := ⟨b, off + k, none⟩) hbB).trans hx
      have hn' : n' ≤ 1048576 := by rw [← hseg.1]; exact HS.out k
      have L := Lib.hid (toInts A' n' c' _ wr ((hseg.below hb).more hb.size) hn')
      have HL := Lib.hid hseg.1
      have R := Lib.hid (fun w1 cs1 r1 s1 c1 bb => headTo_step (w1 := w1) (cs1 := cs1) hlt hr hsz hi ha hb hseg.1 (by omega) r1 s1 c1 bb)
      have rr := hr
      have HZ := Lib.hid hsz
      clear hx hr hsz hi ha hb h hseg hcap
      go_wp2_with fail
      refine L.out.mono ?_
      rintro e w1 ⟨cs1, rfl, r1, s1, c1, -, bb⟩
      have S := Lib.hid (R.out w1 cs1 r1 s1 c1 bb)
      have rr1 := rr.next bb
      obtain ⟨u, hu⟩ : ∃ u, w1.cell? ⟨w.heap.size, k, none⟩ = some u := ⟨_, (rr1.cell k).trans (Array.getElem?_eq_getElem (by rw [HZ.out]; exact hlt))⟩
      have hf : w1.frozen? ⟨w.heap.size, k, none⟩ = false := rr1.free k
      clear r1 s1 c1 bb rr rr1 L hx'
      go_wp2
      go_roundw
      case rel => exact S.out
      case measure => simp [intOf]; omega
    · have e : k = n := by omega
      subst e
      have F := Lib.hid (copySS_end h.1 hn hr hsz hi ha hb)
      clear hr hsz hi ha hb h
      go_wp2
      go_ret
      exact F.out

/-! ### szInt64SS -/
/-- how many values: the slices and their numbers -/
def sumL (xss : List (List Int)) (k : Nat) : Nat := ((xss.take k).map List.length).sum
def tot (xss : List (List Int)) : Nat := xss.length + sumL xss xss.length
theorem sumL_succ {xss : List (List Int)} {k : Nat} (h : k < xss.length) : sumL xss (k + 1) = sumL xss k + (xss.getD k []).length := by
  unfold sumL
  rw [List.take_succ_eq_append_getElem h, List.map_append, List.sum_append]
  simp [List.getD, h]
theorem sumL_mono {xss : List (List Int)} : ∀ {k m : Nat}, k ≤ m → m ≤ xss.length → sumL xss k ≤ sumL xss m
  | k, 0, h, _ => by rw [show k = 0 by omega]; exact Nat.le_refl _
  | k, m + 1, h, hm => by
    by_cases e : k = m + 1
    · rw [e]; exact Nat.le_refl _
    · have := sumL_mono (xss := xss) (show k ≤ m by omega) (by omega)
      rw [sumL_succ (by omega)]
      omega
theorem tot_each {xss : List (List Int)} {L : Nat} (h : tot xss ≤ L) : ∀ j, (xss.getD j []).length ≤ L := fun j => by
  by_cases hj : j < xss.length
  · have h1 := sumL_succ hj
    have h2 := sumL_mono (xss := xss) (show j + 1 ≤ xss.length by omega) (Nat.le_refl _)
    unfold tot at h
    omega
  · rw [show xss.getD j [] = [] by simp [List.getD, hj]]
    simp
theorem tot_len {xss : List (List Int)} {L n : Nat} (hl : xss.length = n) (h : tot xss ≤ L) : n ≤ L := by unfold tot at h; omega

def AnsSz (w : World) (left : Int) (t : Nat) (e : Ending) (w' : World) : Prop := w = w' ∧ e = .returned (.int .i64 (if left - t < 0 then -1 else left - t))
def HeadSz (n : Nat) (xss : List (List Int)) (left : Int) (l i : Value) : Prop := ∃ k : Nat, k ≤ n ∧ i = .int .i64 k ∧ l = .int .i64 (left - n - sumL xss k) ∧ 0 ≤ left - n - sumL xss k
theorem sz_bad {w : World} {xss : List (List Int)} {n k m : Nat} {left : Int} (hl : xss.length = n) (hk : k < n) (hm : (xss.getD k []).length = m) (h : left - n - sumL xss k - m < 0) : AnsSz w left (tot xss) (.returned (.int .i64 (-1))) w := by
  refine ⟨rfl, ?_⟩
  have h1 := sumL_succ (xss := xss) (k := k) (by omega)
  have h2 := sumL_mono (xss := xss) (show k + 1 ≤ xss.length by omega) (Nat.le_refl _)
  rw [if_pos (by unfold tot; omega)]
theorem sz_short {w : World} {xss : List (List Int)} {n : Nat} {left : Int} (hl : xss.length = n) (h : left - n < 0) : AnsSz w left (tot xss) (.returned (.int .i64 (-1))) w := ⟨rfl, by rw [if_pos (by unfold tot; omega)]⟩
theorem sz_good {w : World} {xss : List (List Int)} {n k : Nat} {left : Int} (hl : xss.length = n) (hk : k = n) (h : 0 ≤ left - n - sumL xss k) : AnsSz w left (tot xss) (.returned (.int .i64 (left - n - sumL xss k))) w := by
  subst hk
  refine ⟨rfl, ?_⟩
  have e : (left - tot xss : Int) = left - k - sumL xss k := by unfold tot; rw [hl]; omega
  rw [e, if_neg (by omega)]

set_option maxHeartbeats 1000000 in
theorem szSS (A : Option Addr) (n c : Nat) (xss : List (List Int)) (left : Int) (w : World) (h : Segs w w.heap.size A n xss) (hn : n ≤ 9223372036854775807) (h0 : 0 ≤ left) (h1 : left ≤ 1048576) :
    Calls Try.prog 90 #[.slice A n c, .int .i64 left] w (AnsSz w left (tot xss)) := by
  by_cases hs : left - n < 0
  · have S := Lib.hid (sz_short (w := w) h.1 hs)
    clear h
    go_enter Try.func90, Try.ntmps90
    go_wp2
    go_ret
    exact S.out
  · go_enter Try.func90, Try.ntmps90
    go_wp2
    go_loop [1, 5] (fun l i => HeadSz n xss left l i) (fun _ i => n - (intOf i).toNat)
    case atStart => exact ⟨0, Nat.zero_le _, rfl, by simp [sumL], by simp [sumL]; omega⟩
    case round =>
      obtain ⟨k, hk, rfl, rfl, hge⟩ := hrel
      by_cases hlt : k < n
      · obtain ⟨b, off, A', n', c', rfl, hbB, hx, hseg, hcap⟩ := h.spot hlt
        have hn' : n' ≤ 9223372036854775807 := Nat.le_trans hcap.1 hcap.2.1
        obtain ⟨l, hl⟩ : ∃ l, left - n - sumL xss k = l := ⟨_, rfl⟩
        have hle : l ≤ 1048576 := by omega
        have hge' : 0 ≤ l := by omega
        have L := Lib.hid (fun W => szInts A' n' c' l W hn' hge' hle)
        have HSEG := Lib.hid hseg.1
        have HLEN := Lib.hid h.1
        have HL := Lib.hid hl
        clear hseg h hcap hge
        rw [hl]
        clear hl
        by_cases hneg : l - n' < 0
        · have S := Lib.hid (sz_bad (w := w) HLEN.out hlt HSEG.out (by rw [HL.out]; exact hneg))
          rw [if_pos hneg] at L
          go_wp2_with fail
          refine (L.out _).mono ?_
          rintro e w' ⟨rfl, rfl⟩
          go_wp2
          go_ret
          exact S.out
        · have hsum := sumL_succ (xss := xss) (k := k) (by rw [HLEN.out]; exact hlt)
          rw [HSEG.out] at hsum
          have E : left - n - sumL xss (k + 1) = l - n' := by rw [hsum, ← HL.out]; omega
          have S : HeadSz n xss left (.int .i64 (l - n')) (.int .i64 ((k : Int) + 1)) := ⟨k + 1, hlt, by simp, by rw [E], by rw [E]; omega⟩
          replace S := Lib.hid S
          rw [if_neg hneg] at L
          clear hsum E
          go_wp2_with fail
          refine (L.out _).mono ?_
          rintro e w' ⟨rfl, rfl⟩
          go_wp2
          go_round
          case rel => exact S.out
          case measure => simp [intOf]; omega
      · have S := Lib.hid (sz_good (w := w) h.1 (show k = n by omega) hge)
        clear h hge
        go_wp2
        go_ret
        exact S.out

/-! ### eqInt64SS -/
set_option maxHeartbeats 1000000 in
theorem eqSSYes (A A' : Option Addr) (n c c' : Nat) (xss : List (List Int)) (w : World) (h : Segs w w.heap.size A n xss) (h' : Segs w w.heap.size A' n xss) (hn : n ≤ 1048576) (hs : ∀ j, (xss.getD j []).length ≤ 1048576) :
    Calls Try.prog 92 #[.slice A n c, .slice A' n c'] w fun e w' => e = .returned (.bool true) ∧ ∃ d, w' = w.drewN d := by
  have HS := Lib.hid hs
  clear hs
  go_enter Try.func92, Try.ntmps92
  go_wp2
  go_loopw [5] (fun i wr => ∃ k d : Nat, k ≤ n ∧ i = .int .i64 k ∧ wr = w.drewN d) (fun i _ => n - (intOf i).toNat)
  case atStart => exact ⟨0, 0, Nat.zero_le _, rfl, rfl⟩
  case round =>
    obtain ⟨k, d, hk, rfl, hw⟩ := hrel
    have h1 : Segs wr wr.heap.size A n xss := by rw [hw]; exact h
    have h2 : Segs wr wr.heap.size A' n xss := by rw [hw]; exact h'
    have HW := Lib.hid hw
    clear hw h h'
    by_cases hlt : k < n
    · obtain ⟨b, off, B, m, q, rfl, -, hx, hseg, -⟩ := h1.spot hlt
      obtain ⟨b', off', B', m', q', rfl, -, hx', hseg', -⟩ := h2.spot hlt
      obtain rfl : m = m' := by rw [← hseg.1, ← hseg'.1]
      have hm : m ≤ 1048576 := by rw [← hseg.1]; exact HS.out k
      have L := Lib.hid (fun nq => eqYes B B' m q q' _ (wr.drewN nq) (hseg.drewN nq) (hseg'.drewN nq) hm)
      clear h1 h2 hseg hseg'
      go_wp2
      go_quiet ((go_at_call 52; exact Calls.quiet_of (L.out _)))
      go_wp2
      go_roundw
      case rel => exact ⟨k + 1, d + nq, hlt, by go_num, by rw [HW.out, World.drewN_drewN]⟩
      case measure => simp [intOf]; omega
    · clear h1 h2
      go_wp2
      go_ret
      exact ⟨rfl, d, HW.out⟩
end Go.Proofs.Ytdeegjeopkcomaa.segsHelp
