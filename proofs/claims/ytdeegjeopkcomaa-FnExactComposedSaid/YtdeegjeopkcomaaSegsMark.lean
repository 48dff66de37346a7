/-
  CONTRACTS on slices of slices of int64 that are the call's own: markInt64SS writes marks into them, heldInt64SS finds them again. Conditions: at most 1048576 values, marks from 0 to 16777216. By an AI agent.
-/
import Derived.Test.YtdeegjeopkcomaaSegsHelp
namespace Go.Proofs.Ytdeegjeopkcomaa.segsMark
open Go.RowKit Go.Proofs.Ytdeegjeopkcomaa.base Go.Proofs.Ytdeegjeopkcomaa.ints Go.Proofs.Ytdeegjeopkcomaa.sig Go.Proofs.Ytdeegjeopkcomaa.cursor Go.Proofs.Ytdeegjeopkcomaa.marks Go.Proofs.Ytdeegjeopkcomaa.app Go.Proofs.Ytdeegjeopkcomaa.sym Go.Proofs.Ytdeegjeopkcomaa.appAt Go.Proofs.Ytdeegjeopkcomaa.segs Go.Proofs.Ytdeegjeopkcomaa.segsHelp
set_option maxRecDepth 100000

/-- what marking leaves -/
def AnsMarkO (w : World) (base : Nat) (A : Option Addr) (n c : Nat) (k : Int) (e : Ending) (w' : World) : Prop :=
  e = .returned (.int .i64 (k + (n : Int))) ∧ w.grownBy w' (blk A) ∧ Own w' base (.slice A n c) (marks k n)

set_option maxHeartbeats 1000000 in
theorem markOwn (base : Nat) (A : Option Addr) (n c : Nat) (xs : List Int) (k : Int) (w : World) (h : Own w base (.slice A n c) xs) (hn : n ≤ 1048576) (hk0 : 0 ≤ k) (hk : k ≤ 16777216) :
    Calls Try.prog 53 #[.slice A n c, .int .i64 k] w (AnsMarkO w base A n c k) := by
  have hl := Own.len h
  by_cases h0 : n = 0
  · subst h0
    have hx : xs = [] := List.eq_nil_of_length_eq_zero hl.symm
    subst hx
    have HO := Lib.hid h
    clear h hl
    go_enter Try.func53, Try.ntmps53
    go_wp2
    go_loop [1, 5] (fun kk i => kk = .int .i64 k ∧ i = .int .i64 0) (fun _ _ => 0)
    case atStart => exact ⟨rfl, rfl⟩
    case round =>
      obtain ⟨rfl, rfl⟩ := hrel
      go_wp2
      go_ret
      exact ⟨by simp, World.grownBy.refl _ _, by simpa [marks] using HO.out⟩
  · rcases own_form (n := n) (vs := xs.map (Value.int .i64)) (by rw [hl]; rw [hl] at h; exact h) with ⟨_, e, _⟩ | ⟨g, cs0, rfl, hb, hr0, hnc, hz0, hmax, _, _⟩
    · exact absurd e h0
    have S0 : HeadMark w g n k c (.int .i64 k) (.int .i64 0) w := ⟨0, cs0, Nat.zero_le _, rfl, by simp, hr0, hz0, fun q hq => absurd hq (Nat.not_lt_zero _), World.grownBy.refl _ _⟩
    have HS0 := Lib.hid S0
    clear S0 hz0 hr0 hl h
    go_enter Try.func53, Try.ntmps53
    go_wp2
    go_loopw [1, 5] (fun kk i wr => HeadMark w g n k c kk i wr) (fun _ i _ => n - (intOf i).toNat)
    case atStart => exact HS0.out
    case round =>
      obtain ⟨j, cs, hj, rfl, rfl, hr, hs, hc, hg⟩ := hrel
      clear HS0
      by_cases hlt : j < n
      · have S := Lib.hid (headMark_step (k := k) hlt hnc hr hs hc hg)
        obtain ⟨u, hu⟩ : ∃ u, wr.cell? ⟨g, j, none⟩ = some u := ⟨_, (hr.cell j).trans (Array.getElem?_eq_getElem (by omega))⟩
        have hf : wr.frozen? ⟨g, j, none⟩ = false := hr.free j
        clear hr hs hc hg
        go_wp2
        go_roundw
        case rel => exact S.out
        case measure => simp [intOf]; omega
      · have e : j = n := by omega
        subst e
        have F : AnsMarkO w base (some ⟨g, 0, none⟩) j c k (.returned (.int .i64 (k + (j : Int)))) wr :=
          ⟨rfl, hg, Own.of_row hr (marks_len _ _) hs hnc hmax hb (fun q hq => by rw [marks_get hq]; exact hc q hq)⟩
        have HF := Lib.hid F
        clear F hr hs hc hg
        go_wp2
        go_ret
        exact HF.out

/-- the marks of a list of lists, from k on -/
def marksL (k : Int) (xss : List (List Int)) : List (List Int) := (List.range xss.length).map fun j => marks (k + sumL xss j) (xss.getD j []).length
theorem marksL_get {k : Int} {xss : List (List Int)} {j : Nat} (h : j < xss.length) : (marksL k xss).getD j [] = marks (k + sumL xss j) (xss.getD j []).length := by simp [marksL, List.getD, h]
theorem marksL_len {k : Int} {xss : List (List Int)} : (marksL k xss).length = xss.length := by simp [marksL]

/-- the first j slices are marked -/
def HeadMarkS (w : World) (lo hi : Nat) (A : Option Addr) (n c : Nat) (xss : List (List Int)) (k : Int) (kk i : Value) (wr : World) : Prop :=
  ∃ (j : Nat) (yss : List (List Int)), j ≤ n ∧ i = .int .i64 j ∧ kk = .int .i64 (k + sumL xss j) ∧ Owns wr lo hi A n c yss ∧ (∀ q, (yss.getD q []).length = (xss.getD q []).length) ∧ (∀ q, q < j → yss.getD q [] = marks (k + sumL xss q) (xss.getD q []).length) ∧ Btw lo hi w wr
theorem headMarkS_step {w wr w1 : World} {lo hi : Nat} {A : Option Addr} {n c j m : Nat} {xss yss : List (List Int)} {k : Int} {B : Option Addr} {q : Nat} (hxl : xss.length = n) (hj : j < n) (h : Owns wr lo hi A n c yss)
    (hl : ∀ q, (yss.getD q []).length = (xss.getD q []).length) (hm : ∀ q, q < j → yss.getD q [] = marks (k + sumL xss q) (xss.getD q []).length) (hb : Btw lo hi w wr)
    (hv : ∀ b, A = some ⟨b, 0, none⟩ → wr.cell? ⟨b, j, none⟩ = some (.slice B m q)) (hlen : (xss.getD j []).length = m) (hblk : ∀ k, blk B = some k → lo ≤ k ∧ k < hi)
    (hg : wr.grownBy w1 (blk B)) (ho : Own w1 lo (.slice B m q) (marks (k + sumL xss j) m)) :
    HeadMarkS w lo hi A n c xss k (.int .i64 (k + sumL xss j + m)) (.int .i64 ((j : Int) + 1)) w1 := by
  refine ⟨j + 1, yss.set j (marks (k + sumL xss j) m), hj, by simp, ?_, ?_, fun p => ?_, fun p hp => ?_, hb.trans (Btw.of_grown hg hblk)⟩
  · rw [sumL_succ (by omega), hlen]
    exact congrArg (Value.int .i64) (by omega)
  · refine h.set hj (by rw [blk_own]; exact hg) ho ?_ hv
    rw [marks_len, hl, hlen]
  · by_cases e : j = p
    · subst e
      have : j < yss.length := by rw [h.len]; exact hj
      simp [List.getD, this, marks_len, ← hlen]
    · have e3 : (yss.set j (marks (k + sumL xss j) m)).getD p [] = yss.getD p [] := by simp [List.getD, List.getElem?_set_ne e]
      rw [e3]; exact hl p
  · by_cases e : j = p
    · subst e
      have : j < yss.length := by rw [h.len]; exact hj
      rw [hlen]
      simp [List.getD, this]
    · have e3 : (yss.set j (marks (k + sumL xss j) m)).getD p [] = yss.getD p [] := by simp [List.getD, List.getElem?_set_ne e]
      rw [e3]; exact hm p (by omega)

/-- what marking leaves -/
def AnsMarkS (w : World) (lo hi : Nat) (A : Option Addr) (n c : Nat) (xss : List (List Int)) (k : Int) (e : Ending) (w' : World) : Prop :=
  e = .returned (.int .i64 (k + sumL xss n)) ∧ Owns w' lo hi A n c (marksL k xss) ∧ Btw lo hi w w'
theorem lists_same {a b : List (List Int)} {n : Nat} (ha : a.length = n) (hb : b.length = n) (h : ∀ j, j < n → a.getD j [] = b.getD j []) : a = b := by
  refine List.ext_getElem (by omega) fun j h1 h2 => ?_
  have := h j (by omega)
  simpa [List.getD, h1, h2] using this
theorem markS_end {w wr : World} {lo hi : Nat} {A : Option Addr} {n c j : Nat} {xss yss : List (List Int)} {k : Int} (hxl : xss.length = n) (hj : ¬ j < n) (hj' : j ≤ n) (h : Owns wr lo hi A n c yss)
    (hm : ∀ q, q < j → yss.getD q [] = marks (k + sumL xss q) (xss.getD q []).length) (hb : Btw lo hi w wr) : AnsMarkS w lo hi A n c xss k (.returned (.int .i64 (k + sumL xss j))) wr := by
  have e : j = n := by omega
  subst e
  have e2 : yss = marksL k xss := lists_same h.len (by rw [marksL_len, hxl]) (fun q hq => by rw [hm q hq, marksL_get (by omega)])
  subst e2
  exact ⟨rfl, h, hb⟩

set_option maxHeartbeats 1000000 in
theorem markSS (lo hi : Nat) (A : Option Addr) (n c : Nat) (xss : List (List Int)) (k : Int) (w : World) (h : Owns w lo hi A n c xss) (ht : tot xss ≤ 1048576) (hk0 : 0 ≤ k) (hk : k ≤ 8388608) :
    Calls Try.prog 94 #[.slice A n c, .int .i64 k] w (AnsMarkS w lo hi A n c xss k) := by
  have HX := Lib.hid h.len
  have hn : n ≤ 1048576 := tot_len h.len ht
  have HT := Lib.hid ht
  have S0 : HeadMarkS w lo hi A n c xss k (.int .i64 k) (.int .i64 0) w := ⟨0, xss, Nat.zero_le _, rfl, by simp [sumL], h, fun _ => rfl, fun q hq => absurd hq (Nat.not_lt_zero _), Btw.refl _ _ _⟩
  have HS0 := Lib.hid S0
  clear S0 h ht
  go_enter Try.func94, Try.ntmps94
  go_wp2
  go_loopw [1, 5] (fun kk i wr => HeadMarkS w lo hi A n c xss k kk i wr) (fun _ i _ => n - (intOf i).toNat)
  case atStart => exact HS0.out
  case round =>
    obtain ⟨j, yss, hj, rfl, rfl, ho, hl, hm, hb⟩ := hrel
    clear HS0
    have hsum : sumL xss j ≤ 1048576 := by
      have h1 := sumL_mono (xss := xss) (show j ≤ xss.length by rw [HX.out]; exact hj) (Nat.le_refl _)
      have h2 := HT.out
      unfold tot at h2
      omega
    by_cases hlt : j < n
    · obtain ⟨vs, hr, hin, -⟩ := ho.row
      rcases own_form hr with ⟨_, e, _⟩ | ⟨g, cur, rfl, hlo, hrow, hnc, hsz, hmax, hlen, hc⟩
      · omega
      obtain ⟨B, q, hv, ho1, ht1⟩ := hin j hlt
      have hcell : wr.cell? ⟨g, j, none⟩ = some (.slice B (yss.getD j []).length q) := by rw [hrow.cell j, hc j hlt, hv]
      rw [hv] at ho1
      have hm1 : (yss.getD j []).length ≤ 1048576 := by rw [hl]; exact tot_each HT.out j
      have hlj := hl j
      obtain ⟨m, hmm⟩ : ∃ m, (yss.getD j []).length = m := ⟨_, rfl⟩
      rw [hmm] at hcell ho1 hm1 hlj
      have hbl : ∀ k, blk B = some k → lo ≤ k ∧ k < hi := fun k hk => ⟨(World.ownsRow.lt ho1 k (by rw [blk_own]; exact hk)).1, ht1 k hk⟩
      have L := Lib.hid (markOwn lo B m q _ (k + sumL xss j) wr ho1 hm1 (by omega) (by omega))
      have R := Lib.hid (fun w1 hg ho2 => headMarkS_step (w1 := w1) (B := B) (m := m) (q := q) HX.out hlt ho hl hm hb (fun b e => by injection e with e; injection e with e; subst e; exact hcell) hlj.symm hbl hg ho2)
      generalize hz : sumL xss j = z at *
      clear ho hr hin hrow hsz hlen hc hv ho1 ht1 hm hl hlj hmm hbl hb hz
      go_wp2_with fail
      refine L.out.mono ?_
      rintro e w1 ⟨rfl, hg, ho2⟩
      have S := Lib.hid (R.out w1 hg ho2)
      clear hg ho2 hcell L R
      go_wp2
      go_roundw
      case rel => exact S.out
      case measure => simp [intOf]; omega
    · have F := Lib.hid (markS_end HX.out hlt hj ho hm hb)
      clear ho hl hm hb
      generalize sumL xss j = z at *
      go_wp2
      go_ret
      exact F.out

/-- the marks are found again -/
theorem segs_marks {w : World} {A : Option Addr} {n : Nat} {xss : List (List Int)} {k : Int} (h : Segs w w.heap.size A n (marksL k xss)) : xss.length = n := by rw [← marksL_len (k := k)]; exact h.1
set_option maxHeartbeats 1000000 in
theorem heldSS (A : Option Addr) (n c : Nat) (xss : List (List Int)) (k : Int) (w : World) (h : Segs w w.heap.size A n (marksL k xss)) (ht : tot xss ≤ 1048576) (hk0 : 0 ≤ k) (hk : k ≤ 8388608) :
    Calls Try.prog 95 #[.slice A n c, .int .i64 k] w fun e w' => w = w' ∧ e = .returned (.int .i64 (k + sumL xss n)) := by
  have HX := Lib.hid (segs_marks h)
  have hn : n ≤ 1048576 := tot_len HX.out ht
  have HT := Lib.hid ht
  clear ht
  go_enter Try.func95, Try.ntmps95
  go_wp2
  go_loop [1, 5] (fun kk i => ∃ j : Nat, j ≤ n ∧ i = .int .i64 j ∧ kk = .int .i64 (k + sumL xss j)) (fun _ i => n - (intOf i).toNat)
  case atStart => exact ⟨0, Nat.zero_le _, rfl, by simp [sumL]⟩
  case round =>
    obtain ⟨j, hj, rfl, rfl⟩ := hrel
    have hsum : sumL xss j ≤ 1048576 := by
      have h1 := sumL_mono (xss := xss) (show j ≤ xss.length by rw [HX.out]; exact hj) (Nat.le_refl _)
      have h2 := HT.out
      unfold tot at h2
      omega
    by_cases hlt : j < n
    · obtain ⟨b, off, B, m, q, rfl, -, hx, hseg, -⟩ := h.spot hlt
      rw [marksL_get (by rw [HX.out]; exact hlt)] at hseg
      have hm : (xss.getD j []).length = m := by rw [← hseg.1, marks_len]
      rw [hm] at hseg
      have hm1 : m ≤ 1048576 := by rw [← hm]; exact tot_each HT.out j
      have E : k + sumL xss (j + 1) = k + sumL xss j + m := by rw [sumL_succ (by rw [HX.out]; exact hlt), hm]; omega
      have S : ∃ j' : Nat, j' ≤ n ∧ Value.int .i64 ((j : Int) + 1) = .int .i64 j' ∧ Value.int .i64 (k + sumL xss j + m) = .int .i64 (k + sumL xss j') := ⟨j + 1, hlt, by simp, by rw [E]⟩
      replace S := Lib.hid S
      have L := Lib.hid (heldInts B m q (k + sumL xss j) w hseg hm1 (by omega) (by omega))
      clear h hseg hm E
      generalize hz : sumL xss j = z at *
      clear hz
      go_wp2_with fail
      refine L.out.mono ?_
      rintro e w' ⟨rfl, rfl⟩
      clear L
      go_wp2
      go_round
      case rel => exact S.out
      case measure => simp [intOf]; omega
    · have e : j = n := by omega
      subst e
      clear h
      generalize hz : sumL xss j = z at *
      have HZ := Lib.hid hz
      clear hz
      go_wp2
      go_ret
      exact ⟨rfl, by rw [HZ.out]; rfl⟩
end Go.Proofs.Ytdeegjeopkcomaa.segsMark
