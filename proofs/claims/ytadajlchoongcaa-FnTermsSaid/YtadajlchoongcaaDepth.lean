/-
  CONTRACTS: spec.l1Max, spec.l1Depth, spec.DepthOf, impl's cursor depth, impl.DepthOf. Conditions: the slices read as lists ('Seg'), at most 1048576 numbers. By an AI agent.
-/
import Derived.Test.YtadajlchoongcaaArgs
namespace Go.Proofs.Ytadajlchoongcaa.depth
open Go.RowKit Go.Proofs.Ytadajlchoongcaa.base Go.Proofs.Ytadajlchoongcaa.ints Go.Proofs.Ytadajlchoongcaa.sig Go.Proofs.Ytadajlchoongcaa.term Go.Proofs.Ytadajlchoongcaa.arity Go.Proofs.Ytadajlchoongcaa.endOf Go.Proofs.Ytadajlchoongcaa.cursor Go.Proofs.Ytadajlchoongcaa.termOk Go.Proofs.Ytadajlchoongcaa.endAt Go.Proofs.Ytadajlchoongcaa.marks Go.Proofs.Ytadajlchoongcaa.app Go.Proofs.Ytadajlchoongcaa.sym Go.Proofs.Ytadajlchoongcaa.args

theorem max_any (x y : Int) (w : World) : Calls Try.prog 79 #[.int .i64 x, .int .i64 y] w fun e w' => w = w' ∧ e = .returned (.int .i64 (max x y)) := by
  by_cases h : y < x
  · have e : max x y = x := by omega
    rw [e]
    go_enter Try.func79, Try.ntmps79
    go_wp2
    go_ret
    exact ⟨rfl, rfl⟩
  · have e : max x y = y := by omega
    rw [e]
    go_enter Try.func79, Try.ntmps79
    go_wp2
    go_ret
    exact ⟨rfl, rfl⟩

/-- the greatest of what comes: d so far, q terms from place p on still to come, M in the end -/
def Deep (sg t : List Int) (f : Nat) (M d : Int) (q p : Nat) : Prop := max d (maxOver sg t (dep sg t f) q p) = M ∧ 0 ≤ d ∧ d ≤ f ∧ ∃ i, scan sg q (t.drop p) = some i ∧ i ≤ f ∧ p + i ≤ t.length
theorem Deep.first {sg t : List Int} {f : Nat} {M d : Int} {q p : Nat} (h : Deep sg t f M d (q + 1) p) : ∃ j, scan sg 1 (t.drop p) = some j ∧ j ≤ f ∧ p < t.length ∧ p + j ≤ t.length ∧ Deep sg t f M (max d (dep sg t f p)) q (p + j) := by
  obtain ⟨h1, h2, h3, i, h4, h5, h6⟩ := h
  obtain ⟨j, e1, e2, e3, e4⟩ := scan_first h4
  have hb := dep_bd (sg := sg) (t := t) f p
  refine ⟨j, e1, by omega, by omega, by omega, ?_, by omega, by omega, i - j, e4, by omega, by omega⟩
  simp only [maxOver, len1_eq e1] at h1
  omega
theorem Deep.done {sg t : List Int} {f : Nat} {M d : Int} {p : Nat} (h : Deep sg t f M d 0 p) : d = M := by
  have h1 := h.1
  have h2 := h.2.1
  simp only [maxOver] at h1
  omega
theorem Deep.start {sg t : List Int} {f a j : Nat} (h : scan sg 1 (t.drop a) = some j) (hj : j ≤ f + 1) (hl : a + j ≤ t.length) :
    ¬ ar sg (t.getD a 0) < 0 ∧ Deep sg t f (maxOver sg t (dep sg t f) (ar sg (t.getD a 0)).toNat (a + 1)) 0 (ar sg (t.getD a 0)).toNat (a + 1) := by
  obtain ⟨i, rfl, _, h2, h3⟩ := scan_args h
  have hb := maxOver_bd (sg := sg) (t := t) (g := dep sg t f) (B := f) (by omega) (fun p => dep_bd f p) (ar sg (t.getD a 0)).toNat (a + 1)
  exact ⟨h2, by omega, by omega, by omega, i, h3, by omega, by omega⟩

def AnsDep (w : World) (z : Int) (e : Ending) (w' : World) : Prop := e = .returned (.int .i64 z) ∧ Below w.heap.size w w'

def HeadDep (w : World) (A : Option Addr) (n c : Nat) (O : Option Addr) (T oc : Nat) (ys : List Int) (sg t : List Int) (f : Nat) (M : Int) (deep i : Value) (wr : World) : Prop :=
  ∃ (k q pp : Nat) (d : Int), i = .int .i64 k ∧ deep = .int .i64 d ∧ k + q = T ∧ ys.drop k = places sg t q pp ∧ Deep sg t f M d q pp ∧ Own wr (w.heap.size + 1) (.slice O T oc) ys ∧ Row wr w.heap.size 26 #[.slice A n c] ∧ Below w.heap.size w wr

set_option maxHeartbeats 2000000 in
theorem specDepth (A A' : Option Addr) (n c m c' : Nat) (sg t : List Int) (hn : n ≤ 1048576) (hm : m ≤ 1048576) (hs : Arities sg) : ∀ (f a j : Nat) (x : Int) (w : World), Seg w w.heap.size A n sg → Seg w w.heap.size A' m t →
    x = (a : Int) → a < m → scan sg 1 (t.drop a) = some j → a + j ≤ m → j ≤ f → f ≤ 1048576 →
    Calls Try.prog 68 #[.agg #[.slice A n c], .slice A' m c', .int .i64 x] w (AnsDep w (dep sg t f a)) := by
  intro f
  induction f with
  | zero =>
    intro a j x w _ _ _ _ hj _ hf _
    have := scan_pos (q := 0) hj
    omega
  | succ f ih =>
    intro a j x w h h' hx ha hj hl hf hff
    subst hx
    have IH := Lib.hid ih
    clear ih
    have HL := Lib.hid h'.1
    obtain ⟨hneg, hdeep⟩ := Deep.start (f := f) hj hf (by rw [HL.out]; exact hl)
    have hzb := ar_bd hs (t.getD a 0)
    have e1 : dep sg t (f + 1) a = maxOver sg t (dep sg t f) (ar sg (t.getD a 0)).toNat (a + 1) + 1 := rfl
    have e2 : argsL sg t a = places sg t (ar sg (t.getD a 0)).toNat (a + 1) := rfl
    obtain ⟨M, hM⟩ : ∃ M, maxOver sg t (dep sg t f) (ar sg (t.getD a 0)).toNat (a + 1) = M := ⟨_, rfl⟩
    rw [hM] at hdeep e1
    obtain ⟨T, hT⟩ : ∃ T, (ar sg (t.getD a 0)).toNat = T := ⟨_, rfl⟩
    rw [hT] at hdeep e2
    obtain ⟨ys, hys⟩ : ∃ ys, argsL sg t a = ys := ⟨_, rfl⟩
    have hylen : ys.length = T := by rw [← hys, e2, places_len]
    have hT3 : T ≤ 3 := by omega
    have hpl : ys.drop 0 = places sg t T (a + 1) := by rw [← hys, e2]; rfl
    obtain ⟨W, hW⟩ : ∃ W, W = w.alloc (.cells #[.slice A n c] 26) := ⟨_, rfl⟩
    have rA : Row W w.heap.size 26 #[.slice A n c] := by rw [hW]; exact Row.new _ _ _
    have bel : Below w.heap.size w W := by rw [hW]; exact (Below.refl _ _).alloc (Nat.le_refl _) _
    have zW : W.heap.size = w.heap.size + 1 := by rw [hW]; simp
    have cA : W.cell? ⟨w.heap.size, 0, none⟩ = some (.slice A n c) := rA.cell 0
    have L := Lib.hid (l1Args A A' n c m c' sg t a j W ((h.below bel).more bel.size) ((h'.below bel).more bel.size) hn hm hs ha hj hl)
    rw [hys] at L
    have HW := Lib.hid hW
    have HE := Lib.hid e1
    clear hW hM hT hys e1 e2 hj hs hneg
    go_enter Try.func68, Try.ntmps68
    go_wp2_with fail
    rw [← HW.out]
    refine L.out.mono ?_
    rintro e w1 ⟨O, on, oc, rfl, ho, bb⟩
    have hon := Own.len ho
    rw [hylen] at hon
    subst hon
    rw [zW] at ho
    have S0 : HeadDep w A n c O on oc ys sg t f M (.int .i64 0) (.int .i64 0) w1 := ⟨0, on, a + 1, 0, rfl, rfl, by omega, hpl, hdeep, ho, rA.next bb, next_trans bel bb⟩
    have HS := Lib.hid S0
    have HYL := Lib.hid hylen
    clear S0 ho bb bel rA cA hpl hdeep L zW hylen
    go_wp2_with fail
    go_loopw [7, 9] (fun deep i wr => HeadDep w A n c O on oc ys sg t f M deep i wr) (fun _ i _ => on - (intOf i).toNat)
    case atStart => exact HS.out
    case round =>
      obtain ⟨k, q, pp, d, rfl, rfl, hkq, hpl, hdp, ho, hr, hb⟩ := hrel
      clear HS
      have hd0 := hdp.2.1
      have hd1 := hdp.2.2.1
      cases q with
      | zero =>
        have hk : k = on := by omega
        subst hk
        have F : AnsDep w (dep sg t (f + 1) a) (.returned (.int .i64 (d + 1))) wr := ⟨by rw [HE.out, ← hdp.done], hb⟩
        have HF := Lib.hid F
        clear F hdp ho hr hb h h' hpl hkq
        go_wp2
        go_ret
        exact HF.out
      | succ q =>
        obtain ⟨jj, hj, hjf, hplt, hpj, hdp'⟩ := hdp.first
        have hkT : k < on := by omega
        have hyk : ys.getD k 0 = (pp : Int) := by
          have : (ys.drop k)[0]? = (places sg t (q + 1) pp)[0]? := by rw [hpl]
          simp [places] at this
          simp [List.getD, this]
        have hpl' : ys.drop (k + 1) = places sg t q (pp + jj) := by
          have : (ys.drop k).drop 1 = (places sg t (q + 1) pp).drop 1 := by rw [hpl]
          rw [List.drop_drop] at this
          simpa [places, len1_eq hj] using this
        have so := Own.seg ho
        obtain ⟨bo, oo, y, rfl, hbo, hy, ey⟩ := so.spot hkT
        have hyy : y = (pp : Int) := by rw [← ey.out]; exact hyk
        subst hyy
        have cA : wr.cell? ⟨w.heap.size, 0, none⟩ = some (.slice A n c) := hr.cell 0
        have s : Seg wr.drew wr.heap.size A n sg := ((h.below hb).more hb.size).drew
        have s' : Seg wr.drew wr.heap.size A' m t := ((h'.below hb).more hb.size).drew
        have HJ := Lib.hid hj
        have HKQ := Lib.hid hkq
        have i0 : (0 : Int) ≤ (k : Int) := by omega
        have i1 : (k : Int) < (on : Int) := by omega
        have hlen := HL.out
        have hplt' : pp < m := by rw [HL.out] at hplt; exact hplt
        have hpj' : pp + jj ≤ m := by rw [HL.out] at hpj; exact hpj
        obtain ⟨z, hz⟩ : ∃ z, dep sg t f pp = z := ⟨_, rfl⟩
        have hzb := dep_bd (sg := sg) (t := t) f pp
        rw [hz] at hdp' hzb
        have HZ := Lib.hid hz
        replace ho := Own.drew ho
        replace hr := hr.drew
        replace hb := hb.drew
        have HDP := Lib.hid hdp'
        have HPL := Lib.hid hpl'
        clear hdp hdp' hpl hpl' hyk ey so hj hkq hz hlen hplt hpj
        go_wp2_with fail
        go_region_held3 (fun w' => w'.cell? ⟨w.heap.size, 0, none⟩ = some (.slice A n c) ∧ w'.cell? ⟨bo, oo + k, none⟩ = some (.int .i64 (pp : Int)))
          (go_keep)
          (first
            | (go_at_call 68; refine (IH.out pp jj _ _ s s' rfl hplt' HJ.out hpj' hjf (by omega)).mono ?_; rintro e w2 ⟨he, bb⟩; rw [HZ.out] at he; subst he; replace hr := hr.next bb; replace ho := Own.next ho bb; replace hb := next_trans hb bb; replace cA : w2.cell? ⟨w.heap.size, 0, none⟩ = some (.slice A n c) := hr.cell 0; replace hy : w2.cell? ⟨bo, oo + k, none⟩ = some (.int .i64 (pp : Int)) := (bb.cell (p := ⟨bo, oo + k, none⟩) hbo).trans hy)
            | (go_at_call 79; refine (max_any _ _ _).mono ?_; rintro e w3 ⟨rfl, rfl⟩))
        have S : HeadDep w A n c (some ⟨bo, oo, none⟩) on oc ys sg t f M (.int .i64 (max d z)) (.int .i64 ((k : Int) + 1)) w2 :=
          ⟨k + 1, q, pp + jj, max d z, by simp, rfl, by have := HKQ.out; omega, HPL.out, HDP.out, ho, hr, hb⟩
        have HSS := Lib.hid S
        clear S ho hr hb bb cA hy s s'
        generalize max d z = mx at *
        go_wp2
        go_roundw
        case rel => exact HSS.out
        case measure => simp [intOf]; omega

/-- impl's depth at place k: the depth, and the cursor behind it -/
def AnsCDep (w : World) (p : Nat) (A : Option Addr) (n c : Nat) (A' : Option Addr) (m c' : Nat) (sg t : List Int) (k : Nat) (z : Int) (e : Ending) (w' : World) : Prop :=
  e = .returned (.int .i64 z) ∧ w.grownBy w' (some p) ∧ Cur w' p A n c A' m c' sg t k

def HeadCDep (w : World) (p : Nat) (A : Option Addr) (n c : Nat) (A' : Option Addr) (m c' : Nat) (sg t : List Int) (T f last : Nat) (M : Int) (deep i : Value) (wr : World) : Prop :=
  ∃ (k q pp r : Nat) (d : Int), i = .int .i64 k ∧ deep = .int .i64 d ∧ k + q = T ∧ Deep sg t f M d q pp ∧ scan sg q (t.drop pp) = some r ∧ pp + r = last ∧ Cur wr p A n c A' m c' sg t pp ∧ w.grownBy wr (some p)

set_option maxHeartbeats 2000000 in
theorem implDepth (p : Nat) (A : Option Addr) (n c : Nat) (A' : Option Addr) (m c' : Nat) (sg t : List Int) : ∀ (f a j : Nat) (w : World), Cur w p A n c A' m c' sg t a → scan sg 1 (t.drop a) = some j → j ≤ f → f ≤ 1048576 →
    Calls Try.prog 58 #[.pointer (some ⟨p, 0, none⟩)] w (AnsCDep w p A n c A' m c' sg t (a + j) (dep sg t f a)) := by
  intro f
  induction f with
  | zero =>
    intro a j w _ hj hf _
    have := scan_pos (q := 0) hj
    omega
  | succ f ih =>
    intro a j w h hj hf hff
    have IH := Lib.hid ih
    clear ih
    have HL := Lib.hid h.s'.1
    have hs := h.ars
    have hl : a + j ≤ t.length := by have := scan_le hj; have := (scan_args hj); obtain ⟨_, _, h2, _⟩ := this; simp only [List.length_drop] at *; omega
    obtain ⟨hneg, hdeep⟩ := Deep.start (f := f) hj hf hl
    obtain ⟨r, hjr, hat, -, hr⟩ := scan_args hj
    have ham : a < m := by rw [HL.out] at hat; exact hat
    have hzb := ar_bd hs (t.getD a 0)
    have e1 : dep sg t (f + 1) a = maxOver sg t (dep sg t f) (ar sg (t.getD a 0)).toNat (a + 1) + 1 := rfl
    obtain ⟨M, hM⟩ : ∃ M, maxOver sg t (dep sg t f) (ar sg (t.getD a 0)).toNat (a + 1) = M := ⟨_, rfl⟩
    rw [hM] at hdeep e1
    obtain ⟨z, hz⟩ : ∃ z, ar sg (t.getD a 0) = z := ⟨_, rfl⟩
    rw [hz] at hdeep hneg hzb hr
    obtain ⟨T, rfl⟩ := Int.eq_ofNat_of_zero_le (show 0 ≤ z by omega)
    rw [Int.toNat_natCast] at hdeep hr
    have HZ := Lib.hid hz
    have HE := Lib.hid e1
    have HR := Lib.hid hr
    have HJR := Lib.hid (show a + 1 + r = a + j by omega)
    have HD := Lib.hid hdeep
    clear hM hz e1 hj hs hneg hr hdeep hjr hat
    go_enter Try.func58, Try.ntmps58
    go_wp2_with fail
    refine (next p A n c A' m c' sg t a _ h).mono ?_
    rintro e w1 ⟨hg, ⟨-, he, hc⟩ | ⟨hk', -, -⟩⟩
    · rw [HZ.out] at he
      subst he
      have S0 : HeadCDep w p A n c A' m c' sg t T f (a + j) M (.int .i64 0) (.int .i64 0) w1 := ⟨0, T, a + 1, r, 0, rfl, rfl, by omega, HD.out, HR.out, HJR.out, hc, hg⟩
      have HS := Lib.hid S0
      clear S0 hc hg h
      go_wp2_with fail
      go_loopw [3, 6] (fun deep i wr => HeadCDep w p A n c A' m c' sg t T f (a + j) M deep i wr) (fun _ i _ => T - (intOf i).toNat)
      case atStart => exact HS.out
      case round =>
        obtain ⟨k, q, pp, r', d, rfl, rfl, hkq, hdp, hsc, hlast, hcu, hgr⟩ := hrel
        clear HS
        have hd0 := hdp.2.1
        have hd1 := hdp.2.2.1
        cases q with
        | zero =>
          have hk : k = T := by omega
          subst hk
          rw [scan_zero] at hsc
          have hr0 : r' = 0 := by injection hsc with hsc; omega
          have F : AnsCDep w p A n c A' m c' sg t (a + j) (dep sg t (f + 1) a) (.returned (.int .i64 (1 + d))) wr := ⟨by rw [HE.out, ← hdp.done, Int.add_comm], hgr, by rw [← hlast, hr0]; exact hcu⟩
          have HF := Lib.hid F
          clear F hdp hcu hgr hsc hlast hkq
          go_wp2
          go_ret
          exact HF.out
        | succ q =>
          obtain ⟨jj, hj, hjf, hplt, hpj, hdp'⟩ := hdp.first
          obtain ⟨j2, hj2, -, hle, hsc'⟩ := scan_first hsc
          obtain rfl : jj = j2 := by rw [hj] at hj2; injection hj2
          have hkT : k < T := by omega
          have HJ := Lib.hid hj
          have HKQ := Lib.hid hkq
          obtain ⟨z, hz⟩ : ∃ z, dep sg t f pp = z := ⟨_, rfl⟩
          have hzb2 := dep_bd (sg := sg) (t := t) f pp
          rw [hz] at hdp' hzb2
          have HZ2 := Lib.hid hz
          have HDP := Lib.hid hdp'
          have HSC := Lib.hid hsc'
          have HLA := Lib.hid (show pp + jj + (r' - jj) = a + j by omega)
          clear hdp hdp' hj hj2 hkq hz hsc hsc' hlast hplt hpj
          go_wp2_with fail
          refine (IH.out pp jj _ hcu HJ.out hjf (by omega)).mono ?_
          rintro e w2 ⟨he, hg2, hc2⟩
          rw [HZ2.out] at he
          subst he
          have S : HeadCDep w p A n c A' m c' sg t T f (a + j) M (.int .i64 (max d z)) (.int .i64 ((k : Int) + 1)) w2 :=
            ⟨k + 1, q, pp + jj, r' - jj, max d z, by simp, rfl, by have := HKQ.out; omega, HDP.out, HSC.out, HLA.out, hc2, grown_trans hgr hg2⟩
          have HSS := Lib.hid S
          clear S hg2 hc2 hgr hcu
          have emx : (if d < z then z else d) = max d z := by split <;> omega
          have EMX := Lib.hid emx
          clear emx
          go_wp2
          go_roundw
          case rel => rw [EMX.out]; exact HSS.out
          case measure => simp [intOf]; omega
    · omega

/-! ### DepthOf -/
def depthI (sg t : List Int) : Int := if termOkB sg t = true then dep sg t t.length 0 else 0
def AnsDepthOf (w : World) (sg t : List Int) (e : Ending) (w' : World) : Prop := e = .returned (.int .i64 (depthI sg t)) ∧ Below w.heap.size w w'
theorem depth_no {w w' : World} {sg t : List Int} (h : termOkB sg t = false) (hb : Below w.heap.size w w') : AnsDepthOf w sg t (.returned (.int .i64 0)) w' := ⟨by unfold depthI; rw [if_neg (by rw [h]; simp)], hb⟩
theorem depth_yes {w w' : World} {sg t : List Int} {m : Nat} (hm : t.length = m) (h : termOkB sg t = true) (hb : Below w.heap.size w w') : AnsDepthOf w sg t (.returned (.int .i64 (dep sg t m 0))) w' := ⟨by unfold depthI; rw [if_pos h, hm], hb⟩
theorem termOk_pos {sg t : List Int} (h : termOkB sg t = true) : 0 < t.length := by
  have := scan_pos (q := 0) (termOk_parts h).2.2
  exact this

set_option maxHeartbeats 1000000 in
theorem specDepthOf (A A' : Option Addr) (n c m c' : Nat) (sg t : List Int) (w : World) (h : Seg w w.heap.size A n sg) (h' : Seg w w.heap.size A' m t) (hn : n ≤ 1048576) (hm : m ≤ 1048576) :
    Calls Try.prog 46 #[.agg #[.slice A n c], .slice A' m c'] w (AnsDepthOf w sg t) := by
  obtain ⟨W, hW⟩ : ∃ W, W = w.alloc (.cells #[.slice A n c] 26) := ⟨_, rfl⟩
  have rA : Row W w.heap.size 26 #[.slice A n c] := by rw [hW]; exact Row.new _ _ _
  have bel : Below w.heap.size w W := by rw [hW]; exact (Below.refl _ _).alloc (Nat.le_refl _) _
  replace h := (h.below bel).more bel.size
  replace h' := (h'.below bel).more bel.size
  have HW := Lib.hid hW
  have HL := Lib.hid h'.1
  clear hW
  have L := Lib.hid (specTermOk A A' n c m c' sg t W h h' hn hm)
  cases hok : termOkB sg t with
  | false =>
    have HS := Lib.hid hok
    clear hok h h'
    go_enter Try.func46, Try.ntmps46
    go_wp2_with fail
    rw [← HW.out]
    refine L.out.mono ?_
    rintro e w1 ⟨he, bb⟩
    rw [HS.out] at he
    subst he
    have F := Lib.hid (depth_no HS.out (next_trans bel bb))
    clear bb bel rA
    go_wp2
    go_ret
    exact F.out
  | true =>
    have HS := Lib.hid hok
    clear hok
    have hars := (sig_arities (termOk_parts HS.out).1).1
    have hpos : 0 < m := by have := termOk_pos HS.out; rw [HL.out] at this; exact this
    have HJ := Lib.hid (show scan sg 1 (t.drop 0) = some m by rw [← HL.out]; exact (termOk_parts HS.out).2.2)
    go_enter Try.func46, Try.ntmps46
    go_wp2_with fail
    rw [← HW.out]
    refine L.out.mono ?_
    rintro e w1 ⟨he, bb⟩
    rw [HS.out] at he
    subst he
    replace h := h.next bb
    replace h' := h'.next bb
    replace rA := rA.next bb
    replace bel := next_trans bel bb
    have cA : w1.cell? ⟨w.heap.size, 0, none⟩ = some (.slice A n c) := rA.cell 0
    clear bb
    go_wp2_with fail
    refine (specDepth A A' n c m c' sg t hn hm hars m 0 m 0 _ h h' rfl hpos HJ.out (by omega) (Nat.le_refl _) hm).mono ?_
    rintro e w2 ⟨rfl, bb⟩
    have F := Lib.hid (depth_yes HL.out HS.out (next_trans bel bb))
    clear bb bel rA cA h h' hars
    generalize dep sg t m 0 = z at *
    go_wp2
    go_ret
    exact F.out

set_option maxHeartbeats 1000000 in
theorem implDepthOf (A A' : Option Addr) (n c m c' : Nat) (sg t : List Int) (w : World) (h : Seg w w.heap.size A n sg) (h' : Seg w w.heap.size A' m t) (hn : n ≤ 1048576) (hm : m ≤ 1048576) :
    Calls Try.prog 19 #[.agg #[.slice A n c], .slice A' m c'] w (AnsDepthOf w sg t) := by
  obtain ⟨W, hW⟩ : ∃ W, W = w.alloc (.cells #[.slice A n c] 26) := ⟨_, rfl⟩
  have bel : Below w.heap.size w W := by rw [hW]; exact (Below.refl _ _).alloc (Nat.le_refl _) _
  have zW : w.heap.size < W.heap.size := by rw [hW]; simp
  replace h := (h.below bel).more bel.size
  replace h' := (h'.below bel).more bel.size
  have HW := Lib.hid hW
  have HL := Lib.hid h'.1
  clear hW
  have L := Lib.hid (cursorAt A A' n c m c' sg t 0 W h h' hn hm)
  clear h h'
  go_enter Try.func19, Try.ntmps19
  go_wp2_with fail
  rw [← HW.out]
  refine L.out.mono ?_
  rintro e w1 ⟨bb, ⟨ht, p, rfl, hp, hc⟩ | ⟨ht, rfl⟩⟩
  · replace bel := next_trans bel bb
    have HS := Lib.hid (there_parts ht).1
    have HJ := Lib.hid (show scan sg 1 (t.drop 0) = some m by rw [← HL.out]; exact (termOk_parts HS.out).2.2)
    clear ht bb L
    go_wp2_with fail
    refine (implDepth p A n c A' m c' sg t m 0 m _ hc HJ.out (Nat.le_refl _) hm).mono ?_
    rintro e w2 ⟨rfl, hg, -⟩
    have F := Lib.hid (depth_yes HL.out HS.out (bel.grown hg bel.size (fun k hk => by injection hk; omega)))
    clear hg bel hc
    generalize dep sg t m 0 = z at *
    go_wp2
    go_ret
    exact F.out
  · have hno : termOkB sg t = false := by
      cases hok : termOkB sg t with
      | false => rfl
      | true =>
        rw [there_yes hok (Int.le_refl 0) (by have := termOk_pos hok; omega)] at ht
        cases ht
    have F := Lib.hid (depth_no hno (next_trans bel bb))
    clear bb bel ht hno L
    go_wp2
    go_ret
    exact F.out
end Go.Proofs.Ytadajlchoongcaa.depth
