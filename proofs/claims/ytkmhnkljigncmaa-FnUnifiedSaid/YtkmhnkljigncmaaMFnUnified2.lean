/-
  MERGED: my texts DrawAny, DrawNew, DrawPairL, DrawOne, Term2, TermFacts, VarsMath, FillMath, PlainMath, AppAt, Segs, SegsHelp, SegsMark, Kinds, Look, Same, Copy, Plain, one behind the other, as they are. By an AI agent.
-/
import Derived.Test.YtkmhnkljigncmaaMFnUnified1
import Derived.Deep.RegionHeld3
import Derived.Maps.AppendAt
import Derived.Deep.QuietTactic
import Derived.BigQuiet
import Derived.Shelf.Abstract
import Derived.WalkSpells
section
/-
  CONTRACT: spec.l1DrawAny draws a term, bent sometimes. Conditions: a drawing cursor ('Dice'). By an AI agent.
-/
namespace Go.Proofs.Ytkmhnkljigncmaa.drawAny
open Go.RowKit Go.Proofs.Ytkmhnkljigncmaa.base Go.Proofs.Ytkmhnkljigncmaa.ints Go.Proofs.Ytkmhnkljigncmaa.sig Go.Proofs.Ytkmhnkljigncmaa.term Go.Proofs.Ytkmhnkljigncmaa.cursor Go.Proofs.Ytkmhnkljigncmaa.termOk Go.Proofs.Ytkmhnkljigncmaa.marks Go.Proofs.Ytkmhnkljigncmaa.app Go.Proofs.Ytkmhnkljigncmaa.sym Go.Proofs.Ytkmhnkljigncmaa.dice Go.Proofs.Ytkmhnkljigncmaa.drawSig Go.Proofs.Ytkmhnkljigncmaa.drawTerm
set_option maxRecDepth 100000

/-- a drawn list of at most L numbers -/
def AnsR (w : World) (p : Nat) (A : Option Addr) (n c L : Nat) (e : Ending) (w' : World) : Prop :=
  ∃ O on oc xs, e = .returned (.slice O on oc) ∧ Rd w' p w'.heap.size O on xs ∧ on ≤ oc ∧ oc ≤ 9223372036854775807 ∧ (O = none → oc = 0) ∧ on ≤ L ∧ Dice w' p A n c ∧ w.grownBy w' (some p)

theorem Own.cap {w : World} {base : Nat} {O : Option Addr} {on oc : Nat} {xs : List Int} (h : Own w base (.slice O on oc) xs) : on ≤ oc ∧ oc ≤ 9223372036854775807 := by
  rcases h.2 with ⟨e, _⟩ | ⟨g, cap, cur, e, _, _, h1, h2, _⟩
  · injection e with _ e1 e2; omega
  · injection e with _ e1 e2
    have := Own.len h
    unfold maxLen at h2
    omega
theorem ansR_own {w w' : World} {p : Nat} {A : Option Addr} {n c L : Nat} {O : Option Addr} {on oc base : Nat} {xs : List Int} (h : Own w' base (.slice O on oc) xs) (hp : p < base) (hL : on ≤ L) (d : Dice w' p A n c) (g : w.grownBy w' (some p)) : AnsR w p A n c L (.returned (.slice O on oc)) w' :=
  ⟨O, on, oc, xs, rfl, Rd.of_own h hp, (Own.cap h).1, (Own.cap h).2, Own.none_cap h, hL, d, g⟩
/-- the same, in a block of its own -/
def AnsRN (w : World) (p : Nat) (A : Option Addr) (n c L : Nat) (e : Ending) (w' : World) : Prop :=
  ∃ O on oc xs, e = .returned (.slice O on oc) ∧ Rd w' p w'.heap.size O on xs ∧ on ≤ oc ∧ oc ≤ 9223372036854775807 ∧ (O = none → oc = 0) ∧ on ≤ L ∧ Dice w' p A n c ∧ w.grownBy w' (some p) ∧ ∀ k, blk O = some k → w.heap.size ≤ k
theorem ansRN_own {w w' : World} {p : Nat} {A : Option Addr} {n c L : Nat} {O : Option Addr} {on oc base : Nat} {xs : List Int} (h : Own w' base (.slice O on oc) xs) (hp : p < base) (hb : w.heap.size ≤ base) (hL : on ≤ L) (d : Dice w' p A n c) (g : w.grownBy w' (some p)) : AnsRN w p A n c L (.returned (.slice O on oc)) w' :=
  ⟨O, on, oc, xs, rfl, Rd.of_own h hp, (Own.cap h).1, (Own.cap h).2, Own.none_cap h, hL, d, g, fun k hk => Nat.le_trans hb (Own.ge h k hk)⟩
theorem Own.some_ {w : World} {base : Nat} {O : Option Addr} {on oc : Nat} {xs : List Int} (h : Own w base (.slice O on oc) xs) (h1 : 1 ≤ on) : ∃ g, O = some ⟨g, 0, none⟩ := by
  rcases h.2 with ⟨e, _⟩ | ⟨g, cap, cur, e, _⟩
  · injection e with _ e1 e2; omega
  · injection e with e _ _; exact ⟨g, e⟩
theorem Own.cellAt {w : World} {base g on oc : Nat} {xs : List Int} (h : Own w base (.slice (some ⟨g, 0, none⟩) on oc) xs) {k : Nat} (hk : k < on) : ∃ u, w.cell? ⟨g, k, none⟩ = some u := by
  have hl := Own.len h
  subst hl
  have := World.ownsRow.cellAt h k (by omega)
  exact ⟨_, this.trans (List.getElem?_eq_getElem (by simpa using hk))⟩
theorem Own.frozenAt {w : World} {base g on oc : Nat} {xs : List Int} (h : Own w base (.slice (some ⟨g, 0, none⟩) on oc) xs) (k : Nat) : w.frozen? ⟨g, k, none⟩ = false := by
  have hl := Own.len h
  subst hl
  exact World.ownsRow.frozenAt h k
theorem Own.put {w : World} {base g on oc : Nat} {xs : List Int} (h : Own w base (.slice (some ⟨g, 0, none⟩) on oc) xs) (k : Nat) (y : Int) : Own (w.setCell ⟨g, k, none⟩ (.int .i64 y)) base (.slice (some ⟨g, 0, none⟩) on oc) (xs.set k y) := by
  have hl := Own.len h
  subst hl
  have := World.ownsRow.stored h k (.int .i64 y)
  unfold Own
  rw [List.length_set, List.map_set]
  exact this.1
/-- the rest of a slice -/
theorem Rd.tail {w : World} {p B b off n : Nat} {xs : List Int} (h : Rd w p B (some ⟨b, off, none⟩) n xs) (h1 : 1 ≤ n) : Rd w p B (some ⟨b, off + 1, none⟩) (n - 1) (xs.drop 1) := by
  refine ⟨by have := h.1; simp; omega, fun hn => ?_⟩
  obtain ⟨b', off', e, hb, hne, hc⟩ := h.2 (by omega)
  injection e with e
  injection e with e1 e2
  subst e1 e2
  refine ⟨_, _, rfl, hb, hne, fun j hj => ?_⟩
  rw [Nat.add_assoc, hc (1 + j) (by omega)]
  simp [List.getD, Nat.add_comm]
theorem Rd.none_ {w : World} {p B : Nat} {O : Option Addr} : Rd w p B O 0 [] := ⟨rfl, fun h => absurd h (by omega)⟩

set_option maxHeartbeats 4000000 in
theorem drawAnyN (p : Nat) (A : Option Addr) (n c : Nat) (S : Option Addr) (sn sc : Nat) (sg : List Int) (w : World) (hd : Dice w p A n c) (hr : Rd w p w.heap.size S sn sg) (hsn : sn ≤ 1048576) :
    Calls Try.prog 69 #[.pointer (some ⟨p, 0, none⟩), .agg #[.slice S sn sc]] w (AnsRN w p A n c 65) := by
  have T0 := DT.start (sc := sc) hd hr
  obtain ⟨W, hW⟩ : ∃ W, W = w.alloc (.cells #[.slice S sn sc] 26) := ⟨_, rfl⟩
  rw [← hW] at T0
  have HW := Lib.hid hW
  clear hd hr hW
  have hN := T0.hp
  by_cases hs0 : sn = 0
  · subst hs0
    go_enter Try.func69, Try.ntmps69
    go_wp2_with fail
    rw [← HW.out]
    refine (fromTo p A n c (-2) 2 _ T0.d (by omega) (by omega) (by omega) (by omega)).mono ?_
    rintro e u1 ⟨x, rfl, x0, x1, d1, g1⟩
    obtain ⟨O, on, oc, xs, he, o1, h1, h2, d2, g2⟩ := leaf (L := 1) (T0.dice d1 g1) (Nat.le_refl _) x
    have F : AnsRN w p A n c 65 _ _ := ansRN_own o1 hN (Nat.le_refl _) (by omega) d2 g2
    rw [← he] at F
    have HF := Lib.hid F
    clear F he o1 d2 g2 T0 d1 g1
    go_wp2
    go_ret
    exact HF.out
  · have e0 : ((sn : Int) == 0) = false := by simp; omega
    have L := Lib.hid (specSigOk S sn sc sg W (T0.s.seg.more T0.g.size) hsn)
    cases hok : sigOkB sg with
    | false =>
      have HS := Lib.hid hok
      clear hok
      go_enter Try.func69, Try.ntmps69
      go_wp2_with fail
      rw [← HW.out]
      refine L.out.mono ?_
      rintro e u0 ⟨he, bb⟩
      rw [HS.out] at he
      subst he
      have T1 := T0.below (bb.mono (by have := T0.r.lt; omega))
      clear T0 bb L
      go_wp2_with fail
      refine (fromTo p A n c (-2) 2 _ T1.d (by omega) (by omega) (by omega) (by omega)).mono ?_
      rintro e u1 ⟨x, rfl, x0, x1, d1, g1⟩
      obtain ⟨O, on, oc, xs, he, o1, h1, h2, d2, g2⟩ := leaf (L := 1) (T1.dice d1 g1) (Nat.le_refl _) x
      have F : AnsRN w p A n c 65 _ _ := ansRN_own o1 hN (Nat.le_refl _) (by omega) d2 g2
      rw [← he] at F
      have HF := Lib.hid F
      clear F he o1 d2 g2 T1 d1 g1
      go_wp2
      go_ret
      exact HF.out
    | true =>
      have HS := Lib.hid hok
      have hars := (sig_arities hok).1
      have hl8 := (sig_arities hok).2.2
      have hsl := T0.s.1
      have hs8 : sn ≤ 8 := by omega
      clear hok hsl hl8
      go_enter Try.func69, Try.ntmps69
      go_wp2_with fail
      rw [← HW.out]
      refine L.out.mono ?_
      rintro e u0 ⟨he, bb⟩
      rw [HS.out] at he
      subst he
      have T1 := (T0.below (bb.mono (by have := T0.r.lt; omega))).drew
      have cS : u0.cell? ⟨w.heap.size, 0, none⟩ = some (.slice S sn sc) := T1.r.cell 0
      clear T0 bb L
      go_wp2_with fail
      go_region_held3 (fun w' => w'.cell? ⟨w.heap.size, 0, none⟩ = some (.slice S sn sc))
        (go_keep)
        (first
          | (go_at_call 95; refine (below p A n c 4 _ T1.d (by omega) (by omega)).mono ?_; rintro e u1 ⟨x, rfl, x0, x1, d1, g1⟩; have T2 := T1.dice d1 g1; have cS2 : u1.cell? ⟨w.heap.size, 0, none⟩ = some (.slice S sn sc) := T2.r.cell 0; have hw : IntKind.i64.wrap (1 + x) = 1 + x := by rw [IntKind.wrap_i64]; omega)
          | (go_at_call 111; refine (drawTerm p A n c S sn sc sg 3 hars (by omega) (by omega) (by omega) (by omega) 3 (1 + x) u1 T2.d (T2.s.more T2.g.size) (by omega) (by clear hw; omega) (by clear hw; omega)).mono ?_; rintro e u2 ⟨O, on, oc, xs, rfl, o2, h1, h2, d2, g2⟩; have T3 := T2.dice d2 g2; have cS3 : u2.cell? ⟨w.heap.size, 0, none⟩ = some (.slice S sn sc) := T3.r.cell 0))
      have o3 : Own u2 (w.heap.size + 1) (.slice O on oc) xs := Own.lower o2 (by have := T2.r.lt; omega)
      obtain ⟨gg, rfl⟩ := Own.some_ o3 h1
      have hgg : w.heap.size + 1 ≤ gg := Own.ge o3 gg rfl
      have hL : on ≤ 64 := h2
      clear hw o2 T2 T1 d1 g1 d2 g2 cS cS2 cS3 h2 x0 x1
      have hp1 : p < w.heap.size + 1 := by omega
      go_wp2_with fail
      refine (once p A n c 12 _ T3.d (by omega) (by omega)).mono ?_
      rintro e u3 ⟨b, rfl, d1, g1⟩
      have T4 := T3.dice d1 g1
      have o4 := Own.far o3 g1 (fun k hk => by injection hk; omega)
      clear T3 o3 d1 g1
      cases b with
      | false =>
        have F : AnsRN w p A n c 65 (.returned (.slice (some ⟨gg, 0, none⟩) on oc)) u3 := ansRN_own o4 hp1 (by omega) (by omega) T4.d T4.g
        have HF := Lib.hid F
        clear F T4 o4
        go_wp2
        go_ret
        exact HF.out
      | true =>
        go_wp2_with fail
        refine (below p A n c 4 _ T4.d (by omega) (by omega)).mono ?_
        rintro e u4 ⟨x, rfl, x0, x1, d1, g1⟩
        have T5 := T4.dice d1 g1
        have o5 := Own.far o4 g1 (fun k hk => by injection hk; omega)
        clear T4 o4 d1 g1
        by_cases hx0 : x = 0
        · subst hx0
          go_wp2_with fail
          refine (fromTo p A n c (-2) 3 _ T5.d (by omega) (by omega) (by omega) (by omega)).mono ?_
          rintro e u5 ⟨y, rfl, y0, y1, d1, g1⟩
          have T6 := T5.dice d1 g1
          have o6 := Own.far o5 g1 (fun k hk => by injection hk; omega)
          have z6 := T6.r.lt
          clear T5 o5 d1 g1 x0 x1
          go_wp2_with (at_builtin; refine app1 rfl _ _ rfl (w.heap.size + 1) (some ⟨gg, 0, none⟩) on oc xs rfl (Own.alloc o6 _) u5.heap.size 1 y rfl ((Row.new _ _ _).cell 0) (by omega) (by simp; omega) ?_; intro O' oc' u6 o7 b7)
          have T7 := (T6.below ((Below.refl _ _).alloc (by omega) (.cells #[.int .i64 y] 2))).below b7
          have F : AnsRN w p A n c 65 (.returned (.slice O' (on + 1) oc')) u6 := ansRN_own o7 hp1 (by omega) (by omega) T7.d T7.g
          have HF := Lib.hid F
          clear F T7 T6 o6 o7 b7
          go_wp2
          go_ret
          exact HF.out
        · by_cases hx1 : x = 1
          · subst hx1
            go_wp2_with fail
            refine (below p A n c (on : Int) _ T5.d (by omega) (by omega)).mono ?_
            rintro e u5 ⟨y, rfl, y0, y1, d1, g1⟩
            obtain ⟨k, rfl⟩ := Int.eq_ofNat_of_zero_le y0
            have T6 := T5.dice d1 g1
            have o6 := Own.far o5 g1 (fun k hk => by injection hk; omega)
            clear T5 o5 d1 g1 x0 x1 hx0
            go_wp2_with fail
            refine (fromTo p A n c (-3) 4 _ T6.d (by omega) (by omega) (by omega) (by omega)).mono ?_
            rintro e u6 ⟨z, rfl, z0, z1, d1, g1⟩
            have T7 := T6.dice d1 g1
            have o7 := Own.far o6 g1 (fun k hk => by injection hk; omega)
            have hk : k < on := by omega
            have i1 : (k : Int) < (on : Int) := by omega
            obtain ⟨u, hu⟩ := Own.cellAt o7 hk
            have hf := Own.frozenAt o7 k
            have o8 := Own.put o7 k z
            have T8 := T7.below ((Below.refl (w.heap.size + 1) u6).setCell (p := ⟨gg, k, none⟩) hgg (.int .i64 z))
            have F : AnsRN w p A n c 65 (.returned (.slice (some ⟨gg, 0, none⟩) on oc)) (u6.setCell ⟨gg, k, none⟩ (.int .i64 z)) := ansRN_own o8 hp1 (by omega) (by omega) T8.d T8.g
            have HF := Lib.hid F
            clear F T8 T7 T6 o8 o7 o6 d1 g1
            go_wp2
            go_ret
            exact HF.out
          · by_cases hx2 : x = 2
            · subst hx2
              have hcap := Own.cap o5
              have hrd := Rd.of_own o5 hp1
              by_cases hc1 : oc = 1
              · subst hc1
                have e1 : on = 1 := by omega
                subst e1
                have F : AnsRN w p A n c 65 (.returned (.slice (some ⟨gg, 0, none⟩) 0 0)) u4 := ⟨_, 0, 0, [], rfl, Rd.none_, Nat.le_refl _, by omega, fun e => rfl, by omega, T5.d, T5.g, fun k hk => by (injection hk with e); have e2 : gg = k := e; omega⟩
                have HF := Lib.hid F
                clear F T5 o5 hrd x0 x1 hx0 hx1
                go_wp2
                go_ret
                exact HF.out
              · have F : AnsRN w p A n c 65 (.returned (.slice (some ⟨gg, 0 + 1, none⟩) (on - 1) (oc - 1))) u4 := ⟨_, _, _, _, rfl, Rd.tail hrd h1, by omega, by omega, (fun e => by cases e), by omega, T5.d, T5.g, fun k hk => by (injection hk with e); have e2 : gg = k := e; omega⟩
                have HF := Lib.hid F
                have hc2 : ¬ oc = 1 := hc1
                have i1 : (1 : Int) ≤ (on : Int) := by omega
                have i2 : (1 : Int) ≤ (oc : Int) := by omega
                have i3 : (on : Int) ≤ (oc : Int) := by omega
                have i4 : 1 ≤ on := h1
                have i5 : on ≤ oc := hcap.1
                clear F T5 o5 hrd x0 x1 hx0 hx1 hc1 hcap
                go_wp2
                go_ret
                exact HF.out
            · have e3 : x = 3 := by omega
              subst e3
              clear x0 x1 hx0 hx1 hx2
              go_wp2_with fail
              refine (odd p A n c _ T5.d).mono ?_
              rintro e u5 ⟨y, rfl, d1, g1⟩
              have T6 := T5.dice d1 g1
              have o6 := Own.far o5 g1 (fun k hk => by injection hk; omega)
              have z6 := T6.r.lt
              clear T5 o5 d1 g1
              go_wp2_with (at_builtin; refine app1 rfl _ _ rfl (w.heap.size + 1) (some ⟨gg, 0, none⟩) on oc xs rfl (Own.alloc o6 _) u5.heap.size 1 y rfl ((Row.new _ _ _).cell 0) (by omega) (by simp; omega) ?_; intro O' oc' u6 o7 b7)
              have T7 := (T6.below ((Below.refl _ _).alloc (by omega) (.cells #[.int .i64 y] 2))).below b7
              have F : AnsRN w p A n c 65 (.returned (.slice O' (on + 1) oc')) u6 := ansRN_own o7 hp1 (by omega) (by omega) T7.d T7.g
              have HF := Lib.hid F
              clear F T7 T6 o6 o7 b7
              go_wp2
              go_ret
              exact HF.out

theorem drawAny (p : Nat) (A : Option Addr) (n c : Nat) (S : Option Addr) (sn sc : Nat) (sg : List Int) (w : World) (hd : Dice w p A n c) (hr : Rd w p w.heap.size S sn sg) (hsn : sn ≤ 1048576) :
    Calls Try.prog 69 #[.pointer (some ⟨p, 0, none⟩), .agg #[.slice S sn sc]] w (AnsR w p A n c 65) :=
  (drawAnyN p A n c S sn sc sg w hd hr hsn).mono fun _ _ ⟨O, on, oc, xs, h1, h2, h3, h4, h5, h6, h7, h8, _⟩ => ⟨O, on, oc, xs, h1, h2, h3, h4, h5, h6, h7, h8⟩
end Go.Proofs.Ytkmhnkljigncmaa.drawAny
end

section
/-
  CONTRACT: spec.l1New. Conditions: at most 4096 bytes. By an AI agent.
-/
namespace Go.Proofs.Ytkmhnkljigncmaa.drawTwo
open Go.RowKit Go.Proofs.Ytkmhnkljigncmaa.base Go.Proofs.Ytkmhnkljigncmaa.ints Go.Proofs.Ytkmhnkljigncmaa.sig Go.Proofs.Ytkmhnkljigncmaa.term Go.Proofs.Ytkmhnkljigncmaa.cursor Go.Proofs.Ytkmhnkljigncmaa.termOk Go.Proofs.Ytkmhnkljigncmaa.marks Go.Proofs.Ytkmhnkljigncmaa.app Go.Proofs.Ytkmhnkljigncmaa.sym Go.Proofs.Ytkmhnkljigncmaa.dice Go.Proofs.Ytkmhnkljigncmaa.drawSig Go.Proofs.Ytkmhnkljigncmaa.drawTerm Go.Proofs.Ytkmhnkljigncmaa.drawAny
set_option maxRecDepth 100000

/-- a new cursor -/
def AnsNew (w : World) (A : Option Addr) (n c : Nat) (e : Ending) (w' : World) : Prop := ∃ p, e = .returned (.pointer (some ⟨p, 0, none⟩)) ∧ w.heap.size ≤ p ∧ Dice w' p A n c ∧ Below w.heap.size w w'

set_option maxHeartbeats 1000000 in
theorem new_ (A : Option Addr) (n c : Nat) (w : World) (h : SegB w w.heap.size A n) (hn : n ≤ 4096) :
    Calls Try.prog 55 #[.slice A n c] w (AnsNew w A n c) := by
  go_enter Try.func55, Try.ntmps55
  go_wp2_with fail
  go_loop [3, 4] (fun hh i => ∃ (k : Nat) (h0 : Int), k ≤ n ∧ i = .int .i64 k ∧ hh = .int .i64 h0) (fun _ i => n - (intOf i).toNat)
  case atStart => exact ⟨0, _, Nat.zero_le _, rfl, rfl⟩
  case round =>
    obtain ⟨k, h0, hk, rfl, rfl⟩ := hrel
    by_cases hlt : k < n
    · obtain ⟨b, off, rfl, hb, hc⟩ := h (by omega)
      obtain ⟨y, hy0, hy1, hy⟩ := hc k hlt
      clear hc h
      go_wp2
      go_round
      case rel => exact ⟨k + 1, _, hlt, by go_num, rfl⟩
      case measure => simp [intOf]; omega
    · have F : AnsNew w A n c (.returned (.pointer (some ⟨w.heap.size, 0, none⟩))) (w.alloc (.cells #[.slice A n c, .int .i64 0, .int .i64 h0] 92)) :=
        ⟨_, rfl, Nat.le_refl _, ⟨0, h0, Row.new _ _ _, Nat.zero_le _, h.keep (fun q hq => World.cell?_alloc_lt w _ q hq), hn⟩, (Below.refl _ _).alloc (Nat.le_refl _) _⟩
      have HF := Lib.hid F
      clear F h
      go_wp2
      go_ret
      exact HF.out

end Go.Proofs.Ytkmhnkljigncmaa.drawTwo
end

section
/-
  SMALL FACTS for what draws a signature and more: a store into a variable of the caller's leaves the drawn alone. Conditions: none. By an AI agent.
-/
namespace Go.Proofs.Ytkmhnkljigncmaa.drawPair
open Go.RowKit Go.Proofs.Ytkmhnkljigncmaa.base Go.Proofs.Ytkmhnkljigncmaa.ints Go.Proofs.Ytkmhnkljigncmaa.sig Go.Proofs.Ytkmhnkljigncmaa.term Go.Proofs.Ytkmhnkljigncmaa.cursor Go.Proofs.Ytkmhnkljigncmaa.termOk Go.Proofs.Ytkmhnkljigncmaa.marks Go.Proofs.Ytkmhnkljigncmaa.app Go.Proofs.Ytkmhnkljigncmaa.sym Go.Proofs.Ytkmhnkljigncmaa.dice Go.Proofs.Ytkmhnkljigncmaa.drawSig Go.Proofs.Ytkmhnkljigncmaa.drawTerm Go.Proofs.Ytkmhnkljigncmaa.drawAny Go.Proofs.Ytkmhnkljigncmaa.drawTwo
set_option maxRecDepth 100000

/-- a cell that holds a slice is no cell of numbers -/
theorem Rd.other {w : World} {p B N : Nat} {O : Option Addr} {on : Nat} {xs : List Int} {a : Option Addr} {l k : Nat} (h : Rd w p B O on xs) (hN : w.cell? ⟨N, 0, none⟩ = some (.slice a l k)) (u : Value) : Rd (w.setCell ⟨N, 0, none⟩ u) p B O on xs :=
  ⟨h.1, fun hn => by
    obtain ⟨b, off, e, hb, hne, hc⟩ := h.2 hn
    refine ⟨b, off, e, hb, hne, fun j hj => ?_⟩
    rw [World.cell?_setCell_other w _ _ _ (fun e => by rw [e] at hN; rw [hc j hj] at hN; cases hN)]
    exact hc j hj⟩
theorem Dice.other {w : World} {p N : Nat} {A : Option Addr} {n c : Nat} {a : Option Addr} {l k : Nat} (d : Dice w p A n c) (hN : w.cell? ⟨N, 0, none⟩ = some (.slice a l k)) (hp : p ≠ N) (u : Value) : Dice (w.setCell ⟨N, 0, none⟩ u) p A n c := by
  obtain ⟨i, h, d⟩ := d
  refine ⟨i, h, d.row.far (p := ⟨N, 0, none⟩) hp u, d.le, fun hn => ?_, d.hn⟩
  obtain ⟨b, off, e, hb, hc⟩ := d.s hn
  refine ⟨b, off, e, hb, fun j hj => ?_⟩
  obtain ⟨x, x0, x1, hx⟩ := hc j hj
  refine ⟨x, x0, x1, ?_⟩
  rw [World.cell?_setCell_other w _ _ _ (fun e => by rw [e] at hN; rw [hx] at hN; cases hN)]
  exact hx

/-- a drawn signature and a drawn list -/
def AnsPair (w : World) (e : Ending) (w' : World) : Prop :=
  ∃ S sn sc sg O on oc xs, e = .returned (.tuple #[.agg #[.slice S sn sc], .slice O on oc]) ∧ Seg w' w'.heap.size S sn sg ∧ Seg w' w'.heap.size O on xs ∧ sn ≤ 9 ∧ on ≤ 65 ∧ on ≤ oc ∧ oc ≤ 9223372036854775807 ∧ Below w.heap.size w w'

theorem pair_of {w u : World} {p : Nat} {S : Option Addr} {sn sc : Nat} {sg : List Int} {O : Option Addr} {on oc : Nat} {xs : List Int} {B : Nat} {a : Option Addr} {l k : Nat} (hs : Rd u p B S sn sg) (hB : B ≤ u.heap.size) (ho : Rd u p u.heap.size O on xs)
    (h1 : sn ≤ 9) (h2 : on ≤ 65) (h3 : on ≤ oc) (h4 : oc ≤ 9223372036854775807) (hb : Below w.heap.size w u) (hN : u.cell? ⟨w.heap.size, 0, none⟩ = some (.slice a l k)) :
    AnsPair w (.returned (.tuple #[.agg #[.slice S sn sc], .slice O on oc])) (u.setCell ⟨w.heap.size, 0, none⟩ (.slice S sn sc)) :=
  ⟨S, sn, sc, sg, O, on, oc, xs, rfl, (Rd.other (Rd.more hs hB) hN _).seg.more (by simp), (Rd.other ho hN _).seg.more (by simp), h1, h2, h3, h4, hb.setCell (Nat.le_refl _) _⟩

theorem Dice.unN {w : World} {p : Nat} {A : Option Addr} {n c : Nat} (d : Dice w.drew p A n c) : Dice w p A n c := by
  obtain ⟨i, h, d⟩ := d
  exact ⟨i, h, d.row, d.le, d.s, d.hn⟩

end Go.Proofs.Ytkmhnkljigncmaa.drawPair
end

section
/-
  CONTRACT: spec.l2DrawOne: a drawn signature and a drawn list, off a cursor. Conditions: a drawing cursor. By an AI agent.
-/
namespace Go.Proofs.Ytkmhnkljigncmaa.drawOne
open Go.RowKit Go.Proofs.Ytkmhnkljigncmaa.base Go.Proofs.Ytkmhnkljigncmaa.ints Go.Proofs.Ytkmhnkljigncmaa.sig Go.Proofs.Ytkmhnkljigncmaa.term Go.Proofs.Ytkmhnkljigncmaa.cursor Go.Proofs.Ytkmhnkljigncmaa.termOk Go.Proofs.Ytkmhnkljigncmaa.marks Go.Proofs.Ytkmhnkljigncmaa.app Go.Proofs.Ytkmhnkljigncmaa.sym Go.Proofs.Ytkmhnkljigncmaa.dice Go.Proofs.Ytkmhnkljigncmaa.drawSig Go.Proofs.Ytkmhnkljigncmaa.drawTerm Go.Proofs.Ytkmhnkljigncmaa.drawAny Go.Proofs.Ytkmhnkljigncmaa.drawPair

/-- a new block is written -/
theorem grown_set {a b : World} {r : Option Nat} (h : a.grownBy b r) {q : Nat} (hq : a.heap.size ≤ q) (i : Nat) (u : Value) : a.grownBy (b.setCell ⟨q, i, none⟩ u) r :=
  ⟨h.os, h.tape, h.output, by simpa [World.setCell] using h.size, fun k hk hn => (Below.heap_setCell _ _ _ _ (by show k ≠ q; omega)).trans (h.block k hk hn)⟩
theorem Rd.drew {w : World} {p B : Nat} {A : Option Addr} {n : Nat} {xs : List Int} (h : Rd w p B A n xs) : Rd w.drew p B A n xs := h

/-- a drawn signature and a drawn list, off a cursor -/
def AnsOne (w : World) (p : Nat) (A : Option Addr) (n c : Nat) (e : Ending) (w' : World) : Prop :=
  ∃ S sn sc sg O on oc xs, e = .returned (.tuple #[.agg #[.slice S sn sc], .slice O on oc]) ∧ Rd w' p w'.heap.size S sn sg ∧ Rd w' p w'.heap.size O on xs ∧ sn ≤ 9 ∧ on ≤ 65 ∧ on ≤ oc ∧ oc ≤ 9223372036854775807 ∧ Dice w' p A n c ∧ w.grownBy w' (some p)

theorem one_of {w u : World} {p : Nat} {A : Option Addr} {n c : Nat} {S : Option Addr} {sn sc : Nat} {sg : List Int} {O : Option Addr} {on oc : Nat} {xs : List Int} {B : Nat} {a : Option Addr} {l k : Nat} (hs : Rd u p B S sn sg) (hB : B ≤ u.heap.size) (ho : Rd u p u.heap.size O on xs)
    (h1 : sn ≤ 9) (h2 : on ≤ 65) (h3 : on ≤ oc) (h4 : oc ≤ 9223372036854775807) (d : Dice u p A n c) (hp : p < w.heap.size) (hg : w.grownBy u (some p)) (hN : u.cell? ⟨w.heap.size, 0, none⟩ = some (.slice a l k)) :
    AnsOne w p A n c (.returned (.tuple #[.agg #[.slice S sn sc], .slice O on oc])) (u.setCell ⟨w.heap.size, 0, none⟩ (.slice S sn sc)) :=
  ⟨S, sn, sc, sg, O, on, oc, xs, rfl, (Rd.other (Rd.more hs hB) hN _).more (by simp), (Rd.other ho hN _).more (by simp), h1, h2, h3, h4, Dice.other d hN (by omega) _, grown_set hg (Nat.le_refl _) _ _⟩

end Go.Proofs.Ytkmhnkljigncmaa.drawOne
end

section
/-
  PLAIN MATHEMATICS of terms, more: a scan parts in two, within a term each place begins a term; the places of arguments; the depth. Conditions: none. By an AI agent.
-/
namespace Go.Proofs.Ytkmhnkljigncmaa.term

theorem scan_split {sg : List Int} : ∀ {l : List Int} {p q j : Nat}, scan sg (p + q) l = some j → ∃ i, i ≤ j ∧ scan sg p l = some i ∧ scan sg q (l.drop i) = some (j - i) := by
  intro l
  induction l with
  | nil =>
    intro p q j h
    cases p with
    | zero => exact ⟨0, Nat.zero_le _, rfl, by simpa using h⟩
    | succ p => rw [show p + 1 + q = (p + q) + 1 by omega, scan_nil] at h; cases h
  | cons x r ih =>
    intro p q j h
    cases p with
    | zero => exact ⟨0, Nat.zero_le _, rfl, by simpa using h⟩
    | succ p =>
      rw [show p + 1 + q = (p + q) + 1 by omega] at h
      by_cases ha : ar sg x < 0
      · rw [scan_bad ha] at h; cases h
      · rw [scan_step ha] at h
        obtain ⟨j', hj', rfl⟩ := Option.map_eq_some_iff.1 h
        rw [show p + q + (ar sg x).toNat = (p + (ar sg x).toNat) + q by omega] at hj'
        obtain ⟨i, h1, h2, h3⟩ := ih hj'
        refine ⟨i + 1, by omega, by rw [scan_step ha, h2]; rfl, ?_⟩
        rw [List.drop_succ_cons, h3]
        congr 1
        omega

theorem scan_tail {sg : List Int} : ∀ {l : List Int} {q j a : Nat}, scan sg q l = some j → a < j → ∃ q', scan sg (q' + 1) (l.drop a) = some (j - a) := by
  intro l
  induction l with
  | nil =>
    intro q j a h ha
    cases q with
    | zero => rw [scan_zero] at h; injection h; omega
    | succ q => rw [scan_nil] at h; cases h
  | cons x r ih =>
    intro q j a h ha
    cases q with
    | zero => rw [scan_zero] at h; injection h; omega
    | succ q =>
      cases a with
      | zero => exact ⟨q, h⟩
      | succ a =>
        by_cases hx : ar sg x < 0
        · rw [scan_bad hx] at h; cases h
        · rw [scan_step hx] at h
          obtain ⟨j', hj', rfl⟩ := Option.map_eq_some_iff.1 h
          obtain ⟨q', h'⟩ := ih (a := a) hj' (by omega)
          exact ⟨q', by rw [List.drop_succ_cons, h']; congr 1; omega⟩

theorem scan_pos {sg : List Int} {l : List Int} {q j : Nat} (h : scan sg (q + 1) l = some j) : 1 ≤ j := by
  cases l with
  | nil => rw [scan_nil] at h; cases h
  | cons x r =>
    by_cases hx : ar sg x < 0
    · rw [scan_bad hx] at h; cases h
    · rw [scan_step hx] at h
      obtain ⟨j', _, rfl⟩ := Option.map_eq_some_iff.1 h
      omega

theorem scan_le {sg : List Int} : ∀ {l : List Int} {q j : Nat}, scan sg q l = some j → j ≤ l.length := by
  intro l
  induction l with
  | nil =>
    intro q j h
    cases q with
    | zero => rw [scan_zero] at h; injection h; omega
    | succ q => rw [scan_nil] at h; cases h
  | cons x r ih =>
    intro q j h
    cases q with
    | zero => rw [scan_zero] at h; injection h; omega
    | succ q =>
      by_cases hx : ar sg x < 0
      · rw [scan_bad hx] at h; cases h
      · rw [scan_step hx] at h
        obtain ⟨j', hj', rfl⟩ := Option.map_eq_some_iff.1 h
        have := ih hj'
        simp
        omega

/-- within a term each place begins a term -/
theorem scan_at {sg t : List Int} (h : scan sg 1 t = some t.length) {a : Nat} (ha : a < t.length) : ∃ j, scan sg 1 (t.drop a) = some j ∧ 1 ≤ j ∧ a + j ≤ t.length := by
  obtain ⟨q', h'⟩ := scan_tail h ha
  rw [Nat.add_comm] at h'
  obtain ⟨i, h1, h2, _⟩ := scan_split h'
  have h3 := scan_pos (q := 0) h2
  exact ⟨i, h2, h3, by omega⟩

/-- the arguments of what begins at a place: so many terms from the next place on -/
theorem scan_args {sg t : List Int} {a j : Nat} (h : scan sg 1 (t.drop a) = some j) : ∃ i, j = i + 1 ∧ a < t.length ∧ ¬ ar sg (t.getD a 0) < 0 ∧ scan sg (ar sg (t.getD a 0)).toNat (t.drop (a + 1)) = some i := by
  by_cases ha : a < t.length
  · rw [drop_cons ha] at h
    by_cases hx : ar sg (t.getD a 0) < 0
    · rw [scan_bad hx] at h; cases h
    · rw [scan_step hx, Nat.zero_add] at h
      obtain ⟨i, hi, rfl⟩ := Option.map_eq_some_iff.1 h
      exact ⟨i, rfl, ha, hx, hi⟩
  · rw [List.drop_eq_nil_of_le (by omega), scan_nil] at h; cases h

/-- so many terms: the first one, and the rest behind it -/
theorem scan_first {sg t : List Int} {q a i : Nat} (h : scan sg (q + 1) (t.drop a) = some i) : ∃ j, scan sg 1 (t.drop a) = some j ∧ 1 ≤ j ∧ j ≤ i ∧ scan sg q (t.drop (a + j)) = some (i - j) := by
  rw [Nat.add_comm] at h
  obtain ⟨j, h1, h2, h3⟩ := scan_split h
  rw [List.drop_drop] at h3
  exact ⟨j, h2, scan_pos (q := 0) h2, h1, h3⟩

/-- how far what begins at a place reaches -/
def len1 (sg t : List Int) (a : Nat) : Nat := (scan sg 1 (t.drop a)).getD 0
theorem len1_eq {sg t : List Int} {a j : Nat} (h : scan sg 1 (t.drop a) = some j) : len1 sg t a = j := by unfold len1; rw [h]; rfl

/-- the places of so many terms from a place on -/
def places (sg t : List Int) : Nat → Nat → List Int
  | 0, _ => []
  | k + 1, p => (p : Int) :: places sg t k (p + len1 sg t p)

/-- the greatest of what g gives for so many terms from a place on -/
def maxOver (sg t : List Int) (g : Nat → Int) : Nat → Nat → Int
  | 0, _ => 0
  | k + 1, p => max (g p) (maxOver sg t g k (p + len1 sg t p))

/-- the depth of what begins at a place (fuel first) -/
def dep (sg t : List Int) : Nat → Nat → Int
  | 0, _ => 0
  | f + 1, a => maxOver sg t (dep sg t f) (ar sg (t.getD a 0)).toNat (a + 1) + 1

theorem maxOver_bd {sg t : List Int} {g : Nat → Int} {B : Int} (hB : 0 ≤ B) (hg : ∀ p, 0 ≤ g p ∧ g p ≤ B) : ∀ k p, 0 ≤ maxOver sg t g k p ∧ maxOver sg t g k p ≤ B
  | 0, _ => by simp [maxOver, hB]
  | k + 1, p => by
    have h1 := hg p
    have h2 := maxOver_bd (sg := sg) (t := t) hB hg k (p + len1 sg t p)
    simp only [maxOver]
    omega
theorem dep_bd {sg t : List Int} : ∀ f a, 0 ≤ dep sg t f a ∧ dep sg t f a ≤ f
  | 0, _ => by simp [dep]
  | f + 1, a => by
    have := maxOver_bd (sg := sg) (t := t) (g := dep sg t f) (B := f) (by omega) (fun p => dep_bd (sg := sg) (t := t) f p) (ar sg (t.getD a 0)).toNat (a + 1)
    simp only [dep]
    omega
theorem places_len {sg t : List Int} : ∀ k p, (places sg t k p).length = k
  | 0, _ => rfl
  | k + 1, p => by simp [places, places_len]
end Go.Proofs.Ytkmhnkljigncmaa.term
end

section
/-
  PLAIN MATHEMATICS of valid terms: their parts, the numbers in them. Conditions: none. By an AI agent.
-/
namespace Go.Proofs.Ytkmhnkljigncmaa.termFacts
open Go.Proofs.Ytkmhnkljigncmaa.sig Go.Proofs.Ytkmhnkljigncmaa.term Go.Proofs.Ytkmhnkljigncmaa.termOk

theorem term_parts {sg t : List Int} (h : termOkB sg t = true) : sigOkB sg = true ∧ t.length ≤ 60 ∧ scan sg 1 t = some t.length := by
  unfold termOkB termB at h
  simp only [Bool.and_eq_true, decide_eq_true_eq] at h
  exact h
theorem term_mk {sg t : List Int} (h1 : sigOkB sg = true) (h2 : t.length ≤ 60) (h3 : scan sg 1 t = some t.length) : termOkB sg t = true := by
  unfold termOkB termB
  simp [h1, h2, h3]
theorem term_len {sg t : List Int} (h : termOkB sg t = true) : 1 ≤ t.length ∧ t.length ≤ 60 := ⟨scan_pos (q := 0) (term_parts h).2.2, (term_parts h).2.1⟩
theorem term_ar {sg t : List Int} (h : termOkB sg t = true) {j : Nat} (hj : j < t.length) : ¬ ar sg (t.getD j 0) < 0 := by
  obtain ⟨i, h1, _, _⟩ := scan_at (term_parts h).2.2 hj
  obtain ⟨_, _, _, h2, _⟩ := scan_args h1
  exact h2
/-- each number is a variable or a symbol -/
theorem term_num {sg t : List Int} (h : termOkB sg t = true) {j : Nat} (hj : j < t.length) : -24 ≤ t.getD j 0 ∧ t.getD j 0 < 8 := by
  have h1 := term_ar h hj
  have h2 := (sig_arities (term_parts h).1).2
  unfold ar at h1
  split at h1
  · omega
  · split at h1
    · omega
    · omega
theorem term_mem {sg t : List Int} (h : termOkB sg t = true) {x : Int} (hx : x ∈ t) : -24 ≤ x ∧ x < 8 := by
  obtain ⟨j, hj, rfl⟩ := List.getElem_of_mem hx
  have := term_num h hj
  simpa [List.getD, hj] using this
end Go.Proofs.Ytkmhnkljigncmaa.termFacts
end

section
/-
  PLAIN MATHEMATICS of the variables of a term: a number put into a rising list ('into'), all of them ('vars'); sorted and compacted it is the same list. Conditions: none. By an AI agent.
-/
namespace Go.Proofs.Ytkmhnkljigncmaa.varsMath
open Go.Proofs.Ytkmhnkljigncmaa.term Go.Proofs.Ytkmhnkljigncmaa.termOk

/-- with one more, rising -/
def into : List Int → Int → List Int
  | [], n => [n]
  | y :: r, n => if y < n then y :: into r n else if y = n then y :: r else n :: y :: r
theorem into_end : ∀ {xs : List Int} {n : Int}, (∀ j, j < xs.length → xs.getD j 0 < n) → into xs n = xs ++ [n]
  | [], _, _ => rfl
  | y :: r, n, h => by
    have h0 : y < n := by simpa using h 0 (by simp)
    rw [into, if_pos h0, into_end (fun j hj => by simpa using h (j + 1) (by simpa using hj))]
    rfl
theorem into_at : ∀ {xs : List Int} {n : Int} {k : Nat}, k < xs.length → (∀ j, j < k → xs.getD j 0 < n) → xs.getD k 0 = n → into xs n = xs
  | [], _, _, hk, _, _ => absurd hk (Nat.not_lt_zero _)
  | y :: r, n, 0, _, _, e => by
    have e : y = n := by simpa using e
    rw [into, if_neg (by omega), if_pos e]
  | y :: r, n, k + 1, hk, h, e => by
    have h0 : y < n := by simpa using h 0 (by simp)
    rw [into, if_pos h0, into_at (k := k) (by simpa using hk) (fun j hj => by simpa using h (j + 1) (by omega)) (by simpa using e)]
theorem into_mid : ∀ {xs : List Int} {n : Int} {k : Nat}, k < xs.length → (∀ j, j < k → xs.getD j 0 < n) → n < xs.getD k 0 → into xs n = (xs.take k ++ [n]) ++ xs.drop k
  | [], _, _, hk, _, _ => absurd hk (Nat.not_lt_zero _)
  | y :: r, n, 0, _, _, e => by
    have e : n < y := by simpa using e
    rw [into, if_neg (by omega), if_neg (by omega)]
    rfl
  | y :: r, n, k + 1, hk, h, e => by
    have h0 : y < n := by simpa using h 0 (by simp)
    rw [into, if_pos h0, into_mid (k := k) (by simpa using hk) (fun j hj => by simpa using h (j + 1) (by omega)) (by simpa using e)]
    rfl
theorem into_mem {xs : List Int} {n x : Int} : x ∈ into xs n ↔ x = n ∨ x ∈ xs := by
  induction xs with
  | nil => simp [into]
  | cons y r ih =>
    rw [into]
    split
    · rw [List.mem_cons, ih, List.mem_cons]
      constructor
      · rintro (h | h | h)
        · exact .inr (.inl h)
        · exact .inl h
        · exact .inr (.inr h)
      · rintro (h | h | h)
        · exact .inr (.inl h)
        · exact .inl h
        · exact .inr (.inr h)
    · split
      · rename_i h1 h2
        subst h2
        simp
      · simp
theorem into_len (xs : List Int) (n : Int) : (into xs n).length ≤ xs.length + 1 := by
  induction xs with
  | nil => simp [into]
  | cons y r ih =>
    rw [into]
    split
    · simp; omega
    · split <;> simp
/-- rising -/
abbrev Rises (xs : List Int) : Prop := xs.Pairwise (· < ·)
theorem into_rises {xs : List Int} {n : Int} (h : Rises xs) : Rises (into xs n) := by
  induction xs with
  | nil => simp [into, Rises]
  | cons y r ih =>
    have h1 := List.pairwise_cons.1 h
    rw [into]
    split
    · rename_i hy
      refine List.pairwise_cons.2 ⟨fun z hz => ?_, ih h1.2⟩
      rcases into_mem.1 hz with e | e
      · omega
      · exact h1.1 z e
    · split
      · exact h
      · rename_i a b
        refine List.pairwise_cons.2 ⟨fun z hz => ?_, h⟩
        rcases List.mem_cons.1 hz with e | e
        · omega
        · have := h1.1 z e; omega
/-- two rising lists of the same numbers are one -/
theorem rises_unique : ∀ {xs ys : List Int}, Rises xs → Rises ys → (∀ x, x ∈ xs ↔ x ∈ ys) → xs = ys
  | [], [], _, _, _ => rfl
  | [], y :: r, _, _, h => by have := (h y).2 (List.mem_cons_self ..); cases this
  | x :: r, [], _, _, h => by have := (h x).1 (List.mem_cons_self ..); cases this
  | x :: r, y :: q, hx, hy, h => by
    have h1 := List.pairwise_cons.1 hx
    have h2 := List.pairwise_cons.1 hy
    have e : x = y := by
      have a := (h x).1 (List.mem_cons_self ..)
      have b := (h y).2 (List.mem_cons_self ..)
      rcases List.mem_cons.1 a with a | a
      · exact a
      · rcases List.mem_cons.1 b with b | b
        · exact b.symm
        · have := h1.1 y b
          have := h2.1 x a
          omega
    subst e
    rw [rises_unique h1.2 h2.2 (fun z => ?_)]
    constructor
    · intro hz
      rcases List.mem_cons.1 ((h z).1 (List.mem_cons_of_mem _ hz)) with e | e
      · have := h1.1 z hz; omega
      · exact e
    · intro hz
      rcases List.mem_cons.1 ((h z).2 (List.mem_cons_of_mem _ hz)) with e | e
      · have := h2.1 z hz; omega
      · exact e

/-- the variables' numbers, in the order in which they stand -/
def negs (t : List Int) : List Int := (t.filter fun n => decide (n < 0)).map fun n => -1 - n
/-- the variables' numbers, rising -/
def vars (t : List Int) : List Int := (negs t).foldl into []
theorem negs_snoc_yes {t : List Int} {x : Int} (h : x < 0) : negs (t ++ [x]) = negs t ++ [-1 - x] := by simp [negs, h]
theorem negs_snoc_no {t : List Int} {x : Int} (h : ¬ x < 0) : negs (t ++ [x]) = negs t := by simp [negs, h]
theorem take_snoc {t : List Int} {k : Nat} (hk : k < t.length) {x : Int} (hx : t.getD k 0 = x) : t.take (k + 1) = t.take k ++ [x] := by
  rw [List.take_succ_eq_append_getElem hk, ← hx]
  simp [List.getD, hk]
theorem negs_yes {t : List Int} {k : Nat} {x : Int} (hk : k < t.length) (hx : t.getD k 0 = x) (h : x < 0) : negs (t.take (k + 1)) = negs (t.take k) ++ [-1 - x] := by rw [take_snoc hk hx, negs_snoc_yes h]
theorem negs_no {t : List Int} {k : Nat} {x : Int} (hk : k < t.length) (hx : t.getD k 0 = x) (h : ¬ x < 0) : negs (t.take (k + 1)) = negs (t.take k) := by rw [take_snoc hk hx, negs_snoc_no h]
theorem vars_yes {t : List Int} {k : Nat} {x : Int} (hk : k < t.length) (hx : t.getD k 0 = x) (h : x < 0) : vars (t.take (k + 1)) = into (vars (t.take k)) (-1 - x) := by
  unfold vars; rw [negs_yes hk hx h, List.foldl_append]; rfl
theorem vars_no {t : List Int} {k : Nat} {x : Int} (hk : k < t.length) (hx : t.getD k 0 = x) (h : ¬ x < 0) : vars (t.take (k + 1)) = vars (t.take k) := by unfold vars; rw [negs_no hk hx h]
theorem negs_len (t : List Int) : (negs t).length ≤ t.length := by unfold negs; rw [List.length_map]; exact List.length_filter_le _ _
theorem fold_len : ∀ (l xs : List Int), (l.foldl into xs).length ≤ xs.length + l.length
  | [], _ => by simp
  | n :: l, xs => by have := fold_len l (into xs n); have := into_len xs n; simp; omega
theorem vars_len (t : List Int) : (vars t).length ≤ t.length := by have := fold_len (negs t) []; have := negs_len t; unfold vars; simp at *; omega
theorem fold_mem {x : Int} : ∀ {l xs : List Int}, x ∈ l.foldl into xs ↔ x ∈ xs ∨ x ∈ l
  | [], _ => by simp
  | n :: l, xs => by
    rw [List.foldl_cons, fold_mem, into_mem, List.mem_cons]
    constructor
    · rintro ((h | h) | h)
      · exact .inr (.inl h)
      · exact .inl h
      · exact .inr (.inr h)
    · rintro (h | h | h)
      · exact .inl (.inr h)
      · exact .inl (.inl h)
      · exact .inr h
theorem fold_rises : ∀ {l xs : List Int}, Rises xs → Rises (l.foldl into xs)
  | [], _, h => h
  | n :: l, xs, h => by rw [List.foldl_cons]; exact fold_rises (into_rises h)
theorem vars_mem {t : List Int} {x : Int} : x ∈ vars t ↔ x ∈ negs t := by unfold vars; rw [fold_mem]; simp
theorem vars_rises (t : List Int) : Rises (vars t) := fold_rises List.Pairwise.nil

/-! ### sorted and compacted -/
/-- what VarsOf answers -/
def varsI (sg t : List Int) : List Int := if termOkB sg t = true then vars t else []
theorem varsI_len {sg t : List Int} {m : Nat} (h : t.length = m) (hm : m ≤ 1048576) : (varsI sg t).length ≤ 1048576 := by
  unfold varsI
  split
  · have := vars_len t; omega
  · simp
end Go.Proofs.Ytkmhnkljigncmaa.varsMath
end

section
/-
  PLAIN MATHEMATICS of replacing: a list with each variable replaced ('fillL'), by a substitution ('gives'), by a shift; terms stay terms. Conditions: none. By an AI agent.
-/
namespace Go.Proofs.Ytkmhnkljigncmaa.fillMath
open Go.Proofs.Ytkmhnkljigncmaa.sig Go.Proofs.Ytkmhnkljigncmaa.term Go.Proofs.Ytkmhnkljigncmaa.termOk Go.Proofs.Ytkmhnkljigncmaa.termFacts Go.Proofs.Ytkmhnkljigncmaa.varsMath

/-- the term that is variable i -/
def vt (i : Nat) : List Int := [-1 - (i : Int)]
/-- one number replaced -/
def rep (L : Nat → List Int) (n : Int) : List Int := if 0 ≤ n then [n] else L (-1 - n).toNat
/-- a list with each variable replaced -/
def fillL (L : Nat → List Int) (t : List Int) : List Int := t.flatMap (rep L)
theorem rep_sym {L : Nat → List Int} {n : Int} (h : 0 ≤ n) : rep L n = [n] := by unfold rep; rw [if_pos h]
theorem rep_var {L : Nat → List Int} {n : Int} (h : n < 0) : rep L n = L (-1 - n).toNat := by unfold rep; rw [if_neg (by omega)]
theorem fill_nil (L : Nat → List Int) : fillL L [] = [] := rfl
theorem fill_cons (L : Nat → List Int) (x : Int) (r : List Int) : fillL L (x :: r) = rep L x ++ fillL L r := by simp [fillL]
theorem fill_append (L : Nat → List Int) (a b : List Int) : fillL L (a ++ b) = fillL L a ++ fillL L b := by simp [fillL]
theorem fill_take {L : Nat → List Int} {t : List Int} {k : Nat} {x : Int} (hk : k < t.length) (hx : t.getD k 0 = x) : fillL L (t.take (k + 1)) = fillL L (t.take k) ++ rep L x := by
  rw [take_snoc hk hx, fill_append, fill_cons, fill_nil, List.append_nil]
theorem rep_len {L : Nat → List Int} {M : Nat} (h1 : 1 ≤ M) (hM : ∀ i, (L i).length ≤ M) (n : Int) : (rep L n).length ≤ M := by
  unfold rep
  split
  · simpa using h1
  · exact hM _
theorem fill_len {L : Nat → List Int} {M : Nat} (h1 : 1 ≤ M) (hM : ∀ i, (L i).length ≤ M) : ∀ t : List Int, (fillL L t).length ≤ t.length * M
  | [] => by simp [fill_nil]
  | x :: r => by
    have h2 := rep_len h1 hM x
    have h3 := fill_len h1 hM r
    rw [fill_cons, List.length_append, List.length_cons, Nat.add_mul]
    omega
/-- nothing grows shorter -/
theorem fill_ge {L : Nat → List Int} (h1 : ∀ i, 1 ≤ (L i).length) : ∀ t : List Int, t.length ≤ (fillL L t).length
  | [] => by simp
  | x :: r => by
    have h3 := fill_ge h1 r
    have h2 : 1 ≤ (rep L x).length := by
      unfold rep
      split
      · simp
      · exact h1 _
    rw [fill_cons, List.length_append, List.length_cons]
    omega
theorem fill_ext {L L' : Nat → List Int} : ∀ {t : List Int}, (∀ x ∈ t, x < 0 → L (-1 - x).toNat = L' (-1 - x).toNat) → fillL L t = fillL L' t
  | [], _ => rfl
  | x :: r, h => by
    rw [fill_cons, fill_cons, fill_ext (fun y hy => h y (List.mem_cons_of_mem _ hy))]
    congr 1
    unfold rep
    split
    · rfl
    · exact h x (List.mem_cons_self ..) (by omega)
/-- one after the other -/
theorem fill_fill {L U : Nat → List Int} : ∀ t : List Int, fillL U (fillL L t) = fillL (fun i => fillL U (L i)) t
  | [] => rfl
  | x :: r => by
    rw [fill_cons, fill_append, fill_cons, fill_fill r]
    congr 1
    unfold rep
    by_cases h : 0 ≤ x
    · rw [if_pos h, if_pos h, fill_cons, fill_nil, List.append_nil, rep_sym h]
    · rw [if_neg h, if_neg h]

/-! ### terms stay terms -/
theorem scan_join {sg : List Int} : ∀ {l l' : List Int} {q q' j : Nat}, scan sg q l = some l.length → scan sg q' l' = some j → scan sg (q + q') (l ++ l') = some (l.length + j)
  | [], l', q, q', j, h, h' => by
    cases q with
    | zero => simpa using h'
    | succ q => rw [scan_nil] at h; cases h
  | x :: r, l', q, q', j, h, h' => by
    cases q with
    | zero => rw [scan_zero] at h; simp at h
    | succ q =>
      by_cases ha : ar sg x < 0
      · rw [scan_bad ha] at h; cases h
      · rw [scan_step ha] at h
        obtain ⟨i, hi, e⟩ := Option.map_eq_some_iff.1 h
        have e2 : i = r.length := by simp at e; omega
        subst e2
        have h2 := scan_join hi h'
        rw [show q + 1 + q' = (q + q') + 1 by omega, List.cons_append, scan_step ha, show q + q' + (ar sg x).toNat = q + (ar sg x).toNat + q' by omega, h2]
        simp
        omega
theorem scan_fill {sg : List Int} {L : Nat → List Int} : ∀ {t : List Int} {q : Nat}, scan sg q t = some t.length → (∀ x ∈ t, x < 0 → scan sg 1 (L (-1 - x).toNat) = some (L (-1 - x).toNat).length) → scan sg q (fillL L t) = some (fillL L t).length
  | [], q, h, _ => h
  | x :: r, q, h, hL => by
    cases q with
    | zero => rw [scan_zero] at h; simp at h
    | succ q =>
      by_cases ha : ar sg x < 0
      · rw [scan_bad ha] at h; cases h
      · rw [scan_step ha] at h
        obtain ⟨i, hi, e⟩ := Option.map_eq_some_iff.1 h
        have e2 : i = r.length := by simp at e; omega
        subst e2
        have h2 := scan_fill hi (fun y hy => hL y (List.mem_cons_of_mem _ hy))
        rw [fill_cons]
        by_cases hx : 0 ≤ x
        · rw [rep_sym hx, List.singleton_append, scan_step ha, h2]
          simp
        · have h3 := hL x (List.mem_cons_self ..) (by omega)
          have h0 : ar sg x = 0 := by
            unfold ar at ha ⊢
            split
            · rfl
            · rename_i h4
              rw [if_neg h4] at ha
              split at ha
              · omega
              · omega
          rw [h0] at h2
          rw [rep_var (by omega), Nat.add_comm q 1]
          have h4 := scan_join h3 (by simpa using h2)
          rw [h4, List.length_append]
theorem fill_term {sg t : List Int} {L : Nat → List Int} (h : termOkB sg t = true) (hL : ∀ x ∈ t, x < 0 → termOkB sg (L (-1 - x).toNat) = true) (h60 : (fillL L t).length ≤ 60) : termOkB sg (fillL L t) = true :=
  term_mk (term_parts h).1 h60 (scan_fill (term_parts h).2.2 (fun x hx h0 => (term_parts (hL x hx h0)).2.2))
theorem var_term {sg : List Int} {i : Nat} (hs : sigOkB sg = true) (hi : i < 24) : termOkB sg (vt i) = true := by
  refine term_mk hs (by simp [vt]) ?_
  have h0 : ar sg (-1 - (i : Int)) = 0 := ar_var (by omega)
  show scan sg 1 [-1 - (i : Int)] = some 1
  rw [scan_step (by omega), h0]
  rfl

/-! ### a shift -/
def sh (k x : Int) : Int := if x < 0 then x - k else x
def shiftL (k : Int) (t : List Int) : List Int := t.map (sh k)
def shiftB (k : Int) (t : List Int) : Bool := t.all fun x => decide (-24 ≤ sh k x)
theorem shift_fill {k : Nat} : ∀ t : List Int, fillL (fun i => vt (i + k)) t = shiftL (k : Int) t
  | [] => rfl
  | x :: r => by
    rw [fill_cons, shift_fill r]
    show _ = sh k x :: shiftL k r
    unfold rep sh
    by_cases h : 0 ≤ x
    · rw [if_pos h, if_neg (by omega)]; rfl
    · rw [if_neg h, if_pos (by omega)]
      show [-1 - (((-1 - x).toNat + k : Nat) : Int)] ++ _ = _
      rw [show (-1 - (((-1 - x).toNat + k : Nat) : Int) : Int) = x - k by omega]
      rfl
theorem shift_len (k : Int) (t : List Int) : (shiftL k t).length = t.length := by simp [shiftL]
theorem shift_ok {sg t : List Int} {k : Nat} (h : termOkB sg t = true) : termOkB sg (shiftL (k : Int) t) = shiftB k t := by
  cases hb : shiftB (k : Int) t with
  | true =>
    unfold shiftB at hb
    rw [List.all_eq_true] at hb
    rw [← shift_fill]
    refine fill_term h (fun x hx h0 => ?_) (by rw [shift_fill, shift_len]; exact (term_len h).2)
    have h1 := hb x hx
    have h2 : -24 ≤ x - k := by simpa [sh, h0] using h1
    exact var_term (term_parts h).1 (by omega)
  | false =>
    cases ho : termOkB sg (shiftL (k : Int) t) with
    | false => rfl
    | true =>
      exfalso
      unfold shiftB at hb
      rw [List.all_eq_false] at hb
      obtain ⟨x, hx, h1⟩ := hb
      have h2 := (term_mem ho (x := sh k x) (by unfold shiftL; exact List.mem_map.2 ⟨x, hx, rfl⟩)).1
      simp at h1
      omega
theorem shift_take {k : Int} {t : List Int} {j : Nat} {x : Int} (hk : j < t.length) (hx : t.getD j 0 = x) : shiftL k (t.take (j + 1)) = shiftL k (t.take j) ++ [sh k x] := by
  rw [take_snoc hk hx]
  simp [shiftL]
theorem shiftB_no {k x : Int} {t : List Int} (hx : x ∈ t) (h : sh k x < -24) : shiftB k t = false := by
  unfold shiftB
  rw [List.all_eq_false]
  exact ⟨x, hx, by simp; omega⟩
theorem shiftB_yes {k : Int} {t : List Int} (h : ∀ j, j < t.length → -24 ≤ sh k (t.getD j 0)) : shiftB k t = true := by
  unfold shiftB
  rw [List.all_eq_true]
  intro x hx
  obtain ⟨j, hj, rfl⟩ := List.getElem_of_mem hx
  have := h j hj
  simpa [List.getD, hj] using this
/-- what Shifted answers -/
def shiftedB (sg t : List Int) (k : Int) : Bool := termOkB sg t && decide (0 ≤ k ∧ k ≤ 24) && shiftB k t
def shiftedL (sg t : List Int) (k : Int) : List Int := if shiftedB sg t k = true then shiftL k t else []
theorem shifted_len {sg t : List Int} {k : Int} {m : Nat} (h : t.length = m) (hm : m ≤ 1048576) : (shiftedL sg t k).length ≤ 1048576 := by
  unfold shiftedL
  split
  · rw [shift_len]; omega
  · simp
end Go.Proofs.Ytkmhnkljigncmaa.fillMath
end

section
/-
  PLAIN MATHEMATICS of plain substitutions: what is left of a list of lists without the empty ones at its end ('strip'), the plain form of a look-up ('plainL'). Conditions: none. By an AI agent.
-/
namespace Go.Proofs.Ytkmhnkljigncmaa.plainMath
open Go.Proofs.Ytkmhnkljigncmaa.fillMath

/-- without the empty lists at its end -/
def strip : List (List Int) → List (List Int)
  | [] => []
  | x :: r => if strip r = [] then (if x = [] then [] else [x]) else x :: strip r
theorem strip_snoc : ∀ (l : List (List Int)) (x : List Int), strip (l ++ [x]) = if x = [] then strip l else l ++ [x]
  | [], x => by
    show strip [x] = _
    by_cases h : x = [] <;> simp [strip, h]
  | y :: r, x => by
    rw [List.cons_append, strip, strip_snoc r x]
    by_cases h : x = []
    · simp [h, strip]
    · simp [h]
theorem strip_len : ∀ l : List (List Int), (strip l).length ≤ l.length
  | [] => by simp [strip]
  | x :: r => by
    have h := strip_len r
    rw [strip]
    split
    · split <;> simp
    · simp; omega
theorem strip_pad : ∀ l : List (List Int), strip l ++ List.replicate (l.length - (strip l).length) [] = l
  | [] => by simp [strip]
  | x :: r => by
    have h := strip_pad r
    rw [strip]
    by_cases h1 : strip r = []
    · rw [h1] at h
      rw [if_pos h1]
      have h2 : List.replicate r.length ([] : List Int) = r := by simpa using h
      by_cases h3 : x = []
      · rw [if_pos h3]
        subst h3
        simp only [List.length_cons, List.length_nil, Nat.sub_zero, List.nil_append]
        rw [List.replicate_succ, h2]
      · rw [if_neg h3]
        simp only [List.length_cons, List.length_nil]
        rw [show r.length + 1 - (0 + 1) = r.length by omega, h2]
        rfl
    · rw [if_neg h1]
      simp only [List.length_cons, List.cons_append]
      rw [show r.length + 1 - ((strip r).length + 1) = r.length - (strip r).length by omega, h]
theorem strip_last {l : List (List Int)} {q : Nat} (hq : q < l.length) (h : l.getD q [] ≠ []) : strip (l.take (q + 1)) = l.take (q + 1) := by
  have e : l.take (q + 1) = l.take q ++ [l.getD q []] := by
    rw [List.take_succ_eq_append_getElem hq]
    simp [List.getD, hq]
  rw [e, strip_snoc, if_neg h]
theorem strip_drop {l : List (List Int)} {q : Nat} (hq : q < l.length) (h : l.getD q [] = []) : strip (l.take (q + 1)) = strip (l.take q) := by
  have e : l.take (q + 1) = l.take q ++ [l.getD q []] := by
    rw [List.take_succ_eq_append_getElem hq]
    simp [List.getD, hq]
  rw [e, strip_snoc, if_pos h]
theorem strip_end : ∀ (l : List (List Int)), strip l = [] ∨ ∃ q, (strip l).length = q + 1 ∧ (strip l).getD q [] ≠ []
  | [] => .inl rfl
  | x :: r => by
    rw [strip]
    rcases strip_end r with h | ⟨q, h1, h2⟩
    · rw [if_pos h]
      by_cases hx : x = []
      · rw [if_pos hx]; exact .inl rfl
      · rw [if_neg hx]; exact .inr ⟨0, rfl, by simpa using hx⟩
    · have hne : strip r ≠ [] := fun e => by rw [e] at h1; cases h1
      rw [if_neg hne]
      exact .inr ⟨q + 1, by simp [h1], by simpa using h2⟩

/-- what replaces variable i, nothing where it stays -/
def bare (L : Nat → List Int) (i : Nat) : List Int := if L i = vt i then [] else L i
def rowsL (L : Nat → List Int) (m : Nat) : List (List Int) := (List.range m).map (bare L)
/-- the plain form -/
def plainL (L : Nat → List Int) (m : Nat) : List (List Int) := strip (rowsL L m)
theorem rows_len (L : Nat → List Int) (m : Nat) : (rowsL L m).length = m := by simp [rowsL]
theorem rows_get {L : Nat → List Int} {m i : Nat} (h : i < m) : (rowsL L m).getD i [] = bare L i := by simp [rowsL, List.getD, h]
theorem rows_succ (L : Nat → List Int) (m : Nat) : rowsL L (m + 1) = rowsL L m ++ [bare L m] := by simp [rowsL, List.range_succ]
theorem plain_same {L : Nat → List Int} {m : Nat} (h : L m = vt m) : plainL L (m + 1) = plainL L m := by
  unfold plainL
  rw [rows_succ, strip_snoc, if_pos (by unfold bare; rw [if_pos h])]
theorem plain_new {L : Nat → List Int} {m : Nat} (h : L m ≠ vt m) (hne : 1 ≤ (L m).length) : plainL L (m + 1) = rowsL L m ++ [L m] := by
  unfold plainL
  have hb : bare L m = L m := by unfold bare; rw [if_neg h]
  rw [rows_succ, strip_snoc, hb, if_neg (fun e => by rw [e] at hne; simp at hne)]
theorem plain_len (L : Nat → List Int) (m : Nat) : (plainL L m).length ≤ m := by have := strip_len (rowsL L m); rw [rows_len] at this; exact this
theorem plain_pad (L : Nat → List Int) (m : Nat) : plainL L m ++ List.replicate (m - (plainL L m).length) [] = rowsL L m := by
  have := strip_pad (rowsL L m)
  rw [rows_len] at this
  exact this
theorem plain_ext {L L' : Nat → List Int} {m : Nat} (h : ∀ i, i < m → L i = L' i) : plainL L m = plainL L' m := by
  unfold plainL rowsL
  congr 1
  refine List.map_congr_left (fun i hi => ?_)
  unfold bare
  rw [h i (List.mem_range.1 hi)]
theorem plain_more {L : Nat → List Int} {m : Nat} : ∀ {k : Nat}, (∀ i, m ≤ i → L i = vt i) → plainL L (m + k) = plainL L m
  | 0, _ => rfl
  | k + 1, h => by rw [← Nat.add_assoc, plain_same (h _ (by omega)), plain_more h]
theorem plain_24 {L : Nat → List Int} {m : Nat} (hm : m ≤ 24) (h : ∀ i, m ≤ i → L i = vt i) : plainL L 24 = plainL L m := by
  have := plain_more (k := 24 - m) h
  rwa [show m + (24 - m) = 24 by omega] at this
/-- an element of the plain form -/
theorem plain_get (L : Nat → List Int) (m i : Nat) : (plainL L m).getD i [] = (rowsL L m).getD i [] := by
  have h := plain_pad L m
  rw [← h]
  by_cases hi : i < (plainL L m).length
  · simp [List.getD, List.getElem?_append_left hi]
  · have e1 : (plainL L m)[i]? = none := List.getElem?_eq_none (by omega)
    simp only [List.getD, e1, Option.getD_none]
    rw [List.getElem?_append_right (by omega)]
    by_cases h2 : i - (plainL L m).length < m - (plainL L m).length
    · simp [List.getElem?_replicate, h2]
    · simp [List.getElem?_replicate, h2]
theorem rows_each {L : Nat → List Int} {m M : Nat} (hM : ∀ i, (L i).length ≤ M) (i : Nat) : ((rowsL L m).getD i []).length ≤ M := by
  by_cases h : i < m
  · rw [rows_get h]
    unfold bare
    split
    · simp
    · exact hM i
  · rw [show (rowsL L m).getD i [] = [] by simp [List.getD, rows_len, h]]
    simp
theorem plain_each {L : Nat → List Int} {m M : Nat} (hM : ∀ i, (L i).length ≤ M) (i : Nat) : ((plainL L m).getD i []).length ≤ M := by rw [plain_get]; exact rows_each hM i
end Go.Proofs.Ytkmhnkljigncmaa.plainMath
end

section
/-
  append OF A WHOLE SLICE, AND WHERE THE NEW ONE LIES. Conditions: lengths up to 2097152. By an AI agent.
-/
namespace Go.Proofs.Ytkmhnkljigncmaa.appAt
open Go.RowKit Go.Proofs.Ytkmhnkljigncmaa.base Go.Proofs.Ytkmhnkljigncmaa.ints Go.Proofs.Ytkmhnkljigncmaa.marks Go.Proofs.Ytkmhnkljigncmaa.app
set_option maxRecDepth 100000

theorem blk_own (A : Option Addr) (n c : Nat) : (Value.slice A n c).ownBlock = blk A := by cases A <;> rfl

theorem appAllAt {w : World} {ops : Array Oper} {rest : List Oper} {o : Oper} {a : Act} {Q : Exit → Act → World → Prop} (hgd : o.guard = none) (s x : Operand)
    (ho : o.op = .call { callee := .builtin .append, args := #[s, x], argTypes := #[24, 24] })
    (base : Nat) (A : Option Addr) (n c : Nat) (xs : List Int) (hs : a.eval s = .slice A n c) (hown : Own w base (.slice A n c) xs)
    (S : Option Addr) (m c2 B : Nat) (ys : List Int) (hx : a.eval x = .slice S m c2) (hseg : Seg w B S m ys) (hm1 : 1 ≤ m) (hn : n ≤ 2097152) (hm : m ≤ 2097152) (hbase : base ≤ w.heap.size)
    (h : ∀ A' c' w', Own w' base (.slice A' (n + m) c') (xs ++ ys) → w.grownBy w' (blk A) → (blk A' = blk A ∨ blk A' = some w.heap.size) → wpList Try.prog ops Q rest (a.put o.dst (.slice A' (n + m) c')) w') : wpList Try.prog ops Q (o :: rest) a w := by
  obtain ⟨i0, hi, hz0, hz1, hz2⟩ := info_parts info_i64
  have hl : xs.length = n := by
    obtain ⟨A', c', e⟩ := hown.slice
    injection e with _ e _
    exact e.symm
  have ho1 : w.ownsRow base 2 1 (.slice A n c) n (xs.map (Value.int .i64)) := by rw [← hl]; rw [← hl] at hown; exact hown
  obtain ⟨b, off, e, _, hc⟩ := hseg.2 (by omega)
  subst e
  refine wpList_append_own_at w hgd s x 24 ho base 2 i0 (.int .i64 0) 1 8 Try.underlying24 hi hz0 hz1 hz2 rfl (by decide) (.slice A n c) n (xs.map (Value.int .i64)) hs ho1
    ⟨b, off, none⟩ m c2 (ys.map (Value.int .i64)) hx (by simp [hseg.1]) (fun j u hj => ?_) (fun u hu => ?_) (by unfold maxLen; omega) (by omega) hbase ?_
  · have hjl : j < m := by
      have := (List.getElem?_eq_some_iff.1 hj).1
      simp at this
      have := hseg.1
      omega
    have hcj := hc j hjl
    have e2 : (⟨b, off, none⟩ : Addr).add j = ⟨b, off + j, none⟩ := by unfold Addr.add; split <;> simp_all
    rw [e2, hcj, ← hj]
    have := hseg.1
    simp [List.getD, show j < ys.length by omega]
  · obtain ⟨y, _, rfl⟩ := List.mem_map.1 hu
    rfl
  · intro v' w' hown' hg _ hat
    rw [← List.map_append] at hown'
    obtain ⟨A', c', rfl, ho'⟩ := own_of hown'
    rw [blk_own] at hg
    rw [blk_own, blk_own] at hat
    exact h A' c' w' ho' hg hat
theorem Own.kept {w w' : World} {base : Nat} {A : Option Addr} {n c : Nat} {xs : List Int} {r : Option Nat} (h : Own w base (.slice A n c) xs) (hg : w.grownBy w' r) (hne : blk A = none ∨ blk A ≠ r) : Own w' base (.slice A n c) xs :=
  World.ownsRow.kept h hg (by rw [blk_own]; exact hne)
end Go.Proofs.Ytkmhnkljigncmaa.appAt
end

section
/-
  WORDS FOR MEMORY, slices of slices of int64: one that reads as a list of lists ('Segs'), one that is the call's own ('Owns'); what lies outside an interval of blocks stays ('Btw'). Conditions: none; plain lemmas. By an AI agent.
-/
namespace Go.Proofs.Ytkmhnkljigncmaa.segs
open Go.RowKit Go.Proofs.Ytkmhnkljigncmaa.base Go.Proofs.Ytkmhnkljigncmaa.ints Go.Proofs.Ytkmhnkljigncmaa.marks Go.Proofs.Ytkmhnkljigncmaa.app Go.Proofs.Ytkmhnkljigncmaa.sym Go.Proofs.Ytkmhnkljigncmaa.appAt
set_option maxRecDepth 100000

/-- what a slice's value keeps to -/
def Cap (A : Option Addr) (n c : Nat) : Prop := n ≤ c ∧ c ≤ 9223372036854775807 ∧ (A = none → c = 0)

/-- The slice value '.slice A n c' holds n slices of int64, which read as xss; all blocks lie below B. -/
def Segs (w : World) (B : Nat) (A : Option Addr) (n : Nat) (xss : List (List Int)) : Prop :=
  xss.length = n ∧ (0 < n → ∃ b off, A = some ⟨b, off, none⟩ ∧ b < B ∧ ∀ j, j < n → ∃ A' n' c', w.cell? ⟨b, off + j, none⟩ = some (.slice A' n' c') ∧ Seg w B A' n' (xss.getD j []) ∧ Cap A' n' c')

section
variable {w w' : World} {B B' n : Nat} {A : Option Addr} {xss : List (List Int)}
theorem Segs.empty : Segs w B A 0 [] := ⟨rfl, fun h => absurd h (by omega)⟩
theorem Segs.spot (h : Segs w B A n xss) {k : Nat} (hk : k < n) : ∃ b off A' n' c', A = some ⟨b, off, none⟩ ∧ b < B ∧ w.cell? ⟨b, off + k, none⟩ = some (.slice A' n' c') ∧ Seg w B A' n' (xss.getD k []) ∧ Cap A' n' c' := by
  obtain ⟨b, off, e, hb, hc⟩ := h.2 (by omega)
  obtain ⟨A', n', c', h1, h2, h3⟩ := hc k hk
  exact ⟨b, off, A', n', c', e, hb, h1, h2, h3⟩
theorem Segs.keep (h : Segs w B A n xss) (hk : ∀ p : Addr, p.block < B → w'.cell? p = w.cell? p) : Segs w' B A n xss :=
  ⟨h.1, fun hn => by
    obtain ⟨b, off, e, hb, hc⟩ := h.2 hn
    refine ⟨b, off, e, hb, fun j hj => ?_⟩
    obtain ⟨A', n', c', h1, h2, h3⟩ := hc j hj
    exact ⟨A', n', c', (hk ⟨b, off + j, none⟩ hb).trans h1, h2.keep hk, h3⟩⟩
theorem Segs.more (h : Segs w B A n xss) (hB : B ≤ B') : Segs w B' A n xss :=
  ⟨h.1, fun hn => by
    obtain ⟨b, off, e, hb, hc⟩ := h.2 hn
    refine ⟨b, off, e, by omega, fun j hj => ?_⟩
    obtain ⟨A', n', c', h1, h2, h3⟩ := hc j hj
    exact ⟨A', n', c', h1, h2.more hB, h3⟩⟩
theorem Segs.below (h : Segs w B A n xss) (hb : Below B w w') : Segs w' B A n xss := h.keep fun _ hp => hb.cell hp
theorem Segs.next (h : Segs w w.heap.size A n xss) (hb : Below w.heap.size w w') : Segs w' w'.heap.size A n xss := (h.below hb).more hb.size
theorem Segs.drew (h : Segs w B A n xss) : Segs w.drew B A n xss := h
theorem Segs.drewN (h : Segs w B A n xss) (k : Nat) : Segs (w.drewN k) B A n xss := h
theorem Segs.alloc (h : Segs w B A n xss) (hB : B ≤ w.heap.size) (o : Obj) : Segs (w.alloc o) B A n xss := h.keep fun p hp => World.cell?_alloc_lt w o p (by omega)

/-- what lies outside the blocks from lo on and below hi stays as it was -/
structure Btw (lo hi : Nat) (w w' : World) : Prop where
  os : w'.os = w.os
  tape : w'.tape = w.tape
  output : w'.output = w.output
  size : w.heap.size ≤ w'.heap.size
  block : ∀ k, k < w.heap.size → (k < lo ∨ hi ≤ k) → w'.heap[k]? = w.heap[k]?
theorem Btw.refl (lo hi : Nat) (w : World) : Btw lo hi w w := ⟨rfl, rfl, rfl, Nat.le_refl _, fun _ _ _ => rfl⟩
theorem Btw.trans {lo hi : Nat} {a b c : World} (h : Btw lo hi a b) (k : Btw lo hi b c) : Btw lo hi a c :=
  ⟨k.os.trans h.os, k.tape.trans h.tape, k.output.trans h.output, Nat.le_trans h.size k.size, fun i hi' ho => (k.block i (Nat.lt_of_lt_of_le hi' h.size) ho).trans (h.block i hi' ho)⟩
theorem Btw.of_grown {lo hi : Nat} {r : Option Nat} (h : w.grownBy w' r) (hr : ∀ k, r = some k → lo ≤ k ∧ k < hi) : Btw lo hi w w' :=
  ⟨h.os, h.tape, h.output, h.size, fun k hk ho => h.block k hk (fun e => by have := hr k e.symm; omega)⟩
theorem Btw.of_below {lo hi : Nat} (h : Below w.heap.size w w') : Btw lo hi w w' := ⟨h.os, h.tape, h.output, h.size, fun k hk _ => h.block k hk⟩
theorem Btw.below {lo hi : Nat} (h : Btw lo hi w w') (hB : B ≤ lo) (hs : B ≤ w.heap.size) : Below B w w' := ⟨h.os, h.tape, h.output, h.size, fun k hk => h.block k (by omega) (.inl (by omega))⟩
theorem Btw.wider {lo hi lo' hi' : Nat} (h : Btw lo hi w w') (h1 : lo' ≤ lo) (h2 : hi ≤ hi') : Btw lo' hi' w w' := ⟨h.os, h.tape, h.output, h.size, fun k hk ho => h.block k hk (by omega)⟩
theorem Below.btw {a : World} {lo hi : Nat} (h : Below B a w) (k : Btw lo hi w w') (hB : B ≤ lo) (hs : B ≤ w.heap.size) : Below B a w' := h.trans (k.below hB hs)
/-- a row outside stays -/
theorem Row.btw {g : Nat} {t : TypeId} {cs : Array Value} {lo hi : Nat} (h : Row w g t cs) (hb : Btw lo hi w w') (hg : g < lo ∨ hi ≤ g) : Row w' g t cs := (hb.block g h.lt hg).trans h

/-- rows of different element types are different blocks -/
theorem Row.ne_ {g g' : Nat} {t t' : TypeId} {cs cs' : Array Value} (h : Row w g t cs) (h' : Row w g' t' cs') (hne : t ≠ t') : g ≠ g' := by
  rintro rfl
  unfold Row at h h'
  rw [h] at h'
  injection h' with h'
  injection h' with _ ht
  exact hne ht
end

/-- a slice of int64 of the call's own in a block from lo on and below hi -/
def Inn (w : World) (lo hi : Nat) (v : Value) (xs : List Int) : Prop := ∃ A c, v = .slice A xs.length c ∧ Own w lo v xs ∧ ∀ k, blk A = some k → k < hi
/-- no block is that of two slices -/
def Apart (n : Nat) (vs : List Value) : Prop := ∀ i j k, i < j → j < n → (vs.getD i undef).ownBlock = some k → (vs.getD j undef).ownBlock ≠ some k

/-- The slice value '.slice A n c' and its n slices of int64 are the call's own, in blocks from lo on and below hi, no two in one; they read as xss. -/
structure Owns (w : World) (lo hi : Nat) (A : Option Addr) (n c : Nat) (xss : List (List Int)) : Prop where
  len : xss.length = n
  row : ∃ vs : List Value, w.ownsRow lo 24 1 (.slice A n c) n vs ∧ (∀ j, j < n → Inn w lo hi (vs.getD j undef) (xss.getD j [])) ∧ Apart n vs
  top : ∀ k, blk A = some k → k < hi

section
variable {w w' : World} {lo hi n c : Nat} {A : Option Addr} {xss : List (List Int)}

theorem own_form {base n c : Nat} {A : Option Addr} {vs : List Value} {t : TypeId} (h : w.ownsRow base t 1 (.slice A n c) n vs) : (A = none ∧ n = 0 ∧ c = 0 ∧ vs = []) ∨
    ∃ g cur, A = some ⟨g, 0, none⟩ ∧ base ≤ g ∧ Row w g t cur ∧ n ≤ c ∧ cur.size = c ∧ c ≤ 9223372036854775807 ∧ vs.length = n ∧ ∀ j, j < n → cur[j]? = some (vs.getD j undef) := by
  have hl : vs.length = n := by have := h.1; omega
  obtain ⟨h1, h2⟩ := h
  rcases h2 with ⟨e, h0⟩ | ⟨g, cap, cur, e, hb, hg, hn, hm, hs, ht⟩
  · have e1 := (Value.slice.inj e)
    obtain ⟨rfl, rfl, rfl⟩ := e1
    exact .inl ⟨rfl, rfl, rfl, List.eq_nil_of_length_eq_zero hl⟩
  · have e1 := (Value.slice.inj e)
    obtain ⟨rfl, -, rfl⟩ := e1
    refine .inr ⟨g, cur, rfl, hb, hg, hn, by omega, by unfold maxLen at hm; omega, hl, fun j hj => ?_⟩
    have h3 : (cur.toList.take (n * 1))[j]? = vs[j]? := by rw [ht]
    rw [List.getElem?_take, if_pos (by omega)] at h3
    rw [← Array.getElem?_toList, h3]
    simp [List.getD, show j < vs.length by omega]

theorem Inn.blk {v : Value} {xs : List Int} (h : Inn w lo hi v xs) : ∀ k, v.ownBlock = some k → lo ≤ k ∧ k < hi ∧ k < w.heap.size := fun k hk => by
  obtain ⟨A, c, rfl, ho, ht⟩ := h
  have h1 := World.ownsRow.lt ho k hk
  rw [blk_own] at hk
  exact ⟨h1.1, ht k hk, h1.2⟩
theorem Inn.kept {v : Value} {xs : List Int} {r : Option Nat} (h : Inn w lo hi v xs) (hg : w.grownBy w' r) (hne : v.ownBlock = none ∨ v.ownBlock ≠ r) : Inn w' lo hi v xs := by
  obtain ⟨A, c, rfl, ho, ht⟩ := h
  exact ⟨A, c, rfl, World.ownsRow.kept ho hg hne, ht⟩
theorem Inn.next {v : Value} {xs : List Int} (h : Inn w lo hi v xs) (hb : Below w.heap.size w w') : Inn w' lo hi v xs := by
  obtain ⟨A, c, rfl, ho, ht⟩ := h
  exact ⟨A, c, rfl, ho.next hb, ht⟩
theorem Inn.cap {v : Value} {xs : List Int} (h : Inn w lo hi v xs) : ∃ A c, v = .slice A xs.length c ∧ Own w lo v xs ∧ Cap A xs.length c := by
  obtain ⟨A, c, rfl, ho, ht⟩ := h
  refine ⟨A, c, rfl, ho, ?_⟩
  rcases own_form (n := xs.length) (vs := xs.map (Value.int .i64)) ho with ⟨rfl, h1, rfl, _⟩ | ⟨g, cur, rfl, _, _, h1, h2, h3, _⟩
  · exact ⟨by omega, by omega, fun _ => rfl⟩
  · exact ⟨h1, h3, fun e => by cases e⟩

theorem Owns.segs (h : Owns w lo hi A n c xss) : Segs w w.heap.size A n xss := by
  obtain ⟨vs, hr, hi', _⟩ := h.row
  refine ⟨h.len, fun hn => ?_⟩
  rcases own_form hr with ⟨_, e, _⟩ | ⟨g, cur, rfl, _, hrow, _, _, _, _, hc⟩
  · omega
  · refine ⟨g, 0, rfl, hrow.lt, fun j hj => ?_⟩
    obtain ⟨A', c', e, ho, hcap⟩ := (hi' j hj).cap
    refine ⟨A', _, c', ?_, Own.seg (by rw [← e]; exact ho), hcap⟩
    rw [Nat.zero_add, hrow.cell j, hc j hj, e]
theorem Owns.rd (h : Owns w lo hi A n c xss) : Segs w w.heap.size A n xss := h.segs
theorem Owns.cap (h : Owns w lo hi A n c xss) : Cap A n c := by
  obtain ⟨vs, hr, _⟩ := h.row
  rcases own_form hr with ⟨rfl, h1, rfl, _⟩ | ⟨g, cur, rfl, _, _, h1, h2, h3, _⟩
  · exact ⟨by omega, by omega, fun _ => rfl⟩
  · exact ⟨h1, h3, fun e => by cases e⟩
theorem Owns.next (h : Owns w lo hi A n c xss) (hb : Below w.heap.size w w') : Owns w' lo hi A n c xss := by
  obtain ⟨h1, ⟨vs, hr, hi', ha⟩, h3⟩ := h
  refine ⟨h1, ⟨vs, ?_, fun j hj => (hi' j hj).next hb, ha⟩, h3⟩
  exact World.ownsRow.kept hr ⟨hb.os, hb.tape, hb.output, hb.size, fun k hk _ => hb.block k hk⟩ (row := none) (by cases (Value.slice A n c).ownBlock <;> simp)
theorem Owns.drewN (h : Owns w lo hi A n c xss) (d : Nat) : Owns (w.drewN d) lo hi A n c xss := h.next ⟨rfl, rfl, rfl, Nat.le_refl _, fun _ _ => rfl⟩
theorem Owns.drew (h : Owns w lo hi A n c xss) : Owns w.drew lo hi A n c xss := h.next ⟨rfl, rfl, rfl, Nat.le_refl _, fun _ _ => rfl⟩
theorem Owns.wider {lo' hi' : Nat} (h : Owns w lo hi A n c xss) (h1 : lo' ≤ lo) (h2 : hi ≤ hi') : Owns w lo' hi' A n c xss := by
  obtain ⟨h3, ⟨vs, hr, hin, ha⟩, h5⟩ := h
  have low : ∀ {t : TypeId} {v : Value} {m : Nat} {us : List Value}, w.ownsRow lo t 1 v m us → w.ownsRow lo' t 1 v m us := fun {t v m us} ho => by
    obtain ⟨q1, q2⟩ := ho
    refine ⟨q1, ?_⟩
    rcases q2 with q2 | ⟨g, cap, cur, hv, hg, r⟩
    · exact .inl q2
    · exact .inr ⟨g, cap, cur, hv, Nat.le_trans h1 hg, r⟩
  refine ⟨h3, ⟨vs, low hr, fun j hj => ?_, ha⟩, fun k hk => Nat.lt_of_lt_of_le (h5 k hk) h2⟩
  obtain ⟨A', c', e, ho, ht⟩ := hin j hj
  exact ⟨A', c', e, low ho, fun k hk => Nat.lt_of_lt_of_le (ht k hk) h2⟩
/-- it stays, where blocks outside are written -/
theorem Owns.btw {lo' hi' : Nat} (h : Owns w lo hi A n c xss) (hb : Btw lo' hi' w w') (ho : hi ≤ lo' ∨ hi' ≤ lo) : Owns w' lo hi A n c xss := by
  obtain ⟨h1, ⟨vs, hr, hin, ha⟩, h3⟩ := h
  have key : ∀ {t : TypeId} {m : Nat} {v : Value} {us : List Value}, w.ownsRow lo t 1 v m us → (∀ k, v.ownBlock = some k → k < hi) → w'.ownsRow lo t 1 v m us := fun {t m v us} hr ht => by
    obtain ⟨q1, q2⟩ := hr
    refine ⟨q1, ?_⟩
    rcases q2 with q2 | ⟨g, cap, cur, hv, hg, hh, r⟩
    · exact .inl q2
    · have h5 := ht g (by rw [hv]; rfl)
      refine .inr ⟨g, cap, cur, hv, hg, ?_, r⟩
      have hlt : g < w.heap.size := (Array.getElem?_eq_some_iff.1 hh).1
      exact (hb.block g hlt (by omega)).trans hh
  refine ⟨h1, ⟨vs, key hr (fun k hk => h3 k (by rw [blk_own] at hk; exact hk)), fun j hj => ?_, ha⟩, h3⟩
  obtain ⟨A', c', e, ho', ht⟩ := hin j hj
  exact ⟨A', c', e, key ho' (fun k hk => ht k (by rw [e, blk_own] at hk; exact hk)), ht⟩
theorem Owns.nil (w : World) (lo hi : Nat) : Owns w lo hi none 0 0 [] :=
  ⟨rfl, ⟨[], World.ownsRow_nil w lo 24 1, fun j hj => absurd hj (Nat.not_lt_zero _), fun i j k _ hj => absurd hj (Nat.not_lt_zero _)⟩, fun k hk => by cases hk⟩

/-- one of its slices is written anew -/
theorem Owns.set {j : Nat} {v : Value} {ys : List Int} (h : Owns w lo hi A n c xss) (hj : j < n) (hg : w.grownBy w' v.ownBlock) (ho : Own w' lo v ys) (hl : ys.length = (xss.getD j []).length)
    (hv : ∀ b, A = some ⟨b, 0, none⟩ → w.cell? ⟨b, j, none⟩ = some v) : Owns w' lo hi A n c (xss.set j ys) := by
  obtain ⟨h1, ⟨vs, hr, hin, ha⟩, h3⟩ := h
  rcases own_form hr with ⟨_, e, _⟩ | ⟨g, cur, rfl, hlo, hrow, hnc, hsz, hmax, hlen, hc⟩
  · omega
  have e1 : v = vs.getD j undef := by
    have h4 := hv g rfl
    rw [hrow.cell j, hc j hj] at h4
    injection h4 with h4
    exact h4.symm
  subst e1
  have hgj : ∀ k, (vs.getD j undef).ownBlock = some k → k ≠ g := fun k hk => by
    obtain ⟨A', c', e, ho', _⟩ := hin j hj
    rw [e] at ho' hk
    rcases own_form (n := (xss.getD j []).length) ho' with ⟨rfl, _⟩ | ⟨g', cur', rfl, _, hrow', _⟩
    · cases hk
    · have e2 : g' = k := by simpa [Value.ownBlock] using hk
      subst e2
      exact (Row.ne_ hrow hrow' (by decide)).symm
  refine ⟨by rw [List.length_set]; exact h1, ⟨vs, World.ownsRow.kept hr hg (.inr (fun e => hgj g e.symm rfl)), fun i hi' => ?_, ha⟩, h3⟩
  by_cases e : j = i
  · subst e
    obtain ⟨A', c', e, _, ht⟩ := hin j hj
    have e3 : (xss.set j ys).getD j [] = ys := by simp [List.getD, show j < xss.length by omega]
    rw [e3]
    exact ⟨A', c', by rw [hl]; exact e, ho, ht⟩
  · have e3 : (xss.set j ys).getD i [] = xss.getD i [] := by simp [List.getD, List.getElem?_set_ne e]
    rw [e3]
    refine (hin i hi').kept hg ?_
    cases hb : (vs.getD i undef).ownBlock with
    | none => exact .inl rfl
    | some k =>
      right
      intro e4
      rcases Nat.lt_or_gt_of_ne e with h5 | h5
      · exact ha j i k h5 hi' e4.symm hb
      · exact ha i j k h5 hj hb e4.symm
end
theorem Inn.ne {w : World} {lo hi g : Nat} {v : Value} {xs : List Int} {cs : Array Value} (h : Inn w lo hi v xs) (hr : Row w g 24 cs) : v.ownBlock ≠ some g := by
  obtain ⟨A, c, rfl, ho, _⟩ := h
  rcases own_form (n := xs.length) ho with ⟨rfl, _⟩ | ⟨g', cur', rfl, _, hrow', _⟩
  · intro e; cases e
  · intro e
    have e2 : g' = g := by simpa [Value.ownBlock] using e
    exact Row.ne_ hr hrow' (by decide) e2.symm
theorem Inn.wider {w : World} {lo hi lo' hi' : Nat} {v : Value} {xs : List Int} (h : Inn w lo hi v xs) (h1 : lo' ≤ lo) (h2 : hi ≤ hi') : Inn w lo' hi' v xs := by
  obtain ⟨A, c, rfl, ho, ht⟩ := h
  exact ⟨A, c, rfl, Own.lower ho h1, fun k hk => Nat.lt_of_lt_of_le (ht k hk) h2⟩
theorem rowsOf {w : World} {base g n c : Nat} {t : TypeId} {cs : Array Value} (hr : Row w g t cs) (hs : cs.size = c) (hn : n ≤ c) (hm : c ≤ 9223372036854775807) (hb : base ≤ g) : w.ownsRow base t 1 (.slice (some ⟨g, 0, none⟩) n c) n (cs.toList.take n) :=
  ⟨by simp; omega, .inr ⟨g, c, cs, rfl, hb, hr, hn, by unfold maxLen; omega, by omega, by simp⟩⟩

end Go.Proofs.Ytkmhnkljigncmaa.segs
end

section
/-
  CONTRACTS on slices of slices of int64 and on substitutions: the laws' helpers szInt64SS, toInt64SS, eqInt64SS, markInt64SS, heldInt64SS and those for Subst. Conditions: the slices read as lists of lists ('Segs'), at most 1048576 slices of at most 1048576 numbers. By an AI agent.
-/
namespace Go.Proofs.Ytkmhnkljigncmaa.segsHelp
open Go.RowKit Go.Proofs.Ytkmhnkljigncmaa.base Go.Proofs.Ytkmhnkljigncmaa.ints Go.Proofs.Ytkmhnkljigncmaa.sig Go.Proofs.Ytkmhnkljigncmaa.cursor Go.Proofs.Ytkmhnkljigncmaa.marks Go.Proofs.Ytkmhnkljigncmaa.app Go.Proofs.Ytkmhnkljigncmaa.sym Go.Proofs.Ytkmhnkljigncmaa.appAt Go.Proofs.Ytkmhnkljigncmaa.segs
set_option maxRecDepth 100000

theorem info_list : (Try.prog.info? 24).map (fun i => (i.zero, i.size, i.bytes)) = some (some (.slice none 0 0), 1, 24) := by kernel_rfl

/-- make([][]int64, n) -/
theorem run_make_lists (n : Nat) (hn : n ≤ 1048576) (W : World) : (Instr.makeSlice 29 (.int .i64 (n : Int)) (.int .i64 (n : Int))).run Try.prog W =
    .ok (.slice (some ⟨W.heap.size, 0, none⟩) n n) (W.alloc (.cells (madeCells #[.slice none 0 0] n) 24)) := by
  obtain ⟨i0, hi, hz0, hz1, hz2⟩ := info_parts info_list
  have hr := run_make (P := Try.prog) W 29 24 i0 _ Try.underlying29 hi hz0 .i64 .i64 n n (by omega) (by omega) (by rw [hz2]; omega) (by omega)
  simpa [hz1, Value.cells] using hr

/-! ### toInt64SS -/
/-- the first k slices are copied -/
def HeadTo (w : World) (n : Nat) (xss : List (List Int)) (i : Value) (wr : World) : Prop :=
  ∃ (k : Nat) (cs : Array Value), k ≤ n ∧ i = .int .i64 k ∧ Row wr w.heap.size 24 cs ∧ cs.size = n ∧ (∀ j, j < k → Inn wr (w.heap.size + 1) wr.heap.size (cs.toList.getD j undef) (xss.getD j [])) ∧ Apart k cs.toList ∧ Below w.heap.size w wr
theorem headTo_step {w wr w1 : World} {n k m : Nat} {xss : List (List Int)} {cs cs1 : Array Value} (hk : k < n) (hr : Row wr w.heap.size 24 cs) (hs : cs.size = n)
    (hi : ∀ j, j < k → Inn wr (w.heap.size + 1) wr.heap.size (cs.toList.getD j undef) (xss.getD j [])) (ha : Apart k cs.toList) (hb : Below w.heap.size w wr)
    (hm : (xss.getD k []).length = m) (h2 : m ≤ 9223372036854775807) (r1 : Row w1 wr.heap.size 2 cs1) (s1 : cs1.size = m) (c1 : ∀ j, j < m → cs1[j]? = some (.int .i64 ((xss.getD k []).getD j 0))) (bb : Below wr.heap.size wr w1) :
    HeadTo w n xss (.int .i64 ((k : Int) + 1)) (w1.setCell ⟨w.heap.size, k, none⟩ (.slice (some ⟨wr.heap.size, 0, none⟩) m m)) := by
  obtain ⟨v, hv⟩ : ∃ v, v = Value.slice (some ⟨wr.heap.size, 0, none⟩) m m := ⟨_, rfl⟩
  have hz := hr.lt
  have hr1 := hr.next bb
  have hg : w1.grownBy (w1.setCell ⟨w.heap.size, k, none⟩ v) (some w.heap.size) := grown_put (World.grownBy.refl _ _) _ _
  have hin : Inn w1 wr.heap.size w1.heap.size v (xss.getD k []) := by
    refine ⟨some ⟨wr.heap.size, 0, none⟩, m, by rw [hv, hm], ?_, fun q hq => ?_⟩
    · rw [hv]
      have := Own.of_row (base := wr.heap.size) (n := m) (c := m) (xs := xss.getD k []) r1 hm s1 (Nat.le_refl _) h2 (Nat.le_refl _) c1
      exact this
    · have : wr.heap.size = q := Option.some.inj hq
      have := r1.lt
      omega
  rw [← hv]
  refine ⟨k + 1, cs.setIfInBounds k v, hk, by simp, hr1.put k v, by simp [hs], fun j hj => ?_, fun i j q hij hj e1 e2 => ?_, ((hb.trans (bb.mono hb.size))).setCell (Nat.le_refl _) _⟩
  · by_cases e : j = k
    · subst e
      have e3 : (cs.setIfInBounds j v).toList.getD j undef = v := by simp [List.getD, hs, hk]
      rw [e3]
      have h5 := (hin.kept hg (.inr (Inn.ne hin hr1)))
      exact Inn.wider h5 (by omega) (by simp)
    · have e3 : (cs.setIfInBounds k v).toList.getD j undef = cs.toList.getD j undef := by
        simp [List.getD, Array.getElem?_setIfInBounds, show ¬ k = j by omega]
      rw [e3]
      have h5 := (hi j (by omega)).next bb
      have h6 := h5.kept hg (.inr (Inn.ne h5 hr1))
      exact Inn.wider h6 (Nat.le_refl _) (by simpa using bb.size)
  · have gi : ∀ i, i < k → (cs.setIfInBounds k v).toList.getD i undef = cs.toList.getD i undef := fun i hi => by
      simp [List.getD, Array.getElem?_setIfInBounds, show ¬ k = i by omega]
    by_cases e : j = k
    · subst e
      rw [gi i hij] at e1
      have e3 : (cs.setIfInBounds j v).toList.getD j undef = v := by simp [List.getD, hs, hk]
      rw [e3] at e2
      have h5 := ((hi i hij).blk q e1).2.1
      have h6 := (hin.blk q e2).1
      omega
    · rw [gi i (by omega)] at e1
      rw [gi j (by omega)] at e2
      exact ha i j q hij (by omega) e1 e2

/-- a copy: all of it new -/
def CopySS (w : World) (n : Nat) (xss : List (List Int)) (e : Ending) (w' : World) : Prop :=
  ∃ g, e = .returned (.slice (some ⟨g, 0, none⟩) n n) ∧ Owns w' w.heap.size w'.heap.size (some ⟨g, 0, none⟩) n n xss ∧ w.heap.size < w'.heap.size ∧ Below w.heap.size w w'
theorem copySS_end {w wr : World} {n : Nat} {xss : List (List Int)} {cs : Array Value} (hl : xss.length = n) (hn : n ≤ 1048576) (hr : Row wr w.heap.size 24 cs) (hs : cs.size = n)
    (hi : ∀ j, j < n → Inn wr (w.heap.size + 1) wr.heap.size (cs.toList.getD j undef) (xss.getD j [])) (ha : Apart n cs.toList) (hb : Below w.heap.size w wr) : CopySS w n xss (.returned (.slice (some ⟨w.heap.size, 0, none⟩) n n)) wr := by
  have e : cs.toList.take n = cs.toList := List.take_of_length_le (by simp [hs])
  refine ⟨w.heap.size, rfl, ⟨hl, ⟨cs.toList, by rw [← e]; exact rowsOf hr hs (Nat.le_refl _) (by omega) (Nat.le_refl _), fun j hj => (hi j hj).wider (by omega) (Nat.le_refl _), ha⟩, fun k hk => ?_⟩, hr.lt, hb⟩
  have : w.heap.size = k := Option.some.inj hk
  have := hr.lt
  omega

set_option maxHeartbeats 1000000 in
theorem toSS (A : Option Addr) (n c : Nat) (xss : List (List Int)) (w : World) (h : Segs w w.heap.size A n xss) (hn : n ≤ 1048576) (hs : ∀ j, (xss.getD j []).length ≤ 1048576) :
    Calls Try.prog 52 #[.slice A n c] w (CopySS w n xss) := by
  have hmk := run_make_lists n hn
  have HS := Lib.hid hs
  have S0 : HeadTo w n xss (.int .i64 0) (w.alloc (.cells (madeCells #[.slice none 0 0] n) 24)) :=
    ⟨0, _, Nat.zero_le _, rfl, Row.new _ _ _, size_madeCells _ _, fun j hj => absurd hj (Nat.not_lt_zero _), fun i j q _ hj => absurd hj (Nat.not_lt_zero _), (Below.refl _ _).alloc (Nat.le_refl _) _⟩
  have HS0 := Lib.hid S0
  clear hs S0
  go_enter Try.func52, Try.ntmps52
  go_wp2
  clear hmk
  go_loopw [4] (fun i wr => HeadTo w n xss i wr) (fun i _ => n - (intOf i).toNat)
  case atStart => exact HS0.out
  case round =>
    obtain ⟨k, cs, hk, rfl, hr, hsz, hi, ha, hb⟩ := hrel
    clear HS0
    by_cases hlt : k < n
    · obtain ⟨b, off, A', n', c', rfl, hbB, hx, hseg, hcap⟩ := h.spot hlt
      have hx' : wr.cell? ⟨b, off + k, none⟩ = some (.slice A' n' c') := (hb.cell (p := ⟨b, off + k, none⟩) hbB).trans hx
      have hn' : n' ≤ 1048576 := by rw [← hseg.1]; exact HS.out k
      have L := Lib.hid (toInts A' n' c' _ wr ((hseg.below hb).more hb.size) hn')
      have HL := Lib.hid hseg.1
      have R := Lib.hid (fun w1 cs1 r1 s1 c1 bb => headTo_step (w1 := w1) (cs1 := cs1) hlt hr hsz hi ha hb hseg.1 (by omega) r1 s1 c1 bb)
      have rr := hr
      have HZ := Lib.hid hsz
      clear hx hr hsz hi ha hb h hseg hcap
      go_wp2_with fail
      refine L.out.mono ?_
      rintro e w1 ⟨cs1, rfl, r1, s1, c1, -, bb⟩
      have S := Lib.hid (R.out w1 cs1 r1 s1 c1 bb)
      have rr1 := rr.next bb
      obtain ⟨u, hu⟩ : ∃ u, w1.cell? ⟨w.heap.size, k, none⟩ = some u := ⟨_, (rr1.cell k).trans (Array.getElem?_eq_getElem (by rw [HZ.out]; exact hlt))⟩
      have hf : w1.frozen? ⟨w.heap.size, k, none⟩ = false := rr1.free k
      clear r1 s1 c1 bb rr rr1 L hx'
      go_wp2
      go_roundw
      case rel => exact S.out
      case measure => simp [intOf]; omega
    · have e : k = n := by omega
      subst e
      have F := Lib.hid (copySS_end h.1 hn hr hsz hi ha hb)
      clear hr hsz hi ha hb h
      go_wp2
      go_ret
      exact F.out

/-! ### szInt64SS -/
/-- how many values: the slices and their numbers -/
def sumL (xss : List (List Int)) (k : Nat) : Nat := ((xss.take k).map List.length).sum
def tot (xss : List (List Int)) : Nat := xss.length + sumL xss xss.length
theorem sumL_succ {xss : List (List Int)} {k : Nat} (h : k < xss.length) : sumL xss (k + 1) = sumL xss k + (xss.getD k []).length := by
  unfold sumL
  rw [List.take_succ_eq_append_getElem h, List.map_append, List.sum_append]
  simp [List.getD, h]
theorem sumL_mono {xss : List (List Int)} : ∀ {k m : Nat}, k ≤ m → m ≤ xss.length → sumL xss k ≤ sumL xss m
  | k, 0, h, _ => by rw [show k = 0 by omega]; exact Nat.le_refl _
  | k, m + 1, h, hm => by
    by_cases e : k = m + 1
    · rw [e]; exact Nat.le_refl _
    · have := sumL_mono (xss := xss) (show k ≤ m by omega) (by omega)
      rw [sumL_succ (by omega)]
      omega
theorem tot_each {xss : List (List Int)} {L : Nat} (h : tot xss ≤ L) : ∀ j, (xss.getD j []).length ≤ L := fun j => by
  by_cases hj : j < xss.length
  · have h1 := sumL_succ hj
    have h2 := sumL_mono (xss := xss) (show j + 1 ≤ xss.length by omega) (Nat.le_refl _)
    unfold tot at h
    omega
  · rw [show xss.getD j [] = [] by simp [List.getD, hj]]
    simp
theorem tot_len {xss : List (List Int)} {L n : Nat} (hl : xss.length = n) (h : tot xss ≤ L) : n ≤ L := by unfold tot at h; omega

def AnsSz (w : World) (left : Int) (t : Nat) (e : Ending) (w' : World) : Prop := w = w' ∧ e = .returned (.int .i64 (if left - t < 0 then -1 else left - t))
def HeadSz (n : Nat) (xss : List (List Int)) (left : Int) (l i : Value) : Prop := ∃ k : Nat, k ≤ n ∧ i = .int .i64 k ∧ l = .int .i64 (left - n - sumL xss k) ∧ 0 ≤ left - n - sumL xss k
theorem sz_bad {w : World} {xss : List (List Int)} {n k m : Nat} {left : Int} (hl : xss.length = n) (hk : k < n) (hm : (xss.getD k []).length = m) (h : left - n - sumL xss k - m < 0) : AnsSz w left (tot xss) (.returned (.int .i64 (-1))) w := by
  refine ⟨rfl, ?_⟩
  have h1 := sumL_succ (xss := xss) (k := k) (by omega)
  have h2 := sumL_mono (xss := xss) (show k + 1 ≤ xss.length by omega) (Nat.le_refl _)
  rw [if_pos (by unfold tot; omega)]
theorem sz_short {w : World} {xss : List (List Int)} {n : Nat} {left : Int} (hl : xss.length = n) (h : left - n < 0) : AnsSz w left (tot xss) (.returned (.int .i64 (-1))) w := ⟨rfl, by rw [if_pos (by unfold tot; omega)]⟩
theorem sz_good {w : World} {xss : List (List Int)} {n k : Nat} {left : Int} (hl : xss.length = n) (hk : k = n) (h : 0 ≤ left - n - sumL xss k) : AnsSz w left (tot xss) (.returned (.int .i64 (left - n - sumL xss k))) w := by
  subst hk
  refine ⟨rfl, ?_⟩
  have e : (left - tot xss : Int) = left - k - sumL xss k := by unfold tot; rw [hl]; omega
  rw [e, if_neg (by omega)]

set_option maxHeartbeats 1000000 in
theorem szSS (A : Option Addr) (n c : Nat) (xss : List (List Int)) (left : Int) (w : World) (h : Segs w w.heap.size A n xss) (hn : n ≤ 9223372036854775807) (h0 : 0 ≤ left) (h1 : left ≤ 1048576) :
    Calls Try.prog 51 #[.slice A n c, .int .i64 left] w (AnsSz w left (tot xss)) := by
  by_cases hs : left - n < 0
  · have S := Lib.hid (sz_short (w := w) h.1 hs)
    clear h
    go_enter Try.func51, Try.ntmps51
    go_wp2
    go_ret
    exact S.out
  · go_enter Try.func51, Try.ntmps51
    go_wp2
    go_loop [1, 5] (fun l i => HeadSz n xss left l i) (fun _ i => n - (intOf i).toNat)
    case atStart => exact ⟨0, Nat.zero_le _, rfl, by simp [sumL], by simp [sumL]; omega⟩
    case round =>
      obtain ⟨k, hk, rfl, rfl, hge⟩ := hrel
      by_cases hlt : k < n
      · obtain ⟨b, off, A', n', c', rfl, hbB, hx, hseg, hcap⟩ := h.spot hlt
        have hn' : n' ≤ 9223372036854775807 := Nat.le_trans hcap.1 hcap.2.1
        obtain ⟨l, hl⟩ : ∃ l, left - n - sumL xss k = l := ⟨_, rfl⟩
        have hle : l ≤ 1048576 := by omega
        have hge' : 0 ≤ l := by omega
        have L := Lib.hid (fun W => szInts A' n' c' l W hn' hge' hle)
        have HSEG := Lib.hid hseg.1
        have HLEN := Lib.hid h.1
        have HL := Lib.hid hl
        clear hseg h hcap hge
        rw [hl]
        clear hl
        by_cases hneg : l - n' < 0
        · have S := Lib.hid (sz_bad (w := w) HLEN.out hlt HSEG.out (by rw [HL.out]; exact hneg))
          rw [if_pos hneg] at L
          go_wp2_with fail
          refine (L.out _).mono ?_
          rintro e w' ⟨rfl, rfl⟩
          go_wp2
          go_ret
          exact S.out
        · have hsum := sumL_succ (xss := xss) (k := k) (by rw [HLEN.out]; exact hlt)
          rw [HSEG.out] at hsum
          have E : left - n - sumL xss (k + 1) = l - n' := by rw [hsum, ← HL.out]; omega
          have S : HeadSz n xss left (.int .i64 (l - n')) (.int .i64 ((k : Int) + 1)) := ⟨k + 1, hlt, by simp, by rw [E], by rw [E]; omega⟩
          replace S := Lib.hid S
          rw [if_neg hneg] at L
          clear hsum E
          go_wp2_with fail
          refine (L.out _).mono ?_
          rintro e w' ⟨rfl, rfl⟩
          go_wp2
          go_round
          case rel => exact S.out
          case measure => simp [intOf]; omega
      · have S := Lib.hid (sz_good (w := w) h.1 (show k = n by omega) hge)
        clear h hge
        go_wp2
        go_ret
        exact S.out

/-! ### eqInt64SS -/
set_option maxHeartbeats 1000000 in
theorem eqSSYes (A A' : Option Addr) (n c c' : Nat) (xss : List (List Int)) (w : World) (h : Segs w w.heap.size A n xss) (h' : Segs w w.heap.size A' n xss) (hn : n ≤ 1048576) (hs : ∀ j, (xss.getD j []).length ≤ 1048576) :
    Calls Try.prog 53 #[.slice A n c, .slice A' n c'] w fun e w' => e = .returned (.bool true) ∧ ∃ d, w' = w.drewN d := by
  have HS := Lib.hid hs
  clear hs
  go_enter Try.func53, Try.ntmps53
  go_wp2
  go_loopw [5] (fun i wr => ∃ k d : Nat, k ≤ n ∧ i = .int .i64 k ∧ wr = w.drewN d) (fun i _ => n - (intOf i).toNat)
  case atStart => exact ⟨0, 0, Nat.zero_le _, rfl, rfl⟩
  case round =>
    obtain ⟨k, d, hk, rfl, hw⟩ := hrel
    have h1 : Segs wr wr.heap.size A n xss := by rw [hw]; exact h
    have h2 : Segs wr wr.heap.size A' n xss := by rw [hw]; exact h'
    have HW := Lib.hid hw
    clear hw h h'
    by_cases hlt : k < n
    · obtain ⟨b, off, B, m, q, rfl, -, hx, hseg, -⟩ := h1.spot hlt
      obtain ⟨b', off', B', m', q', rfl, -, hx', hseg', -⟩ := h2.spot hlt
      obtain rfl : m = m' := by rw [← hseg.1, ← hseg'.1]
      have hm : m ≤ 1048576 := by rw [← hseg.1]; exact HS.out k
      have L := Lib.hid (fun nq => eqYes B B' m q q' _ (wr.drewN nq) (hseg.drewN nq) (hseg'.drewN nq) hm)
      clear h1 h2 hseg hseg'
      go_wp2
      go_quiet ((go_at_call 38; exact Calls.quiet_of (L.out _)))
      go_wp2
      go_roundw
      case rel => exact ⟨k + 1, d + nq, hlt, by go_num, by rw [HW.out, World.drewN_drewN]⟩
      case measure => simp [intOf]; omega
    · clear h1 h2
      go_wp2
      go_ret
      exact ⟨rfl, d, HW.out⟩
end Go.Proofs.Ytkmhnkljigncmaa.segsHelp
end

section
/-
  CONTRACTS on slices of slices of int64 that are the call's own: markInt64SS writes marks into them, heldInt64SS finds them again. Conditions: at most 1048576 values, marks from 0 to 16777216. By an AI agent.
-/
namespace Go.Proofs.Ytkmhnkljigncmaa.segsMark
open Go.RowKit Go.Proofs.Ytkmhnkljigncmaa.base Go.Proofs.Ytkmhnkljigncmaa.ints Go.Proofs.Ytkmhnkljigncmaa.sig Go.Proofs.Ytkmhnkljigncmaa.cursor Go.Proofs.Ytkmhnkljigncmaa.marks Go.Proofs.Ytkmhnkljigncmaa.app Go.Proofs.Ytkmhnkljigncmaa.sym Go.Proofs.Ytkmhnkljigncmaa.appAt Go.Proofs.Ytkmhnkljigncmaa.segs Go.Proofs.Ytkmhnkljigncmaa.segsHelp
set_option maxRecDepth 100000

/-- what marking leaves -/
def AnsMarkO (w : World) (base : Nat) (A : Option Addr) (n c : Nat) (k : Int) (e : Ending) (w' : World) : Prop :=
  e = .returned (.int .i64 (k + (n : Int))) ∧ w.grownBy w' (blk A) ∧ Own w' base (.slice A n c) (marks k n)

set_option maxHeartbeats 1000000 in
theorem markOwn (base : Nat) (A : Option Addr) (n c : Nat) (xs : List Int) (k : Int) (w : World) (h : Own w base (.slice A n c) xs) (hn : n ≤ 1048576) (hk0 : 0 ≤ k) (hk : k ≤ 16777216) :
    Calls Try.prog 40 #[.slice A n c, .int .i64 k] w (AnsMarkO w base A n c k) := by
  have hl := Own.len h
  by_cases h0 : n = 0
  · subst h0
    have hx : xs = [] := List.eq_nil_of_length_eq_zero hl.symm
    subst hx
    have HO := Lib.hid h
    clear h hl
    go_enter Try.func40, Try.ntmps40
    go_wp2
    go_loop [1, 5] (fun kk i => kk = .int .i64 k ∧ i = .int .i64 0) (fun _ _ => 0)
    case atStart => exact ⟨rfl, rfl⟩
    case round =>
      obtain ⟨rfl, rfl⟩ := hrel
      go_wp2
      go_ret
      exact ⟨by simp, World.grownBy.refl _ _, by simpa [marks] using HO.out⟩
  · rcases own_form (n := n) (vs := xs.map (Value.int .i64)) (by rw [hl]; rw [hl] at h; exact h) with ⟨_, e, _⟩ | ⟨g, cs0, rfl, hb, hr0, hnc, hz0, hmax, _, _⟩
    · exact absurd e h0
    have S0 : HeadMark w g n k c (.int .i64 k) (.int .i64 0) w := ⟨0, cs0, Nat.zero_le _, rfl, by simp, hr0, hz0, fun q hq => absurd hq (Nat.not_lt_zero _), World.grownBy.refl _ _⟩
    have HS0 := Lib.hid S0
    clear S0 hz0 hr0 hl h
    go_enter Try.func40, Try.ntmps40
    go_wp2
    go_loopw [1, 5] (fun kk i wr => HeadMark w g n k c kk i wr) (fun _ i _ => n - (intOf i).toNat)
    case atStart => exact HS0.out
    case round =>
      obtain ⟨j, cs, hj, rfl, rfl, hr, hs, hc, hg⟩ := hrel
      clear HS0
      by_cases hlt : j < n
      · have S := Lib.hid (headMark_step (k := k) hlt hnc hr hs hc hg)
        obtain ⟨u, hu⟩ : ∃ u, wr.cell? ⟨g, j, none⟩ = some u := ⟨_, (hr.cell j).trans (Array.getElem?_eq_getElem (by omega))⟩
        have hf : wr.frozen? ⟨g, j, none⟩ = false := hr.free j
        clear hr hs hc hg
        go_wp2
        go_roundw
        case rel => exact S.out
        case measure => simp [intOf]; omega
      · have e : j = n := by omega
        subst e
        have F : AnsMarkO w base (some ⟨g, 0, none⟩) j c k (.returned (.int .i64 (k + (j : Int)))) wr :=
          ⟨rfl, hg, Own.of_row hr (marks_len _ _) hs hnc hmax hb (fun q hq => by rw [marks_get hq]; exact hc q hq)⟩
        have HF := Lib.hid F
        clear F hr hs hc hg
        go_wp2
        go_ret
        exact HF.out

/-- the marks of a list of lists, from k on -/
def marksL (k : Int) (xss : List (List Int)) : List (List Int) := (List.range xss.length).map fun j => marks (k + sumL xss j) (xss.getD j []).length
theorem marksL_get {k : Int} {xss : List (List Int)} {j : Nat} (h : j < xss.length) : (marksL k xss).getD j [] = marks (k + sumL xss j) (xss.getD j []).length := by simp [marksL, List.getD, h]
theorem marksL_len {k : Int} {xss : List (List Int)} : (marksL k xss).length = xss.length := by simp [marksL]

/-- the first j slices are marked -/
def HeadMarkS (w : World) (lo hi : Nat) (A : Option Addr) (n c : Nat) (xss : List (List Int)) (k : Int) (kk i : Value) (wr : World) : Prop :=
  ∃ (j : Nat) (yss : List (List Int)), j ≤ n ∧ i = .int .i64 j ∧ kk = .int .i64 (k + sumL xss j) ∧ Owns wr lo hi A n c yss ∧ (∀ q, (yss.getD q []).length = (xss.getD q []).length) ∧ (∀ q, q < j → yss.getD q [] = marks (k + sumL xss q) (xss.getD q []).length) ∧ Btw lo hi w wr
theorem headMarkS_step {w wr w1 : World} {lo hi : Nat} {A : Option Addr} {n c j m : Nat} {xss yss : List (List Int)} {k : Int} {B : Option Addr} {q : Nat} (hxl : xss.length = n) (hj : j < n) (h : Owns wr lo hi A n c yss)
    (hl : ∀ q, (yss.getD q []).length = (xss.getD q []).length) (hm : ∀ q, q < j → yss.getD q [] = marks (k + sumL xss q) (xss.getD q []).length) (hb : Btw lo hi w wr)
    (hv : ∀ b, A = some ⟨b, 0, none⟩ → wr.cell? ⟨b, j, none⟩ = some (.slice B m q)) (hlen : (xss.getD j []).length = m) (hblk : ∀ k, blk B = some k → lo ≤ k ∧ k < hi)
    (hg : wr.grownBy w1 (blk B)) (ho : Own w1 lo (.slice B m q) (marks (k + sumL xss j) m)) :
    HeadMarkS w lo hi A n c xss k (.int .i64 (k + sumL xss j + m)) (.int .i64 ((j : Int) + 1)) w1 := by
  refine ⟨j + 1, yss.set j (marks (k + sumL xss j) m), hj, by simp, ?_, ?_, fun p => ?_, fun p hp => ?_, hb.trans (Btw.of_grown hg hblk)⟩
  · rw [sumL_succ (by omega), hlen]
    exact congrArg (Value.int .i64) (by omega)
  · refine h.set hj (by rw [blk_own]; exact hg) ho ?_ hv
    rw [marks_len, hl, hlen]
  · by_cases e : j = p
    · subst e
      have : j < yss.length := by rw [h.len]; exact hj
      simp [List.getD, this, marks_len, ← hlen]
    · have e3 : (yss.set j (marks (k + sumL xss j) m)).getD p [] = yss.getD p [] := by simp [List.getD, List.getElem?_set_ne e]
      rw [e3]; exact hl p
  · by_cases e : j = p
    · subst e
      have : j < yss.length := by rw [h.len]; exact hj
      rw [hlen]
      simp [List.getD, this]
    · have e3 : (yss.set j (marks (k + sumL xss j) m)).getD p [] = yss.getD p [] := by simp [List.getD, List.getElem?_set_ne e]
      rw [e3]; exact hm p (by omega)

/-- what marking leaves -/
def AnsMarkS (w : World) (lo hi : Nat) (A : Option Addr) (n c : Nat) (xss : List (List Int)) (k : Int) (e : Ending) (w' : World) : Prop :=
  e = .returned (.int .i64 (k + sumL xss n)) ∧ Owns w' lo hi A n c (marksL k xss) ∧ Btw lo hi w w'
theorem lists_same {a b : List (List Int)} {n : Nat} (ha : a.length = n) (hb : b.length = n) (h : ∀ j, j < n → a.getD j [] = b.getD j []) : a = b := by
  refine List.ext_getElem (by omega) fun j h1 h2 => ?_
  have := h j (by omega)
  simpa [List.getD, h1, h2] using this
theorem markS_end {w wr : World} {lo hi : Nat} {A : Option Addr} {n c j : Nat} {xss yss : List (List Int)} {k : Int} (hxl : xss.length = n) (hj : ¬ j < n) (hj' : j ≤ n) (h : Owns wr lo hi A n c yss)
    (hm : ∀ q, q < j → yss.getD q [] = marks (k + sumL xss q) (xss.getD q []).length) (hb : Btw lo hi w wr) : AnsMarkS w lo hi A n c xss k (.returned (.int .i64 (k + sumL xss j))) wr := by
  have e : j = n := by omega
  subst e
  have e2 : yss = marksL k xss := lists_same h.len (by rw [marksL_len, hxl]) (fun q hq => by rw [hm q hq, marksL_get (by omega)])
  subst e2
  exact ⟨rfl, h, hb⟩

set_option maxHeartbeats 1000000 in
theorem markSS (lo hi : Nat) (A : Option Addr) (n c : Nat) (xss : List (List Int)) (k : Int) (w : World) (h : Owns w lo hi A n c xss) (ht : tot xss ≤ 1048576) (hk0 : 0 ≤ k) (hk : k ≤ 8388608) :
    Calls Try.prog 54 #[.slice A n c, .int .i64 k] w (AnsMarkS w lo hi A n c xss k) := by
  have HX := Lib.hid h.len
  have hn : n ≤ 1048576 := tot_len h.len ht
  have HT := Lib.hid ht
  have S0 : HeadMarkS w lo hi A n c xss k (.int .i64 k) (.int .i64 0) w := ⟨0, xss, Nat.zero_le _, rfl, by simp [sumL], h, fun _ => rfl, fun q hq => absurd hq (Nat.not_lt_zero _), Btw.refl _ _ _⟩
  have HS0 := Lib.hid S0
  clear S0 h ht
  go_enter Try.func54, Try.ntmps54
  go_wp2
  go_loopw [1, 5] (fun kk i wr => HeadMarkS w lo hi A n c xss k kk i wr) (fun _ i _ => n - (intOf i).toNat)
  case atStart => exact HS0.out
  case round =>
    obtain ⟨j, yss, hj, rfl, rfl, ho, hl, hm, hb⟩ := hrel
    clear HS0
    have hsum : sumL xss j ≤ 1048576 := by
      have h1 := sumL_mono (xss := xss) (show j ≤ xss.length by rw [HX.out]; exact hj) (Nat.le_refl _)
      have h2 := HT.out
      unfold tot at h2
      omega
    by_cases hlt : j < n
    · obtain ⟨vs, hr, hin, -⟩ := ho.row
      rcases own_form hr with ⟨_, e, _⟩ | ⟨g, cur, rfl, hlo, hrow, hnc, hsz, hmax, hlen, hc⟩
      · omega
      obtain ⟨B, q, hv, ho1, ht1⟩ := hin j hlt
      have hcell : wr.cell? ⟨g, j, none⟩ = some (.slice B (yss.getD j []).length q) := by rw [hrow.cell j, hc j hlt, hv]
      rw [hv] at ho1
      have hm1 : (yss.getD j []).length ≤ 1048576 := by rw [hl]; exact tot_each HT.out j
      have hlj := hl j
      obtain ⟨m, hmm⟩ : ∃ m, (yss.getD j []).length = m := ⟨_, rfl⟩
      rw [hmm] at hcell ho1 hm1 hlj
      have hbl : ∀ k, blk B = some k → lo ≤ k ∧ k < hi := fun k hk => ⟨(World.ownsRow.lt ho1 k (by rw [blk_own]; exact hk)).1, ht1 k hk⟩
      have L := Lib.hid (markOwn lo B m q _ (k + sumL xss j) wr ho1 hm1 (by omega) (by omega))
      have R := Lib.hid (fun w1 hg ho2 => headMarkS_step (w1 := w1) (B := B) (m := m) (q := q) HX.out hlt ho hl hm hb (fun b e => by injection e with e; injection e with e; subst e; exact hcell) hlj.symm hbl hg ho2)
      generalize hz : sumL xss j = z at *
      clear ho hr hin hrow hsz hlen hc hv ho1 ht1 hm hl hlj hmm hbl hb hz
      go_wp2_with fail
      refine L.out.mono ?_
      rintro e w1 ⟨rfl, hg, ho2⟩
      have S := Lib.hid (R.out w1 hg ho2)
      clear hg ho2 hcell L R
      go_wp2
      go_roundw
      case rel => exact S.out
      case measure => simp [intOf]; omega
    · have F := Lib.hid (markS_end HX.out hlt hj ho hm hb)
      clear ho hl hm hb
      generalize sumL xss j = z at *
      go_wp2
      go_ret
      exact F.out

/-- the marks are found again -/
theorem segs_marks {w : World} {A : Option Addr} {n : Nat} {xss : List (List Int)} {k : Int} (h : Segs w w.heap.size A n (marksL k xss)) : xss.length = n := by rw [← marksL_len (k := k)]; exact h.1
set_option maxHeartbeats 1000000 in
theorem heldSS (A : Option Addr) (n c : Nat) (xss : List (List Int)) (k : Int) (w : World) (h : Segs w w.heap.size A n (marksL k xss)) (ht : tot xss ≤ 1048576) (hk0 : 0 ≤ k) (hk : k ≤ 8388608) :
    Calls Try.prog 88 #[.slice A n c, .int .i64 k] w fun e w' => w = w' ∧ e = .returned (.int .i64 (k + sumL xss n)) := by
  have HX := Lib.hid (segs_marks h)
  have hn : n ≤ 1048576 := tot_len HX.out ht
  have HT := Lib.hid ht
  clear ht
  go_enter Try.func88, Try.ntmps88
  go_wp2
  go_loop [1, 5] (fun kk i => ∃ j : Nat, j ≤ n ∧ i = .int .i64 j ∧ kk = .int .i64 (k + sumL xss j)) (fun _ i => n - (intOf i).toNat)
  case atStart => exact ⟨0, Nat.zero_le _, rfl, by simp [sumL]⟩
  case round =>
    obtain ⟨j, hj, rfl, rfl⟩ := hrel
    have hsum : sumL xss j ≤ 1048576 := by
      have h1 := sumL_mono (xss := xss) (show j ≤ xss.length by rw [HX.out]; exact hj) (Nat.le_refl _)
      have h2 := HT.out
      unfold tot at h2
      omega
    by_cases hlt : j < n
    · obtain ⟨b, off, B, m, q, rfl, -, hx, hseg, -⟩ := h.spot hlt
      rw [marksL_get (by rw [HX.out]; exact hlt)] at hseg
      have hm : (xss.getD j []).length = m := by rw [← hseg.1, marks_len]
      rw [hm] at hseg
      have hm1 : m ≤ 1048576 := by rw [← hm]; exact tot_each HT.out j
      have E : k + sumL xss (j + 1) = k + sumL xss j + m := by rw [sumL_succ (by rw [HX.out]; exact hlt), hm]; omega
      have S : ∃ j' : Nat, j' ≤ n ∧ Value.int .i64 ((j : Int) + 1) = .int .i64 j' ∧ Value.int .i64 (k + sumL xss j + m) = .int .i64 (k + sumL xss j') := ⟨j + 1, hlt, by simp, by rw [E]⟩
      replace S := Lib.hid S
      have L := Lib.hid (heldInts B m q (k + sumL xss j) w hseg hm1 (by omega) (by omega))
      clear h hseg hm E
      generalize hz : sumL xss j = z at *
      clear hz
      go_wp2_with fail
      refine L.out.mono ?_
      rintro e w' ⟨rfl, rfl⟩
      clear L
      go_wp2
      go_round
      case rel => exact S.out
      case measure => simp [intOf]; omega
    · have e : j = n := by omega
      subst e
      clear h
      generalize hz : sumL xss j = z at *
      have HZ := Lib.hid hz
      clear hz
      go_wp2
      go_ret
      exact ⟨rfl, by rw [HZ.out]; rfl⟩
end Go.Proofs.Ytkmhnkljigncmaa.segsMark
end

section
/-
  THE LAWS' HELPERS IN ONE FORM, for each kind of argument (ints, Sig, Subst): copy, compare, mark, find the marks, measure. Used by the walks that gen_exact.py writes. Conditions: at most 1048576 values. By an AI agent.
-/
namespace Go.Proofs.Ytkmhnkljigncmaa.kinds
open Go.RowKit Go.Proofs.Ytkmhnkljigncmaa.base Go.Proofs.Ytkmhnkljigncmaa.ints Go.Proofs.Ytkmhnkljigncmaa.sig Go.Proofs.Ytkmhnkljigncmaa.cursor Go.Proofs.Ytkmhnkljigncmaa.marks Go.Proofs.Ytkmhnkljigncmaa.app Go.Proofs.Ytkmhnkljigncmaa.sym Go.Proofs.Ytkmhnkljigncmaa.appAt Go.Proofs.Ytkmhnkljigncmaa.segs Go.Proofs.Ytkmhnkljigncmaa.segsHelp Go.Proofs.Ytkmhnkljigncmaa.segsMark
set_option maxRecDepth 100000

/-- a slice of int64 of the call's own, in a block from lo on and below hi -/
def Ownd (w : World) (lo hi : Nat) (A : Option Addr) (n c : Nat) (xs : List Int) : Prop := Own w lo (.slice A n c) xs ∧ ∀ k, blk A = some k → k < hi
section
variable {w w' : World} {lo hi n c : Nat} {A : Option Addr} {xs : List Int}
theorem Ownd.rd (h : Ownd w lo hi A n c xs) : Seg w w.heap.size A n xs := Own.seg h.1
theorem Ownd.next (h : Ownd w lo hi A n c xs) (hb : Below w.heap.size w w') : Ownd w' lo hi A n c xs := ⟨h.1.next hb, h.2⟩
theorem Ownd.drewN (h : Ownd w lo hi A n c xs) (d : Nat) : Ownd (w.drewN d) lo hi A n c xs := h
theorem Ownd.drew (h : Ownd w lo hi A n c xs) : Ownd w.drew lo hi A n c xs := h
theorem Ownd.wider {lo' hi' : Nat} (h : Ownd w lo hi A n c xs) (h1 : lo' ≤ lo) (h2 : hi ≤ hi') : Ownd w lo' hi' A n c xs := ⟨Own.lower h.1 h1, fun k hk => Nat.lt_of_lt_of_le (h.2 k hk) h2⟩
theorem Ownd.btw {lo' hi' : Nat} (h : Ownd w lo hi A n c xs) (hb : Btw lo' hi' w w') (ho : hi ≤ lo' ∨ hi' ≤ lo) : Ownd w' lo hi A n c xs := by
  obtain ⟨⟨q1, q2⟩, ht⟩ := h
  refine ⟨⟨q1, ?_⟩, ht⟩
  rcases q2 with q2 | ⟨g, cap, cur, hv, hg, hh, r⟩
  · exact .inl q2
  · have h5 := ht g (by rw [← blk_own A n c, hv]; rfl)
    refine .inr ⟨g, cap, cur, hv, hg, ?_, r⟩
    have hlt : g < w.heap.size := (Array.getElem?_eq_some_iff.1 hh).1
    exact (hb.block g hlt (by omega)).trans hh
theorem Ownd.of_own (h : Own w lo (.slice A n c) xs) : Ownd w lo w.heap.size A n c xs := ⟨h, fun k hk => (World.ownsRow.lt h k (by rw [blk_own]; exact hk)).2⟩
theorem Ownd.cap (h : Ownd w lo hi A n c xs) : Cap A n c := by
  have hl := Own.len h.1
  rcases own_form (n := n) (vs := xs.map (Value.int .i64)) (by rw [hl]; have := h.1; rw [hl] at this; exact this) with ⟨rfl, h1, rfl, _⟩ | ⟨g, cur, rfl, _, _, h1, h2, h3, _⟩
  · exact ⟨by omega, by omega, fun _ => rfl⟩
  · exact ⟨h1, h3, fun e => by cases e⟩
theorem drew_below (w : World) : Below w.heap.size w w.drew := ⟨rfl, rfl, rfl, Nat.le_refl _, fun _ _ => rfl⟩
theorem drewN_below (w : World) (d : Nat) : Below w.heap.size w (w.drewN d) := ⟨rfl, rfl, rfl, Nat.le_refl _, fun _ _ => rfl⟩
end

/-! ### ints -/
def CopyInts (w : World) (n : Nat) (xs : List Int) (e : Ending) (w' : World) : Prop := ∃ g, e = .returned (.slice (some ⟨g, 0, none⟩) n n) ∧ Ownd w' w.heap.size w'.heap.size (some ⟨g, 0, none⟩) n n xs ∧ w.heap.size < w'.heap.size ∧ Below w.heap.size w w'
theorem intsTo (A : Option Addr) (n c : Nat) (xs : List Int) (w : World) (h : Seg w w.heap.size A n xs) (hn : n ≤ 1048576) :
    Calls Try.prog 35 #[.slice A n c] w (CopyInts w n xs) :=
  (toInts A n c xs w h hn).mono fun _ _ ⟨cs, he, hr, hs, hc, hz, hb⟩ => ⟨w.heap.size, he, Ownd.of_own (Own.of_row hr h.1 hs (Nat.le_refl _) (by omega) (Nat.le_refl _) hc), by omega, hb⟩
theorem intsEq (A A' : Option Addr) (n n' c c' : Nat) (xs : List Int) (w : World) (h : Seg w w.heap.size A n xs) (h' : Seg w w.heap.size A' n' xs) (hn : n ≤ 1048576) :
    Calls Try.prog 38 #[.slice A n c, .slice A' n' c'] w fun e w' => e = .returned (.bool true) ∧ Below w.heap.size w w' := by
  obtain rfl : n = n' := by rw [← h.1, ← h'.1]
  exact (eqYes A A' n c c' xs w h h' hn).mono fun _ _ ⟨he, d, hd⟩ => ⟨he, by rw [hd]; exact drewN_below _ _⟩
def AnsMarkI (w : World) (lo hi : Nat) (A : Option Addr) (n c : Nat) (k : Int) (e : Ending) (w' : World) : Prop := e = .returned (.int .i64 (k + (n : Int))) ∧ Ownd w' lo hi A n c (marks k n) ∧ Btw lo hi w w'
theorem intsMark (lo hi : Nat) (A : Option Addr) (n c : Nat) (xs : List Int) (k : Int) (w : World) (h : Ownd w lo hi A n c xs) (hn : n ≤ 1048576) (hk0 : 0 ≤ k) (hk : k ≤ 8388608) :
    Calls Try.prog 40 #[.slice A n c, .int .i64 k] w (AnsMarkI w lo hi A n c k) :=
  (markOwn lo A n c xs k w h.1 hn hk0 (by omega)).mono fun _ _ ⟨he, hg, ho⟩ => ⟨he, ⟨ho, h.2⟩, Btw.of_grown hg (fun q hq => ⟨Own.ge h.1 q hq, h.2 q hq⟩)⟩
theorem intsHeld (A : Option Addr) (n c : Nat) (k : Int) (w : World) (h : Seg w w.heap.size A n (marks k n)) (hn : n ≤ 1048576) (hk0 : 0 ≤ k) (hk : k ≤ 8388608) :
    Calls Try.prog 50 #[.slice A n c, .int .i64 k] w fun e w' => e = .returned (.int .i64 (k + (n : Int))) ∧ Below w.heap.size w w' :=
  (heldInts A n c k w h hn hk0 (by omega)).mono fun _ _ ⟨hw, he⟩ => ⟨he, by rw [← hw]; exact Below.refl _ _⟩

/-! ### Sig -/
def CopySigK (w : World) (n : Nat) (xs : List Int) (e : Ending) (w' : World) : Prop := ∃ g, e = .returned (.agg #[.slice (some ⟨g, 0, none⟩) n n]) ∧ Ownd w' w.heap.size w'.heap.size (some ⟨g, 0, none⟩) n n xs ∧ w.heap.size < w'.heap.size ∧ Below w.heap.size w w'
theorem sigTo (A : Option Addr) (n c : Nat) (xs : List Int) (w : World) (h : Seg w w.heap.size A n xs) (hn : n ≤ 1048576) :
    Calls Try.prog 34 #[.agg #[.slice A n c]] w (CopySigK w n xs) :=
  (toSig A n c xs w h hn).mono fun _ _ ⟨g, cs, he, hg, hr, hs, hc, hb⟩ => ⟨g, he, Ownd.of_own (Own.of_row hr h.1 hs (Nat.le_refl _) (by omega) hg hc), Nat.lt_of_le_of_lt hg hr.lt, hb⟩
theorem sigEq (A A' : Option Addr) (n n' c c' : Nat) (xs : List Int) (w : World) (h : Seg w w.heap.size A n xs) (h' : Seg w w.heap.size A' n' xs) (hn : n ≤ 1048576) :
    Calls Try.prog 37 #[.agg #[.slice A n c], .agg #[.slice A' n' c']] w fun e w' => e = .returned (.bool true) ∧ Below w.heap.size w w' := by
  obtain rfl : n = n' := by rw [← h.1, ← h'.1]
  exact eqSigYes A A' n c c' xs w h h' hn

set_option maxHeartbeats 1000000 in
theorem sigMark (lo hi : Nat) (A : Option Addr) (n c : Nat) (xs : List Int) (k : Int) (w : World) (h : Ownd w lo hi A n c xs) (hn : n ≤ 1048576) (hk0 : 0 ≤ k) (hk : k ≤ 8388608) :
    Calls Try.prog 39 #[.agg #[.slice A n c], .int .i64 k] w (AnsMarkI w lo hi A n c k) := by
  have b : Below w.heap.size w (w.alloc (.cells #[.slice A n c] 26)) := (Below.refl _ _).alloc (Nat.le_refl _) _
  have L := Lib.hid (intsMark lo hi A n c xs k _ (h.next b) hn hk0 hk)
  clear h
  go_enter Try.func39, Try.ntmps39
  go_wp2_with fail
  refine L.out.mono ?_
  rintro e w' ⟨rfl, ho, hb⟩
  have F : AnsMarkI w lo hi A n c k (.returned (.int .i64 (k + (n : Int)))) w' := ⟨rfl, ho, (Btw.of_below b).trans hb⟩
  have HF := Lib.hid F
  clear F ho hb b L
  go_wp2
  go_ret
  exact HF.out

/-! ### Subst -/
def CopySubst (w : World) (n : Nat) (xss : List (List Int)) (e : Ending) (w' : World) : Prop := ∃ g, e = .returned (.agg #[.slice (some ⟨g, 0, none⟩) n n]) ∧ Owns w' w.heap.size w'.heap.size (some ⟨g, 0, none⟩) n n xss ∧ w.heap.size < w'.heap.size ∧ Below w.heap.size w w'
theorem owns_put {w : World} {lo hi n c b : Nat} {A : Option Addr} {xss : List (List Int)} {t : TypeId} {cs : Array Value} (h : Owns w lo hi A n c xss) (hr : Row w b t cs) (hb : b < lo) (i : Nat) (u : Value) : Owns (w.setCell ⟨b, i, none⟩ u) lo hi A n c xss :=
  h.btw (lo' := b) (hi' := b + 1) (Btw.of_grown (grown_put (World.grownBy.refl _ _) _ _) (fun k hk => by injection hk; omega)) (.inr (by omega))

theorem substEq (A A' : Option Addr) (n n' c c' : Nat) (xss : List (List Int)) (w : World) (h : Segs w w.heap.size A n xss) (h' : Segs w w.heap.size A' n' xss) (ht : tot xss ≤ 1048576) :
    Calls Try.prog 36 #[.agg #[.slice A n c], .agg #[.slice A' n' c']] w fun e w' => e = .returned (.bool true) ∧ Below w.heap.size w w' := by
  obtain rfl : n = n' := by rw [← h.1, ← h'.1]
  obtain ⟨W, hW⟩ : ∃ W, W = (w.alloc (.cells #[.slice A n c] 31)).alloc (.cells #[.slice A' n c'] 31) := ⟨_, rfl⟩
  have b : Below w.heap.size w W := by rw [hW]; exact ((Below.refl _ _).alloc (Nat.le_refl _) _).alloc (by simp) _
  have L := Lib.hid (eqSSYes A A' n c c' xss W (h.next b) (h'.next b) (tot_len h.1 ht) (tot_each ht))
  have HW := Lib.hid hW
  clear hW h h' ht
  go_enter Try.func36, Try.ntmps36
  go_wp2_with fail
  rw [← HW.out]
  refine L.out.mono ?_
  rintro e w' ⟨rfl, d, rfl⟩
  replace b := below_drewN b d
  go_wp2
  go_ret
  exact ⟨rfl, b⟩

set_option maxHeartbeats 1000000 in
theorem substMark (lo hi : Nat) (A : Option Addr) (n c : Nat) (xss : List (List Int)) (k : Int) (w : World) (h : Owns w lo hi A n c xss) (hhi : hi ≤ w.heap.size) (ht : tot xss ≤ 1048576) (hk0 : 0 ≤ k) (hk : k ≤ 8388608) :
    Calls Try.prog 41 #[.agg #[.slice A n c], .int .i64 k] w (AnsMarkS w lo hi A n c xss k) := by
  have b : Below w.heap.size w (w.alloc (.cells #[.slice A n c] 31)) := (Below.refl _ _).alloc (Nat.le_refl _) _
  have L := Lib.hid (markSS lo hi A n c xss k _ (h.next b) ht hk0 hk)
  clear h ht
  go_enter Try.func41, Try.ntmps41
  go_wp2_with fail
  refine L.out.mono ?_
  rintro e w' ⟨rfl, ho, hb⟩
  have F : AnsMarkS w lo hi A n c xss k (.returned (.int .i64 (k + sumL xss n))) w' := ⟨rfl, ho, (Btw.of_below b).trans hb⟩
  have HF := Lib.hid F
  clear F ho hb b L
  generalize sumL xss n = z at *
  go_wp2
  go_ret
  exact HF.out

set_option maxHeartbeats 1000000 in
theorem substHeld (A : Option Addr) (n c : Nat) (xss : List (List Int)) (k : Int) (w : World) (h : Segs w w.heap.size A n (marksL k xss)) (ht : tot xss ≤ 1048576) (hk0 : 0 ≤ k) (hk : k ≤ 8388608) :
    Calls Try.prog 42 #[.agg #[.slice A n c], .int .i64 k] w fun e w' => e = .returned (.int .i64 (k + sumL xss n)) ∧ Below w.heap.size w w' := by
  have b : Below w.heap.size w (w.alloc (.cells #[.slice A n c] 31)) := (Below.refl _ _).alloc (Nat.le_refl _) _
  have HX := segs_marks h
  have hsum : sumL xss n ≤ 1048576 := by
    have h1 := ht
    unfold tot at h1
    rw [HX] at h1
    omega
  have L := Lib.hid (heldSS A n c xss k _ (h.next b) ht hk0 hk)
  clear h ht HX
  obtain ⟨z, hz⟩ : ∃ z, sumL xss n = z := ⟨_, rfl⟩
  rw [hz] at L hsum ⊢
  clear hz
  go_enter Try.func42, Try.ntmps42
  go_wp2_with fail
  refine L.out.mono ?_
  rintro e w' ⟨rfl, rfl⟩
  clear L
  go_wp2
  go_ret
  exact ⟨rfl, b⟩
end Go.Proofs.Ytkmhnkljigncmaa.kinds
end

section
/-
  CONTRACTS of the look-ups: impl.varTerm, (lookup).fill over whatever look-up ('Looks'), lookupIn and what it returns. Conditions: at most 60 numbers, replacements of at most 4096. By an AI agent.
-/
namespace Go.Proofs.Ytkmhnkljigncmaa.look
open Go.RowKit Go.Proofs.Ytkmhnkljigncmaa.base Go.Proofs.Ytkmhnkljigncmaa.ints Go.Proofs.Ytkmhnkljigncmaa.marks Go.Proofs.Ytkmhnkljigncmaa.app Go.Proofs.Ytkmhnkljigncmaa.sym Go.Proofs.Ytkmhnkljigncmaa.segs Go.Proofs.Ytkmhnkljigncmaa.fillMath
set_option maxRecDepth 100000

theorem varTerm (i : Int) (w : World) (h0 : 0 ≤ i) (h1 : i ≤ 1000) :
    Calls Try.prog 59 #[.int .i64 i] w (AnsList w [-1 - i]) := by
  have F : AnsList w [-1 - i] (.returned (.slice (some ⟨w.heap.size, 0, none⟩) 1 1)) (w.alloc (.cells #[.int .i64 (-1 - i)] 2)) :=
    ⟨_, 1, 1, rfl, Own.of_row (Row.new _ _ _) rfl rfl (Nat.le_refl _) (by omega) (Nat.le_refl _) (fun j hj => by
      have e : j = 0 := by omega
      subst e
      rfl), (Below.refl _ _).alloc (Nat.le_refl _) _⟩
  have HF := Lib.hid F
  clear F
  go_enter Try.func59, Try.ntmps59
  go_wp2
  go_ret
  exact HF.out

/-- an answer that may be read: it lies below B, or it is new -/
def AnsLook (B : Nat) (w : World) (ys : List Int) (e : Ending) (w' : World) : Prop := ∃ A n c, e = .returned (.slice A n c) ∧ Seg w' w'.heap.size A n ys ∧ Cap A n c ∧ (∀ k, blk A = some k → k < B ∨ w.heap.size ≤ k) ∧ Below w.heap.size w w'
/-- function g with what it has captured looks up L, at variables below N, as long as what lies in w lies -/
def Looks (g : Nat) (lb : Array Value) (w : World) (L : Nat → List Int) (N : Nat) : Prop :=
  ∀ (W : World) (i : Nat), Below w.heap.size w W → i < N → Calls Try.prog g (#[.int .i64 (i : Int)] ++ lb) W (AnsLook w.heap.size W (L i))
theorem Looks.next {g : Nat} {lb : Array Value} {w w' : World} {L : Nat → List Int} {N : Nat} (h : Looks g lb w L N) (hb : Below w.heap.size w w') : Looks g lb w' L N :=
  fun W i hW hi => (h W i (next_trans hb hW) hi).mono fun _ _ ⟨A, n, c, he, h1, h2, h3, h4⟩ => ⟨A, n, c, he, h1, h2, fun k hk => by have := h3 k hk; have := hb.size; omega, h4⟩
theorem own_cap {w : World} {base : Nat} {A : Option Addr} {n c : Nat} {xs : List Int} (h : Own w base (.slice A n c) xs) : Cap A n c := by
  have hl := Own.len h
  rcases own_form (n := n) (vs := xs.map (Value.int .i64)) (by rw [hl]; rw [hl] at h; exact h) with ⟨rfl, h1, rfl, _⟩ | ⟨g, cur, rfl, _, _, h1, h2, h3, _⟩
  · exact ⟨by omega, by omega, fun _ => rfl⟩
  · exact ⟨h1, h3, fun e => by cases e⟩
theorem look_new {w w' : World} {B : Nat} {ys : List Int} {A : Option Addr} {n c : Nat} (ho : Own w' w.heap.size (.slice A n c) ys) (hb : Below w.heap.size w w') : AnsLook B w ys (.returned (.slice A n c)) w' :=
  ⟨A, n, c, rfl, Own.seg ho, own_cap ho, fun k hk => .inr (World.ownsRow.lt ho k (by cases A with | none => cases hk | some a => exact hk)).1, hb⟩

/-- the head of fill's loop -/
def HeadFill (w : World) (m : Nat) (t : List Int) (L : Nat → List Int) (out i : Value) (wr : World) : Prop :=
  ∃ (k : Nat) (O : Option Addr) (on oc : Nat), k ≤ m ∧ i = .int .i64 k ∧ out = .slice O on oc ∧ Own wr w.heap.size (.slice O on oc) (fillL L (t.take k)) ∧ Below w.heap.size w wr
theorem fill_bound {L : Nat → List Int} {t : List Int} {m k : Nat} (hM : ∀ i, (L i).length ≤ 4096) (hm : t.length = m) (h60 : m ≤ 60) : (fillL L (t.take k)).length ≤ 245760 := by
  have h := fill_len (M := 4096) (by omega) hM (t.take k)
  have h2 : (t.take k).length ≤ 60 := by simp; omega
  have h3 : (t.take k).length * 4096 ≤ 60 * 4096 := Nat.mul_le_mul_right _ h2
  omega

set_option maxHeartbeats 2000000 in
theorem fill (g : Nat) (lb : Array Value) (eg : ∀ args w, (callFunc g args).run Try.prog w = .ok (.enter g args) w) (A : Option Addr) (m c : Nat) (t : List Int) (L : Nat → List Int) (w : World)
    (hL : Looks g lb w L 24) (h : Seg w w.heap.size A m t) (hm : m ≤ 60) (hv : ∀ x ∈ t, -24 ≤ x) (hM : ∀ i, (L i).length ≤ 4096) :
    Calls Try.prog 73 #[.func (.func g) #[] lb, .slice A m c] w (AnsList w (fillL L t)) := by
  have HL := Lib.hid h.1
  have HV := Lib.hid hv
  have HM := Lib.hid hM
  have HK := Lib.hid hL
  have S0 : HeadFill w m t L (.slice none 0 0) (.int .i64 0) w := ⟨0, _, _, _, Nat.zero_le _, rfl, rfl, by simpa [fillL] using Own.nil w w.heap.size, Below.refl _ _⟩
  have HS0 := Lib.hid S0
  clear S0 hv hM hL
  go_enter Try.func73, Try.ntmps73
  go_wp2
  go_loopw [5, 10] (fun out i wr => HeadFill w m t L out i wr) (fun _ i _ => m - (intOf i).toNat)
  case atStart => exact HS0.out
  case round =>
    obtain ⟨k, O, on, oc, hk, rfl, rfl, ho, hb⟩ := hrel
    clear HS0
    have hon : on ≤ 245760 := by rw [Own.len ho]; exact fill_bound HM.out HL.out hm
    by_cases hlt : k < m
    · obtain ⟨b, off, x, rfl, hbb, hx, ex⟩ := h.spot hlt
      have hx1 : wr.cell? ⟨b, off + k, none⟩ = some (.int .i64 x) := (hb.cell (p := ⟨b, off + k, none⟩) hbb).trans hx
      have hmem : x ∈ t := by
        have hkl : k < t.length := by rw [HL.out]; exact hlt
        have := ex.out
        rw [← this]
        simp [List.getD, hkl]
      have hx24 : -24 ≤ x := HV.out x hmem
      have E := Lib.hid (fill_take (L := L) (t := t) (k := k) (by rw [HL.out]; exact hlt) ex.out)
      have hsz := hb.size
      clear hmem hx h ex
      by_cases hpos : 0 ≤ x
      · have R := Lib.hid (rep_sym (L := L) hpos)
        go_wp2_with (at_builtin; refine app1 rfl _ _ rfl w.heap.size O on oc (fillL L (t.take k)) rfl (Own.alloc ho _) wr.heap.size 1 x rfl ((Row.new _ _ _).cell 0) (by omega) (by simp; omega) ?_; intro O' oc' w2 ho2 b2)
        have S : HeadFill w m t L (.slice O' (on + 1) oc') (.int .i64 ((k : Int) + 1)) w2 := ⟨k + 1, O', on + 1, oc', hlt, by simp, rfl, by rw [E.out, R.out]; exact ho2, (hb.alloc hsz _).trans b2⟩
        replace S := Lib.hid S
        clear ho2 b2 ho hb R E
        go_wp2
        go_roundw
        case rel => exact S.out
        case measure => simp [intOf]; omega
      · have hneg : x < 0 := by omega
        have R := Lib.hid (rep_var (L := L) hneg)
        have hcall := HK.out wr (-1 - x).toNat hb (by omega)
        rw [show (((-1 - x).toNat : Nat) : Int) = -1 - x by omega] at hcall
        have hLM : (L (-1 - x).toNat).length ≤ 4096 := HM.out _
        generalize hys : L (-1 - x).toNat = ys at hcall R hLM
        replace hcall := Lib.hid hcall
        clear hys
        go_wp2_with (first
          | (go_at_fn g; refine hcall.out.mono ?_; rintro e w1 ⟨A', n', c', rfl, s', cap', -, bb⟩; have hn' : n' ≤ 4096 := (by rw [← s'.1]; exact hLM); have ho1 := ho.next bb; have hb1 := hb.trans (bb.mono hb.size))
          | (at_builtin; refine appAll rfl _ _ rfl w.heap.size O on oc (fillL L (t.take k)) rfl ho1 A' n' c' w1.heap.size ys rfl s' cap'.2.2 (by omega) (by omega) hb1.size ?_; intro O' oc' w2 ho2 b2))
        have S : HeadFill w m t L (.slice O' (on + n') oc') (.int .i64 ((k : Int) + 1)) w2 := ⟨k + 1, O', on + n', oc', hlt, by simp, rfl, by rw [E.out, R.out]; exact ho2, hb1.trans b2⟩
        replace S := Lib.hid S
        clear ho2 b2 ho hb R E ho1 hb1 s' cap' bb hcall
        go_wp2
        go_roundw
        case rel => exact S.out
        case measure => simp [intOf]; omega
    · have F : AnsList w (fillL L t) (.returned (.slice O on oc)) wr := by
        rw [List.take_of_length_le (by rw [HL.out]; omega)] at ho
        exact ⟨O, on, oc, rfl, ho, hb⟩
      have HF := Lib.hid F
      clear F ho hb h
      go_wp2
      go_ret
      exact HF.out
end Go.Proofs.Ytkmhnkljigncmaa.look
end

section
/-
  CONTRACTS: spec.SameTerm, slices.Equal at []int64 and impl.SameTerm answer whether two slices hold the same numbers. Conditions: the slices read as lists ('Seg'), at most 1048576 elements. By an AI agent.
-/
namespace Go.Proofs.Ytkmhnkljigncmaa.same
open Go.RowKit Go.Proofs.Ytkmhnkljigncmaa.base Go.Proofs.Ytkmhnkljigncmaa.ints

set_option maxHeartbeats 400000 in
theorem specSame (A A' : Option Addr) (n m c c' : Nat) (xs ys : List Int) (w : World) (h : Seg w w.heap.size A n xs) (h' : Seg w w.heap.size A' m ys) (hn : n ≤ 1048576) (hm : m ≤ 1048576) :
    Calls Try.prog 19 #[.slice A n c, .slice A' m c'] w (AnsSame w xs ys) := by
  by_cases hnm : n = m
  · subst hnm
    go_enter Try.func19, Try.ntmps19
    go_wp2
    go_loopw [5] (fun i wr => HeadSame w n xs ys i wr) (fun i _ => n - (intOf i).toNat)
    case atStart => exact ⟨0, 0, Nat.zero_le _, rfl, rfl, fun j h => absurd h (Nat.not_lt_zero _)⟩
    case round =>
      obtain ⟨k, d, hk, rfl, rfl, hc⟩ := hrel
      by_cases hlt : k < n
      · obtain ⟨b, off, x, rfl, -, hx, ex⟩ := h.spot hlt
        obtain ⟨b', off', y, rfl, -, hx', ey⟩ := h'.spot hlt
        by_cases he : x = y
        · subst he
          have S := Lib.hid (alike_step (w := w) hlt hc ex ey)
          clear hc h h' ex ey
          go_wp2
          go_quiet (fail)
          go_wp2
          go_roundw
          case rel => exact S.out _
          case measure => simp [intOf]; omega
        · have S := Lib.hid (same_not (w := w) ex ey he)
          have hne : (x != y) = true := by simp [he]
          clear hc h h' ex ey he
          go_wp2
          go_quiet (fail)
          go_wp2
          go_ret
          rw [World.drewN_drewN]
          exact S.out _
      · have S := Lib.hid (same_yes (w := w) h.1 h'.1 hlt hc)
        clear hc h h'
        go_wp2
        go_ret
        exact S.out _
  · have S := Lib.hid (same_len (w := w) h.1 h'.1 hnm)
    have hne : ((n : Int) != (m : Int)) = true := by simp; omega
    clear h h'
    go_enter Try.func19, Try.ntmps19
    go_wp2
    go_ret
    exact S.out
set_option maxHeartbeats 400000 in
theorem libEqual (A A' : Option Addr) (n m c c' : Nat) (xs ys : List Int) (w : World) (h : Seg w w.heap.size A n xs) (h' : Seg w w.heap.size A' m ys) (hn : n ≤ 1048576) (hm : m ≤ 1048576) :
    Calls Try.prog 77 #[.slice A n c, .slice A' m c'] w (AnsSame w xs ys) := by
  by_cases hnm : n = m
  · subst hnm
    go_enter Try.func77, Try.ntmps77
    go_wp2
    go_loopw [13] (fun i wr => HeadSame w n xs ys i wr) (fun i _ => n - (intOf i).toNat)
    case atStart => exact ⟨0, 0, Nat.zero_le _, rfl, rfl, fun j h => absurd h (Nat.not_lt_zero _)⟩
    case round =>
      obtain ⟨k, d, hk, rfl, rfl, hc⟩ := hrel
      by_cases hlt : k < n
      · obtain ⟨b, off, x, rfl, -, hx, ex⟩ := h.spot hlt
        obtain ⟨b', off', y, rfl, -, hx', ey⟩ := h'.spot hlt
        by_cases he : x = y
        · subst he
          have S := Lib.hid (alike_step (w := w) hlt hc ex ey)
          clear hc h h' ex ey
          go_wp2
          go_quiet (fail)
          go_wp2
          go_roundw
          case rel => exact S.out _
          case measure => simp [intOf]; omega
        · have S := Lib.hid (same_not (w := w) ex ey he)
          have hne : (x != y) = true := by simp [he]
          clear hc h h' ex ey he
          go_wp2
          go_quiet (fail)
          go_wp2
          go_ret
          rw [World.drewN_drewN]
          exact S.out _
      · have S := Lib.hid (same_yes (w := w) h.1 h'.1 hlt hc)
        clear hc h h'
        go_wp2
        go_ret
        exact S.out _
  · have S := Lib.hid (same_len (w := w) h.1 h'.1 hnm)
    have hne : ((n : Int) != (m : Int)) = true := by simp; omega
    clear h h'
    go_enter Try.func77, Try.ntmps77
    go_wp2
    go_ret
    exact S.out

theorem implSame (A A' : Option Addr) (n m c c' : Nat) (xs ys : List Int) (w : World) (h : Seg w w.heap.size A n xs) (h' : Seg w w.heap.size A' m ys) (hn : n ≤ 1048576) (hm : m ≤ 1048576) :
    Calls Try.prog 23 #[.slice A n c, .slice A' m c'] w (AnsSame w xs ys) := by
  have L := Lib.hid (libEqual A A' n m c c' xs ys w h h' hn hm)
  clear h h'
  go_enter Try.func23, Try.ntmps23
  go_wp2_with fail
  refine L.out.mono ?_
  rintro e w' ⟨rfl, d, rfl⟩
  go_wp2
  go_ret
  exact ⟨rfl, d, rfl⟩
end Go.Proofs.Ytkmhnkljigncmaa.same
end

section
/-
  CONTRACTS: spec.l1Copy, slices.Clone at []int64; a part of a slice. Conditions: the slices read as lists ('Seg'), at most 1048576 numbers. By an AI agent.
-/
namespace Go.Proofs.Ytkmhnkljigncmaa.sub
open Go.RowKit Go.Proofs.Ytkmhnkljigncmaa.base Go.Proofs.Ytkmhnkljigncmaa.ints Go.Proofs.Ytkmhnkljigncmaa.marks Go.Proofs.Ytkmhnkljigncmaa.app Go.Proofs.Ytkmhnkljigncmaa.sym

theorem Seg.cut {w : World} {B b off m a j : Nat} {t : List Int} (h : Seg w B (some ⟨b, off, none⟩) m t) (hj : a + j ≤ m) : Seg w B (some ⟨b, off + a, none⟩) j ((t.drop a).take j) := by
  refine ⟨by have := h.1; simp; omega, fun hn => ?_⟩
  obtain ⟨b', off', e, hb, hc⟩ := h.2 (by omega)
  injection e with e
  injection e with e1 e2
  subst e1 e2
  refine ⟨_, _, rfl, hb, fun q hq => ?_⟩
  rw [Nat.add_assoc, hc (a + q) (by omega)]
  simp [List.getD, List.getElem?_take, hq]

set_option maxHeartbeats 400000 in
theorem copyInts (S : Option Addr) (m c : Nat) (ys : List Int) (w : World) (h : Seg w w.heap.size S m ys) (hnone : S = none → c = 0) (hm : m ≤ 1048576) :
    Calls Try.prog 106 #[.slice S m c] w (AnsList w ys) := by
  have ho := own_empty w w.heap.size (Nat.le_refl _)
  have bb : Below w.heap.size w (w.alloc (.cells #[] 2)) := (Below.refl _ _).alloc (Nat.le_refl _) _
  have hs := h.alloc (Nat.le_refl _) (.cells #[] 2)
  have HN := Lib.hid hnone
  clear hnone h
  go_enter Try.func106, Try.ntmps106
  go_wp2_with (at_builtin; refine appAll rfl _ _ rfl w.heap.size (some ⟨w.heap.size, 0, none⟩) 0 0 [] rfl ho S m c w.heap.size ys rfl hs HN.out (by omega) (by omega) (by simp) ?_; intro A' c' w' ho' b')
  simp only [Nat.zero_add, List.nil_append] at ho'
  have F : AnsList w ys (.returned (.slice A' m c')) w' := ⟨A', m, c', rfl, ho', bb.trans b'⟩
  have HF := Lib.hid F
  clear F ho' b' bb hs ho
  go_wp2
  go_ret
  exact HF.out

set_option maxHeartbeats 400000 in
theorem cloneInts (b off m c : Nat) (ys : List Int) (w : World) (h : Seg w w.heap.size (some ⟨b, off, none⟩) m ys) (hm : m ≤ 1048576) :
    Calls Try.prog 99 #[.slice (some ⟨b, off, none⟩) m c] w (AnsList w ys) := by
  have ho := own_empty w w.heap.size (Nat.le_refl _)
  have bb : Below w.heap.size w (w.alloc (.cells #[] 2)) := (Below.refl _ _).alloc (Nat.le_refl _) _
  have hs := h.alloc (Nat.le_refl _) (.cells #[] 2)
  clear h
  have hnil : ∀ (w : World) (a : Option Addr) (n c n' c' : Nat), (binOp .eql 24 (.slice a n c) (.slice none n' c')).run Try.prog w = .ok (.bool a.isNone) w := fun w a n c n' c' => Lib.run_eql_slice_nil w _ _ a n c n' c' Try.underlying24
  go_enter Try.func99, Try.ntmps99
  go_wp2_with (at_builtin; refine appAll rfl _ _ rfl w.heap.size (some ⟨w.heap.size, 0, none⟩) 0 0 [] rfl ho (some ⟨b, off, none⟩) m c w.heap.size ys rfl hs (fun e => by cases e) (by omega) (by omega) (by simp) ?_; intro A' c' w' ho' b')
  simp only [Nat.zero_add, List.nil_append] at ho'
  have F : AnsList w ys (.returned (.slice A' m c')) w' := ⟨A', m, c', rfl, ho', bb.trans b'⟩
  have HF := Lib.hid F
  clear F ho' b' bb hs ho hnil
  go_wp2
  go_ret
  exact HF.out

end Go.Proofs.Ytkmhnkljigncmaa.sub
end

section
/-
  CONTRACTS: append of one list to a slice of slices of the call's own; impl's (lookup).plain over whatever look-up. Conditions: replacements of 1 to 4096 numbers. By an AI agent.
-/
namespace Go.Proofs.Ytkmhnkljigncmaa.plain
open Go.RowKit Go.Proofs.Ytkmhnkljigncmaa.base Go.Proofs.Ytkmhnkljigncmaa.ints Go.Proofs.Ytkmhnkljigncmaa.cursor Go.Proofs.Ytkmhnkljigncmaa.same Go.Proofs.Ytkmhnkljigncmaa.marks Go.Proofs.Ytkmhnkljigncmaa.app Go.Proofs.Ytkmhnkljigncmaa.appAt Go.Proofs.Ytkmhnkljigncmaa.sym Go.Proofs.Ytkmhnkljigncmaa.sub Go.Proofs.Ytkmhnkljigncmaa.segs Go.Proofs.Ytkmhnkljigncmaa.segsHelp Go.Proofs.Ytkmhnkljigncmaa.kinds Go.Proofs.Ytkmhnkljigncmaa.fillMath Go.Proofs.Ytkmhnkljigncmaa.look Go.Proofs.Ytkmhnkljigncmaa.plainMath
set_option maxRecDepth 100000

theorem Inn.none_ (w : World) (lo hi : Nat) : Inn w lo hi (.slice none 0 0) [] := ⟨none, 0, rfl, Own.nil _ _, fun k hk => by cases hk⟩
theorem inn_own {w : World} {lo : Nat} {A : Option Addr} {n c : Nat} {xs : List Int} (h : Own w lo (.slice A n c) xs) : Inn w lo w.heap.size (.slice A n c) xs := by
  have hl := Own.len h
  subst hl
  exact ⟨A, c, rfl, h, fun k hk => (World.ownsRow.lt h k (by rw [blk_own]; exact hk)).2⟩

set_option maxHeartbeats 1000000 in
/-- append of one list -/
theorem appS1 {w : World} {ops : Array Oper} {rest : List Oper} {o : Oper} {a : Act} {Q : Exit → Act → World → Prop} (hgd : o.guard = none) (s x : Operand)
    (ho : o.op = .call { callee := .builtin .append, args := #[s, x], argTypes := #[29, 29] })
    (lo mid : Nat) (A : Option Addr) (n c : Nat) (xss : List (List Int)) (hs : a.eval s = .slice A n c) (hown : Owns w lo mid A n c xss)
    (g c2 : Nat) (v : Value) (ys : List Int) (hx : a.eval x = .slice (some ⟨g, 0, none⟩) 1 c2) (hy : w.cell? ⟨g, 0, none⟩ = some v) (hv : Inn w mid w.heap.size v ys) (hn : n ≤ 1048576) (hlo : lo ≤ mid) (hmid : mid ≤ w.heap.size)
    (h : ∀ A' c' w', Owns w' lo w'.heap.size A' (n + 1) c' (xss ++ [ys]) → w.grownBy w' (blk A) → (blk A' = blk A ∨ blk A' = some w.heap.size) → Below lo w w' → wpList Try.prog ops Q rest (a.put o.dst (.slice A' (n + 1) c')) w') : wpList Try.prog ops Q (o :: rest) a w := by
  obtain ⟨i0, hi, hz0, hz1, hz2⟩ := info_parts info_list
  obtain ⟨hlen, ⟨vs, hr, hin, hap⟩, htop⟩ := hown
  have hvl : vs.length = n := by have := hr.1; omega
  have hvc : v.oneCell' = true := by obtain ⟨A1, c1, rfl, _⟩ := hv; rfl
  refine wpList_append_own_at w hgd s x 29 ho lo 24 i0 (.slice none 0 0) 1 24 Try.underlying29 hi hz0 hz1 hz2 rfl (by decide) (.slice A n c) n vs hs hr
    ⟨g, 0, none⟩ 1 c2 [v] hx rfl (fun j u hj => ?_) (fun u hu => ?_) (by unfold maxLen; omega) (by omega) (by omega) ?_
  · match j, hj with
    | 0, hj => simp at hj; subst hj; simpa [Addr.add] using hy
  · simp at hu; subst hu; exact hvc
  · intro v' w' hown' hg _ hat
    have hform : ∃ A' c', v' = .slice A' (n + 1) c' := by
      rcases hown'.2 with ⟨_, h0⟩ | ⟨g', cap, cur, e, _⟩
      · omega
      · exact ⟨_, _, e⟩
    obtain ⟨A', c', rfl⟩ := hform
    rw [blk_own] at hg
    rw [blk_own, blk_own] at hat
    have hsz := hg.size
    have hne : ∀ {u : Value} {zs : List Int} {l2 h2 : Nat}, Inn w l2 h2 u zs → u.ownBlock = none ∨ u.ownBlock ≠ blk A := fun {u zs l2 h2} hu => by
      rcases own_form hr with ⟨rfl, _⟩ | ⟨g', cur, rfl, _, hrow, _⟩
      · cases e : u.ownBlock with
        | none => exact .inl rfl
        | some z => exact .inr (fun e2 => by cases e2)
      · exact .inr (hu.ne hrow)
    have hget : ∀ j, j < n → (vs ++ [v]).getD j undef = vs.getD j undef := fun j hj => by simp [List.getD, List.getElem?_append_left (show j < vs.length by omega)]
    have hget2 : ∀ j, j < n → (xss ++ [ys]).getD j [] = xss.getD j [] := fun j hj => by simp [List.getD, List.getElem?_append_left (show j < xss.length by omega)]
    have hnew : (vs ++ [v]).getD n undef = v := by simp [List.getD, ← hvl]
    have hnew2 : (xss ++ [ys]).getD n [] = ys := by simp [List.getD, ← hlen]
    refine h A' c' w' ⟨by simp [hlen], ⟨vs ++ [v], hown', fun j hj => ?_, fun i j k hij hj e1 e2 => ?_⟩, fun k hk => (World.ownsRow.lt hown' k (by rw [blk_own]; exact hk)).2⟩ hg hat ?_
    · by_cases e : j = n
      · subst e
        rw [hnew, hnew2]
        exact (hv.kept hg (hne hv)).wider (by omega) (by omega)
      · rw [hget j (by omega), hget2 j (by omega)]
        exact ((hin j (by omega)).kept hg (hne (hin j (by omega)))).wider (Nat.le_refl _) (by omega)
    · by_cases e : j = n
      · subst e
        rw [hget i hij] at e1
        rw [hnew] at e2
        have h1 := ((hin i hij).blk k e1).2.1
        have h2 := (hv.blk k e2).1
        omega
      · rw [hget i (by omega)] at e1
        rw [hget j (by omega)] at e2
        exact hap i j k hij (by omega) e1 e2
    · refine (Below.refl lo w).grown hg (by omega) (fun k hk => ?_)
      exact (World.ownsRow.lt hr k (by rw [blk_own]; exact hk)).1

/-- a substitution of the call's own -/
def AnsSubst (w : World) (xss : List (List Int)) (e : Ending) (w' : World) : Prop := ∃ A n c, e = .returned (.agg #[.slice A n c]) ∧ Owns w' w.heap.size w'.heap.size A n c xss ∧ Below w.heap.size w w'

/-- the head of plain's loop -/
def HeadP (w : World) (L : Nat → List Int) (terms i : Value) (wr : World) : Prop :=
  ∃ (k : Nat) (A : Option Addr) (n c : Nat), k ≤ 24 ∧ i = .int .i64 k ∧ terms = .slice A n c ∧ n ≤ k ∧ Owns wr (w.heap.size + 1) wr.heap.size A n c (plainL L k) ∧ Row wr w.heap.size 31 #[.slice none 0 0] ∧ Below w.heap.size w wr
/-- a list in another row stays -/
theorem Seg.away {w w' : World} {A : Option Addr} {n : Nat} {xs : List Int} {r : Option Nat} (h : Seg w w.heap.size A n xs) (hg : w.grownBy w' r) (hne : ∀ k, blk A = some k → r ≠ some k) : Seg w' w'.heap.size A n xs :=
  ⟨h.1, fun hn => by
    obtain ⟨b, off, e, hb, hc⟩ := h.2 hn
    refine ⟨b, off, e, Nat.lt_of_lt_of_le hb hg.size, fun j hj => ?_⟩
    exact (World.cell?_of_block (hg.block b hb (fun e2 => hne b (by rw [e]; rfl) e2.symm))).trans (hc j hj)⟩
/-- the head of the loop that pads: mid: where the round began, top: where the loop did -/
def HeadQ (w : World) (mid top : Nat) (L : Nat → List Int) (k : Nat) (A1 : Option Addr) (n1 : Nat) (ys : List Int) (terms : Value) (wr : World) : Prop :=
  ∃ (A : Option Addr) (n c : Nat), terms = .slice A n c ∧ n ≤ k ∧ (plainL L k).length ≤ n ∧ Owns wr (w.heap.size + 1) wr.heap.size A n c (plainL L k ++ List.replicate (n - (plainL L k).length) []) ∧ (∀ q, blk A = some q → q < mid ∨ top ≤ q) ∧
    Seg wr wr.heap.size A1 n1 ys ∧ Row wr w.heap.size 31 #[.slice none 0 0] ∧ Below w.heap.size w wr ∧ top ≤ wr.heap.size
def lenOf (v : Value) : Nat := match v with
  | .slice _ n _ => n
  | _ => 0

set_option maxHeartbeats 16000000 in
theorem plain (g : Nat) (lb : Array Value) (eg : ∀ args w, (callFunc g args).run Try.prog w = .ok (.enter g args) w) (L : Nat → List Int) (w : World)
    (hL : Looks g lb w L 24) (h1 : ∀ i, 1 ≤ (L i).length) (hM : ∀ i, (L i).length ≤ 4096) :
    Calls Try.prog 61 #[.func (.func g) #[] lb] w (AnsSubst w (plainL L 24)) := by
  have H1 := Lib.hid h1
  have HM := Lib.hid hM
  have HK := Lib.hid hL
  have S0 : HeadP w L (.slice none 0 0) (.int .i64 0) (w.alloc (.cells #[.slice none 0 0] 31)) :=
    ⟨0, none, 0, 0, by omega, rfl, rfl, Nat.le_refl _, by simpa [plainL, rowsL, strip] using Owns.nil (w.alloc (.cells #[.slice none 0 0] 31)) (w.heap.size + 1) (w.alloc (.cells #[.slice none 0 0] 31)).heap.size, Row.new _ _ _, (Below.refl _ _).alloc (Nat.le_refl _) _⟩
  have HS0 := Lib.hid S0
  clear S0 h1 hM hL
  go_enter Try.func61, Try.ntmps61
  go_wp2
  go_loopw [3, 6] (fun terms i wr => HeadP w L terms i wr) (fun _ i _ => 24 - (intOf i).toNat)
  case atStart => exact HS0.out
  case round =>
    obtain ⟨k, A, n, c, hk, rfl, rfl, hnk, ho, hr, hb⟩ := hrel
    clear HS0
    obtain ⟨wo, rfl⟩ : ∃ wo : World, wo = wr := ⟨_, rfl⟩
    by_cases hlt : k < 24
    · have hcall := HK.out wo k hb hlt
      have hLk : (L k).length ≤ 4096 := HM.out k
      have hL1 : 1 ≤ (L k).length := H1.out k
      obtain ⟨ys, hys⟩ : ∃ ys, L k = ys := ⟨_, rfl⟩
      rw [hys] at hcall hLk hL1
      have HY := Lib.hid hys
      have HC := Lib.hid hcall
      clear hys hcall
      have hsz := hb.size
      have hrlt := hr.lt
      by_cases hsame : ys = [-1 - (k : Int)]
      · have DS := Lib.hid (decide_eq_true hsame)
        go_wp2_with (first
          | (go_at_fn g; refine HC.out.mono ?_; rintro e w1 ⟨A1, n1, c1, rfl, s1, cap1, far1, bb1⟩; have hn1 : n1 ≤ 4096 := (by rw [← s1.1]; exact hLk))
          | (go_at_call 59; refine (varTerm (k : Int) _ (by omega) (by omega)).mono ?_; rintro e w2 ⟨A2, n2, c2, rfl, o2, bb2⟩; have hn2 : n2 ≤ 1048576 := (by rw [Own.len o2]; simp))
          | (go_at_call 23; refine (implSame A1 A2 n1 n2 c1 c2 ys [-1 - (k : Int)] w2 (s1.next bb2) (Own.seg o2) (by omega) hn2).mono ?_; rintro e w3 ⟨he, d, rfl⟩; rw [DS.out] at he; subst he))
        have bb3 : Below wo.heap.size wo (w2.drewN d) := below_drewN (next_trans bb1 bb2) d
        have hs3 := bb3.size
        have S : HeadP w L (.slice A n c) (.int .i64 ((k : Int) + 1)) (w2.drewN d) := ⟨k + 1, A, n, c, hlt, by simp, rfl, by omega, by rw [plain_same (HY.out.trans hsame)]; exact (ho.next bb3).wider (Nat.le_refl _) hs3, hr.next bb3, hb.trans (bb3.mono hsz)⟩
        have HS := Lib.hid S
        clear S bb3 hs3 s1 cap1 far1 bb1 o2 bb2 ho hr hb HC HY hsame DS
        go_wp2
        go_roundw
        case rel => exact HS.out
        case measure => simp [intOf]; omega
      · have DS := Lib.hid (decide_eq_false hsame)
        have HNE := Lib.hid hsame
        clear hsame
        go_wp2_with (first
          | (go_at_fn g; refine HC.out.mono ?_; rintro e w1 ⟨A1, n1, c1, rfl, s1, cap1, far1, bb1⟩; have hn1 : n1 ≤ 4096 := (by rw [← s1.1]; exact hLk))
          | (go_at_call 59; refine (varTerm (k : Int) _ (by omega) (by omega)).mono ?_; rintro e w2 ⟨A2, n2, c2, rfl, o2, bb2⟩; have hn2 : n2 ≤ 1048576 := (by rw [Own.len o2]; simp))
          | (go_at_call 23; refine (implSame A1 A2 n1 n2 c1 c2 ys [-1 - (k : Int)] w2 (s1.next bb2) (Own.seg o2) (by omega) hn2).mono ?_; rintro e w3 ⟨he, hd⟩; rw [DS.out] at he; subst he; have bb3 : Below w2.heap.size w2 w3 := (by obtain ⟨d, rfl⟩ := hd; exact drewN_below _ _)))
        have bbo := next_trans (next_trans bb1 bb2) bb3
        have s3 := (s1.next bb2).next bb3
        have hs3 := bbo.size
        have h12 := bb2.size
        have h23 := bb3.size
        have hn1' : 1 ≤ n1 := by rw [← s1.1]; exact hL1
        have hA1 : ∀ q, blk A1 = some q → q < w.heap.size ∨ (wo.heap.size ≤ q ∧ q < w3.heap.size) := fun q hq => by
          rcases far1 q hq with h | h
          · exact .inl h
          · refine .inr ⟨h, ?_⟩
            obtain ⟨b, off, e, hb', _⟩ := s1.2 (by omega)
            rw [e] at hq
            have : b = q := Option.some.inj hq
            omega
        have Q0 : HeadQ w wo.heap.size w3.heap.size L k A1 n1 ys (.slice A n c) w3 := by
          have hl := ho.len
          refine ⟨A, n, c, rfl, hnk, by omega, ?_, fun q hq => .inl (ho.top q hq), s3, hr.next bbo, hb.trans (bbo.mono hsz), Nat.le_refl _⟩
          rw [show n - (plainL L k).length = 0 by omega, List.replicate_zero, List.append_nil]
          exact (ho.next bbo).wider (Nat.le_refl _) hs3
        have HQ0 := Lib.hid Q0
        have HA1 := Lib.hid hA1
        clear Q0 hA1 bbo s3 s1 cap1 far1 bb1 o2 bb2 bb3 ho hr hb HC DS hd
        go_loopw [3] (fun terms wr => HeadQ w wo.heap.size w3.heap.size L k A1 n1 ys terms wr) (fun terms _ => k - lenOf terms)
        case atStart => exact HQ0.out
        case round =>
          obtain ⟨A, n, c, rfl, hnk, hpn, ho, hloc, s1, hr, hb, htop⟩ := hrel
          clear HQ0
          have hrl := hr.lt
          have hne : ∀ q, blk A1 = some q → blk A ≠ some q := fun q hq e => by
            have h1 := HA1.out q hq
            have h2 := hloc q e
            obtain ⟨vs, hown, _⟩ := ho.row
            have h3 := (World.ownsRow.lt hown q (by rw [blk_own]; exact e)).1
            omega
          have hneB : blk A ≠ some w.heap.size := fun e => by
            obtain ⟨vs, hown, _⟩ := ho.row
            have h3 := (World.ownsRow.lt hown _ (by rw [blk_own]; exact e)).1
            omega
          by_cases hlt2 : n < k
          · have ho1 := ho.next (w' := wr.alloc (.cells #[.slice none 0 0] 24)) ((Below.refl _ _).alloc (Nat.le_refl _) _)
            have hr1 := hr.alloc (.cells #[.slice none 0 0] 24)
            have s1a := s1.next (w' := wr.alloc (.cells #[.slice none 0 0] 24)) ((Below.refl _ _).alloc (Nat.le_refl _) _)
            go_wp2_with (at_builtin; refine appS1 rfl _ _ rfl (w.heap.size + 1) wr.heap.size A n c _ rfl ho1 wr.heap.size 1 (.slice none 0 0) [] rfl ((Row.new _ _ _).cell 0) (Inn.none_ _ _ _) (by omega) (by omega) (by simp) ?_; intro A' c' w5 ho5 hg5 hat5 b5)
            have S : HeadQ w wo.heap.size w3.heap.size L k A1 n1 ys (.slice A' (n + 1) c') w5 := by
              refine ⟨A', n + 1, c', rfl, hlt2, by omega, ?_, fun q hq => ?_, Seg.away s1a hg5 hne, Row.away hr1 hg5 hneB, (hb.alloc (by omega) _).trans (b5.mono (by omega)), ?_⟩
              · rw [show n + 1 - (plainL L k).length = (n - (plainL L k).length) + 1 by omega, List.replicate_succ', ← List.append_assoc]
                exact ho5
              · rcases hat5 with h | h
                · exact hloc q (by rw [← h]; exact hq)
                · rw [h] at hq
                  injection hq with hq
                  simp at hq
                  omega
              · have := hg5.size; simp at this; omega
            have HS := Lib.hid S
            clear S ho5 hg5 hat5 b5 ho1 hr1 s1a ho hloc s1 hr hb hne hneB
            go_wp2
            go_roundw
            case rel => exact HS.out
            case measure => simp [lenOf]; omega
          · have hkn : n = k := by omega
            subst hkn
            obtain ⟨b1, off1, e1, _, _⟩ := s1.2 (by omega)
            subst e1
            rw [plain_pad] at ho
            have LC := Lib.hid (cloneInts b1 off1 n1 c1 ys wr s1 (by omega))
            go_wp2_with (first
              | (go_at_call 99; refine LC.out.mono ?_; rintro e w5 ⟨A5, n5, c5, rfl, o5, bb5⟩; have z5 := bb5.size; have ho5 := (ho.next bb5).next (w' := w5.alloc (.cells #[.slice A5 n5 c5] 24)) ((Below.refl _ _).alloc (Nat.le_refl _) _); have i5 := (inn_own o5).next (w' := w5.alloc (.cells #[.slice A5 n5 c5] 24)) ((Below.refl _ _).alloc (Nat.le_refl _) _); have i6 := Inn.wider i5 (Nat.le_refl _) (show w5.heap.size ≤ (w5.alloc (.cells #[.slice A5 n5 c5] 24)).heap.size by simp); have r5 := (hr.next bb5).alloc (.cells #[.slice A5 n5 c5] 24))
              | (at_builtin; refine appS1 rfl _ _ rfl (w.heap.size + 1) wr.heap.size A n c _ rfl ho5 w5.heap.size 1 (.slice A5 n5 c5) ys rfl ((Row.new _ _ _).cell 0) i6 (by omega) (by omega) (by simp; omega) ?_; intro A' c' w6 ho6 hg6 hat6 b6))
            have S : HeadP w L (.slice A' (n + 1) c') (.int .i64 ((n : Int) + 1)) w6 := by
              refine ⟨n + 1, A', n + 1, c', hlt, by simp, rfl, Nat.le_refl _, ?_, Row.away r5 hg6 hneB, ((hb.trans (bb5.mono (by omega))).alloc (by omega) _).trans (b6.mono (by omega))⟩
              rw [plain_new (by rw [HY.out]; exact HNE.out) (by rw [HY.out]; exact hL1), HY.out]
              exact ho6
            have HS := Lib.hid S
            clear S ho6 hg6 hat6 b6 ho5 i5 i6 r5 o5 bb5 ho hloc s1 hr hb hne hneB LC
            go_wp2
            go_roundw
            case rel => exact HS.out
            case measure => simp [intOf]; omega
    · have hk24 : k = 24 := by omega
      subst hk24
      have hcell : wo.cell? ⟨w.heap.size, 0, none⟩ = some (.slice none 0 0) := hr.cell 0
      have hfr : wo.frozen? ⟨w.heap.size, 0, none⟩ = false := hr.free 0
      have F : AnsSubst w (plainL L 24) (.returned (.agg #[.slice A n c])) (wo.setCell ⟨w.heap.size, 0, none⟩ (.slice A n c)) :=
        ⟨A, n, c, rfl, (owns_put ho hr (Nat.lt_succ_self _) 0 _).wider (by omega) (by simp), hb.setCell (Nat.le_refl _) _⟩
      have HF := Lib.hid F
      clear F ho hr hb
      go_wp2
      exact bodyPost_ret (v := .agg #[.slice A n c]) (by simp [results, Try.results61, go_sem, hcell]) rfl HF.out
end Go.Proofs.Ytkmhnkljigncmaa.plain
end
