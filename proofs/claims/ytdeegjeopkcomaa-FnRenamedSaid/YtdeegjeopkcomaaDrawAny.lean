/-
  CONTRACT: spec.l1DrawAny draws a term, bent sometimes. Conditions: a drawing cursor ('Dice'). By an AI agent.
-/
import Derived.Test.YtdeegjeopkcomaaDrawTerm
import Derived.Deep.RegionHeld3
namespace Go.Proofs.Ytdeegjeopkcomaa.drawAny
open Go.RowKit Go.Proofs.Ytdeegjeopkcomaa.base Go.Proofs.Ytdeegjeopkcomaa.ints Go.Proofs.Ytdeegjeopkcomaa.sig Go.Proofs.Ytdeegjeopkcomaa.term Go.Proofs.Ytdeegjeopkcomaa.cursor Go.Proofs.Ytdeegjeopkcomaa.termOk Go.Proofs.Ytdeegjeopkcomaa.marks Go.Proofs.Ytdeegjeopkcomaa.app Go.Proofs.Ytdeegjeopkcomaa.sym Go.Proofs.Ytdeegjeopkcomaa.dice Go.Proofs.Ytdeegjeopkcomaa.drawSig Go.Proofs.Ytdeegjeopkcomaa.drawTerm
set_option maxRecDepth 100000

/-- a drawn list of at most L numbers -/
def AnsR (w : World) (p : Nat) (A : Option Addr) (n c L : Nat) (e : Ending) (w' : World) : Prop :=
  ∃ O on oc xs, e = .returned (.slice O on oc) ∧ Rd w' p w'.heap.size O on xs ∧ on ≤ oc ∧ oc ≤ 9223372036854775807 ∧ (O = none → oc = 0) ∧ on ≤ L ∧ Dice w' p A n c ∧ w.grownBy w' (some p)

theorem Own.cap {w : World} {base : Nat} {O : Option Addr} {on oc : Nat} {xs : List Int} (h : Own w base (.slice O on oc) xs) : on ≤ oc ∧ oc ≤ 9223372036854775807 := by
  rcases h.2 with ⟨e, _⟩ | ⟨g, cap, cur, e, _, _, h1, h2, _⟩
  · injection e with _ e1 e2; omega
  · injection e with _ e1 e2
    have := Own.len h
    unfold maxLen at h2
    omega
theorem ansR_own {w w' : World} {p : Nat} {A : Option Addr} {n c L : Nat} {O : Option Addr} {on oc base : Nat} {xs : List Int} (h : Own w' base (.slice O on oc) xs) (hp : p < base) (hL : on ≤ L) (d : Dice w' p A n c) (g : w.grownBy w' (some p)) : AnsR w p A n c L (.returned (.slice O on oc)) w' :=
  ⟨O, on, oc, xs, rfl, Rd.of_own h hp, (Own.cap h).1, (Own.cap h).2, Own.none_cap h, hL, d, g⟩
/-- the same, in a block of its own -/
def AnsRN (w : World) (p : Nat) (A : Option Addr) (n c L : Nat) (e : Ending) (w' : World) : Prop :=
  ∃ O on oc xs, e = .returned (.slice O on oc) ∧ Rd w' p w'.heap.size O on xs ∧ on ≤ oc ∧ oc ≤ 9223372036854775807 ∧ (O = none → oc = 0) ∧ on ≤ L ∧ Dice w' p A n c ∧ w.grownBy w' (some p) ∧ ∀ k, blk O = some k → w.heap.size ≤ k
theorem ansRN_own {w w' : World} {p : Nat} {A : Option Addr} {n c L : Nat} {O : Option Addr} {on oc base : Nat} {xs : List Int} (h : Own w' base (.slice O on oc) xs) (hp : p < base) (hb : w.heap.size ≤ base) (hL : on ≤ L) (d : Dice w' p A n c) (g : w.grownBy w' (some p)) : AnsRN w p A n c L (.returned (.slice O on oc)) w' :=
  ⟨O, on, oc, xs, rfl, Rd.of_own h hp, (Own.cap h).1, (Own.cap h).2, Own.none_cap h, hL, d, g, fun k hk => Nat.le_trans hb (Own.ge h k hk)⟩
theorem Own.some_ {w : World} {base : Nat} {O : Option Addr} {on oc : Nat} {xs : List Int} (h : Own w base (.slice O on oc) xs) (h1 : 1 ≤ on) : ∃ g, O = some ⟨g, 0, none⟩ := by
  rcases h.2 with ⟨e, _⟩ | ⟨g, cap, cur, e, _⟩
  · injection e with _ e1 e2; omega
  · injection e with e _ _; exact ⟨g, e⟩
theorem Own.cellAt {w : World} {base g on oc : Nat} {xs : List Int} (h : Own w base (.slice (some ⟨g, 0, none⟩) on oc) xs) {k : Nat} (hk : k < on) : ∃ u, w.cell? ⟨g, k, none⟩ = some u := by
  have hl := Own.len h
  subst hl
  have := World.ownsRow.cellAt h k (by omega)
  exact ⟨_, this.trans (List.getElem?_eq_getElem (by simpa using hk))⟩
theorem Own.frozenAt {w : World} {base g on oc : Nat} {xs : List Int} (h : Own w base (.slice (some ⟨g, 0, none⟩) on oc) xs) (k : Nat) : w.frozen? ⟨g, k, none⟩ = false := by
  have hl := Own.len h
  subst hl
  exact World.ownsRow.frozenAt h k
theorem Own.put {w : World} {base g on oc : Nat} {xs : List Int} (h : Own w base (.slice (some ⟨g, 0, none⟩) on oc) xs) (k : Nat) (y : Int) : Own (w.setCell ⟨g, k, none⟩ (.int .i64 y)) base (.slice (some ⟨g, 0, none⟩) on oc) (xs.set k y) := by
  have hl := Own.len h
  subst hl
  have := World.ownsRow.stored h k (.int .i64 y)
  unfold Own
  rw [List.length_set, List.map_set]
  exact this.1
/-- the rest of a slice -/
theorem Rd.tail {w : World} {p B b off n : Nat} {xs : List Int} (h : Rd w p B (some ⟨b, off, none⟩) n xs) (h1 : 1 ≤ n) : Rd w p B (some ⟨b, off + 1, none⟩) (n - 1) (xs.drop 1) := by
  refine ⟨by have := h.1; simp; omega, fun hn => ?_⟩
  obtain ⟨b', off', e, hb, hne, hc⟩ := h.2 (by omega)
  injection e with e
  injection e with e1 e2
  subst e1 e2
  refine ⟨_, _, rfl, hb, hne, fun j hj => ?_⟩
  rw [Nat.add_assoc, hc (1 + j) (by omega)]
  simp [List.getD, Nat.add_comm]
theorem Rd.none_ {w : World} {p B : Nat} {O : Option Addr} : Rd w p B O 0 [] := ⟨rfl, fun h => absurd h (by omega)⟩

set_option maxHeartbeats 4000000 in
theorem drawAnyN (p : Nat) (A : Option Addr) (n c : Nat) (S : Option Addr) (sn sc : Nat) (sg : List Int) (w : World) (hd : Dice w p A n c) (hr : Rd w p w.heap.size S sn sg) (hsn : sn ≤ 1048576) :
    Calls Try.prog 62 #[.pointer (some ⟨p, 0, none⟩), .agg #[.slice S sn sc]] w (AnsRN w p A n c 65) := by
  have T0 := DT.start (sc := sc) hd hr
  obtain ⟨W, hW⟩ : ∃ W, W = w.alloc (.cells #[.slice S sn sc] 26) := ⟨_, rfl⟩
  rw [← hW] at T0
  have HW := Lib.hid hW
  clear hd hr hW
  have hN := T0.hp
  by_cases hs0 : sn = 0
  · subst hs0
    go_enter Try.func62, Try.ntmps62
    go_wp2_with fail
    rw [← HW.out]
    refine (fromTo p A n c (-2) 2 _ T0.d (by omega) (by omega) (by omega) (by omega)).mono ?_
    rintro e u1 ⟨x, rfl, x0, x1, d1, g1⟩
    obtain ⟨O, on, oc, xs, he, o1, h1, h2, d2, g2⟩ := leaf (L := 1) (T0.dice d1 g1) (Nat.le_refl _) x
    have F : AnsRN w p A n c 65 _ _ := ansRN_own o1 hN (Nat.le_refl _) (by omega) d2 g2
    rw [← he] at F
    have HF := Lib.hid F
    clear F he o1 d2 g2 T0 d1 g1
    go_wp2
    go_ret
    exact HF.out
  · have e0 : ((sn : Int) == 0) = false := by simp; omega
    have L := Lib.hid (specSigOk S sn sc sg W (T0.s.seg.more T0.g.size) hsn)
    cases hok : sigOkB sg with
    | false =>
      have HS := Lib.hid hok
      clear hok
      go_enter Try.func62, Try.ntmps62
      go_wp2_with fail
      rw [← HW.out]
      refine L.out.mono ?_
      rintro e u0 ⟨he, bb⟩
      rw [HS.out] at he
      subst he
      have T1 := T0.below (bb.mono (by have := T0.r.lt; omega))
      clear T0 bb L
      go_wp2_with fail
      refine (fromTo p A n c (-2) 2 _ T1.d (by omega) (by omega) (by omega) (by omega)).mono ?_
      rintro e u1 ⟨x, rfl, x0, x1, d1, g1⟩
      obtain ⟨O, on, oc, xs, he, o1, h1, h2, d2, g2⟩ := leaf (L := 1) (T1.dice d1 g1) (Nat.le_refl _) x
      have F : AnsRN w p A n c 65 _ _ := ansRN_own o1 hN (Nat.le_refl _) (by omega) d2 g2
      rw [← he] at F
      have HF := Lib.hid F
      clear F he o1 d2 g2 T1 d1 g1
      go_wp2
      go_ret
      exact HF.out
    | true =>
      have HS := Lib.hid hok
      have hars := (sig_arities hok).1
      have hl8 := (sig_arities hok).2.2
      have hsl := T0.s.1
      have hs8 : sn ≤ 8 := by omega
      clear hok hsl hl8
      go_enter Try.func62, Try.ntmps62
      go_wp2_with fail
      rw [← HW.out]
      refine L.out.mono ?_
      rintro e u0 ⟨he, bb⟩
      rw [HS.out] at he
      subst he
      have T1 := (T0.below (bb.mono (by have := T0.r.lt; omega))).drew
      have cS : u0.cell? ⟨w.heap.size, 0, none⟩ = some (.slice S sn sc) := T1.r.cell 0
      clear T0 bb L
      go_wp2_with fail
      go_region_held3 (fun w' => w'.cell? ⟨w.heap.size, 0, none⟩ = some (.slice S sn sc))
        (go_keep)
        (first
          | (go_at_call 78; refine (below p A n c 4 _ T1.d (by omega) (by omega)).mono ?_; rintro e u1 ⟨x, rfl, x0, x1, d1, g1⟩; have T2 := T1.dice d1 g1; have cS2 : u1.cell? ⟨w.heap.size, 0, none⟩ = some (.slice S sn sc) := T2.r.cell 0; have hw : IntKind.i64.wrap (1 + x) = 1 + x := by rw [IntKind.wrap_i64]; omega)
          | (go_at_call 103; refine (drawTerm p A n c S sn sc sg 3 hars (by omega) (by omega) (by omega) (by omega) 3 (1 + x) u1 T2.d (T2.s.more T2.g.size) (by omega) (by clear hw; omega) (by clear hw; omega)).mono ?_; rintro e u2 ⟨O, on, oc, xs, rfl, o2, h1, h2, d2, g2⟩; have T3 := T2.dice d2 g2; have cS3 : u2.cell? ⟨w.heap.size, 0, none⟩ = some (.slice S sn sc) := T3.r.cell 0))
      have o3 : Own u2 (w.heap.size + 1) (.slice O on oc) xs := Own.lower o2 (by have := T2.r.lt; omega)
      obtain ⟨gg, rfl⟩ := Own.some_ o3 h1
      have hgg : w.heap.size + 1 ≤ gg := Own.ge o3 gg rfl
      have hL : on ≤ 64 := h2
      clear hw o2 T2 T1 d1 g1 d2 g2 cS cS2 cS3 h2 x0 x1
      have hp1 : p < w.heap.size + 1 := by omega
      go_wp2_with fail
      refine (once p A n c 12 _ T3.d (by omega) (by omega)).mono ?_
      rintro e u3 ⟨b, rfl, d1, g1⟩
      have T4 := T3.dice d1 g1
      have o4 := Own.far o3 g1 (fun k hk => by injection hk; omega)
      clear T3 o3 d1 g1
      cases b with
      | false =>
        have F : AnsRN w p A n c 65 (.returned (.slice (some ⟨gg, 0, none⟩) on oc)) u3 := ansRN_own o4 hp1 (by omega) (by omega) T4.d T4.g
        have HF := Lib.hid F
        clear F T4 o4
        go_wp2
        go_ret
        exact HF.out
      | true =>
        go_wp2_with fail
        refine (below p A n c 4 _ T4.d (by omega) (by omega)).mono ?_
        rintro e u4 ⟨x, rfl, x0, x1, d1, g1⟩
        have T5 := T4.dice d1 g1
        have o5 := Own.far o4 g1 (fun k hk => by injection hk; omega)
        clear T4 o4 d1 g1
        by_cases hx0 : x = 0
        · subst hx0
          go_wp2_with fail
          refine (fromTo p A n c (-2) 3 _ T5.d (by omega) (by omega) (by omega) (by omega)).mono ?_
          rintro e u5 ⟨y, rfl, y0, y1, d1, g1⟩
          have T6 := T5.dice d1 g1
          have o6 := Own.far o5 g1 (fun k hk => by injection hk; omega)
          have z6 := T6.r.lt
          clear T5 o5 d1 g1 x0 x1
          go_wp2_with (at_builtin; refine app1 rfl _ _ rfl (w.heap.size + 1) (some ⟨gg, 0, none⟩) on oc xs rfl (Own.alloc o6 _) u5.heap.size 1 y rfl ((Row.new _ _ _).cell 0) (by omega) (by simp; omega) ?_; intro O' oc' u6 o7 b7)
          have T7 := (T6.below ((Below.refl _ _).alloc (by omega) (.cells #[.int .i64 y] 2))).below b7
          have F : AnsRN w p A n c 65 (.returned (.slice O' (on + 1) oc')) u6 := ansRN_own o7 hp1 (by omega) (by omega) T7.d T7.g
          have HF := Lib.hid F
          clear F T7 T6 o6 o7 b7
          go_wp2
          go_ret
          exact HF.out
        · by_cases hx1 : x = 1
          · subst hx1
            go_wp2_with fail
            refine (below p A n c (on : Int) _ T5.d (by omega) (by omega)).mono ?_
            rintro e u5 ⟨y, rfl, y0, y1, d1, g1⟩
            obtain ⟨k, rfl⟩ := Int.eq_ofNat_of_zero_le y0
            have T6 := T5.dice d1 g1
            have o6 := Own.far o5 g1 (fun k hk => by injection hk; omega)
            clear T5 o5 d1 g1 x0 x1 hx0
            go_wp2_with fail
            refine (fromTo p A n c (-3) 4 _ T6.d (by omega) (by omega) (by omega) (by omega)).mono ?_
            rintro e u6 ⟨z, rfl, z0, z1, d1, g1⟩
            have T7 := T6.dice d1 g1
            have o7 := Own.far o6 g1 (fun k hk => by injection hk; omega)
            have hk : k < on := by omega
            have i1 : (k : Int) < (on : Int) := by omega
            obtain ⟨u, hu⟩ := Own.cellAt o7 hk
            have hf := Own.frozenAt o7 k
            have o8 := Own.put o7 k z
            have T8 := T7.below ((Below.refl (w.heap.size + 1) u6).setCell (p := ⟨gg, k, none⟩) hgg (.int .i64 z))
            have F : AnsRN w p A n c 65 (.returned (.slice (some ⟨gg, 0, none⟩) on oc)) (u6.setCell ⟨gg, k, none⟩ (.int .i64 z)) := ansRN_own o8 hp1 (by omega) (by omega) T8.d T8.g
            have HF := Lib.hid F
            clear F T8 T7 T6 o8 o7 o6 d1 g1
            go_wp2
            go_ret
            exact HF.out
          · by_cases hx2 : x = 2
            · subst hx2
              have hcap := Own.cap o5
              have hrd := Rd.of_own o5 hp1
              by_cases hc1 : oc = 1
              · subst hc1
                have e1 : on = 1 := by omega
                subst e1
                have F : AnsRN w p A n c 65 (.returned (.slice (some ⟨gg, 0, none⟩) 0 0)) u4 := ⟨_, 0, 0, [], rfl, Rd.none_, Nat.le_refl _, by omega, fun e => rfl, by omega, T5.d, T5.g, fun k hk => by (injection hk with e); have e2 : gg = k := e; omega⟩
                have HF := Lib.hid F
                clear F T5 o5 hrd x0 x1 hx0 hx1
                go_wp2
                go_ret
                exact HF.out
              · have F : AnsRN w p A n c 65 (.returned (.slice (some ⟨gg, 0 + 1, none⟩) (on - 1) (oc - 1))) u4 := ⟨_, _, _, _, rfl, Rd.tail hrd h1, by omega, by omega, (fun e => by cases e), by omega, T5.d, T5.g, fun k hk => by (injection hk with e); have e2 : gg = k := e; omega⟩
                have HF := Lib.hid F
                have hc2 : ¬ oc = 1 := hc1
                have i1 : (1 : Int) ≤ (on : Int) := by omega
                have i2 : (1 : Int) ≤ (oc : Int) := by omega
                have i3 : (on : Int) ≤ (oc : Int) := by omega
                have i4 : 1 ≤ on := h1
                have i5 : on ≤ oc := hcap.1
                clear F T5 o5 hrd x0 x1 hx0 hx1 hc1 hcap
                go_wp2
                go_ret
                exact HF.out
            · have e3 : x = 3 := by omega
              subst e3
              clear x0 x1 hx0 hx1 hx2
              go_wp2_with fail
              refine (odd p A n c _ T5.d).mono ?_
              rintro e u5 ⟨y, rfl, d1, g1⟩
              have T6 := T5.dice d1 g1
              have o6 := Own.far o5 g1 (fun k hk => by injection hk; omega)
              have z6 := T6.r.lt
              clear T5 o5 d1 g1
              go_wp2_with (at_builtin; refine app1 rfl _ _ rfl (w.heap.size + 1) (some ⟨gg, 0, none⟩) on oc xs rfl (Own.alloc o6 _) u5.heap.size 1 y rfl ((Row.new _ _ _).cell 0) (by omega) (by simp; omega) ?_; intro O' oc' u6 o7 b7)
              have T7 := (T6.below ((Below.refl _ _).alloc (by omega) (.cells #[.int .i64 y] 2))).below b7
              have F : AnsRN w p A n c 65 (.returned (.slice O' (on + 1) oc')) u6 := ansRN_own o7 hp1 (by omega) (by omega) T7.d T7.g
              have HF := Lib.hid F
              clear F T7 T6 o6 o7 b7
              go_wp2
              go_ret
              exact HF.out

theorem drawAny (p : Nat) (A : Option Addr) (n c : Nat) (S : Option Addr) (sn sc : Nat) (sg : List Int) (w : World) (hd : Dice w p A n c) (hr : Rd w p w.heap.size S sn sg) (hsn : sn ≤ 1048576) :
    Calls Try.prog 62 #[.pointer (some ⟨p, 0, none⟩), .agg #[.slice S sn sc]] w (AnsR w p A n c 65) :=
  (drawAnyN p A n c S sn sc sg w hd hr hsn).mono fun _ _ ⟨O, on, oc, xs, h1, h2, h3, h4, h5, h6, h7, h8, _⟩ => ⟨O, on, oc, xs, h1, h2, h3, h4, h5, h6, h7, h8⟩
end Go.Proofs.Ytdeegjeopkcomaa.drawAny
