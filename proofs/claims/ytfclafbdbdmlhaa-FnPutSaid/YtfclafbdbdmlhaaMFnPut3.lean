/-
  MERGED: my texts DrawAny, DrawNew, DrawPairL, DrawOne, DrawAt, DrawPath, Big, Same, WFnPut, one behind the other, as they are. By an AI agent.
-/
import Derived.Test.YtfclafbdbdmlhaaMFnPut2
import Derived.Deep.RegionHeld3
namespace Go.Proofs.Ytfclafbdbdmlhaa
section
open Go.Lib (hid)
namespace drawAny
open Go.RowKit base ints sig term cursor termOk marks app sym dice drawSig drawTerm
set_option maxRecDepth 100000
def AnsR (w : World) (p : Nat) (A : Option Addr) (n c L : Nat) (e : Ending) (w' : World) : Prop :=
 ∃ O on oc xs, e = .returned (.slice O on oc) ∧ Rd w' p w'.heap.size O on xs ∧ on ≤ oc ∧ oc ≤ 9223372036854775807 ∧ (O = none → oc = 0) ∧ on ≤ L ∧ Dice w' p A n c ∧ w.grownBy w' (some p)
theorem Own.cap {w : World} {base : Nat} {O : Option Addr} {on oc : Nat} {xs : List Int} (h : Own w base (.slice O on oc) xs) : on ≤ oc ∧ oc ≤ 9223372036854775807 := by
 rcases h.2 with ⟨e, _⟩ | ⟨g, cap, cur, e, _, _, h1, h2, _⟩
 ·injection e with _ e1 e2; omega
 ·injection e with _ e1 e2
  have := Own.len h
  unfold maxLen at h2
  omega
def AnsRN (w : World) (p : Nat) (A : Option Addr) (n c L : Nat) (e : Ending) (w' : World) : Prop :=
 ∃ O on oc xs, e = .returned (.slice O on oc) ∧ Rd w' p w'.heap.size O on xs ∧ on ≤ oc ∧ oc ≤ 9223372036854775807 ∧ (O = none → oc = 0) ∧ on ≤ L ∧ Dice w' p A n c ∧ w.grownBy w' (some p) ∧ ∀ k, blk O = some k → w.heap.size ≤ k
theorem ansRN_own {w w' : World} {p : Nat} {A : Option Addr} {n c L : Nat} {O : Option Addr} {on oc base : Nat} {xs : List Int} (h : Own w' base (.slice O on oc) xs) (hp : p < base) (hb : w.heap.size ≤ base) (hL : on ≤ L) (d : Dice w' p A n c) (g : w.grownBy w' (some p)) : AnsRN w p A n c L (.returned (.slice O on oc)) w' :=
 ⟨O, on, oc, xs, rfl, Rd.of_own h hp, (Own.cap h).1, (Own.cap h).2, Own.none_cap h, hL, d, g, fun k hk => Nat.le_trans hb (Own.ge h k hk)⟩
theorem Own.some_ {w : World} {base : Nat} {O : Option Addr} {on oc : Nat} {xs : List Int} (h : Own w base (.slice O on oc) xs) (h1 : 1 ≤ on) : ∃ g, O = some ⟨g, 0, none⟩ := by
 rcases h.2 with ⟨e, _⟩ | ⟨g, cap, cur, e, _⟩
 ·injection e with _ e1 e2; omega
 ·injection e with e _ _; exact ⟨g, e⟩
theorem Own.cellAt {w : World} {base g on oc : Nat} {xs : List Int} (h : Own w base (.slice (some ⟨g, 0, none⟩) on oc) xs) {k : Nat} (hk : k < on) : ∃ u, w.cell? ⟨g, k, none⟩ = some u := by
 have hl := Own.len h
 subst hl
 have := World.ownsRow.cellAt h k (by omega)
 exact ⟨_, this.trans (List.getElem?_eq_getElem (by simpa using hk))⟩
theorem Own.frozenAt {w : World} {base g on oc : Nat} {xs : List Int} (h : Own w base (.slice (some ⟨g, 0, none⟩) on oc) xs) (k : Nat) : w.frozen? ⟨g, k, none⟩ = false := by
 have hl := Own.len h
 subst hl
 exact World.ownsRow.frozenAt h k
theorem Own.put {w : World} {base g on oc : Nat} {xs : List Int} (h : Own w base (.slice (some ⟨g, 0, none⟩) on oc) xs) (k : Nat) (y : Int) : Own (w.setCell ⟨g, k, none⟩ (.int .i64 y)) base (.slice (some ⟨g, 0, none⟩) on oc) (xs.set k y) := by
 have hl := Own.len h
 subst hl
 have := World.ownsRow.stored h k (.int .i64 y)
 unfold Own
 rw [List.length_set, List.map_set]
 exact this.1
theorem Rd.tail {w : World} {p B b off n : Nat} {xs : List Int} (h : Rd w p B (some ⟨b, off, none⟩) n xs) (h1 : 1 ≤ n) : Rd w p B (some ⟨b, off + 1, none⟩) (n - 1) (xs.drop 1) := by
 refine ⟨by have := h.1; simp; omega, fun hn => ?_⟩
 obtain ⟨b', off', e, hb, hne, hc⟩ := h.2 (by omega)
 injection e with e
 injection e with e1 e2
 subst e1 e2
 refine ⟨_, _, rfl, hb, hne, fun j hj => ?_⟩
 rw [Nat.add_assoc, hc (1 + j) (by omega)]
 simp [List.getD, Nat.add_comm]
theorem Rd.none_ {w : World} {p B : Nat} {O : Option Addr} : Rd w p B O 0 [] := ⟨rfl, fun h => absurd h (by omega)⟩
set_option maxHeartbeats 4000000 in
theorem drawAnyN (p : Nat) (A : Option Addr) (n c : Nat) (S : Option Addr) (sn sc : Nat) (sg : List Int) (w : World) (hd : Dice w p A n c) (hr : Rd w p w.heap.size S sn sg) (hsn : sn ≤ 1048576) :
  Calls Try.prog 59 #[.pointer (some ⟨p, 0, none⟩), .agg #[.slice S sn sc]] w (AnsRN w p A n c 65) := by
 have T0 := DT.start (sc := sc) hd hr
 obtain ⟨W, hW⟩ : ∃ W, W = w.alloc (.cells #[.slice S sn sc] 26) := ⟨_, rfl⟩
 rw [← hW] at T0
 have HW := hid hW
 clear hd hr hW
 have hN := T0.hp
 by_cases hs0 : sn = 0
 ·subst hs0
  go_enter Try.func59, Try.ntmps59
  go_wp2_with fail
  rw [← HW.out]
  refine (fromTo p A n c (-2) 2 _ T0.d (by omega) (by omega) (by omega) (by omega)).mono ?_
  rintro e u1 ⟨x, rfl, x0, x1, d1, g1⟩
  obtain ⟨O, on, oc, xs, he, o1, h1, h2, d2, g2⟩ := leaf (L := 1) (T0.dice d1 g1) (Nat.le_refl _) x
  have F : AnsRN w p A n c 65 _ _ := ansRN_own o1 hN (Nat.le_refl _) (by omega) d2 g2
  rw [← he] at F
  have HF := hid F
  clear F he o1 d2 g2 T0 d1 g1
  go_wp2
  go_ret
  exact HF.out
 ·have e0 : ((sn : Int) == 0) = false := by simp; omega
  have L := hid (specSigOk S sn sc sg W (T0.s.seg.more T0.g.size) hsn)
  cases hok : sigOkB sg with
  | false =>
   have HS := hid hok
   clear hok
   go_enter Try.func59, Try.ntmps59
   go_wp2_with fail
   rw [← HW.out]
   refine L.out.mono ?_
   rintro e u0 ⟨he, bb⟩
   rw [HS.out] at he
   subst he
   have T1 := T0.below (bb.mono (by have := T0.r.lt; omega))
   clear T0 bb L
   go_wp2_with fail
   refine (fromTo p A n c (-2) 2 _ T1.d (by omega) (by omega) (by omega) (by omega)).mono ?_
   rintro e u1 ⟨x, rfl, x0, x1, d1, g1⟩
   obtain ⟨O, on, oc, xs, he, o1, h1, h2, d2, g2⟩ := leaf (L := 1) (T1.dice d1 g1) (Nat.le_refl _) x
   have F : AnsRN w p A n c 65 _ _ := ansRN_own o1 hN (Nat.le_refl _) (by omega) d2 g2
   rw [← he] at F
   have HF := hid F
   clear F he o1 d2 g2 T1 d1 g1
   go_wp2
   go_ret
   exact HF.out
  | true =>
   have HS := hid hok
   have hars := (sig_arities hok).1
   have hl8 := (sig_arities hok).2.2
   have hsl := T0.s.1
   have hs8 : sn ≤ 8 := by omega
   clear hok hsl hl8
   go_enter Try.func59, Try.ntmps59
   go_wp2_with fail
   rw [← HW.out]
   refine L.out.mono ?_
   rintro e u0 ⟨he, bb⟩
   rw [HS.out] at he
   subst he
   have T1 := (T0.below (bb.mono (by have := T0.r.lt; omega))).drew
   have cS : u0.cell? ⟨w.heap.size, 0, none⟩ = some (.slice S sn sc) := T1.r.cell 0
   clear T0 bb L
   go_wp2_with fail
   go_region_held3 (fun w' => w'.cell? ⟨w.heap.size, 0, none⟩ = some (.slice S sn sc))
    (go_keep)
    (first
     | (go_at_call 61; refine (below p A n c 4 _ T1.d (by omega) (by omega)).mono ?_; rintro e u1 ⟨x, rfl, x0, x1, d1, g1⟩; have T2 := T1.dice d1 g1; have cS2 : u1.cell? ⟨w.heap.size, 0, none⟩ = some (.slice S sn sc) := T2.r.cell 0; have hw : IntKind.i64.wrap (1 + x) = 1 + x := by rw [IntKind.wrap_i64]; omega)
     | (go_at_call 102; refine (drawTerm p A n c S sn sc sg 3 hars (by omega) (by omega) (by omega) (by omega) 3 (1 + x) u1 T2.d (T2.s.more T2.g.size) (by omega) (by clear hw; omega) (by clear hw; omega)).mono ?_; rintro e u2 ⟨O, on, oc, xs, rfl, o2, h1, h2, d2, g2⟩; have T3 := T2.dice d2 g2; have cS3 : u2.cell? ⟨w.heap.size, 0, none⟩ = some (.slice S sn sc) := T3.r.cell 0))
   have o3 : Own u2 (w.heap.size + 1) (.slice O on oc) xs := Own.lower o2 (by have := T2.r.lt; omega)
   obtain ⟨gg, rfl⟩ := Own.some_ o3 h1
   have hgg : w.heap.size + 1 ≤ gg := Own.ge o3 gg rfl
   have hL : on ≤ 64 := h2
   clear hw o2 T2 T1 d1 g1 d2 g2 cS cS2 cS3 h2 x0 x1
   have hp1 : p < w.heap.size + 1 := by omega
   go_wp2_with fail
   refine (once p A n c 12 _ T3.d (by omega) (by omega)).mono ?_
   rintro e u3 ⟨b, rfl, d1, g1⟩
   have T4 := T3.dice d1 g1
   have o4 := Own.far o3 g1 (fun k hk => by injection hk; omega)
   clear T3 o3 d1 g1
   cases b with
   | false =>
    have F : AnsRN w p A n c 65 (.returned (.slice (some ⟨gg, 0, none⟩) on oc)) u3 := ansRN_own o4 hp1 (by omega) (by omega) T4.d T4.g
    have HF := hid F
    clear F T4 o4
    go_wp2
    go_ret
    exact HF.out
   | true =>
    go_wp2_with fail
    refine (below p A n c 4 _ T4.d (by omega) (by omega)).mono ?_
    rintro e u4 ⟨x, rfl, x0, x1, d1, g1⟩
    have T5 := T4.dice d1 g1
    have o5 := Own.far o4 g1 (fun k hk => by injection hk; omega)
    clear T4 o4 d1 g1
    by_cases hx0 : x = 0
    ·subst hx0
     go_wp2_with fail
     refine (fromTo p A n c (-2) 3 _ T5.d (by omega) (by omega) (by omega) (by omega)).mono ?_
     rintro e u5 ⟨y, rfl, y0, y1, d1, g1⟩
     have T6 := T5.dice d1 g1
     have o6 := Own.far o5 g1 (fun k hk => by injection hk; omega)
     have z6 := T6.r.lt
     clear T5 o5 d1 g1 x0 x1
     go_wp2_with (at_builtin; refine app1 rfl _ _ rfl (w.heap.size + 1) (some ⟨gg, 0, none⟩) on oc xs rfl (Own.alloc o6 _) u5.heap.size 1 y rfl ((Row.new _ _ _).cell 0) (by omega) (by simp; omega) ?_; intro O' oc' u6 o7 b7)
     have T7 := (T6.below ((Below.refl _ _).alloc (by omega) (.cells #[.int .i64 y] 2))).below b7
     have F : AnsRN w p A n c 65 (.returned (.slice O' (on + 1) oc')) u6 := ansRN_own o7 hp1 (by omega) (by omega) T7.d T7.g
     have HF := hid F
     clear F T7 T6 o6 o7 b7
     go_wp2
     go_ret
     exact HF.out
    ·by_cases hx1 : x = 1
     ·subst hx1
      go_wp2_with fail
      refine (below p A n c (on : Int) _ T5.d (by omega) (by omega)).mono ?_
      rintro e u5 ⟨y, rfl, y0, y1, d1, g1⟩
      obtain ⟨k, rfl⟩ := Int.eq_ofNat_of_zero_le y0
      have T6 := T5.dice d1 g1
      have o6 := Own.far o5 g1 (fun k hk => by injection hk; omega)
      clear T5 o5 d1 g1 x0 x1 hx0
      go_wp2_with fail
      refine (fromTo p A n c (-3) 4 _ T6.d (by omega) (by omega) (by omega) (by omega)).mono ?_
      rintro e u6 ⟨z, rfl, z0, z1, d1, g1⟩
      have T7 := T6.dice d1 g1
      have o7 := Own.far o6 g1 (fun k hk => by injection hk; omega)
      have hk : k < on := by omega
      have i1 : (k : Int) < (on : Int) := by omega
      obtain ⟨u, hu⟩ := Own.cellAt o7 hk
      have hf := Own.frozenAt o7 k
      have o8 := Own.put o7 k z
      have T8 := T7.below ((Below.refl (w.heap.size + 1) u6).setCell (p := ⟨gg, k, none⟩) hgg (.int .i64 z))
      have F : AnsRN w p A n c 65 (.returned (.slice (some ⟨gg, 0, none⟩) on oc)) (u6.setCell ⟨gg, k, none⟩ (.int .i64 z)) := ansRN_own o8 hp1 (by omega) (by omega) T8.d T8.g
      have HF := hid F
      clear F T8 T7 T6 o8 o7 o6 d1 g1
      go_wp2
      go_ret
      exact HF.out
     ·by_cases hx2 : x = 2
      ·subst hx2
       have hcap := Own.cap o5
       have hrd := Rd.of_own o5 hp1
       by_cases hc1 : oc = 1
       ·subst hc1
        have e1 : on = 1 := by omega
        subst e1
        have F : AnsRN w p A n c 65 (.returned (.slice (some ⟨gg, 0, none⟩) 0 0)) u4 := ⟨_, 0, 0, [], rfl, Rd.none_, Nat.le_refl _, by omega, fun e => rfl, by omega, T5.d, T5.g, fun k hk => by (injection hk with e); have e2 : gg = k := e; omega⟩
        have HF := hid F
        clear F T5 o5 hrd x0 x1 hx0 hx1
        go_wp2
        go_ret
        exact HF.out
       ·have F : AnsRN w p A n c 65 (.returned (.slice (some ⟨gg, 0 + 1, none⟩) (on - 1) (oc - 1))) u4 := ⟨_, _, _, _, rfl, Rd.tail hrd h1, by omega, by omega, (fun e => by cases e), by omega, T5.d, T5.g, fun k hk => by (injection hk with e); have e2 : gg = k := e; omega⟩
        have HF := hid F
        have hc2 : ¬ oc = 1 := hc1
        have i1 : (1 : Int) ≤ (on : Int) := by omega
        have i2 : (1 : Int) ≤ (oc : Int) := by omega
        have i3 : (on : Int) ≤ (oc : Int) := by omega
        have i4 : 1 ≤ on := h1
        have i5 : on ≤ oc := hcap.1
        clear F T5 o5 hrd x0 x1 hx0 hx1 hc1 hcap
        go_wp2
        go_ret
        exact HF.out
      ·have e3 : x = 3 := by omega
       subst e3
       clear x0 x1 hx0 hx1 hx2
       go_wp2_with fail
       refine (odd p A n c _ T5.d).mono ?_
       rintro e u5 ⟨y, rfl, d1, g1⟩
       have T6 := T5.dice d1 g1
       have o6 := Own.far o5 g1 (fun k hk => by injection hk; omega)
       have z6 := T6.r.lt
       clear T5 o5 d1 g1
       go_wp2_with (at_builtin; refine app1 rfl _ _ rfl (w.heap.size + 1) (some ⟨gg, 0, none⟩) on oc xs rfl (Own.alloc o6 _) u5.heap.size 1 y rfl ((Row.new _ _ _).cell 0) (by omega) (by simp; omega) ?_; intro O' oc' u6 o7 b7)
       have T7 := (T6.below ((Below.refl _ _).alloc (by omega) (.cells #[.int .i64 y] 2))).below b7
       have F : AnsRN w p A n c 65 (.returned (.slice O' (on + 1) oc')) u6 := ansRN_own o7 hp1 (by omega) (by omega) T7.d T7.g
       have HF := hid F
       clear F T7 T6 o6 o7 b7
       go_wp2
       go_ret
       exact HF.out
theorem drawAny (p : Nat) (A : Option Addr) (n c : Nat) (S : Option Addr) (sn sc : Nat) (sg : List Int) (w : World) (hd : Dice w p A n c) (hr : Rd w p w.heap.size S sn sg) (hsn : sn ≤ 1048576) :
  Calls Try.prog 59 #[.pointer (some ⟨p, 0, none⟩), .agg #[.slice S sn sc]] w (AnsR w p A n c 65) :=
 (drawAnyN p A n c S sn sc sg w hd hr hsn).mono fun _ _ ⟨O, on, oc, xs, h1, h2, h3, h4, h5, h6, h7, h8, _⟩ => ⟨O, on, oc, xs, h1, h2, h3, h4, h5, h6, h7, h8⟩
end drawAny
end
section
namespace drawTwo
open Go.RowKit base ints sig term cursor termOk marks app sym dice drawSig drawTerm drawAny
set_option maxRecDepth 100000
def AnsNew (w : World) (A : Option Addr) (n c : Nat) (e : Ending) (w' : World) : Prop := ∃ p, e = .returned (.pointer (some ⟨p, 0, none⟩)) ∧ w.heap.size ≤ p ∧ Dice w' p A n c ∧ Below w.heap.size w w'
set_option maxHeartbeats 1000000 in
theorem new_ (A : Option Addr) (n c : Nat) (w : World) (h : SegB w w.heap.size A n) (hn : n ≤ 4096) :
  Calls Try.prog 56 #[.slice A n c] w (AnsNew w A n c) := by
 go_enter Try.func56, Try.ntmps56
 go_wp2_with fail
 go_loop [3, 4] (fun hh i => ∃ (k : Nat) (h0 : Int), k ≤ n ∧ i = .int .i64 k ∧ hh = .int .i64 h0) (fun _ i => n - (intOf i).toNat)
 case atStart => exact ⟨0, _, Nat.zero_le _, rfl, rfl⟩
 case round =>
  obtain ⟨k, h0, hk, rfl, rfl⟩ := hrel
  by_cases hlt : k < n
  ·obtain ⟨b, off, rfl, hb, hc⟩ := h (by omega)
   obtain ⟨y, hy0, hy1, hy⟩ := hc k hlt
   clear hc h
   go_wp2
   go_round
   case rel => exact ⟨k + 1, _, hlt, by go_num, rfl⟩
   case measure => simp [intOf]; omega
  ·have F : AnsNew w A n c (.returned (.pointer (some ⟨w.heap.size, 0, none⟩))) (w.alloc (.cells #[.slice A n c, .int .i64 0, .int .i64 h0] 98)) :=
    ⟨_, rfl, Nat.le_refl _, ⟨0, h0, Row.new _ _ _, Nat.zero_le _, h.keep (fun q hq => World.cell?_alloc_lt w _ q hq), hn⟩, (Below.refl _ _).alloc (Nat.le_refl _) _⟩
   have HF := Lib.hid F
   clear F h
   go_wp2
   go_ret
   exact HF.out
end drawTwo
end
section
namespace drawPair
open Go.RowKit base ints sig term cursor termOk marks app sym dice drawSig drawTerm drawAny drawTwo
set_option maxRecDepth 100000
theorem Rd.other {w : World} {p B N : Nat} {O : Option Addr} {on : Nat} {xs : List Int} {a : Option Addr} {l k : Nat} (h : Rd w p B O on xs) (hN : w.cell? ⟨N, 0, none⟩ = some (.slice a l k)) (u : Value) : Rd (w.setCell ⟨N, 0, none⟩ u) p B O on xs :=
 ⟨h.1, fun hn => by
  obtain ⟨b, off, e, hb, hne, hc⟩ := h.2 hn
  refine ⟨b, off, e, hb, hne, fun j hj => ?_⟩
  rw [World.cell?_setCell_other w _ _ _ (fun e => by rw [e] at hN; rw [hc j hj] at hN; cases hN)]
  exact hc j hj⟩
theorem Dice.other {w : World} {p N : Nat} {A : Option Addr} {n c : Nat} {a : Option Addr} {l k : Nat} (d : Dice w p A n c) (hN : w.cell? ⟨N, 0, none⟩ = some (.slice a l k)) (hp : p ≠ N) (u : Value) : Dice (w.setCell ⟨N, 0, none⟩ u) p A n c := by
 obtain ⟨i, h, d⟩ := d
 refine ⟨i, h, d.row.far (p := ⟨N, 0, none⟩) hp u, d.le, fun hn => ?_, d.hn⟩
 obtain ⟨b, off, e, hb, hc⟩ := d.s hn
 refine ⟨b, off, e, hb, fun j hj => ?_⟩
 obtain ⟨x, x0, x1, hx⟩ := hc j hj
 refine ⟨x, x0, x1, ?_⟩
 rw [World.cell?_setCell_other w _ _ _ (fun e => by rw [e] at hN; rw [hx] at hN; cases hN)]
 exact hx
end drawPair
end
section
namespace drawOne
open Go.RowKit base ints sig term cursor termOk marks app sym dice drawSig drawTerm drawAny drawPair
theorem grown_set {a b : World} {r : Option Nat} (h : a.grownBy b r) {q : Nat} (hq : a.heap.size ≤ q) (i : Nat) (u : Value) : a.grownBy (b.setCell ⟨q, i, none⟩ u) r :=
 ⟨h.os, h.tape, h.output, by simpa [World.setCell] using h.size, fun k hk hn => (Below.heap_setCell _ _ _ _ (by show k ≠ q; omega)).trans (h.block k hk hn)⟩
theorem Rd.drew {w : World} {p B : Nat} {A : Option Addr} {n : Nat} {xs : List Int} (h : Rd w p B A n xs) : Rd w.drew p B A n xs := h
end drawOne
end
section
namespace drawAt
open Go.RowKit base ints sig term cursor termOk marks app sym dice drawSig drawTerm drawAny drawPair drawOne
def AnsDAt (w : World) (p : Nat) (A : Option Addr) (n c : Nat) (e : Ending) (w' : World) : Prop :=
 ∃ S sn sc sg O on oc xs x, e = .returned (.tuple #[.agg #[.slice S sn sc], .slice O on oc, .int .i64 x]) ∧ Rd w' p w'.heap.size S sn sg ∧ Rd w' p w'.heap.size O on xs ∧ sn ≤ 9 ∧ on ≤ 65 ∧ on ≤ oc ∧ oc ≤ 9223372036854775807 ∧ (O = none → oc = 0) ∧ -1 ≤ x ∧ x ≤ on ∧ Dice w' p A n c ∧ w.grownBy w' (some p)
theorem at_of {w u : World} {p : Nat} {A : Option Addr} {n c : Nat} {S : Option Addr} {sn sc : Nat} {sg : List Int} {O : Option Addr} {on oc : Nat} {xs : List Int} {x : Int} {B B' : Nat} {a : Option Addr} {l k : Nat} (hs : Rd u p B S sn sg) (hB : B ≤ u.heap.size) (ho : Rd u p B' O on xs) (hB' : B' ≤ u.heap.size)
  (h1 : sn ≤ 9) (h2 : on ≤ 65) (h3 : on ≤ oc) (h4 : oc ≤ 9223372036854775807) (h5 : O = none → oc = 0) (h6 : -1 ≤ x) (h7 : x ≤ on) (d : Dice u p A n c) (hp : p < w.heap.size) (hg : w.grownBy u (some p)) (hN : u.cell? ⟨w.heap.size, 0, none⟩ = some (.slice a l k)) :
  AnsDAt w p A n c (.returned (.tuple #[.agg #[.slice S sn sc], .slice O on oc, .int .i64 x])) (u.setCell ⟨w.heap.size, 0, none⟩ (.slice S sn sc)) :=
 ⟨S, sn, sc, sg, O, on, oc, xs, x, rfl, (Rd.other (Rd.more hs hB) hN _).more (by simp), (Rd.other (Rd.more ho hB') hN _).more (by simp), h1, h2, h3, h4, h5, h6, h7, Dice.other d hN (by omega) _, grown_set hg (Nat.le_refl _) _ _⟩
set_option maxHeartbeats 2000000 in
theorem drawAt (p : Nat) (A : Option Addr) (n c : Nat) (w : World) (hd : Dice w p A n c) :
  Calls Try.prog 75 #[.pointer (some ⟨p, 0, none⟩)] w (AnsDAt w p A n c) := by
 have hp := hd.lt
 obtain ⟨W0, hW0⟩ : ∃ W0, W0 = w.alloc (.cells #[.slice none 0 0] 26) := ⟨_, rfl⟩
 have rN : Row W0 w.heap.size 26 #[.slice none 0 0] := by rw [hW0]; exact Row.new _ _ _
 have d0 : Dice W0 p A n c := by rw [hW0]; exact hd.alloc _
 have g0 : w.grownBy W0 (some p) := by rw [hW0]; exact World.grownBy_alloc _ _ _
 have L2 := Lib.hid (drawSigAny p A n c W0 d0)
 have hp1 := d0.lt
 have zp : ¬ p = w.heap.size := by omega
 have HW0 := Lib.hid hW0
 clear hd d0 hW0
 go_enter Try.func75, Try.ntmps75
 go_wp2_with fail
 rw [← HW0.out]
 refine L2.out.mono ?_
 rintro e w2 ⟨S, sn, sc, sg, rfl, o2, hshort, d2, g2⟩
 have hsn : sn ≤ 9 := by rw [Own.len o2]; exact hshort
 have z0 := rN.lt
 have z2 := g2.size
 replace rN := Row.away rN g2 (fun e => by injection e; omega)
 have G2 := grown_trans g0 g2
 have T0 := DT.start (sc := sc) d2 (Rd.of_own o2 hp1)
 obtain ⟨W, hW⟩ : ∃ W, W = w2.alloc (.cells #[.slice S sn sc] 26) := ⟨_, rfl⟩
 replace rN : Row W w.heap.size 26 #[.slice none 0 0] := by rw [hW]; exact rN.alloc _
 rw [← hW] at T0
 have HW := Lib.hid hW
 have cV : W.cell? ⟨w2.heap.size, 0, none⟩ = some (.slice S sn sc) := T0.r.cell 0
 have zNv : w.heap.size < w2.heap.size := by omega
 have zne1 : ¬ w2.heap.size = w.heap.size := by omega
 have zne2 : ¬ w.heap.size = w2.heap.size := by omega
 have cV0 : (w2.alloc (.cells #[.slice S sn sc] 26)).cell? ⟨w2.heap.size, 0, none⟩ = some (.slice S sn sc) := by rw [← hW]; exact cV
 clear o2 hshort d2 g2 g0 hW L2
 go_wp2_with fail
 rw [← HW.out]
 refine (drawAny p A n c S sn sc sg W T0.d (T0.s.more T0.g.size) (by omega)).mono ?_
 rintro e w3 ⟨O, on, oc, xs, rfl, ra, h1, h2, h3, h4, d3, g3⟩
 have T2 := T0.dice d3 g3
 have rN1 := (Row.away rN g3 (fun e => by injection e; omega)).drew
 have ra1 : Rd w3.drew p w3.heap.size O on xs := Rd.drew ra
 have T3 := T2.drew
 clear cV cV0 rN T0 ra d3 g3 T2
 have cV : w3.drew.cell? ⟨w2.heap.size, 0, none⟩ = some (.slice S sn sc) := T3.r.cell 0
 have cN : w3.drew.cell? ⟨w.heap.size, 0, none⟩ = some (.slice none 0 0) := rN1.cell 0
 have fN : w3.drew.frozen? ⟨w.heap.size, 0, none⟩ = false := rN1.free 0
 have L3 := Lib.hid (fromTo p A n c (-1) (on : Int) w3.drew T3.d (by omega) (by omega) (by omega) (by omega))
 go_wp2_with fail
 go_region_held3 (fun w' => w'.cell? ⟨w2.heap.size, 0, none⟩ = some (.slice S sn sc))
  (go_keep)
  (first
   | (go_at_call 101; refine L3.out.mono ?_; rintro e w4 ⟨x, rfl, x0, x1, d4, g4⟩; have T4 := T3.dice d4 g4; have cV4 : w4.cell? ⟨w2.heap.size, 0, none⟩ = some (.slice S sn sc) := T4.r.cell 0; have rN4 := Row.away rN1 g4 (fun e => by injection e; omega); have cN4 : w4.cell? ⟨w.heap.size, 0, none⟩ = some (.slice none 0 0) := rN4.cell 0; have fN4 : w4.frozen? ⟨w.heap.size, 0, none⟩ = false := rN4.free 0; have F := Lib.hid (at_of (sc := sc) (p := p) T4.s T4.g.size (ra1.grown g4 (Nat.le_refl _)) g4.size hsn h4 h1 h2 h3 x0 x1 T4.d hp (grown_trans G2 T4.g) cN4)))
 clear cV4 rN4 T4 d4 g4 rN1 T3 G2 fN4 ra1
 go_wp2
 exact bodyPost_ret (v := .tuple #[.agg #[.slice S sn sc], .slice O on oc, .int .i64 x]) (by simp [results, Try.results75, go_sem, cN4]) rfl F.out
end drawAt
end
section
namespace drawPath
open Go.RowKit base ints sig term cursor termOk marks app sym segs dice drawSig drawTerm drawAny drawTwo drawPair drawOne drawAt
def AnsDPut (w : World) (e : Ending) (w' : World) : Prop :=
 ∃ S sn sc sg O on oc xs x U un uc us, e = .returned (.tuple #[.agg #[.slice S sn sc], .slice O on oc, .int .i64 x, .slice U un uc]) ∧ Seg w' w'.heap.size S sn sg ∧ Seg w' w'.heap.size O on xs ∧ Seg w' w'.heap.size U un us ∧ sn ≤ 9 ∧ on ≤ 65 ∧ Cap O on oc ∧ un ≤ 65 ∧ Cap U un uc ∧ -1 ≤ x ∧ x ≤ on ∧ Below w.heap.size w w'
theorem put_of {w u : World} {p : Nat} {S : Option Addr} {sn sc : Nat} {sg : List Int} {O : Option Addr} {on oc : Nat} {xs : List Int} {x : Int} {U : Option Addr} {un uc : Nat} {us : List Int} {B B' : Nat} {a : Option Addr} {l k : Nat} (hs : Rd u p B S sn sg) (hB : B ≤ u.heap.size) (ho : Rd u p B' O on xs) (hB' : B' ≤ u.heap.size) (hu : Rd u p u.heap.size U un us)
  (h1 : sn ≤ 9) (h2 : on ≤ 65) (h3 : Cap O on oc) (h4 : un ≤ 65) (h5 : Cap U un uc) (h6 : -1 ≤ x) (h7 : x ≤ on) (hb : Below w.heap.size w u) (hN : u.cell? ⟨w.heap.size, 0, none⟩ = some (.slice a l k)) :
  AnsDPut w (.returned (.tuple #[.agg #[.slice S sn sc], .slice O on oc, .int .i64 x, .slice U un uc])) (u.setCell ⟨w.heap.size, 0, none⟩ (.slice S sn sc)) :=
 ⟨S, sn, sc, sg, O, on, oc, xs, x, U, un, uc, us, rfl, (Rd.seg (Rd.other (Rd.more hs hB) hN _)).more (by simp), (Rd.seg (Rd.other (Rd.more ho hB') hN _)).more (by simp), (Rd.seg (Rd.other hu hN _)).more (by simp), h1, h2, h3, h4, h5, h6, h7, hb.setCell (Nat.le_refl _) _⟩
set_option maxHeartbeats 2000000 in
theorem drawPutAt (A : Option Addr) (n c : Nat) (w : World) (h : SegB w w.heap.size A n) (hn : n ≤ 4096) :
  Calls Try.prog 41 #[.slice A n c] w (AnsDPut w) := by
 obtain ⟨W0, hW0⟩ : ∃ W0, W0 = w.alloc (.cells #[.slice none 0 0] 26) := ⟨_, rfl⟩
 have rN : Row W0 w.heap.size 26 #[.slice none 0 0] := by rw [hW0]; exact Row.new _ _ _
 have b0 : Below w.heap.size w W0 := by rw [hW0]; exact (Below.refl _ _).alloc (Nat.le_refl _) _
 have h0 : SegB W0 W0.heap.size A n := fun hp => by
  obtain ⟨b, off, e, hb, hc⟩ := h hp
  refine ⟨b, off, e, Nat.lt_of_lt_of_le hb b0.size, fun j hj => ?_⟩
  obtain ⟨x, x0, x1, hx⟩ := hc j hj
  exact ⟨x, x0, x1, (b0.cell (p := ⟨b, off + j, none⟩) hb).trans hx⟩
 have L := Lib.hid (new_ A n c W0 h0 hn)
 have HW0 := Lib.hid hW0
 clear h h0 hW0
 go_enter Try.func41, Try.ntmps41
 go_wp2_with fail
 rw [← HW0.out]
 refine L.out.mono ?_
 rintro e w1 ⟨p, rfl, hp, d1, bb⟩
 have hNp : w.heap.size < p := Nat.lt_of_lt_of_le rN.lt hp
 replace rN := rN.next bb
 have bel := next_trans b0 bb
 have L2 := Lib.hid (drawAt p A n c w1 d1)
 have hp1 := d1.lt
 clear d1 bb b0 L
 go_wp2_with fail
 refine L2.out.mono ?_
 rintro e w2 ⟨S, sn, sc, sg, O, on, oc, xs, x, rfl, rs, ro, h1, h2, h3, h4, h5, h6, h7, d2, g2⟩
 replace rN := Row.away rN g2 (fun e => by injection e; omega)
 have bel2 : Below w.heap.size w w2 := bel.grown g2 bel.size (fun k hk => by injection hk; omega)
 have T0 := DT.start (sc := sc) d2 rs
 have HC := Lib.hid (show Cap O on oc from ⟨h3, h4, h5⟩)
 obtain ⟨W, hW⟩ : ∃ W, W = w2.alloc (.cells #[.slice S sn sc] 26) := ⟨_, rfl⟩
 have bW : Below w2.heap.size w2 W := by rw [hW]; exact (Below.refl _ _).alloc (Nat.le_refl _) _
 replace rN : Row W w.heap.size 26 #[.slice none 0 0] := by rw [hW]; exact rN.alloc _
 have bel3 : Below w.heap.size w W := by rw [hW]; exact bel2.alloc bel2.size _
 replace ro : Rd W p w2.heap.size O on xs := Rd.below ro bW (Nat.le_refl _)
 rw [← hW] at T0
 have HW := Lib.hid hW
 have cV : W.cell? ⟨w2.heap.size, 0, none⟩ = some (.slice S sn sc) := T0.r.cell 0
 have cN : W.cell? ⟨w.heap.size, 0, none⟩ = some (.slice none 0 0) := rN.cell 0
 have fN : W.frozen? ⟨w.heap.size, 0, none⟩ = false := rN.free 0
 have zNv : w.heap.size < w2.heap.size := by have := T0.hp; omega
 have zne1 : ¬ w2.heap.size = w.heap.size := by omega
 have zne2 : ¬ w.heap.size = w2.heap.size := by omega
 have T1 := T0.drew
 have rN1 := rN.drew
 have bel4 := bel3.drew
 have ro1 : Rd W.drew p w2.heap.size O on xs := Rd.drew ro
 clear bel bel2 d2 g2 T0 hW L2 bel3 rN ro rs bW h3 h4 h5
 go_wp2_with fail
 rw [← HW.out]
 go_region_held3 (fun w' => w'.cell? ⟨w2.heap.size, 0, none⟩ = some (.slice S sn sc))
  (go_keep)
  (first
   | (go_at_call 59; refine (drawAny p A n c S sn sc sg W.drew T1.d (T1.s.more T1.g.size) (by omega)).mono ?_; rintro e w3 ⟨U, un, uc, us, rfl, ra, k1, k2, k3, k4, d3, g3⟩; have T2 := T1.dice d3 g3; have cV3 : w3.cell? ⟨w2.heap.size, 0, none⟩ = some (.slice S sn sc) := T2.r.cell 0; have rN3 := Row.away rN1 g3 (fun e => by injection e; omega); have cN3 : w3.cell? ⟨w.heap.size, 0, none⟩ = some (.slice none 0 0) := rN3.cell 0; have fN3 : w3.frozen? ⟨w.heap.size, 0, none⟩ = false := rN3.free 0; have F := Lib.hid (put_of (sc := sc) (p := p) T2.s T2.g.size (ro1.grown g3 T1.g.size) T2.g.size ra h1 h2 HC.out k4 ⟨k1, k2, k3⟩ h6 h7 (bel4.grown g3 bel4.size (fun k hk => by injection hk; omega)) cN3)))
 clear cV3 rN3 T2 ra d3 g3 rN1 T1 bel4 fN3 ro1
 go_wp2
 exact bodyPost_ret (v := .tuple #[.agg #[.slice S sn sc], .slice O on oc, .int .i64 x, .slice U un uc]) (by simp [results, Try.results41, go_sem, cN3]) rfl F.out
end drawPath
end
section
namespace bigs
open Go.RowKit base ints
theorem bigAns (A : Option Addr) (n c : Nat) (b : Bool) (w : World) (hb : decide (4096 < n) = b) (hn : n ≤ 9223372036854775807) : Calls Try.prog 11 #[.slice A n c] w fun e w' => w = w' ∧ e = .returned (.bool b) := by
 cases b with
 | true =>
  have h : (4096 : Int) < (n : Int) := by have := of_decide_eq_true hb; omega
  clear hb
  go_enter Try.func11, Try.ntmps11
  go_wp2
  go_ret
  exact ⟨rfl, rfl⟩
 | false =>
  have h : ¬ (4096 : Int) < (n : Int) := by have := of_decide_eq_false hb; omega
  have h2 : decide (4096 < n) = false := hb
  clear hb
  go_enter Try.func11, Try.ntmps11
  go_wp2
  go_ret
  exact ⟨rfl, rfl⟩
end bigs
end
section
open Go.Lib (hid)
namespace same
open Go.RowKit base ints
set_option maxHeartbeats 400000 in
theorem specSame (A A' : Option Addr) (n m c c' : Nat) (xs ys : List Int) (w : World) (h : Seg w w.heap.size A n xs) (h' : Seg w w.heap.size A' m ys) (hn : n ≤ 1048576) (hm : m ≤ 1048576) :
  Calls Try.prog 64 #[.slice A n c, .slice A' m c'] w (AnsSame w xs ys) := by
 by_cases hnm : n = m
 ·subst hnm
  go_enter Try.func64, Try.ntmps64
  go_wp2
  go_loopw [5] (fun i wr => HeadSame w n xs ys i wr) (fun i _ => n - (intOf i).toNat)
  case atStart => exact ⟨0, 0, Nat.zero_le _, rfl, rfl, fun j h => absurd h (Nat.not_lt_zero _)⟩
  case round =>
   obtain ⟨k, d, hk, rfl, rfl, hc⟩ := hrel
   by_cases hlt : k < n
   ·obtain ⟨b, off, x, rfl, -, hx, ex⟩ := h.spot hlt
    obtain ⟨b', off', y, rfl, -, hx', ey⟩ := h'.spot hlt
    by_cases he : x = y
    ·subst he
     have S := hid (alike_step (w := w) hlt hc ex ey)
     clear hc h h' ex ey
     go_wp2
     go_quiet (fail)
     go_wp2
     go_roundw
     case rel => exact S.out _
     case measure => simp [intOf]; omega
    ·have S := hid (same_not (w := w) ex ey he)
     have hne : (x != y) = true := by simp [he]
     clear hc h h' ex ey he
     go_wp2
     go_quiet (fail)
     go_wp2
     go_ret
     rw [World.drewN_drewN]
     exact S.out _
   ·have S := hid (same_yes (w := w) h.1 h'.1 hlt hc)
    clear hc h h'
    go_wp2
    go_ret
    exact S.out _
 ·have S := hid (same_len (w := w) h.1 h'.1 hnm)
  have hne : ((n : Int) != (m : Int)) = true := by simp; omega
  clear h h'
  go_enter Try.func64, Try.ntmps64
  go_wp2
  go_ret
  exact S.out
set_option maxHeartbeats 400000 in
theorem libEqual (A A' : Option Addr) (n m c c' : Nat) (xs ys : List Int) (w : World) (h : Seg w w.heap.size A n xs) (h' : Seg w w.heap.size A' m ys) (hn : n ≤ 1048576) (hm : m ≤ 1048576) :
  Calls Try.prog 66 #[.slice A n c, .slice A' m c'] w (AnsSame w xs ys) := by
 by_cases hnm : n = m
 ·subst hnm
  go_enter Try.func66, Try.ntmps66
  go_wp2
  go_loopw [13] (fun i wr => HeadSame w n xs ys i wr) (fun i _ => n - (intOf i).toNat)
  case atStart => exact ⟨0, 0, Nat.zero_le _, rfl, rfl, fun j h => absurd h (Nat.not_lt_zero _)⟩
  case round =>
   obtain ⟨k, d, hk, rfl, rfl, hc⟩ := hrel
   by_cases hlt : k < n
   ·obtain ⟨b, off, x, rfl, -, hx, ex⟩ := h.spot hlt
    obtain ⟨b', off', y, rfl, -, hx', ey⟩ := h'.spot hlt
    by_cases he : x = y
    ·subst he
     have S := hid (alike_step (w := w) hlt hc ex ey)
     clear hc h h' ex ey
     go_wp2
     go_quiet (fail)
     go_wp2
     go_roundw
     case rel => exact S.out _
     case measure => simp [intOf]; omega
    ·have S := hid (same_not (w := w) ex ey he)
     have hne : (x != y) = true := by simp [he]
     clear hc h h' ex ey he
     go_wp2
     go_quiet (fail)
     go_wp2
     go_ret
     rw [World.drewN_drewN]
     exact S.out _
   ·have S := hid (same_yes (w := w) h.1 h'.1 hlt hc)
    clear hc h h'
    go_wp2
    go_ret
    exact S.out _
 ·have S := hid (same_len (w := w) h.1 h'.1 hnm)
  have hne : ((n : Int) != (m : Int)) = true := by simp; omega
  clear h h'
  go_enter Try.func66, Try.ntmps66
  go_wp2
  go_ret
  exact S.out
theorem implSame (A A' : Option Addr) (n m c c' : Nat) (xs ys : List Int) (w : World) (h : Seg w w.heap.size A n xs) (h' : Seg w w.heap.size A' m ys) (hn : n ≤ 1048576) (hm : m ≤ 1048576) :
  Calls Try.prog 16 #[.slice A n c, .slice A' m c'] w (AnsSame w xs ys) := by
 have L := hid (libEqual A A' n m c c' xs ys w h h' hn hm)
 clear h h'
 go_enter Try.func16, Try.ntmps16
 go_wp2_with fail
 refine L.out.mono ?_
 rintro e w' ⟨rfl, d, rfl⟩
 go_wp2
 go_ret
 exact ⟨rfl, d, rfl⟩
end same
end
section
open Go.Lib (hid)
namespace wFnPut
open Go.RowKit base ints sig same term termOk endAt inside marks app sym sub args depth segs posMath pathSpec wayTo place putMath put putFacts dice drawPath bigs
set_option maxRecDepth 100000
structure Tq (w : World) (v : Nat) (S : Option Addr) (sn sc : Nat) (sg : List Int) (O : Option Addr) (on : Nat) (xs : List Int) (U : Option Addr) (un : Nat) (us : List Int) (Y : Option Addr) (yn : Nat) (ys : List Int) (wr : World) : Prop where
 s : Seg wr wr.heap.size S sn sg
 t : Seg wr wr.heap.size O on xs
 u : Seg wr wr.heap.size U un us
 y : Seg wr wr.heap.size Y yn ys
 r : Row wr v 26 #[.slice S sn sc]
 bel : Below w.heap.size w wr
section
variable {w : World} {v : Nat} {S : Option Addr} {sn sc : Nat} {sg : List Int} {O : Option Addr} {on : Nat} {xs : List Int} {U : Option Addr} {un : Nat} {us : List Int} {Y : Option Addr} {yn : Nat} {ys : List Int} {wr w' : World}
theorem Tq.next (t : Tq w v S sn sc sg O on xs U un us Y yn ys wr) (hb : Below wr.heap.size wr w') : Tq w v S sn sc sg O on xs U un us Y yn ys w' := ⟨t.s.next hb, t.t.next hb, t.u.next hb, t.y.next hb, t.r.next hb, next_trans t.bel hb⟩
theorem Tq.drew (t : Tq w v S sn sc sg O on xs U un us Y yn ys wr) : Tq w v S sn sc sg O on xs U un us Y yn ys wr.drew := ⟨t.s, t.t, t.u, t.y, t.r, t.bel.drew⟩
theorem Tq.cell (t : Tq w v S sn sc sg O on xs U un us Y yn ys wr) : wr.cell? ⟨v, 0, none⟩ = some (.slice S sn sc) := t.r.cell 0
theorem Tq.with {Y' : Option Addr} {yn' : Nat} {ys' : List Int} (t : Tq w v S sn sc sg O on xs U un us Y yn ys wr) (h : Seg wr wr.heap.size Y' yn' ys') : Tq w v S sn sc sg O on xs U un us Y' yn' ys' wr := ⟨t.s, t.t, t.u, h, t.r, t.bel⟩
end
theorem sameYes (A A' : Option Addr) (n m c c' : Nat) (xs ys : List Int) (w : World) (h : Seg w w.heap.size A n xs) (h' : Seg w w.heap.size A' m ys) (e : xs = ys) (hn : n ≤ 1048576) (hm : m ≤ 1048576) :
  Calls Try.prog 16 #[.slice A n c, .slice A' m c'] w fun e w' => e = .returned (.bool true) ∧ Below w.heap.size w w' :=
 (implSame A A' n m c c' xs ys w h h' hn hm).mono fun _ _ ⟨he, d, hd⟩ => ⟨by rw [he, decide_eq_true e], by rw [hd]; exact below_drewN (Below.refl _ _) d⟩
theorem capOwn {w : World} {base : Nat} {A : Option Addr} {n c : Nat} {xs : List Int} (h : Own w base (.slice A n c) xs) : Cap A n c := ⟨(drawAny.Own.cap h).1, (drawAny.Own.cap h).2, drawTerm.Own.none_cap h⟩
set_option maxHeartbeats 2000000 in
theorem law (A : Option Addr) (n c : Nat) (_ : List Int) (w : World) (h : SegB w w.heap.size A n) (hN : n ≤ 9223372036854775807) :
  Calls Try.prog 7 #[.slice A n c] w (Fine w) := by
 by_cases hbig : n ≤ 4096
 ·have LB := hid (bigAns A n c false w (by simp; omega) hN)
  go_enter Try.func7, Try.ntmps7
  go_wp2_with fail
  refine LB.out.mono ?_
  rintro e w' ⟨rfl, rfl⟩
  clear LB
  go_wp2_with fail
  refine (drawPutAt A n c w h hbig).mono ?_
  rintro e w2 ⟨S, sn, sc, sg, O, on, oc, xs, x, U, un, uc, us, rfl, ss, st, su, h3, h4, hcap, h5, hcapu, x0, x1, b2⟩
  clear h
  obtain ⟨v, hv⟩ : ∃ v, w2.heap.size = v := ⟨_, rfl⟩
  have T : Tq w v S sn sc sg O on xs U un us none 0 [] (w2.alloc (.cells #[.slice S sn sc] 26)) := by
   have bb : Below w2.heap.size w2 (w2.alloc (.cells #[.slice S sn sc] 26)) := (Below.refl _ _).alloc (Nat.le_refl _) _
   exact ⟨ss.next bb, st.next bb, su.next bb, Seg.empty, by rw [← hv]; exact Row.new _ _ _, next_trans b2 bb⟩
  obtain ⟨W, hW⟩ : ∃ W, W = w2.alloc (.cells #[.slice S sn sc] 26) := ⟨_, rfl⟩
  rw [← hW] at T
  have HW := hid hW
  have HV := hid hv
  have HX := hid st.1
  have HU := hid su.1
  have HC := hid hcap
  have HCU := hid hcapu
  clear ss st su b2 hW hv hcap hcapu
  have cV := T.cell
  have cV0 : (w2.alloc (.cells #[.slice S sn sc] 26)).cell? ⟨w2.heap.size, 0, none⟩ = some (.slice S sn sc) := by rw [← HW.out, HV.out]; exact cV
  go_wp2_with fail
  rw [← HW.out, HV.out]
  refine (implPutAt S O U sn sc on oc un uc sg xs x us _ T.s T.t T.u (by omega) (by omega) (by omega) (by omega) (by omega) HCU.out HC.out.1 HC.out.2.1).mono ?_
  rintro e w3 ⟨Y, yn, yc, rfl, oy, bb⟩
  replace T := (T.next bb).with (Own.seg oy)
  have HYL := hid (Own.len oy)
  have HYC := hid (capOwn oy)
  have hyn : yn ≤ 60 := by rw [Own.len oy]; exact putR_len
  clear bb cV cV0 oy
  have cV := T.cell
  go_wp2_with fail
  refine (specPutAt S O U sn sc on oc un uc sg xs x us _ T.s T.t T.u (by omega) (by omega) (by omega) HCU.out.2.2 HC.out.1 HC.out.2.1).mono ?_
  rintro e w4 ⟨Z, zn, zc, rfl, oz, bb⟩
  replace T := T.next bb
  have hzn : zn ≤ 60 := by rw [Own.len oz]; exact putR_len
  clear bb cV
  obtain ⟨b, hb⟩ : ∃ b, putB sg xs us x = b := ⟨_, rfl⟩
  rw [hb]
  have HB := hid hb
  clear hb
  have hbb : (b != b) = false := by simp
  go_wp2_with fail
  refine (sameYes Y Z yn zn yc zc _ _ _ T.y (Own.seg oz) rfl (by omega) (by omega)).mono ?_
  rintro e w5 ⟨rfl, bb⟩
  replace T := T.next bb
  clear bb oz
  cases b with
  | false =>
   have hy0 : yn = 0 := by
    rw [HYL.out]
    unfold putR
    rw [if_neg (by rw [HB.out]; simp)]
    rfl
   subst hy0
   have F := hid T.bel
   clear T
   go_wp2
   go_ret
   exact ⟨rfl, F.out⟩
  | true =>
   obtain ⟨hth, huo, hfit⟩ := putB_parts HB.out
   obtain ⟨hok, i0, i1⟩ := there_parts hth
   obtain ⟨a, rfl⟩ := Int.eq_ofNat_of_zero_le i0
   rw [Int.toNat_natCast] at hfit
   have HR := hid (show putR sg xs us (a : Int) = putI sg xs us a by unfold putR; rw [if_pos HB.out, Int.toNat_natCast])
   obtain ⟨hY, haY, hsub, hpB, hpR⟩ := put_facts hth huo hfit
   have HAP : Hid (∀ (p : Nat) (pa : List Int), apartB sg xs (a : Int) (p : Int) = true → PathIs sg xs (p : Int) pa → ∃ q : Nat, placeI sg (putI sg xs us a) pa = (q : Int) ∧ q < (putI sg xs us a).length ∧ subI sg (putI sg xs us a) (q : Int) = subI sg xs (p : Int)) := hid (fun p pa h hp => apart_facts hth huo hfit h hp)
   have HSU := hid (show subI sg xs (a : Int) = subL sg xs a by unfold subI; rw [if_pos hth, Int.toNat_natCast])
   rw [HR.out] at T HYL
   obtain ⟨ys, hys⟩ : ∃ ys, putI sg xs us a = ys := ⟨_, rfl⟩
   rw [hys] at T HYL hY haY hsub hpB hpR HAP
   have HYO := hid hY
   have HSB := hid hsub
   have HPB := hid hpB
   have HPR := hid hpR
   have HYN := hid (show ys.length = yn from HYL.out.symm)
   have ia : (a : Int) ≤ 65 := by omega
   have hon : on ≤ 60 := by have h1 := (termOk_parts hok).2.1; rw [HX.out] at h1; exact h1
   clear hth huo hfit hok i0 i1 hY haY hsub hpB hpR hys HR HYL HB
   have cV := T.cell
   go_wp2_with fail
   refine (implSubAt S Y sn sc yn yc sg ys (a : Int) _ T.s T.y (by omega) (by omega) (by omega) (by omega) HYC.out.1 HYC.out.2.1).mono ?_
   rintro e w6 ⟨Z1, n1, c1, rfl, o1, bb⟩
   rw [HSB.out] at o1
   replace T := T.next bb
   clear bb cV
   have hn1 : n1 ≤ 65 := by rw [Own.len o1, HU.out]; exact h5
   go_wp2_with fail
   refine (sameYes Z1 U n1 un c1 uc _ _ _ (Own.seg o1) T.u rfl (by omega) (by omega)).mono ?_
   rintro e w7 ⟨rfl, bb⟩
   replace T := T.next bb
   clear bb o1
   have cV := T.cell
   go_wp2_with fail
   refine (implTermOk S Y sn sc yn yc sg ys _ T.s T.y (by omega) (by omega)).mono ?_
   rintro e w8 ⟨he, bb⟩
   rw [HYO.out] at he
   subst he
   replace T := T.next bb
   clear bb cV
   have HT := hid T
   clear T
   go_wp2_with fail
   go_loopg [11] on (fun g i wr => ∃ p : Nat, i = .int .i64 p ∧ p + g = on ∧ Tq w v S sn sc sg O on xs U un us Y yn ys wr)
   case atStart => exact ⟨0, rfl, by omega, HT.out⟩
   case round =>
    obtain ⟨p, rfl, hp, T⟩ := hrel
    clear HT
    have HP := hid hp
    clear hp
    by_cases hpo : p < on
    ·have hgk := hid (show gk - 1 < gk ∧ p + 1 + (gk - 1) = on by have := HP.out; omega)
     have cV := T.cell
     obtain ⟨ba, hba⟩ : ∃ b, apartB sg xs (a : Int) (p : Int) = b := ⟨_, rfl⟩
     have HBA := hid hba
     clear hba
     go_wp2_with fail
     refine (implApartIn S O sn sc on oc sg xs (a : Int) (p : Int) _ T.s T.t (by omega) (by omega) (by omega) (by omega) (by omega) (by omega)).mono ?_
     rintro e w9 ⟨he, bb⟩
     rw [HBA.out] at he
     subst he
     replace T := T.next bb
     clear bb cV
     cases ba with
     | false =>
      have HT := hid T
      clear T
      go_wp2
      go_roundg (gk - 1)
      case measure => exact hgk.out.1
      case rel => exact ⟨p + 1, by simp, hgk.out.2, HT.out⟩
     | true =>
      obtain ⟨pa, hpa⟩ := path_ex sg xs (p : Int)
      obtain ⟨q, q1, q2, q3⟩ := HAP.out p pa HBA.out hpa
      have HPA := hid hpa
      have hpl := hpa.len
      have Q1 := hid q1
      have Q3 := hid q3
      obtain ⟨zs, hzs⟩ : ∃ zs, subI sg xs (p : Int) = zs := ⟨_, rfl⟩
      rw [hzs] at Q3
      have HZS := hid hzs
      have hzl : zs.length ≤ 1048576 := by rw [← hzs]; exact subI_len HX.out (by omega)
      have q60 : q ≤ 60 := by rw [HYN.out] at q2; omega
      have iq : ¬ (q : Int) < 0 := by omega
      clear hpa q1 q2 q3 hzs
      replace T := T.drew
      have cV := T.cell
      go_wp2_with fail
      go_region_held3 (fun w' => w'.cell? ⟨v, 0, none⟩ = some (.slice S sn sc))
       (first | assumption | go_keep)
       (first
        | (go_at_call 32; refine (implPathOf S O sn sc on oc sg xs (p : Int) pa _ T.s T.t (by omega) (by omega) HPA.out).mono ?_; rintro e w10 ⟨Q, qn, qc, rfl, oq, b10⟩; have T10 := T.next b10; have cV10 := T10.cell; have sq := Own.seg oq; have hqn : qn ≤ 60 := by (rw [Own.len oq]; exact hpl))
        | (go_at_call 35; refine (implPlaceOf S Y Q sn sc yn yc qn qc sg ys pa _ T10.s T10.y sq (by omega) (by omega) (by omega)).mono ?_; rintro e w11 ⟨he, b11⟩; rw [Q1.out] at he; subst he; have T11 := T10.next b11; have cV11 := T11.cell))
      replace T := T11.drew
      clear T10 T11 cV cV10 cV11 sq oq b10 b11
      have cV := T.cell
      go_wp2_with fail
      go_region_held3 (fun w' => w'.cell? ⟨v, 0, none⟩ = some (.slice S sn sc))
       (first | assumption | go_keep)
       (first
        | (go_at_call 44; have X := implSubAt S Y sn sc yn yc sg ys (q : Int) _ T.s T.y (by omega) (by omega) (by omega) (by omega) HYC.out.1 HYC.out.2.1; (with_reducible refine X.mono ?_); clear X; rintro e w12 ⟨Z2, n2, c2, rfl, o2, b12⟩; rw [Q3.out] at o2; have T12 := T.next b12; have cV12 := T12.cell)
        | (go_at_call 44; have X := implSubAt S O sn sc on oc sg xs (p : Int) _ T12.s T12.t (by omega) (by omega) (by omega) (by omega) HC.out.1 HC.out.2.1; (with_reducible refine X.mono ?_); clear X; rintro e w13 ⟨Z3, n3, c3, rfl, o3, b13⟩; rw [HZS.out] at o3; have o2b := Own.next o2 b13; have T13 := T12.next b13; have cV13 := T13.cell)
        | (go_at_call 16; refine (sameYes Z2 Z3 n2 n3 c2 c3 zs zs _ (Own.seg o2b) (Own.seg o3) rfl (by rw [Own.len o2b]; exact hzl) (by rw [Own.len o3]; exact hzl)).mono ?_; rintro e w14 ⟨rfl, b14⟩; have T14 := T13.next b14; have cV14 := T14.cell))
      all_goals
       have HT := hid T14
       clear T T12 T13 T14 cV cV12 cV13 cV14 o2 o2b o3 b12 b13 b14
       go_wp2
       go_roundg (gk - 1)
       case measure => exact hgk.out.1
       case rel => exact ⟨p + 1, by simp, hgk.out.2, HT.out⟩
    ·replace T := T.drew
     have cV := T.cell
     have hxl : xs.length ≤ 65 := by rw [HX.out]; exact h4
     have hsl : (subL sg xs a).length ≤ 65 := by unfold subL; rw [List.length_take, List.length_drop]; omega
     obtain ⟨zs, hzs⟩ : ∃ zs, subL sg xs a = zs := ⟨_, rfl⟩
     rw [hzs] at HSU HPB HPR hsl
     clear hzs
     go_wp2_with fail
     go_region_held3 (fun w' => w'.cell? ⟨v, 0, none⟩ = some (.slice S sn sc))
      (first | assumption | go_keep)
      (first
       | (go_at_call 47; refine (specSubAt S O sn sc on oc sg xs (a : Int) _ T.s T.t (by omega) (by omega) (by omega) (by omega) HC.out.1 HC.out.2.1).mono ?_; rintro e w15 ⟨Z4, n4, c4, rfl, o4, b15⟩; rw [HSU.out] at o4; have T15 := T.next b15; have cV15 := T15.cell)
       | (go_at_call 42; refine (implPutAt S Y Z4 sn sc yn yc n4 c4 sg ys (a : Int) zs _ T15.s T15.y (Own.seg o4) (by omega) (by omega) (by rw [Own.len o4]; omega) (by omega) (by omega) (capOwn o4) HYC.out.1 HYC.out.2.1).mono ?_; rintro e w16 ⟨Z5, n5, c5, rfl, o5, b16⟩; rw [HPR.out] at o5; rw [HPB.out]; have T16 := T15.next b16; have cV16 := T16.cell))
     replace T := T16
     clear T15 T16 cV cV15 cV16 o4 b15 b16
     have hn5 : n5 ≤ 65 := by rw [Own.len o5]; exact hxl
     go_wp2_with fail
     refine (sameYes Z5 O n5 on c5 oc _ _ _ (Own.seg o5) T.t rfl (by omega) (by omega)).mono ?_
     rintro e w17 ⟨rfl, bb⟩
     have F := hid (T.next bb).bel
     clear T bb o5
     go_wp2
     go_ret
     exact ⟨rfl, F.out⟩
 ·have LB := hid (bigAns A n c true w (by simp; omega) hN)
  clear h
  go_enter Try.func7, Try.ntmps7
  go_wp2_with fail
  refine LB.out.mono ?_
  rintro e w' ⟨rfl, rfl⟩
  clear LB
  go_wp2
  go_ret
  exact ⟨rfl, Below.refl _ _⟩
end wFnPut
end
end Go.Proofs.Ytfclafbdbdmlhaa
