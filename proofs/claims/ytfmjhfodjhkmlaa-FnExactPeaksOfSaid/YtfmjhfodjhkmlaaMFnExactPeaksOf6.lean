/-
  MERGED: my texts OvImpl, LinkImpl, OvStart, PkMgu, PkAns, PkAll, PksMath, PksAns, PkSpec, one behind the other, as they are. By an AI agent.
-/
import Derived.Test.YtfmjhfodjhkmlaaMFnExactPeaksOf5
import Derived.Deep.RegionHeld3
namespace Go.Proofs.Ytfmjhfodjhkmlaa
section
open Go.Lib (hid)
namespace ovImpl
open Go.RowKit base ints sig term termOk termFacts sub cursor args sym varsOf marks app appAt segs kinds shape kindsR drawX fillMath matchMath unifMath forest triMath nodes ufMath stk bnd Go.Proofs.Ytfmjhfodjhkmlaa.look
set_option maxRecDepth 100000
structure Ov (w : World) (Q : Nat → Prop) (p lb : Nat) (A : Option Addr) (n c : Nat) (v : Value) (o a u : Int) (X : Option Addr) (xn xc lc : Nat) (sg nums : List Int) (lk : List Nat) : Prop where
 row : Row w p 73 #[.slice A n c, v, .int .i64 o, .int .i64 a, .int .i64 u, .slice X xn xc, .slice (some ⟨lb, 0, none⟩) xn lc]
 sg : RdQ w Q sI [.slice A n c] sg
 nm : RdQ w Q sI [.slice X xn xc] nums
 lk : ∃ cur, Row w lb 2 cur ∧ lk.length = xn ∧ ∀ i, i < xn → cur[i]? = some (.int .i64 ((lk.getD i 0 : Nat) : Int))
 ne : p ≠ lb
 q : ∀ b, Q b → b ≠ p ∧ b ≠ lb ∧ b < w.heap.size
section
variable {w w' : World} {Q : Nat → Prop} {p lb : Nat} {A : Option Addr} {n c : Nat} {v : Value} {o a u : Int} {X : Option Addr} {xn xc lc : Nat} {sg nums : List Int} {lk : List Nat}
theorem Ov.lt (h : Ov w Q p lb A n c v o a u X xn xc lc sg nums lk) : p < w.heap.size ∧ lb < w.heap.size := by
 obtain ⟨cur, r, -, -⟩ := h.lk
 exact ⟨h.row.lt, r.lt⟩
theorem Ov.next (h : Ov w Q p lb A n c v o a u X xn xc lc sg nums lk) (hb : Below w.heap.size w w') : Ov w' Q p lb A n c v o a u X xn xc lc sg nums lk := by
 obtain ⟨cur, r, hl, hc⟩ := h.lk
 have hk : Keep Q w w' := Keep.below hb fun b hq => (h.q b hq).2.2
 exact ⟨h.row.next hb, h.sg.keep hk, h.nm.keep hk, ⟨cur, r.next hb, hl, hc⟩, h.ne, fun b hq => ⟨(h.q b hq).1, (h.q b hq).2.1, Nat.lt_of_lt_of_le (h.q b hq).2.2 hb.size⟩⟩
theorem Ov.drewN (h : Ov w Q p lb A n c v o a u X xn xc lc sg nums lk) (k : Nat) : Ov (w.drewN k) Q p lb A n c v o a u X xn xc lc sg nums lk := h.next (base.below_drewN (Below.refl _ _) k)
theorem Ov.at (h : Ov w Q p lb A n c v o a u X xn xc lc sg nums lk) {i : Nat} (hi : i < xn) : w.cell? ⟨lb, i, none⟩ = some (.int .i64 ((lk.getD i 0 : Nat) : Int)) := by
 obtain ⟨cur, r, hl, hc⟩ := h.lk
 exact (r.cell i).trans (hc i hi)
theorem Ov.free (h : Ov w Q p lb A n c v o a u X xn xc lc sg nums lk) (i : Nat) : w.frozen? ⟨lb, i, none⟩ = false := by
 obtain ⟨cur, r, hl, hc⟩ := h.lk
 exact r.free i
theorem Ov.set (h : Ov w Q p lb A n c v o a u X xn xc lc sg nums lk) {i j : Nat} (hi : i < xn) : Ov (w.setCell ⟨lb, i, none⟩ (.int .i64 (j : Int))) Q p lb A n c v o a u X xn xc lc sg nums (lk.set i j) := by
 obtain ⟨cur, r, hl, hc⟩ := h.lk
 have hk : Keep Q w (w.setCell ⟨lb, i, none⟩ (.int .i64 (j : Int))) := fun b hb => Below.heap_setCell w _ _ b (h.q b hb).2.1
 refine ⟨h.row.far h.ne _, h.sg.keep hk, h.nm.keep hk, ⟨_, r.put i _, by rw [List.length_set]; exact hl, fun k hkk => ?_⟩, h.ne, fun b hq => ⟨(h.q b hq).1, (h.q b hq).2.1, by have := (h.q b hq).2.2; simpa using this⟩⟩
 by_cases e : k = i
 ·subst e
  have hs : k < cur.size := (Array.getElem?_eq_some_iff.1 (hc k hkk)).1
  rw [get_set lk (by omega), if_pos rfl]
  simp [hs]
 ·rw [get_set lk (by omega), if_neg e, Array.getElem?_setIfInBounds_ne (Ne.symm e)]
  exact hc k hkk
theorem Ov.c0 (h : Ov w Q p lb A n c v o a u X xn xc lc sg nums lk) : w.cell? ⟨p, 0, none⟩ = some (.slice A n c) := h.row.cell 0
theorem Ov.c5 (h : Ov w Q p lb A n c v o a u X xn xc lc sg nums lk) : w.cell? ⟨p, 5, none⟩ = some (.slice X xn xc) := h.row.cell 5
theorem Ov.c6 (h : Ov w Q p lb A n c v o a u X xn xc lc sg nums lk) : w.cell? ⟨p, 6, none⟩ = some (.slice (some ⟨lb, 0, none⟩) xn lc) := h.row.cell 6
end
variable {nm : Nat → Int} {nd : Nat → List Int} {ch : Nat → List Nat} {Inn : Nat → Prop} {rt rk : Nat → Nat}
def HeadFd (rt rk : Nat → Nat) (xn i : Nat) (f : Nat) (at_ : Value) (w wr : World) : Prop := ∃ k : Nat, at_ = .int .i64 (k : Int) ∧ k < xn ∧ rt k = rt i ∧ rk k < f ∧ wr = w
set_option maxHeartbeats 1000000 in
theorem find (Q : Nat → Prop) (p lb : Nat) (A : Option Addr) (n c : Nat) (v : Value) (o a u : Int) (X : Option Addr) (xn xc lc : Nat) (sg nums : List Int) (lk : List Nat) (i : Nat) (w : World) (h : Ov w Q p lb A n c v o a u X xn xc lc sg nums lk) (hL : Lk xn nm nd Inn lk rt rk) (hi : i < xn) :
  Calls Try.prog 87 #[.pointer (some ⟨p, 0, none⟩), .int .i64 (i : Int)] w fun e w' => e = .returned (.int .i64 (rt i : Int)) ∧ w' = w := by
 have H := hid h
 have HL := hid hL
 have c6 := h.c6
 have S0 := hid (show HeadFd rt rk xn i (rk i + 1) (.int .i64 (i : Int)) w w from ⟨i, rfl, hi, rfl, Nat.lt_succ_self _, rfl⟩)
 clear h hL hi
 go_enter Try.func87, Try.ntmps87
 go_wp2_with fail
 go_loopg [1] (rk i + 1) (fun f at_ wr => HeadFd rt rk xn i f at_ w wr)
 case atStart => exact S0.out
 case round =>
  clear S0
  obtain ⟨k, rfl, hk, hrt, hrk, rfl⟩ := hrel
  have ck := H.out.at hk
  obtain ⟨z, hz⟩ : ∃ z, lk.getD k 0 = z := ⟨_, rfl⟩
  rw [hz] at ck
  have i0 : (0 : Int) ≤ (k : Int) := by omega
  have i1 : (k : Int) < (xn : Int) := by omega
  by_cases he : z = k
  ·have e1 : ((z : Int) != (k : Int)) = false := by simp [he]
   have F := hid (show rt i = k by rw [← hrt]; exact HL.out.self k hk (by rw [hz]; exact he))
   clear hrt hrk hz hk he
   go_wp2
   go_ret
   exact ⟨by rw [F.out]; rfl, rfl⟩
  ·have e1 : ((z : Int) != (k : Int)) = true := by simp; omega
   have hlt := (HL.out.lt k hk).1
   have hst := HL.out.step k hk
   have hrr := HL.out.rnk k hk (by rw [hz]; exact he)
   rw [hz] at hlt hst hrr
   have S := hid (show HeadFd rt rk xn i (rk k) (.int .i64 (z : Int)) wr wr from ⟨z, rfl, hlt, hst.trans hrt, hrr, rfl⟩)
   have HR := hid hrk
   clear hrt hrk hz hk he hlt hst hrr
   go_wp2
   go_roundg (rk k)
   case measure => exact HR.out
   case rel => exact S.out
set_option maxHeartbeats 1000000 in
theorem ovArgs (Q : Nat → Prop) (p lb : Nat) (A : Option Addr) (n c : Nat) (v : Value) (o a u : Int) (X : Option Addr) (xn xc lc : Nat) (sg nums : List Int) (lk : List Nat) (i j : Nat) (w : World) (h : Ov w Q p lb A n c v o a u X xn xc lc sg nums lk) (hs : Arities sg) (hn : n ≤ 1048576) (hxn : xn ≤ 1048576) (hi : i < xn) (hj : scan sg 1 (nums.drop i) = some j) :
  Calls Try.prog 88 #[.pointer (some ⟨p, 0, none⟩), .int .i64 (i : Int)] w (AnsList w (argsL sg nums i)) := by
 have c0 := h.c0
 have c5 := h.c5
 have hq := fun b hb => (h.q b hb).2.2
 have sS : Seg w w.heap.size A n sg := Rd.seg (h.sg.rd hq)
 have sN : Seg w w.heap.size X xn nums := Rd.seg (h.nm.rd hq)
 have hjl := scan_le hj
 rw [List.length_drop, sN.1] at hjl
 have LC := hid (cursorArgs w.heap.size A X n c xn xc sg nums i j ((w.alloc (.cells #[.slice A n c, .slice X xn xc, .int .i64 (i : Int)] 127)).drew) (Go.Proofs.Ytfmjhfodjhkmlaa.args.Cur.keep (cur_new sS sN hn hxn hs i (by omega)) ⟨rfl, rfl, rfl, Nat.le_refl _, fun _ _ => rfl⟩) sN.1 hi hj (by omega))
 have hp := h.lt.1
 have d0 : (w.alloc (.cells #[.slice none 0 0, .slice none 0 0, .int .i64 0] 127)).cell? ⟨p, 0, none⟩ = some (.slice A n c) := (World.cell?_alloc_lt _ _ _ hp).trans c0
 have d5 : (w.alloc (.cells #[.slice none 0 0, .slice none 0 0, .int .i64 0] 127)).cell? ⟨p, 5, none⟩ = some (.slice X xn xc) := (World.cell?_alloc_lt _ _ _ hp).trans c5
 clear h hq sS sN hjl hj hs
 go_enter Try.func88, Try.ntmps88
 go_wp2_with fail
 go_region_law (fail)
 all_goals
  go_wp2_with fail
  refine LC.out.mono ?_
  rintro e w2 ⟨O, on, oc, rfl, oO, gg⟩
  have gg2 : (w.alloc (.cells #[.slice A n c, .slice X xn xc, .int .i64 (i : Int)] 127)).grownBy w2 (some w.heap.size) := ⟨gg.os, gg.tape, gg.output, gg.size, gg.block⟩
  have F := hid (show AnsList w (argsL sg nums i) (.returned (.slice O on oc)) w2 from ⟨O, on, oc, rfl, Own.lower oO (by simp), grown_new gg2⟩)
  clear oO gg gg2
  go_wp2
  go_ret
  exact F.out
end ovImpl
end
section
open Go.Lib (hid)
namespace linkImpl
open Go.RowKit base ints sig term depth args sym varsOf marks app appAt segs kinds shape drawX fillMath matchMath unifMath forest triMath cursor nodes ufMath stk bnd ovImpl
set_option maxRecDepth 100000
theorem places_cast {sg t : List Int} : ∀ q p, ((places sg t q p).map Int.toNat).map (fun c : Nat => (c : Int)) = places sg t q p
 | 0, _ => rfl
 | q + 1, p => by
  have h := places_cast (sg := sg) (t := t) q (p + len1 sg t p)
  show ((p : Int).toNat : Int) :: _ = _
  rw [h]
  rfl
theorem args_cast (sg t : List Int) (p : Nat) : argsL sg t p = (chN sg t p).map fun c : Nat => (c : Int) := (places_cast _ _).symm
structure Nd (sg nums nums' : List Int) (n : Nat) (Inn : Nat → Prop) (a u : Nat) : Prop where
 gr : Gr sg n (fun i => nums.getD i 0) (nodes.nd sg nums nums') (chN sg nums) Inn a u
 sc : ∀ i, i < n → ∃ j, scan sg 1 (nums.drop i) = some j
 len : nums.length = n
def AnsLink (w : World) (Q : Nat → Prop) (p lb : Nat) (A : Option Addr) (n c : Nat) (v : Value) (o a u : Int) (X : Option Addr) (xn xc lc : Nat) (sg nums nums' : List Int) (Inn : Nat → Prop) (ra ru : Nat) (lk : List Nat) (rt : Nat → Nat) (P : Nat → Nat → Prop) (x y : Nat) (e : Ending) (w' : World) : Prop :=
 ∃ (ok : Bool) (lk' : List Nat), e = .returned (.bool ok) ∧ Ov w' Q p lb A n c v o a u X xn xc lc sg nums lk' ∧ w.grownBy w' (some lb) ∧
  (ok = true → ∃ rt' rk', Lk xn (fun i => nums.getD i 0) (nodes.nd sg nums nums') Inn lk' rt' rk' ∧ Snd sg xn (nodes.nd sg nums nums') ra ru rt' ∧ Clo xn (fun i => nums.getD i 0) (chN sg nums) rt' P ∧ rt' x = rt' y ∧ (∀ i j, rt i = rt j → rt' i = rt' j) ∧ roots lk' ≤ roots lk) ∧
  (ok = false → ∀ θ, ¬ Unis sg (nodes.nd sg nums nums' ra) (nodes.nd sg nums nums' ru) θ)
def HeadLk (w : World) (Q : Nat → Prop) (p lb : Nat) (A : Option Addr) (n c : Nat) (v : Value) (o a u : Int) (X : Option Addr) (xn xc lc : Nat) (sg nums nums' : List Int) (Inn : Nat → Prop) (ra ru M : Nat) (rt0 : Nat → Nat) (P : Nat → Nat → Prop) (x y : Nat) (Y1 : Option Addr) (y1 z1 : Nat) (Y2 : Option Addr) (y2 z2 : Nat) (i : Value) (wr : World) : Prop :=
 ∃ (k : Nat) (lk : List Nat) (rt rk : Nat → Nat), i = .int .i64 (k : Int) ∧ k ≤ y2 ∧ Ov wr Q p lb A n c v o a u X xn xc lc sg nums lk ∧ Lk xn (fun i => nums.getD i 0) (nodes.nd sg nums nums') Inn lk rt rk ∧ Snd sg xn (nodes.nd sg nums nums') ra ru rt ∧ Clo xn (fun i => nums.getD i 0) (chN sg nums) rt (pendS (chN sg nums) x y k P) ∧
  (∀ i j, rt0 i = rt0 j → rt i = rt j) ∧ roots lk ≤ M ∧ w.grownBy wr (some lb) ∧ Own wr w.heap.size (.slice Y1 y1 z1) (argsL sg nums y) ∧ Own wr w.heap.size (.slice Y2 y2 z2) (argsL sg nums x)
variable {n : Nat} {nm : Nat → Int} {nd : Nat → List Int} {Inn : Nat → Prop} {lk : List Nat} {rt rk : Nat → Nat}
theorem root_inn (h : Lk n nm nd Inn lk rt rk) {a : Nat} (ha : a < n) (h0 : 0 ≤ nm a) (hr : rt a = a) (hi : ∃ p, p < n ∧ Inn p ∧ rt p = a) : Inn a := by
 obtain ⟨p, hp, hin, e⟩ := hi
 by_cases hn : Inn a
 ·exact hn
 ·have := h.one a ha h0 hn p hp (by rw [e, hr])
  rw [← this]; exact hin
theorem roots_pos (h : Lk n nm nd Inn lk rt rk) {x : Nat} (hx : x < n) : 1 ≤ roots lk := by
 unfold roots
 exact List.countP_pos_iff.2 ⟨rt x, List.mem_range.2 (by rw [h.len]; exact (h.lt x hx).2), by simpa using (h.root x hx).1⟩
set_option maxHeartbeats 2000000 in
theorem link (Q : Nat → Prop) (p lb : Nat) (A : Option Addr) (n c : Nat) (v : Value) (o a u : Int) (X : Option Addr) (xn xc lc : Nat) (sg nums nums' : List Int) (Inn : Nat → Prop) (ra ru : Nat) (hN : Nd sg nums nums' xn Inn ra ru) (hs : Arities sg) (hn : n ≤ 1048576) (hxn : xn ≤ 1048576) :
  ∀ (m : Nat) (lk : List Nat) (rt rk : Nat → Nat) (P : Nat → Nat → Prop) (x y : Nat) (w : World), roots lk ≤ m → Ov w Q p lb A n c v o a u X xn xc lc sg nums lk → Lk xn (fun i => nums.getD i 0) (nodes.nd sg nums nums') Inn lk rt rk → Snd sg xn (nodes.nd sg nums nums') ra ru rt → Clo xn (fun i => nums.getD i 0) (chN sg nums) rt P →
   x < xn → y < xn → (∃ p, p < xn ∧ Inn p ∧ rt p = rt x) → (∃ p, p < xn ∧ Inn p ∧ rt p = rt y) → (∀ θ, Unis sg (nodes.nd sg nums nums' ra) (nodes.nd sg nums nums' ru) θ → fillL θ (nodes.nd sg nums nums' x) = fillL θ (nodes.nd sg nums nums' y)) →
  Calls Try.prog 68 #[.pointer (some ⟨p, 0, none⟩), .int .i64 (x : Int), .int .i64 (y : Int)] w (AnsLink w Q p lb A n c v o a u X xn xc lc sg nums nums' Inn ra ru lk rt P x y) := by
 intro m
 induction m with
 | zero =>
  intro lk rt rk P x y w hm hO hL hS hC hx hy ix iy hv
  have := roots_pos hL hx
  omega
 | succ m IH =>
 intro lk rt rk P x y w hm hO hL hS hC hx hy ix iy hv
 obtain ⟨a1, ha1⟩ : ∃ z, rt x = z := ⟨_, rfl⟩
 obtain ⟨b1, hb1⟩ : ∃ z, rt y = z := ⟨_, rfl⟩
 have LF1 := hid (find Q p lb A n c v o a u X xn xc lc sg nums lk x w hO hL hx)
 have LF2 := hid (find Q p lb A n c v o a u X xn xc lc sg nums lk y w hO hL hy)
 rw [ha1] at LF1
 rw [hb1] at LF2
 have ha1n : a1 < xn := by rw [← ha1]; exact (hL.lt x hx).2
 have hb1n : b1 < xn := by rw [← hb1]; exact (hL.lt y hy).2
 have HIH := hid IH
 have HO := hid hO
 have HL := hid hL
 have HS := hid hS
 have HC := hid hC
 have HM := hid hm
 obtain ⟨hnl, -, hspot⟩ := rdq_nums hO.nm
 obtain ⟨bX, oX, rfl, hqX, hcX⟩ := hspot (by omega)
 have c5 := hO.c5
 have c6 := hO.c6
 have HCX := hid hcX
 by_cases hab : a1 = b1
 ·subst hab
  have e1 : ((a1 : Int) == (a1 : Int)) = true := by simp
  have F := hid (show AnsLink w Q p lb A n c v o a u (some ⟨bX, oX, none⟩) xn xc lc sg nums nums' Inn ra ru lk rt P x y (.returned (.bool true)) w from ⟨true, lk, rfl, hO, ⟨rfl, rfl, rfl, Nat.le_refl _, fun _ _ _ => rfl⟩, fun _ => ⟨rt, rk, hL, hS, hC, by rw [ha1, hb1], fun i j e => e, Nat.le_refl _⟩, fun h => by cases h⟩)
  clear hO hL hS hC ix iy hv hm IH hcX hspot
  go_enter Try.func68, Try.ntmps68
  go_wp2_with fail
  refine LF1.out.mono ?_
  rintro e w1 ⟨rfl, rfl⟩
  go_wp2_with fail
  refine LF2.out.mono ?_
  rintro e w1 ⟨rfl, rfl⟩
  go_wp2
  go_ret
  exact F.out
 ·have e1 : ((a1 : Int) == (b1 : Int)) = false := by simp; omega
  have ra1 : rt a1 = a1 := by rw [← ha1]; exact (hL.root x hx).2
  have rb1 : rt b1 = b1 := by rw [← hb1]; exact (hL.root y hy).2
  have ia1 : ∃ p, p < xn ∧ Inn p ∧ rt p = a1 := by rw [← ha1]; exact ix
  have ib1 : ∃ p, p < xn ∧ Inn p ∧ rt p = b1 := by rw [← hb1]; exact iy
  have v1 : ∀ θ, Unis sg (nodes.nd sg nums nums' ra) (nodes.nd sg nums nums' ru) θ → fillL θ (nodes.nd sg nums nums' a1) = fillL θ (nodes.nd sg nums nums' b1) := fun θ hθ => by rw [← ha1, ← hb1, ← hS θ hθ x hx, ← hS θ hθ y hy]; exact hv θ hθ
  have J1 : ∀ rt' : Nat → Nat, (∀ i j, rt i = rt j → rt' i = rt' j) → rt' a1 = rt' b1 → rt' x = rt' y := fun rt' h1 h2 => (h1 x a1 (by rw [ha1, ra1])).trans (h2.trans (h1 b1 y (by rw [hb1, rb1])))
  have ca : w.cell? ⟨bX, oX + a1, none⟩ = some (.int .i64 (nums.getD a1 0)) := hcX a1 ha1n
  have i0 : (0 : Int) ≤ (a1 : Int) := by omega
  have i1 : (a1 : Int) < (xn : Int) := by omega
  obtain ⟨z, hz⟩ : ∃ z, nums.getD a1 0 = z := ⟨_, rfl⟩
  rw [hz] at ca
  have HZ := hid hz
  clear hO hL hS hC ix iy hv hm IH hcX hspot hz ha1 hb1 hx hy
  by_cases hz0 : z < 0
  ·have ha : b1 < xn := hb1n
   have hb : a1 < xn := ha1n
   have hne : b1 ≠ a1 := fun e => hab e.symm
   have hsx : 0 ≤ nums.getD b1 0 ∨ nums.getD a1 0 < 0 := .inr (by rw [HZ.out]; exact hz0)
   have vab : ∀ θ, Unis sg (nodes.nd sg nums nums' ra) (nodes.nd sg nums nums' ru) θ → fillL θ (nodes.nd sg nums nums' b1) = fillL θ (nodes.nd sg nums nums' a1) := fun θ hθ => (v1 θ hθ).symm
   have J : ∀ rt' : Nat → Nat, (∀ i j, rt i = rt j → rt' i = rt' j) → rt' b1 = rt' a1 → rt' x = rt' y := fun rt' h1 h2 => J1 rt' h1 h2.symm
   have O2 := HO.out.set (j := b1) hb
   have L2 := HL.out.link ha hb rb1 ra1 hne hsx ib1 ia1
   have S2 := HS.out.link hN.gr vab
   have hroot := roots_link HL.out hb ra1 hne
   have g2 : w.grownBy (w.setCell ⟨lb, a1, none⟩ (.int .i64 (b1 : Int))) (some lb) := ⟨rfl, rfl, rfl, by simp, fun k _ hk => Below.heap_setCell w _ _ k (fun e => hk (by show some k = some lb; rw [e]))⟩
   obtain ⟨W2, hW2⟩ : ∃ W2, W2 = w.setCell ⟨lb, a1, none⟩ (.int .i64 (b1 : Int)) := ⟨_, rfl⟩
   rw [← hW2] at O2 g2
   obtain ⟨zb, hzb⟩ : ∃ zb, nums.getD a1 0 = zb := ⟨_, rfl⟩
   obtain ⟨za, hza⟩ : ∃ za, nums.getD b1 0 = za := ⟨_, rfl⟩
   have cb : W2.cell? ⟨bX, oX + a1, none⟩ = some (.int .i64 zb) := by
    obtain ⟨-, -, hs2⟩ := rdq_nums O2.nm
    obtain ⟨b9, o9, e9, -, hc9⟩ := hs2 (by omega)
    injection e9 with e9
    injection e9 with e91 e92
    subst e91 e92
    rw [← hzb]; exact hc9 a1 hb
   have caa : W2.cell? ⟨bX, oX + b1, none⟩ = some (.int .i64 za) := by
    obtain ⟨-, -, hs2⟩ := rdq_nums O2.nm
    obtain ⟨b9, o9, e9, -, hc9⟩ := hs2 (by omega)
    injection e9 with e9
    injection e9 with e91 e92
    subst e91 e92
    rw [← hza]; exact hc9 b1 ha
   have c52 : W2.cell? ⟨p, 5, none⟩ = some (.slice (some ⟨bX, oX, none⟩) xn xc) := O2.c5
   have rb5 := c52
   have rbb := cb
   have rba := caa
   rw [hW2] at rb5 rbb rba
   have clb := HO.out.at hb
   have flb := HO.out.free a1
   have k0 : (0 : Int) ≤ (a1 : Int) := by omega
   have k1 : (a1 : Int) < (xn : Int) := by omega
   have k2 : (0 : Int) ≤ (b1 : Int) := by omega
   have k3 : (b1 : Int) < (xn : Int) := by omega
   have HW2 := hid hW2
   have HO2 := hid O2
   have HL2 := hid L2
   have HS2 := hid S2
   have HROOT := hid hroot
   have HG2 := hid g2
   have HZB := hid hzb
   have HZA := hid hza
   have HVV := hid vab
   have HJ := hid J
   have HSX := hid hsx
   clear O2 L2 S2 hroot g2 hW2 hzb hza vab J hsx v1 J1
   by_cases hzb0 : zb < 0
   ·have F := hid (show AnsLink w Q p lb A n c v o a u (some ⟨bX, oX, none⟩) xn xc lc sg nums nums' Inn ra ru lk rt P x y (.returned (.bool true)) W2 from ⟨true, lk.set a1 b1, rfl, HO2.out, HG2.out, fun _ => ⟨_, _, HL2.out, HS2.out, Clo.linkV HL.out HC.out (by show nums.getD a1 0 < 0; rw [HZB.out]; exact hzb0), HJ.out _ (fun i j e => rt2_coarse e) (rt2_joins rb1 ra1 hne), fun i j e => rt2_coarse e, by have := HROOT.out; omega⟩, fun h => by cases h⟩)
    clear cb caa c52
    go_enter Try.func68, Try.ntmps68
    go_wp2_with fail
    refine LF1.out.mono ?_
    rintro e w1 ⟨rfl, hw1⟩
    rw [hw1]
    clear hw1
    go_wp2_with fail
    refine LF2.out.mono ?_
    rintro e w2 ⟨rfl, hw2⟩
    rw [hw2]
    clear hw2
    go_wp2_with fail
    rw [← HW2.out]
    go_ret
    exact F.out
   ·have hza0 : 0 ≤ za := by
     rcases HSX.out with h9 | h9
     ·rw [HZA.out] at h9; exact h9
     ·rw [HZB.out] at h9; exact absurd h9 hzb0
    by_cases hzz : za = zb
    ·subst hzz
     have e2 : (za != za) = false := by simp
     obtain ⟨ja, hja⟩ := hN.sc b1 ha
     obtain ⟨jb, hjb⟩ := hN.sc a1 hb
     have LA1 := hid (fun dd => ovArgs Q p lb A n c v o a u (some ⟨bX, oX, none⟩) xn xc lc sg nums _ a1 jb (W2.drewN dd) (HO2.out.drewN dd) hs hn hxn hb hjb)
     have LA2 := hid (fun (w3 : World) (bb : Below W2.heap.size W2 w3) => ovArgs Q p lb A n c v o a u (some ⟨bX, oX, none⟩) xn xc lc sg nums _ b1 ja w3 (HO2.out.next bb) hs hn hxn ha hja)
     clear hja hjb
     go_enter Try.func68, Try.ntmps68
     go_wp2_with fail
     refine LF1.out.mono ?_
     rintro e w1 ⟨rfl, hw1⟩
     rw [hw1]
     clear hw1
     go_wp2_with fail
     refine LF2.out.mono ?_
     rintro e w2 ⟨rfl, hw2⟩
     rw [hw2]
     clear hw2
     go_wp2_with fail
     rw [← HW2.out]
     go_quiet (fail)
     go_wp2_with fail
     refine (LA1.out _).mono ?_
     rintro e w3 ⟨Y1, y1, z1, rfl, oY1, bb3⟩
     have b3 : Below W2.heap.size W2 w3 := next_trans (base.below_drewN (Below.refl _ _) _) bb3
     go_wp2_with fail
     refine (LA2.out w3 b3).mono ?_
     rintro e w4 ⟨Y2, y2, z2, rfl, oY2, bb4⟩
     have b4 : Below W2.heap.size W2 w4 := next_trans b3 bb4
     have hY1 := Own.len oY1
     have hY2 := Own.len oY2
     have gA : 0 ≤ nums.getD b1 0 := by rw [HZA.out]; exact hza0
     have gB : 0 ≤ nums.getD a1 0 := by rw [HZB.out]; exact hza0
     have gE : nums.getD b1 0 = nums.getD a1 0 := by rw [HZA.out, HZB.out]
     have lA := hN.gr.chl ha gA
     have lB := hN.gr.chl hb gB
     have hll : (chN sg nums b1).length = (chN sg nums a1).length := by rw [lA, lB]; show (ar sg (nums.getD b1 0)).toNat = (ar sg (nums.getD a1 0)).toNat; rw [gE]
     have inA : Inn b1 := root_inn HL.out ha gA rb1 ib1
     have inB : Inn a1 := root_inn HL.out hb gB ra1 ia1
     have hy2 : y2 = (chN sg nums b1).length := by rw [hY2, args_cast, List.length_map]
     have hy1 : y1 = y2 := by rw [hy2, hll, hY1, args_cast, List.length_map]
     have hcl := HC.out.linkS hb ra1 rb1 gE gB hll (fun i hi h0 hr => by rw [hN.gr.chl hi h0, lB]; have h9 : nums.getD a1 0 = nums.getD i 0 := (by have h8 := (HC.out i hi h0).1; rw [hr] at h8; exact h8); show (ar sg (nums.getD i 0)).toNat = (ar sg (nums.getD a1 0)).toNat; rw [h9])
     have hw2 : w.heap.size ≤ W2.heap.size := HG2.out.size
     have hlb := HO.out.lt.2
     have S0 := hid (show HeadLk w Q p lb A n c v o a u (some ⟨bX, oX, none⟩) xn xc lc sg nums nums' Inn ra ru (roots (lk.set a1 b1)) (rt2 rt b1 a1) P b1 a1 Y1 y1 z1 Y2 y2 z2 (.int .i64 0) w4 from
      ⟨0, _, _, _, rfl, Nat.zero_le _, HO2.out.next b4, HL2.out, HS2.out, hcl, fun i j e => e, Nat.le_refl _, grown_trans HG2.out (grown_below b4 _), Own.lower (Own.next oY1 bb4) (by have := b3.size; have h8 : W2.heap.size ≤ (W2.drewN nq).heap.size := Nat.le_refl _; omega), Own.lower oY2 (by have := b3.size; omega)⟩)
     have HY2 := hid hy2
     have HY1 := hid hy1
     have HLL := hid hll
     have hy29 : y2 ≤ 3 := by
      have h9 := ar_bd hs (nums.getD b1 0)
      rw [hy2, lA]
      show (ar sg (nums.getD b1 0)).toNat ≤ 3
      omega
     clear oY1 oY2 bb3 bb4 b3 b4 LA1 LA2 hcl hY1 hY2 lA lB hll hy2 cb caa c52 rb5 rbb rba clb
     go_wp2_with fail
     go_loopw [66] (fun i wr => HeadLk w Q p lb A n c v o a u (some ⟨bX, oX, none⟩) xn xc lc sg nums nums' Inn ra ru (roots (lk.set a1 b1)) (rt2 rt b1 a1) P b1 a1 Y1 y1 z1 Y2 y2 z2 i wr) (fun i _ => y2 - (intOf i).toNat)
     case atStart => exact S0.out
     case round =>
      clear S0
      obtain ⟨k, lk3, rt3, rk3, rfl, hk, hO3, hL3, hS3, hC3, hco, hro, hg3, oA1, oA2⟩ := hrel
      by_cases hlt : k < y2
      ·obtain ⟨ca, hca⟩ : ∃ z, (chN sg nums b1).getD k 0 = z := ⟨_, rfl⟩
       obtain ⟨cb9, hcb⟩ : ∃ z, (chN sg nums a1).getD k 0 = z := ⟨_, rfl⟩
       have hka : k < (chN sg nums b1).length := by rw [← HY2.out]; exact hlt
       have hkb : k < (chN sg nums a1).length := by rw [← HLL.out]; exact hka
       have mA : ca ∈ chN sg nums b1 := by rw [← hca, List.getD_eq_getElem?_getD, List.getElem?_eq_getElem hka]; exact List.getElem_mem hka
       have mB : cb9 ∈ chN sg nums a1 := by rw [← hcb, List.getD_eq_getElem?_getD, List.getElem?_eq_getElem hkb]; exact List.getElem_mem hkb
       have eA : (argsL sg nums b1).getD k 0 = (ca : Int) := by rw [args_cast, ← hca]; simp [List.getD, hka]
       have eB : (argsL sg nums a1).getD k 0 = (cb9 : Int) := by rw [args_cast, ← hcb]; simp [List.getD, hkb]
       obtain ⟨g2, o2, rfl, -, c2⟩ := (Own.seg oA2).round hlt
       obtain ⟨g1, o1, rfl, -, c1⟩ := (Own.seg oA1).round (show k < y1 by rw [HY1.out]; exact hlt)
       rw [eA] at c2
       rw [eB] at c1
       have cltA := hN.gr.lt b1 ha gA ca mA
       have cltB := hN.gr.lt a1 hb gB cb9 mB
       have hkv : ∀ θ, Unis sg (nodes.nd sg nums nums' ra) (nodes.nd sg nums nums' ru) θ → fillL θ (nodes.nd sg nums nums' ca) = fillL θ (nodes.nd sg nums nums' cb9) := fun θ hθ => by
        have h9 := hN.gr.kids ha hb gA gE hθ.1 (HVV.out θ hθ) hka
        rw [hca, hcb] at h9
        exact h9
       have LI := hid (HIH.out lk3 rt3 rk3 _ ca cb9 wr (by have := HROOT.out; have := HM.out; omega) hO3 hL3 hS3 hC3 cltA cltB ⟨ca, cltA, hN.gr.inn b1 ha gA inA ca mA, rfl⟩ ⟨cb9, cltB, hN.gr.inn a1 hb gB inB cb9 mB, rfl⟩ hkv)
       have i0 : (0 : Int) ≤ (k : Int) := by omega
       have i1 : (k : Int) < (y2 : Int) := by omega
       have i2 : (k : Int) < (y1 : Int) := by have := HY1.out; omega
       have HO1 := hid oA1
       have HO9 := hid oA2
       have HCO := hid hco
       have HRO := hid hro
       have HG3 := hid hg3
       have HCA := hid hca
       have HCB := hid hcb
       clear hO3 hL3 hS3 hC3 hco hro hg3 oA1 oA2 eA eB hkv mA mB hka hkb hca hcb
       go_wp2_with fail
       refine LI.out.mono ?_
       rintro e w5 ⟨ok, lk5, rfl, hO5, hg5, h5, h6⟩
       have oB1 := Own.far HO1.out hg5 (fun k hk => by injection hk with hk; omega)
       have oB2 := Own.far HO9.out hg5 (fun k hk => by injection hk with hk; omega)
       have hg6 := grown_trans HG3.out hg5
       clear LI
       cases ok with
       | false =>
        have F := hid (show AnsLink w Q p lb A n c v o a u (some ⟨bX, oX, none⟩) xn xc lc sg nums nums' Inn ra ru lk rt P x y (.returned (.bool false)) w5 from ⟨false, lk5, rfl, hO5, hg6, fun h => (by cases h), fun _ => h6 rfl⟩)
        clear hO5 hg5 h5 h6 oB1 oB2 hg6
        go_wp2
        try rw [Exit.noGoto_ret]
        go_ret
        exact F.out
       | true =>
        obtain ⟨rt5, rk5, hL5, hS5, hC5, hj5, hc5, hr5⟩ := h5 rfl
        have F := hid (show HeadLk w Q p lb A n c v o a u (some ⟨bX, oX, none⟩) xn xc lc sg nums nums' Inn ra ru (roots (lk.set a1 b1)) (rt2 rt b1 a1) P b1 a1 (some ⟨g1, o1, none⟩) y1 z1 (some ⟨g2, o2, none⟩) y2 z2 (.int .i64 ((k : Int) + 1)) w5 from
         ⟨k + 1, lk5, rt5, rk5, by simp, hlt, hO5, hL5, hS5, hC5.next (by rw [HCA.out, HCB.out]; exact hj5), fun i j e => hc5 i j (HCO.out i j e), by have := HRO.out; omega, hg6, oB1, oB2⟩)
        clear hO5 hg5 h5 h6 oB1 oB2 hg6 hL5 hS5 hC5 hj5 hc5 hr5
        go_wp2
        go_roundw
        case rel => exact F.out
        case measure => simp [intOf]; omega
      ·have hky : k = y2 := by omega
       have i1 : ¬ (k : Int) < (y2 : Int) := by omega
       have F := hid (show AnsLink w Q p lb A n c v o a u (some ⟨bX, oX, none⟩) xn xc lc sg nums nums' Inn ra ru lk rt P x y (.returned (.bool true)) wr from
        ⟨true, lk3, rfl, hO3, hg3, fun _ => ⟨rt3, rk3, hL3, hS3, hC3.done (by rw [← HY2.out, hky]; exact Nat.le_refl _), HJ.out rt3 (fun i j e => hco i j (rt2_coarse e)) (hco _ _ (rt2_joins rb1 ra1 hne)), fun i j e => hco i j (rt2_coarse e), by have := HROOT.out; omega⟩, fun h => by cases h⟩)
       clear hO3 hL3 hS3 hC3 hco hro hg3 oA1 oA2 hky
       go_wp2
       go_ret
       exact F.out
    ·have e2 : (za != zb) = true := by simp [hzz]
     have F := hid (show ∀ dd, AnsLink w Q p lb A n c v o a u (some ⟨bX, oX, none⟩) xn xc lc sg nums nums' Inn ra ru lk rt P x y (.returned (.bool false)) (W2.drewN dd) from fun dd => ⟨false, lk.set a1 b1, rfl, HO2.out.drewN dd, grown_drewN HG2.out dd, fun h => (by cases h), fun _ θ hθ => hN.gr.clash ha hb (by show 0 ≤ nums.getD b1 0; rw [HZA.out]; exact hza0) (by show 0 ≤ nums.getD a1 0; rw [HZB.out]; exact Int.not_lt.1 hzb0) (by show nums.getD b1 0 ≠ nums.getD a1 0; rw [HZA.out, HZB.out]; exact hzz) (HVV.out θ hθ)⟩)
     go_enter Try.func68, Try.ntmps68
     go_wp2_with fail
     refine LF1.out.mono ?_
     rintro e w1 ⟨rfl, hw1⟩
     rw [hw1]
     clear hw1
     go_wp2_with fail
     refine LF2.out.mono ?_
     rintro e w2 ⟨rfl, hw2⟩
     rw [hw2]
     clear hw2
     go_wp2_with fail
     rw [← HW2.out]
     go_quiet (fail)
     go_wp2
     go_ret
     exact F.out _
  ·have ha : a1 < xn := ha1n
   have hb : b1 < xn := hb1n
   have hne : a1 ≠ b1 := hab
   have hsx : 0 ≤ nums.getD a1 0 ∨ nums.getD b1 0 < 0 := .inl (by rw [HZ.out]; exact Int.not_lt.1 hz0)
   have vab : ∀ θ, Unis sg (nodes.nd sg nums nums' ra) (nodes.nd sg nums nums' ru) θ → fillL θ (nodes.nd sg nums nums' a1) = fillL θ (nodes.nd sg nums nums' b1) := v1
   have J : ∀ rt' : Nat → Nat, (∀ i j, rt i = rt j → rt' i = rt' j) → rt' a1 = rt' b1 → rt' x = rt' y := J1
   have O2 := HO.out.set (j := a1) hb
   have L2 := HL.out.link ha hb ra1 rb1 hne hsx ia1 ib1
   have S2 := HS.out.link hN.gr vab
   have hroot := roots_link HL.out hb rb1 hne
   have g2 : w.grownBy (w.setCell ⟨lb, b1, none⟩ (.int .i64 (a1 : Int))) (some lb) := ⟨rfl, rfl, rfl, by simp, fun k _ hk => Below.heap_setCell w _ _ k (fun e => hk (by show some k = some lb; rw [e]))⟩
   obtain ⟨W2, hW2⟩ : ∃ W2, W2 = w.setCell ⟨lb, b1, none⟩ (.int .i64 (a1 : Int)) := ⟨_, rfl⟩
   rw [← hW2] at O2 g2
   obtain ⟨zb, hzb⟩ : ∃ zb, nums.getD b1 0 = zb := ⟨_, rfl⟩
   obtain ⟨za, hza⟩ : ∃ za, nums.getD a1 0 = za := ⟨_, rfl⟩
   have cb : W2.cell? ⟨bX, oX + b1, none⟩ = some (.int .i64 zb) := by
    obtain ⟨-, -, hs2⟩ := rdq_nums O2.nm
    obtain ⟨b9, o9, e9, -, hc9⟩ := hs2 (by omega)
    injection e9 with e9
    injection e9 with e91 e92
    subst e91 e92
    rw [← hzb]; exact hc9 b1 hb
   have caa : W2.cell? ⟨bX, oX + a1, none⟩ = some (.int .i64 za) := by
    obtain ⟨-, -, hs2⟩ := rdq_nums O2.nm
    obtain ⟨b9, o9, e9, -, hc9⟩ := hs2 (by omega)
    injection e9 with e9
    injection e9 with e91 e92
    subst e91 e92
    rw [← hza]; exact hc9 a1 ha
   have c52 : W2.cell? ⟨p, 5, none⟩ = some (.slice (some ⟨bX, oX, none⟩) xn xc) := O2.c5
   have rb5 := c52
   have rbb := cb
   have rba := caa
   rw [hW2] at rb5 rbb rba
   have clb := HO.out.at hb
   have flb := HO.out.free b1
   have k0 : (0 : Int) ≤ (b1 : Int) := by omega
   have k1 : (b1 : Int) < (xn : Int) := by omega
   have k2 : (0 : Int) ≤ (a1 : Int) := by omega
   have k3 : (a1 : Int) < (xn : Int) := by omega
   have HW2 := hid hW2
   have HO2 := hid O2
   have HL2 := hid L2
   have HS2 := hid S2
   have HROOT := hid hroot
   have HG2 := hid g2
   have HZB := hid hzb
   have HZA := hid hza
   have HVV := hid vab
   have HJ := hid J
   have HSX := hid hsx
   clear O2 L2 S2 hroot g2 hW2 hzb hza vab J hsx v1 J1
   by_cases hzb0 : zb < 0
   ·have F := hid (show AnsLink w Q p lb A n c v o a u (some ⟨bX, oX, none⟩) xn xc lc sg nums nums' Inn ra ru lk rt P x y (.returned (.bool true)) W2 from ⟨true, lk.set b1 a1, rfl, HO2.out, HG2.out, fun _ => ⟨_, _, HL2.out, HS2.out, Clo.linkV HL.out HC.out (by show nums.getD b1 0 < 0; rw [HZB.out]; exact hzb0), HJ.out _ (fun i j e => rt2_coarse e) (rt2_joins ra1 rb1 hne), fun i j e => rt2_coarse e, by have := HROOT.out; omega⟩, fun h => by cases h⟩)
    clear cb caa c52
    go_enter Try.func68, Try.ntmps68
    go_wp2_with fail
    refine LF1.out.mono ?_
    rintro e w1 ⟨rfl, hw1⟩
    rw [hw1]
    clear hw1
    go_wp2_with fail
    refine LF2.out.mono ?_
    rintro e w2 ⟨rfl, hw2⟩
    rw [hw2]
    clear hw2
    go_wp2_with fail
    rw [← HW2.out]
    go_ret
    exact F.out
   ·have hza0 : 0 ≤ za := by
     rcases HSX.out with h9 | h9
     ·rw [HZA.out] at h9; exact h9
     ·rw [HZB.out] at h9; exact absurd h9 hzb0
    by_cases hzz : za = zb
    ·subst hzz
     have e2 : (za != za) = false := by simp
     obtain ⟨ja, hja⟩ := hN.sc a1 ha
     obtain ⟨jb, hjb⟩ := hN.sc b1 hb
     have LA1 := hid (fun dd => ovArgs Q p lb A n c v o a u (some ⟨bX, oX, none⟩) xn xc lc sg nums _ b1 jb (W2.drewN dd) (HO2.out.drewN dd) hs hn hxn hb hjb)
     have LA2 := hid (fun (w3 : World) (bb : Below W2.heap.size W2 w3) => ovArgs Q p lb A n c v o a u (some ⟨bX, oX, none⟩) xn xc lc sg nums _ a1 ja w3 (HO2.out.next bb) hs hn hxn ha hja)
     clear hja hjb
     go_enter Try.func68, Try.ntmps68
     go_wp2_with fail
     refine LF1.out.mono ?_
     rintro e w1 ⟨rfl, hw1⟩
     rw [hw1]
     clear hw1
     go_wp2_with fail
     refine LF2.out.mono ?_
     rintro e w2 ⟨rfl, hw2⟩
     rw [hw2]
     clear hw2
     go_wp2_with fail
     rw [← HW2.out]
     go_quiet (fail)
     go_wp2_with fail
     refine (LA1.out _).mono ?_
     rintro e w3 ⟨Y1, y1, z1, rfl, oY1, bb3⟩
     have b3 : Below W2.heap.size W2 w3 := next_trans (base.below_drewN (Below.refl _ _) _) bb3
     go_wp2_with fail
     refine (LA2.out w3 b3).mono ?_
     rintro e w4 ⟨Y2, y2, z2, rfl, oY2, bb4⟩
     have b4 : Below W2.heap.size W2 w4 := next_trans b3 bb4
     have hY1 := Own.len oY1
     have hY2 := Own.len oY2
     have gA : 0 ≤ nums.getD a1 0 := by rw [HZA.out]; exact hza0
     have gB : 0 ≤ nums.getD b1 0 := by rw [HZB.out]; exact hza0
     have gE : nums.getD a1 0 = nums.getD b1 0 := by rw [HZA.out, HZB.out]
     have lA := hN.gr.chl ha gA
     have lB := hN.gr.chl hb gB
     have hll : (chN sg nums a1).length = (chN sg nums b1).length := by rw [lA, lB]; show (ar sg (nums.getD a1 0)).toNat = (ar sg (nums.getD b1 0)).toNat; rw [gE]
     have inA : Inn a1 := root_inn HL.out ha gA ra1 ia1
     have inB : Inn b1 := root_inn HL.out hb gB rb1 ib1
     have hy2 : y2 = (chN sg nums a1).length := by rw [hY2, args_cast, List.length_map]
     have hy1 : y1 = y2 := by rw [hy2, hll, hY1, args_cast, List.length_map]
     have hcl := HC.out.linkS hb rb1 ra1 gE gB hll (fun i hi h0 hr => by rw [hN.gr.chl hi h0, lB]; have h9 : nums.getD b1 0 = nums.getD i 0 := (by have h8 := (HC.out i hi h0).1; rw [hr] at h8; exact h8); show (ar sg (nums.getD i 0)).toNat = (ar sg (nums.getD b1 0)).toNat; rw [h9])
     have hw2 : w.heap.size ≤ W2.heap.size := HG2.out.size
     have hlb := HO.out.lt.2
     have S0 := hid (show HeadLk w Q p lb A n c v o a u (some ⟨bX, oX, none⟩) xn xc lc sg nums nums' Inn ra ru (roots (lk.set b1 a1)) (rt2 rt a1 b1) P a1 b1 Y1 y1 z1 Y2 y2 z2 (.int .i64 0) w4 from
      ⟨0, _, _, _, rfl, Nat.zero_le _, HO2.out.next b4, HL2.out, HS2.out, hcl, fun i j e => e, Nat.le_refl _, grown_trans HG2.out (grown_below b4 _), Own.lower (Own.next oY1 bb4) (by have := b3.size; have h8 : W2.heap.size ≤ (W2.drewN nq).heap.size := Nat.le_refl _; omega), Own.lower oY2 (by have := b3.size; omega)⟩)
     have HY2 := hid hy2
     have HY1 := hid hy1
     have HLL := hid hll
     have hy29 : y2 ≤ 3 := by
      have h9 := ar_bd hs (nums.getD a1 0)
      rw [hy2, lA]
      show (ar sg (nums.getD a1 0)).toNat ≤ 3
      omega
     clear oY1 oY2 bb3 bb4 b3 b4 LA1 LA2 hcl hY1 hY2 lA lB hll hy2 cb caa c52 rb5 rbb rba clb
     go_wp2_with fail
     go_loopw [66] (fun i wr => HeadLk w Q p lb A n c v o a u (some ⟨bX, oX, none⟩) xn xc lc sg nums nums' Inn ra ru (roots (lk.set b1 a1)) (rt2 rt a1 b1) P a1 b1 Y1 y1 z1 Y2 y2 z2 i wr) (fun i _ => y2 - (intOf i).toNat)
     case atStart => exact S0.out
     case round =>
      clear S0
      obtain ⟨k, lk3, rt3, rk3, rfl, hk, hO3, hL3, hS3, hC3, hco, hro, hg3, oA1, oA2⟩ := hrel
      by_cases hlt : k < y2
      ·obtain ⟨ca, hca⟩ : ∃ z, (chN sg nums a1).getD k 0 = z := ⟨_, rfl⟩
       obtain ⟨cb9, hcb⟩ : ∃ z, (chN sg nums b1).getD k 0 = z := ⟨_, rfl⟩
       have hka : k < (chN sg nums a1).length := by rw [← HY2.out]; exact hlt
       have hkb : k < (chN sg nums b1).length := by rw [← HLL.out]; exact hka
       have mA : ca ∈ chN sg nums a1 := by rw [← hca, List.getD_eq_getElem?_getD, List.getElem?_eq_getElem hka]; exact List.getElem_mem hka
       have mB : cb9 ∈ chN sg nums b1 := by rw [← hcb, List.getD_eq_getElem?_getD, List.getElem?_eq_getElem hkb]; exact List.getElem_mem hkb
       have eA : (argsL sg nums a1).getD k 0 = (ca : Int) := by rw [args_cast, ← hca]; simp [List.getD, hka]
       have eB : (argsL sg nums b1).getD k 0 = (cb9 : Int) := by rw [args_cast, ← hcb]; simp [List.getD, hkb]
       obtain ⟨g2, o2, rfl, -, c2⟩ := (Own.seg oA2).round hlt
       obtain ⟨g1, o1, rfl, -, c1⟩ := (Own.seg oA1).round (show k < y1 by rw [HY1.out]; exact hlt)
       rw [eA] at c2
       rw [eB] at c1
       have cltA := hN.gr.lt a1 ha gA ca mA
       have cltB := hN.gr.lt b1 hb gB cb9 mB
       have hkv : ∀ θ, Unis sg (nodes.nd sg nums nums' ra) (nodes.nd sg nums nums' ru) θ → fillL θ (nodes.nd sg nums nums' ca) = fillL θ (nodes.nd sg nums nums' cb9) := fun θ hθ => by
        have h9 := hN.gr.kids ha hb gA gE hθ.1 (HVV.out θ hθ) hka
        rw [hca, hcb] at h9
        exact h9
       have LI := hid (HIH.out lk3 rt3 rk3 _ ca cb9 wr (by have := HROOT.out; have := HM.out; omega) hO3 hL3 hS3 hC3 cltA cltB ⟨ca, cltA, hN.gr.inn a1 ha gA inA ca mA, rfl⟩ ⟨cb9, cltB, hN.gr.inn b1 hb gB inB cb9 mB, rfl⟩ hkv)
       have i0 : (0 : Int) ≤ (k : Int) := by omega
       have i1 : (k : Int) < (y2 : Int) := by omega
       have i2 : (k : Int) < (y1 : Int) := by have := HY1.out; omega
       have HO1 := hid oA1
       have HO9 := hid oA2
       have HCO := hid hco
       have HRO := hid hro
       have HG3 := hid hg3
       have HCA := hid hca
       have HCB := hid hcb
       clear hO3 hL3 hS3 hC3 hco hro hg3 oA1 oA2 eA eB hkv mA mB hka hkb hca hcb
       go_wp2_with fail
       refine LI.out.mono ?_
       rintro e w5 ⟨ok, lk5, rfl, hO5, hg5, h5, h6⟩
       have oB1 := Own.far HO1.out hg5 (fun k hk => by injection hk with hk; omega)
       have oB2 := Own.far HO9.out hg5 (fun k hk => by injection hk with hk; omega)
       have hg6 := grown_trans HG3.out hg5
       clear LI
       cases ok with
       | false =>
        have F := hid (show AnsLink w Q p lb A n c v o a u (some ⟨bX, oX, none⟩) xn xc lc sg nums nums' Inn ra ru lk rt P x y (.returned (.bool false)) w5 from ⟨false, lk5, rfl, hO5, hg6, fun h => (by cases h), fun _ => h6 rfl⟩)
        clear hO5 hg5 h5 h6 oB1 oB2 hg6
        go_wp2
        try rw [Exit.noGoto_ret]
        go_ret
        exact F.out
       | true =>
        obtain ⟨rt5, rk5, hL5, hS5, hC5, hj5, hc5, hr5⟩ := h5 rfl
        have F := hid (show HeadLk w Q p lb A n c v o a u (some ⟨bX, oX, none⟩) xn xc lc sg nums nums' Inn ra ru (roots (lk.set b1 a1)) (rt2 rt a1 b1) P a1 b1 (some ⟨g1, o1, none⟩) y1 z1 (some ⟨g2, o2, none⟩) y2 z2 (.int .i64 ((k : Int) + 1)) w5 from
         ⟨k + 1, lk5, rt5, rk5, by simp, hlt, hO5, hL5, hS5, hC5.next (by rw [HCA.out, HCB.out]; exact hj5), fun i j e => hc5 i j (HCO.out i j e), by have := HRO.out; omega, hg6, oB1, oB2⟩)
        clear hO5 hg5 h5 h6 oB1 oB2 hg6 hL5 hS5 hC5 hj5 hc5 hr5
        go_wp2
        go_roundw
        case rel => exact F.out
        case measure => simp [intOf]; omega
      ·have hky : k = y2 := by omega
       have i1 : ¬ (k : Int) < (y2 : Int) := by omega
       have F := hid (show AnsLink w Q p lb A n c v o a u (some ⟨bX, oX, none⟩) xn xc lc sg nums nums' Inn ra ru lk rt P x y (.returned (.bool true)) wr from
        ⟨true, lk3, rfl, hO3, hg3, fun _ => ⟨rt3, rk3, hL3, hS3, hC3.done (by rw [← HY2.out, hky]; exact Nat.le_refl _), HJ.out rt3 (fun i j e => hco i j (rt2_coarse e)) (hco _ _ (rt2_joins ra1 rb1 hne)), fun i j e => hco i j (rt2_coarse e), by have := HROOT.out; omega⟩, fun h => by cases h⟩)
       clear hO3 hL3 hS3 hC3 hco hro hg3 oA1 oA2 hky
       go_wp2
       go_ret
       exact F.out
    ·have e2 : (za != zb) = true := by simp [hzz]
     have F := hid (show ∀ dd, AnsLink w Q p lb A n c v o a u (some ⟨bX, oX, none⟩) xn xc lc sg nums nums' Inn ra ru lk rt P x y (.returned (.bool false)) (W2.drewN dd) from fun dd => ⟨false, lk.set b1 a1, rfl, HO2.out.drewN dd, grown_drewN HG2.out dd, fun h => (by cases h), fun _ θ hθ => hN.gr.clash ha hb (by show 0 ≤ nums.getD a1 0; rw [HZA.out]; exact hza0) (by show 0 ≤ nums.getD b1 0; rw [HZB.out]; exact Int.not_lt.1 hzb0) (by show nums.getD a1 0 ≠ nums.getD b1 0; rw [HZA.out, HZB.out]; exact hzz) (HVV.out θ hθ)⟩)
     go_enter Try.func68, Try.ntmps68
     go_wp2_with fail
     refine LF1.out.mono ?_
     rintro e w1 ⟨rfl, hw1⟩
     rw [hw1]
     clear hw1
     go_wp2_with fail
     refine LF2.out.mono ?_
     rintro e w2 ⟨rfl, hw2⟩
     rw [hw2]
     clear hw2
     go_wp2_with fail
     rw [← HW2.out]
     go_quiet (fail)
     go_wp2
     go_ret
     exact F.out _
end linkImpl
end
section
namespace ovStart
open sig term termOk termFacts args fillMath renMath matchMath unifMath forest triMath nodes ufMath linkImpl
set_option maxRecDepth 100000
theorem idx_le : ∀ {l : List Int} {k : Nat}, k < l.length → idx l (l.getD k 0) ≤ k
 | y :: r, 0, _ => by simp [idx]
 | y :: r, k + 1, h => by
  rw [idx]
  split
  ·omega
  ·have := idx_le (l := r) (k := k) (by simpa using h)
   simpa using this
theorem get_mem {l : List Int} {k : Nat} (hk : k < l.length) : l.getD k 0 ∈ l := by
 rw [List.getD_eq_getElem?_getD, List.getElem?_eq_getElem hk]
 exact List.getElem_mem _
def fi (l : List Int) (k : Nat) : Nat := if l.getD k 0 < 0 then idx l (l.getD k 0) else k
theorem fi_le {l : List Int} {k : Nat} (hk : k < l.length) : fi l k ≤ k := by
 unfold fi
 split
 ·exact idx_le hk
 ·exact Nat.le_refl _
theorem fi_val {l : List Int} {k : Nat} (hk : k < l.length) : l.getD (fi l k) 0 = l.getD k 0 := by
 unfold fi
 split
 ·exact idx_get (get_mem hk)
 ·rfl
theorem fi_same {l : List Int} {j k : Nat} (h0 : l.getD k 0 < 0) (e : l.getD j 0 = l.getD k 0) : fi l j = fi l k := by
 unfold fi
 rw [e, if_pos h0, if_pos h0]
theorem fi_fi {l : List Int} {k : Nat} (hk : k < l.length) : fi l (fi l k) = fi l k := by
 by_cases h0 : l.getD k 0 < 0
 ·exact fi_same h0 (fi_val hk)
 ·have e : fi l k = k := by
   unfold fi
   rw [if_neg h0]
  rw [e, e]
theorem fi_sym {l : List Int} {k : Nat} (h0 : 0 ≤ l.getD k 0) : fi l k = k := by
 unfold fi
 rw [if_neg (by omega)]
def lk0 (lo lu : List Int) : List Nat := (List.range lo.length).map (fi lo) ++ (List.range lu.length).map fun k => lo.length + fi lu k
theorem lk_len (lo lu : List Int) : (lk0 lo lu).length = lo.length + lu.length := by simp [lk0]
theorem lk_lo {lo lu : List Int} {i : Nat} (hi : i < lo.length) : (lk0 lo lu).getD i 0 = fi lo i := by
 unfold lk0
 rw [List.getD_eq_getElem?_getD, List.getElem?_append_left (by simpa using hi)]
 simp [hi]
theorem lk_lu {lo lu : List Int} {k : Nat} (hk : k < lu.length) : (lk0 lo lu).getD (lo.length + k) 0 = lo.length + fi lu k := by
 unfold lk0
 rw [List.getD_eq_getElem?_getD, List.getElem?_append_right (by simp)]
 simp [hk]
theorem two {p q i : Nat} (h : i < p + q) : i < p ∨ ∃ k, k < q ∧ i = p + k := by
 by_cases e : i < p
 ·exact .inl e
 ·exact .inr ⟨i - p, by omega, by omega⟩
theorem get_lo {lo r : List Int} {i : Nat} (hi : i < lo.length) : (lo ++ r).getD i 0 = lo.getD i 0 := by
 rw [List.getD_eq_getElem?_getD, List.getElem?_append_left hi, List.getD_eq_getElem?_getD]
theorem get_lu {lo r : List Int} {k : Nat} : (lo ++ r).getD (lo.length + k) 0 = r.getD k 0 := by
 rw [List.getD_eq_getElem?_getD, List.getElem?_append_right (by omega), List.getD_eq_getElem?_getD]
 simp
theorem get_sh {l : List Int} {k : Nat} (hk : k < l.length) : (shiftL 24 l).getD k 0 = sh 24 (l.getD k 0) := by
 unfold shiftL
 simp [List.getD_eq_getElem?_getD, hk]
section
variable {sg lo lu : List Int}
theorem lk_facts {i : Nat} (hi : i < lo.length + lu.length) : (lk0 lo lu).getD i 0 ≤ i ∧ (lk0 lo lu).getD ((lk0 lo lu).getD i 0) 0 = (lk0 lo lu).getD i 0 ∧ (lo ++ lu).getD ((lk0 lo lu).getD i 0) 0 = (lo ++ lu).getD i 0 ∧ (lo ++ shiftL 24 lu).getD ((lk0 lo lu).getD i 0) 0 = (lo ++ shiftL 24 lu).getD i 0 ∧ (0 ≤ (lo ++ lu).getD i 0 → (lk0 lo lu).getD i 0 = i) := by
 rcases two hi with h | ⟨k, h, rfl⟩
 ·have h1 : fi lo i < lo.length := Nat.lt_of_le_of_lt (fi_le h) h
  rw [lk_lo h, lk_lo h1, get_lo h1, get_lo h, get_lo h1, get_lo h]
  exact ⟨fi_le h, fi_fi h, fi_val h, fi_val h, fun h0 => fi_sym h0⟩
 ·have h1 : fi lu k < lu.length := Nat.lt_of_le_of_lt (fi_le h) h
  rw [lk_lu h, lk_lu h1, get_lu, get_lu, get_lu, get_lu, get_sh h1, get_sh h]
  exact ⟨Nat.add_le_add_left (fi_le h) _, by rw [fi_fi h], fi_val h, by rw [fi_val h], fun h0 => by rw [fi_sym h0]⟩
theorem twin (lo lu : List Int) : nodes.Twin (lo ++ lu) (lo ++ shiftL 24 lu) := by
 refine ⟨by simp [shift_len], fun i h0 => ?_, fun i h0 => ?_⟩
 ·by_cases hi : i < lo.length + lu.length
  ·rcases two hi with h | ⟨k, h, rfl⟩
   ·rw [get_lo h, get_lo h]
   ·rw [get_lu] at h0
    rw [get_lu, get_lu, get_sh h]
    unfold sh
    rw [if_neg (by omega)]
  ·rw [List.getD_eq_getElem?_getD, List.getD_eq_getElem?_getD, List.getElem?_eq_none (by simp [shift_len]; omega), List.getElem?_eq_none (by simp; omega)]
 ·by_cases hi : i < lo.length + lu.length
  ·rcases two hi with h | ⟨k, h, rfl⟩
   ·rw [get_lo h] at h0 ⊢
    exact h0
   ·rw [get_lu] at h0
    rw [get_lu, get_sh h]
    unfold sh
    rw [if_pos h0]
    omega
  ·rw [List.getD_eq_getElem?_getD, List.getElem?_eq_none (by simp; omega)] at h0
   exact absurd h0 (by simp)
theorem sc_lo (ho : scan sg 1 lo = some lo.length) {i : Nat} (hi : i < lo.length) : ∃ j, scan sg 1 ((lo ++ lu).drop i) = some j ∧ scan sg 1 (lo.drop i) = some j ∧ 1 ≤ j ∧ i + j ≤ lo.length := by
 obtain ⟨j, h1, h2, h3⟩ := scan_at ho hi
 refine ⟨j, ?_, h1, h2, h3⟩
 rw [List.drop_append_of_le_length (by omega)]
 exact termMath.scan_append h1
theorem drop_lu {l : List Int} (k : Nat) : (lo ++ l).drop (lo.length + k) = l.drop k := by
 rw [← List.drop_drop, List.drop_left]
theorem sc_all (ho : scan sg 1 lo = some lo.length) (hu : scan sg 1 lu = some lu.length) {i : Nat} (hi : i < lo.length + lu.length) : ∃ j, scan sg 1 ((lo ++ lu).drop i) = some j := by
 rcases two hi with h | ⟨k, h, rfl⟩
 ·obtain ⟨j, h1, -⟩ := sc_lo (lu := lu) ho h
  exact ⟨j, h1⟩
 ·obtain ⟨j, h1, -⟩ := scan_at hu h
  exact ⟨j, by rw [drop_lu]; exact h1⟩
theorem len_lo (ho : scan sg 1 lo = some lo.length) {i : Nat} (hi : i < lo.length) : len1 sg (lo ++ lu) i = len1 sg lo i := by
 obtain ⟨j, h1, h2, -⟩ := sc_lo (lu := lu) ho hi
 rw [len1_eq h1, len1_eq h2]
theorem nd_lo (ho : scan sg 1 lo = some lo.length) {a : Nat} (ha : a < lo.length) : nodes.nd sg (lo ++ lu) (lo ++ shiftL 24 lu) a = (lo.drop a).take (len1 sg lo a) := by
 unfold nodes.nd
 obtain ⟨j, h1, h2, h3, h4⟩ := sc_lo (lu := lu) ho ha
 rw [len_lo ho ha, len1_eq h2, List.drop_append_of_le_length (by omega), List.take_append_of_le_length (by simp; omega)]
theorem nd_lu (hu : scan sg 1 lu = some lu.length) : nodes.nd sg (lo ++ lu) (lo ++ shiftL 24 lu) lo.length = shiftL 24 lu := by
 unfold nodes.nd
 have h1 : scan sg 1 ((lo ++ lu).drop lo.length) = some lu.length := by rw [List.drop_left]; exact hu
 rw [len1_eq h1, List.drop_left]
 exact List.take_of_length_le (by rw [shift_len]; exact Nat.le_refl _)
def inn (sg lo : List Int) (a i : Nat) : Prop := (a ≤ i ∧ i < a + len1 sg lo a) ∨ lo.length ≤ i
theorem len_in {t : List Int} {a i j : Nat} (h : scan sg 1 (t.drop a) = some j) (h1 : a ≤ i) (h2 : i < a + j) : i + len1 sg t i ≤ a + j := by
 obtain ⟨q, hq⟩ := scan_tail (a := i - a) h (by omega)
 rw [List.drop_drop, show a + (i - a) = i by omega] at hq
 obtain ⟨k, hk1, hk2, hk3, -⟩ := scan_first hq
 rw [len1_eq hk1]
 omega
theorem gr0 (ho : scan sg 1 lo = some lo.length) (hu : scan sg 1 lu = some lu.length) (hv : ∀ x ∈ lo, -24 ≤ x) {a : Nat} (ha : a < lo.length) : Nd sg (lo ++ lu) (lo ++ shiftL 24 lu) (lo.length + lu.length) (inn sg lo a) a lo.length := by
 have hT := twin lo lu
 have hall := fun {i : Nat} (hi : i < lo.length + lu.length) => sc_all (sg := sg) ho hu hi
 have hu1 : 1 ≤ lu.length := scan_pos hu
 refine ⟨⟨fun i hi => ?_, fun i hi h0 => ?_, fun i hi h0 c hc => ?_, fun i hi h0 => ?_, fun i hi h0 hI c hc => ?_, ?_, ?_⟩, fun i hi => hall hi, by simp⟩
 ·obtain ⟨j, hj⟩ := hall hi
  exact (nd_all hT _ i j hj (Nat.le_refl _)).1
 ·obtain ⟨j, hj⟩ := hall hi
  exact (nd_all hT _ i j hj (Nat.le_refl _)).2.1 h0
 ·obtain ⟨j, hj⟩ := hall hi
  have := (ch_in hj c hc).2.2.1
  simpa using this
 ·obtain ⟨j, hj⟩ := hall hi
  exact ⟨_, hT.var i h0, (nd_all hT _ i j hj (Nat.le_refl _)).2.2 h0⟩
 ·obtain ⟨j, hj⟩ := hall hi
  obtain ⟨c1, c2, c3, c4⟩ := ch_in hj c hc
  have c5 := scan_pos c4
  rcases hI with ⟨h1, h2⟩ | h1
  ·left
   obtain ⟨ja, g1, g2, g3, g4⟩ := sc_lo (lu := lu) ho ha
   have g5 := len1_eq g2
   have := len_in g1 h1 (by omega)
   rw [len1_eq hj] at this
   omega
  ·right
   omega
 ·obtain ⟨ja, g1, g2, g3, g4⟩ := sc_lo (lu := lu) ho ha
  have := len1_eq g2
  exact ⟨.inl ⟨Nat.le_refl _, by omega⟩, by omega⟩
 ·exact ⟨.inr (Nat.le_refl _), by omega⟩
theorem lk0_ok (ho : scan sg 1 lo = some lo.length) (hu : scan sg 1 lu = some lu.length) (hv : ∀ x ∈ lo, -24 ≤ x) (a : Nat) : Lk (lo.length + lu.length) (fun i => (lo ++ lu).getD i 0) (nodes.nd sg (lo ++ lu) (lo ++ shiftL 24 lu)) (inn sg lo a) (lk0 lo lu) (fun i => (lk0 lo lu).getD i 0) (fun i => i) := by
 have hT := twin lo lu
 have hall := fun {i : Nat} (hi : i < lo.length + lu.length) => sc_all (sg := sg) ho hu hi
 refine ⟨lk_len _ _, fun i hi => ?_, fun i hi => ?_, fun i hi => ?_, fun i hi h => h, fun i hi h => ?_, fun i hi h0 => ?_, fun i j hi hj h0 e => ?_, fun i hi h0 _ j hj e => ?_⟩
 ·have := (lk_facts hi).1
  exact ⟨by omega, by show (lk0 lo lu).getD i 0 < _; omega⟩
 ·exact ⟨(lk_facts hi).2.1, (lk_facts hi).2.1⟩
 ·exact (lk_facts hi).2.1
 ·have := (lk_facts hi).1
  show (lk0 lo lu).getD i 0 < i
  omega
 ·show 0 ≤ (lo ++ lu).getD ((lk0 lo lu).getD i 0) 0
  rw [(lk_facts hi).2.2.1]
  exact h0
 ·obtain ⟨ji, hji⟩ := hall hi
  obtain ⟨jj, hjj⟩ := hall hj
  have e1 := (nd_all hT _ i ji hji (Nat.le_refl _)).2.2 h0
  have h1 := hT.var i h0
  have h2 : (lo ++ lu).getD j 0 < 0 := by
   by_cases hn : (lo ++ lu).getD j 0 < 0
   ·exact hn
   ·have := ((nd_all hT _ j jj hjj (Nat.le_refl _)).2.1 (by omega)).2
    rw [← e, e1] at this
    simp only [List.getD_cons_zero] at this
    omega
  have e2 := (nd_all hT _ j jj hjj (Nat.le_refl _)).2.2 h2
  rw [e1, e2] at e
  injection e with e _
  show (lk0 lo lu).getD i 0 = (lk0 lo lu).getD j 0
  rcases two hi with hi' | ⟨k, hi', rfl⟩ <;> rcases two hj with hj' | ⟨k', hj', rfl⟩
  ·rw [get_lo hi', get_lo hj'] at e
   rw [get_lo hj'] at h2
   rw [lk_lo hi', lk_lo hj', fi_same h2 e]
  ·exfalso
   rw [get_lo hi', get_lu, get_sh hj'] at e
   rw [get_lu] at h2
   have := hv _ (get_mem hi')
   unfold sh at e
   rw [if_pos h2] at e
   omega
  ·exfalso
   rw [get_lo hj', get_lu, get_sh hi'] at e
   rw [get_lu] at h0
   have := hv _ (get_mem hj')
   unfold sh at e
   rw [if_pos h0] at e
   omega
  ·rw [get_lu, get_lu, get_sh hi', get_sh hj'] at e
   rw [get_lu] at h0 h2
   unfold sh at e
   rw [if_pos h2, if_pos h0] at e
   rw [lk_lu hi', lk_lu hj', fi_same h2 (by omega)]
 ·have e' : (lk0 lo lu).getD j 0 = (lk0 lo lu).getD i 0 := e
  have h3 := (lk_facts hi).2.2.2.2 h0
  have h4 := (lk_facts hj).2.2.1
  rw [e', h3] at h4
  rw [(lk_facts hj).2.2.2.2 (by rw [← h4]; exact h0), h3] at e'
  exact e'
theorem snd0 (ho : scan sg 1 lo = some lo.length) (hu : scan sg 1 lu = some lu.length) (a u : Nat) : Snd sg (lo.length + lu.length) (nodes.nd sg (lo ++ lu) (lo ++ shiftL 24 lu)) a u fun i => (lk0 lo lu).getD i 0 := by
 intro θ _ i hi
 have hT := twin lo lu
 show fillL θ (nodes.nd sg (lo ++ lu) (lo ++ shiftL 24 lu) i) = fillL θ (nodes.nd sg (lo ++ lu) (lo ++ shiftL 24 lu) ((lk0 lo lu).getD i 0))
 by_cases h0 : 0 ≤ (lo ++ lu).getD i 0
 ·rw [(lk_facts hi).2.2.2.2 h0]
 ·obtain ⟨f1, f2, f3, f4, f5⟩ := lk_facts hi
  obtain ⟨ji, hji⟩ := sc_all (sg := sg) ho hu hi
  obtain ⟨jj, hjj⟩ := sc_all (sg := sg) ho hu (show (lk0 lo lu).getD i 0 < lo.length + lu.length by omega)
  rw [(nd_all hT _ i ji hji (Nat.le_refl _)).2.2 (by omega), (nd_all hT _ _ jj hjj (Nat.le_refl _)).2.2 (by rw [f3]; omega), f4]
theorem clo0 (P : Nat → Nat → Prop) : Clo (lo.length + lu.length) (fun i => (lo ++ lu).getD i 0) (chN sg (lo ++ lu)) (fun i => (lk0 lo lu).getD i 0) P := by
 intro i hi h0
 have e := (lk_facts hi).2.2.2.2 h0
 refine ⟨by show (lo ++ lu).getD ((lk0 lo lu).getD i 0) 0 = (lo ++ lu).getD i 0; rw [e], fun k hk => ?_⟩
 show Eqc _ P ((chN sg (lo ++ lu) i).getD k 0) ((chN sg (lo ++ lu) ((lk0 lo lu).getD i 0)).getD k 0)
 rw [e]
 exact .same _ _ rfl
def lkT (s : Nat) (l : List Int) (k : Nat) : List Nat := (List.range k).map fun i => s + fi l i
theorem lkT_next (s : Nat) (l : List Int) (k : Nat) : lkT s l (k + 1) = lkT s l k ++ [s + fi l k] := by
 unfold lkT
 rw [List.range_succ, List.map_append]
 rfl
theorem lkT_all (lo lu : List Int) : lkT 0 lo lo.length ++ lkT lo.length lu lu.length = lk0 lo lu := by
 unfold lkT lk0
 congr 1
 exact List.map_congr_left fun i _ => by simp
theorem cover {sg t : List Int} : ∀ {q p k i : Nat}, scan sg q (t.drop p) = some k → p ≤ i → i < p + k → ∃ c, c ∈ (places sg t q p).map Int.toNat ∧ c ≤ i ∧ i < c + len1 sg t c
 | 0, p, k, i, h, h1, h2 => by
  rw [scan_zero] at h
  injection h with h
  omega
 | q + 1, p, k, i, h, h1, h2 => by
  obtain ⟨j, g1, g2, g3, g4⟩ := scan_first h
  have ej := len1_eq g1
  by_cases e : i < p + j
  ·exact ⟨p, by simp [places], h1, by omega⟩
  ·obtain ⟨c, c1, c2, c3⟩ := cover (i := i) g4 (by omega) (by omega)
   refine ⟨c, ?_, c2, c3⟩
   rw [places, List.map_cons, ej]
   exact List.mem_cons_of_mem _ c1
theorem getD_mem {l : List Nat} {k : Nat} (hk : k < l.length) : l.getD k 0 ∈ l := by
 rw [List.getD_eq_getElem?_getD, List.getElem?_eq_getElem hk]
 exact List.getElem_mem _
theorem down {sg nums nums' : List Int} {n a u : Nat} {Inn : Nat → Prop} {lk : List Nat} {rt rk : Nat → Nat} {D : List Nat} (hN : Nd sg nums nums' n Inn a u) (hL : Lk n (fun i => nums.getD i 0) (nodes.nd sg nums nums') Inn lk rt rk) (hC : Clo n (fun i => nums.getD i 0) (chN sg nums) rt fun _ _ => False)
  (hD : ufMath.Good n (fun i => nums.getD i 0) (chN sg nums) rt D) : ∀ (m i : Nat), i < n → len1 sg nums i ≤ m → rt i ∈ D → ∀ i', i ≤ i' → i' < i + len1 sg nums i → rt i' ∈ D
 | 0, i, hi, hm, hr, i', h1, h2 => by omega
 | m + 1, i, hi, hm, hr, i', h1, h2 => by
  by_cases e : i' = i
  ·rw [e]; exact hr
  obtain ⟨j, hj⟩ := hN.sc i hi
  have ej := len1_eq hj
  obtain ⟨i0, e0, g1, g2, g3⟩ := scan_args hj
  by_cases h0 : nums.getD i 0 < 0
  ·exfalso
   have har : ar sg (nums.getD i 0) = 0 := by
    by_cases hb : -24 ≤ nums.getD i 0
    ·exact ar_var ⟨hb, by omega⟩
    ·exact absurd (ar_no (sg := sg) (x := nums.getD i 0) (by omega) (by omega)) (by omega)
   rw [har] at g3
   have : scan sg (Int.toNat 0) (nums.drop (i + 1)) = some 0 := scan_zero _ _
   rw [g3] at this
   injection this with this
   omega
  ·obtain ⟨c, c1, c2, c3⟩ := cover (i := i') g3 (by omega) (by omega)
   have hc : c ∈ chN sg nums i := c1
   obtain ⟨d1, d2, d3, d4⟩ := ch_in hj c hc
   obtain ⟨k, hk, ek⟩ := List.getElem_of_mem hc
   have ek' : (chN sg nums i).getD k 0 = c := by rw [List.getD_eq_getElem?_getD, List.getElem?_eq_getElem hk, ek]; rfl
   obtain ⟨f1, f2⟩ := hC i hi (show 0 ≤ nums.getD i 0 by omega)
   have f3 := Eqc.none (f2 k hk)
   have hri := (hL.lt i hi).2
   replace f1 : nums.getD (rt i) 0 = nums.getD i 0 := f1
   have hl1 := hN.gr.chl (i := i) hi (show 0 ≤ nums.getD i 0 by omega)
   have hl2 := hN.gr.chl (i := rt i) hri (by rw [f1]; show 0 ≤ nums.getD i 0; omega)
   rw [f1] at hl2
   have hk2 : k < (chN sg nums (rt i)).length := by rw [hl2, ← hl1]; exact hk
   obtain ⟨jx, hjx, ejx⟩ := mem_at.1 hr
   obtain ⟨-, -, hcl⟩ := hD jx hjx
   rw [ejx] at hcl
   obtain ⟨ix, hix, eix⟩ := hcl (by show 0 ≤ nums.getD (rt i) 0; rw [f1]; omega) _ (getD_mem hk2)
   have hrc : rt c ∈ D := by
    rw [← ek', f3, ← eix]
    exact mem_at.2 ⟨ix, by omega, rfl⟩
   exact down hN hL hC hD m c (by rw [← hN.len]; exact d3) (by omega) hrc i' c2 c3
theorem whole_of {sg lo lu : List Int} (ho : scan sg 1 lo = some lo.length) (hu : scan sg 1 lu = some lu.length) (hv : ∀ x ∈ lo, -24 ≤ x) {a : Nat} (ha : a < lo.length) {lk : List Nat} {rt rk : Nat → Nat} {D : List Nat}
  (hL : Lk (lo.length + lu.length) (fun i => (lo ++ lu).getD i 0) (nodes.nd sg (lo ++ lu) (lo ++ shiftL 24 lu)) (inn sg lo a) lk rt rk) (hS : Snd sg (lo.length + lu.length) (nodes.nd sg (lo ++ lu) (lo ++ shiftL 24 lu)) a lo.length rt) (hC : Clo (lo.length + lu.length) (fun i => (lo ++ lu).getD i 0) (chN sg (lo ++ lu)) rt fun _ _ => False)
  (he : rt a = rt lo.length) (hD : ufMath.Good (lo.length + lu.length) (fun i => (lo ++ lu).getD i 0) (chN sg (lo ++ lu)) rt D) (hr : rt a ∈ D) :
  Whole sg (lo.length + lu.length) (fun i => (lo ++ lu).getD i 0) (nodes.nd sg (lo ++ lu) (lo ++ shiftL 24 lu)) (chN sg (lo ++ lu)) (inn sg lo a) a lo.length lk rt rk D := by
 have hN := gr0 (lu := lu) ho hu hv ha
 have hu1 := scan_pos hu
 refine ⟨hN.gr, hL, hS, hC, he, hD, fun i hi hI => ?_⟩
 rcases hI with ⟨h1, h2⟩ | h1
 ·exact down hN hL hC hD _ a (by omega) (Nat.le_refl _) hr i h1 (by rw [len_lo ho ha]; exact h2)
 ·refine down hN hL hC hD _ lo.length (by omega) (Nat.le_refl _) (he ▸ hr) i h1 ?_
  have h3 : scan sg 1 ((lo ++ lu).drop lo.length) = some lu.length := by rw [List.drop_left]; exact hu
  rw [len1_eq h3]
  exact hi
end
end ovStart
end
section
namespace pkMgu
open sig term termOk termFacts sub fillMath renMath matchMath unifMath forest triMath ufMath ruleMath pkMath trySpec pkVars
set_option maxRecDepth 100000
section
variable {sg : List Int} {n : Nat} {nm : Nat → Int} {nd : Nat → List Int} {ch : Nat → List Nat} {Inn : Nat → Prop} {a u : Nat} {lk : List Nat} {rt rk : Nat → Nat} {D : List Nat}
theorem rsv_vars (hch : ∀ i, i < n → 0 ≤ nm i → ∀ c ∈ ch i, c < n) (hrt : ∀ i, i < n → rt i < n) : ∀ (f r : Nat), r < n → ∀ x ∈ rsv nm ch rt f r, x < 0 → vr x < n
 | 0, r, hr, x, hx, h0 => by
  unfold rsv at hx
  rw [List.mem_singleton] at hx
  subst hx
  rw [vr_at]
  exact hr
 | f + 1, r, hr, x, hx, h0 => by
  unfold rsv at hx
  split at hx
  ·rw [List.mem_singleton] at hx
   subst hx
   rw [vr_at]
   exact hr
  ·rename_i hn0
   rcases List.mem_cons.1 hx with e | e
   ·omega
   ·obtain ⟨l, hl, hxl⟩ := List.mem_flatten.1 e
    obtain ⟨c, hc, rfl⟩ := List.mem_map.1 hl
    exact rsv_vars hch hrt f _ (hrt c (hch r hr (by omega) c hc)) x hxl h0
def Occ (n : Nat) (nm : Nat → Int) (nd : Nat → List Int) (j : Nat) : Prop := ∃ i, i < n ∧ nm i < 0 ∧ nd i = [-1 - (j : Int)]
def nuF (n : Nat) (nd : Nat → List Int) (r : Nat) : List Int := if r < n then nd r else vt r
open Classical in
noncomputable def lF (n : Nat) (nm : Nat → Int) (nd : Nat → List Int) (ch : Nat → List Nat) (rt : Nat → Nat) (D : List Nat) (j : Nat) : List Int := if Occ n nm nd j then fillL (nuF n nd) (ufMath.wL n nm nd ch rt D j) else vt j
theorem nu_fo (h : Whole sg n nm nd ch Inn a u lk rt rk D) : Sb sg (nuF n nd) := fun r => by
 unfold nuF
 split
 ·rename_i hr
  exact h.gr.fo r hr
 ·exact Fo.vt r
theorem lF_occ {j : Nat} (h : Occ n nm nd j) : lF n nm nd ch rt D j = fillL (nuF n nd) (ufMath.wL n nm nd ch rt D j) := by unfold lF; rw [if_pos h]
theorem lF_fill {t : List Int} (h : ∀ x ∈ t, x < 0 → Occ n nm nd (vr x)) : fillL (lF n nm nd ch rt D) t = fillL (nuF n nd) (fillL (ufMath.wL n nm nd ch rt D) t) := by
 rw [fill_fill]
 exact fill_ext fun x hx h0 => lF_occ (h x hx h0)
theorem lF_sb (h : Whole sg n nm nd ch Inn a u lk rt rk D) : Sb sg (lF n nm nd ch rt D) := fun j => by
 unfold lF
 split
 ·exact (h.sb j).fill (nu_fo h)
 ·exact Fo.vt j
theorem lF_gen (h : Whole sg n nm nd ch Inn a u lk rt rk D) {θ : Nat → List Int} (hθ : Unis sg (nd a) (nd u) θ) (j : Nat) : fillL θ (lF n nm nd ch rt D j) = θ j := by
 by_cases ho : Occ n nm nd j
 ·rw [lF_occ ho]
  obtain ⟨i, hi, h0, e⟩ := ho
  have hw := h.wL i _ hi h0 e
  rw [vr_at] at hw
  rw [hw, fill_fill]
  have hd : rt i ∈ D ∨ nm (rt i) < 0 := by
   by_cases h1 : nm (rt i) < 0
   ·exact .inr h1
   ·exact .inl (h.hasD hi (by omega) (.inl h0))
  have e2 : fillL (fun r => fillL θ (nuF n nd r)) (rnd nm ch rt D i) = fillL (fun r => fillL θ (nd r)) (rnd nm ch rt D i) := fill_ext fun x hx hx0 => by
   have := rsv_vars h.gr.lt (fun i hi => (h.lk.lt i hi).2) D.length _ ((h.lk.lt i hi).2) x hx hx0
   show fillL θ (nuF n nd (vr x)) = fillL θ (nd (vr x))
   unfold nuF
   rw [if_pos this]
  rw [e2, h.gen hθ hi hd, e, fill_one, rep_vr (by omega), vr_at]
 ·unfold lF
  rw [if_neg ho, fill_vti]
theorem lF_mgu (h : Whole sg n nm nd ch Inn a u lk rt rk D) (hs : ∀ x ∈ nd a, x < 0 → Occ n nm nd (vr x)) (ht : ∀ x ∈ nd u, x < 0 → Occ n nm nd (vr x)) : MguS sg (nd a) (nd u) (lF n nm nd ch rt D) := by
 refine ⟨⟨lF_sb h, ?_⟩, fun θ hθ j => lF_gen h hθ j⟩
 rw [lF_fill hs, lF_fill ht, h.unis.2]
end
theorem mgu_same {sg s t T A R : List Int} {L L' : Nat → List Int} (h : MguS sg s t L) (h' : MguS sg s t L') (vA : ∀ x ∈ fillL L A, x < 0 → x ∈ fillL L T) (vR : ∀ x ∈ fillL L R, x < 0 → x ∈ fillL L T) : pk3 (fillL L T) (fillL L A) (fillL L R) = pk3 (fillL L' T) (fillL L' A) (fillL L' R) := by
 have e : ∀ X : List Int, fillL L' X = fillL L' (fillL L X) := fun X => by
  rw [fill_fill]
  exact fill_ext fun x _ h0 => (h.gen L' h'.uni _).symm
 have f : ∀ X : List Int, fillL L X = fillL L (fillL L' X) := fun X => by
  rw [fill_fill]
  exact fill_ext fun x _ h0 => (h'.gen L h.uni _).symm
 exact pk_same (fun i => (h'.uni.1 i).pos) (fun i => (h.uni.1 i).pos) (e T) (e A) (e R) (f T) (f A) (f R) vA vR
open Classical in
noncomputable def pkV (sg : List Int) (rs : List Rl) (o a u : Nat) : Option (List Int × List Int × List Int) :=
 if h : ∃ L, MguS sg (oS sg rs o a) (oT rs u) L then pk3 (fillL (Classical.choose h) (lh rs o)) (fillL (Classical.choose h) (leftA sg rs o a u)) (fillL (Classical.choose h) (rh rs o)) else none
section
variable {sg : List Int} {rs : List Rl} {o a u : Nat}
theorem pkV_of (ho : termOkB sg (lh rs o) = true) (ha : a < (lh rs o).length) (hvo : ∀ x, x ∈ rh rs o → x < 0 → x ∈ lh rs o) (hvu : ∀ x, x ∈ rh rs u → x < 0 → x ∈ lh rs u) {L : Nat → List Int} (h : MguS sg (oS sg rs o a) (oT rs u) L) : pk3 (fillL L (lh rs o)) (fillL L (leftA sg rs o a u)) (fillL L (rh rs o)) = pkV sg rs o a u := by
 have hex : ∃ L, MguS sg (oS sg rs o a) (oT rs u) L := ⟨L, h⟩
 unfold pkV
 rw [dif_pos hex]
 exact mgu_same h (Classical.choose_spec hex) (left_vars ho ha hvu h.uni.2) (right_vars hvo)
end
end pkMgu
end
section
namespace pkAns
open Go.RowKit base ints sig marks app segs kinds shape kindsR kindsP peakMath
set_option maxRecDepth 100000
def AnsPk (w : World) (p : Pk) (b : Bool) (e : Ending) (w' : World) : Prop := ∃ A0 n0 c0 A1 n1 c1 A2 n2 c2, e = .returned (.tuple #[.agg #[.slice A0 n0 c0, .slice A1 n1 c1, .slice A2 n2 c2, .int .i64 p.2.2.2.1, .int .i64 p.2.2.2.2.1, .int .i64 p.2.2.2.2.2], .bool b]) ∧
 Owned w' w.heap.size w'.heap.size sPeak [.slice A0 n0 c0, .slice A1 n1 c1, .slice A2 n2 c2, .int .i64 p.2.2.2.1, .int .i64 p.2.2.2.2.1, .int .i64 p.2.2.2.2.2] p ∧ Below w.heap.size w w'
theorem owned_catR {w : World} {lo hi mid mid' : Nat} {a b : Sh} {ca cb : List Value} {da : Dat a} {db : Dat b} (h1 : Owned w mid' hi a ca da) (h2 : Owned w lo mid b cb db) (hm : mid ≤ mid') (hl : lo ≤ mid') (hh : mid ≤ hi) : Owned w lo hi (.cat a b) (ca ++ cb) (da, db) := by
 obtain ⟨F, h1, n1, b1⟩ := h1
 obtain ⟨G, h2, n2, b2⟩ := h2
 refine ⟨F ++ G, ⟨ca, cb, F, G, rfl, rfl, h1, h2⟩, List.nodup_append.2 ⟨n1, n2, fun x hx y hy e => ?_⟩, fun k hk => ?_⟩
 ·have := b1 x hx
  have := b2 y hy
  omega
 ·rcases List.mem_append.1 hk with hk | hk
  ·have := b1 k hk; omega
  ·have := b2 k hk; omega
theorem ansPk_no {w w' : World} {p : Pk} {b : Bool} (h : p = ([], [], [], 0, 0, 0) ∧ b = false) (hb : Below w.heap.size w w') : AnsPk w p b (.returned (.tuple #[.agg #[.slice none 0 0, .slice none 0 0, .slice none 0 0, .int .i64 0, .int .i64 0, .int .i64 0], .bool false])) w' := by
 obtain ⟨rfl, rfl⟩ := h
 have o : Owned w' w'.heap.size w'.heap.size sI [.slice none 0 0] ([] : List Int) := ow_ints.2 (Ownd.of_own (Own.nil w' w'.heap.size))
 exact ⟨none, 0, 0, none, 0, 0, none, 0, 0, rfl, join_Peak (d := (([], [], [], 0, 0, 0) : Dat sPeak)) (m0 := w'.heap.size) (m1 := w'.heap.size) (m2 := w'.heap.size) (m3 := w'.heap.size) (m4 := w'.heap.size) (m5 := w'.heap.size) (m6 := w'.heap.size) o o o (Owned.num _ _ _ _) (Owned.num _ _ _ _) (Owned.num _ _ _ _) (Nat.le_refl _) (Nat.le_refl _) (Nat.le_refl _) (Nat.le_refl _) (Nat.le_refl _) (Nat.le_refl _) hb.size (Nat.le_refl _), hb⟩
end pkAns
end
section
namespace pkAll
open sig ruleMath peakMath shape kindsP pkMath trySpec pkVars pkMgu
noncomputable def okA (sg : List Int) (rs : List Rl) (o x u : Int) : Bool := (sysOkB sg rs && metB sg rs o x u) && (pkV sg rs o.toNat x.toNat u.toNat).isSome
noncomputable def pkA (sg : List Int) (rs : List Rl) (o x u : Int) : Pk := if (sysOkB sg rs && metB sg rs o x u) = true then pkO (pkV sg rs o.toNat x.toNat u.toNat) o.toNat x.toNat u.toNat else ([], [], [], 0, 0, 0)
section
variable {sg : List Int} {rs : List Rl} {o x u : Int}
theorem pa_yes (h : sysOkB sg rs = true) (h1 : metB sg rs o x u = true) : pkA sg rs o x u = pkO (pkV sg rs o.toNat x.toNat u.toNat) o.toNat x.toNat u.toNat ∧ okA sg rs o x u = (pkV sg rs o.toNat x.toNat u.toNat).isSome := by unfold pkA okA; rw [h, h1]; exact ⟨rfl, rfl⟩
theorem pk3_len {T A R : List Int} {t l r : List Int} (h : pk3 T A R = some (t, l, r)) : t.length ≤ 60 ∧ l.length ≤ 60 ∧ r.length ≤ 60 := by
 unfold pk3 at h
 split at h
 ·rename_i hc
  injection h with h
  injection h with e1 h
  injection h with e2 e3
  subst e1 e2 e3
  unfold byL
  simp only [List.length_map]
  exact ⟨hc.1, hc.2.1, hc.2.2.1⟩
 ·cases h
theorem pkV_len {o a u : Nat} : (pkO (pkV sg rs o a u) o a u).1.length ≤ 60 ∧ (pkO (pkV sg rs o a u) o a u).2.1.length ≤ 60 ∧ (pkO (pkV sg rs o a u) o a u).2.2.1.length ≤ 60 := by
 cases h : pkV sg rs o a u with
 | none => simp [pkO]
 | some q =>
  obtain ⟨t, l, r⟩ := q
  unfold pkV at h
  split at h
  ·exact pk3_len h
  ·cases h
end
end pkAll
end
section
namespace pksMath
open sig shape kindsP ruleMath peakMath trySpec ovsMath pkMath pkVars pkMgu pkAll
abbrev Tr := Nat × Nat × Nat
def anyW : Nat → Nat → Bool := fun _ _ => true
noncomputable def pkT (sg : List Int) (rs : List Rl) (t : Tr) : Pk := pkO (pkV sg rs t.1 t.2.1 t.2.2) t.1 t.2.1 t.2.2
noncomputable def okT (sg : List Int) (rs : List Rl) (t : Tr) : Bool := (pkV sg rs t.1 t.2.1 t.2.2).isSome
noncomputable def goodL (sg : List Int) (rs : List Rl) (L : List Tr) : Bool := decide (L.length ≤ 64) && L.all (okT sg rs)
noncomputable def psB (sg : List Int) (rs : List Rl) : Bool := sysOkB sg rs && goodL sg rs (ovs sg rs anyW)
noncomputable def psA (sg : List Int) (rs : List Rl) : List Pk := if psB sg rs = true then (ovs sg rs anyW).map (pkT sg rs) else []
section
variable {sg : List Int} {rs : List Rl} {L M : List Tr} {t : Tr}
theorem good_nil : goodL sg rs [] = true := by simp [goodL]
theorem good_len (h : goodL sg rs L = true) : L.length ≤ 64 := by
 unfold goodL at h
 rw [Bool.and_eq_true] at h
 exact of_decide_eq_true h.1
theorem good_pre (h : goodL sg rs M = true) (hp : L <+: M) : goodL sg rs L = true := by
 obtain ⟨K, rfl⟩ := hp
 unfold goodL at h ⊢
 rw [Bool.and_eq_true, List.all_append, Bool.and_eq_true] at h
 rw [Bool.and_eq_true]
 have h1 := of_decide_eq_true h.1
 rw [List.length_append] at h1
 exact ⟨decide_eq_true (by omega), h.2.1⟩
theorem good_app (h : goodL sg rs L = true) (h1 : okT sg rs t = true) (h2 : L.length < 64) : goodL sg rs (L ++ [t]) = true := by
 unfold goodL at h ⊢
 rw [Bool.and_eq_true] at h
 rw [Bool.and_eq_true, List.all_append, Bool.and_eq_true]
 exact ⟨decide_eq_true (by rw [List.length_append]; simp; omega), h.2, by simp [h1]⟩
theorem bad_ok (h1 : okT sg rs t = false) : goodL sg rs (L ++ [t]) = false := by
 unfold goodL
 rw [List.all_append]
 simp [h1]
theorem bad_len (h2 : L.length = 64) : goodL sg rs (L ++ [t]) = false := by
 unfold goodL
 rw [decide_eq_false (by rw [List.length_append, h2]; simp)]
 rfl
theorem ps_sys (h : sysOkB sg rs = false) : psA sg rs = [] ∧ psB sg rs = false := by
 have : psB sg rs = false := by unfold psB; rw [h]; rfl
 exact ⟨by unfold psA; rw [this]; rfl, this⟩
theorem ps_bad (hp : L <+: ovs sg rs anyW) (h : goodL sg rs L = false) : psA sg rs = [] ∧ psB sg rs = false := by
 have : psB sg rs = false := by
  unfold psB
  cases hg : goodL sg rs (ovs sg rs anyW) with
  | false => exact Bool.and_false _
  | true => rw [good_pre hg hp] at h; cases h
 exact ⟨by unfold psA; rw [this]; rfl, this⟩
theorem ps_good (hs : sysOkB sg rs = true) (h : goodL sg rs (ovs sg rs anyW) = true) : psA sg rs = (ovs sg rs anyW).map (pkT sg rs) ∧ psB sg rs = true := by
 have : psB sg rs = true := by unfold psB; rw [h, hs]; rfl
 exact ⟨by unfold psA; rw [this]; rfl, this⟩
theorem sz_row {e : Go.TypeId} {s : Sh} (B : Nat) : ∀ (D : List (Dat s)), (∀ x ∈ D, sz s x ≤ B) → sz (.row e s) D ≤ D.length * (B + nc s + 1)
 | [], _ => by simp [sz]
 | x :: r, h => by
  have h1 := sz_row (e := e) B r fun y hy => h y (List.mem_cons_of_mem _ hy)
  have h2 := h x (List.mem_cons_self ..)
  have e1 : (r.length + 1) * (B + nc s + 1) = r.length * (B + nc s + 1) + (B + nc s + 1) := by rw [Nat.add_mul, Nat.one_mul]
  simp only [sz, List.length_cons, List.map_cons, List.sum_cons, e1] at h1 ⊢
  omega
end
section
variable (sg : List Int) (rs : List Rl)
noncomputable def posV (o a u : Nat) : List Tr := allV (fun o a u => metB sg rs (o : Int) (a : Int) (u : Int)) anyW (fun o => (lh rs o).length) rs.length o ++ (colV (fun o a u => metB sg rs (o : Int) (a : Int) (u : Int)) anyW rs.length o a ++ rowV (fun o a u => metB sg rs (o : Int) (a : Int) (u : Int)) anyW o a u)
end
section
variable {sg : List Int} {rs : List Rl} {o a u : Nat}
theorem pos_zero : posV sg rs 0 0 0 = [] := rfl
theorem pos_no (h : metB sg rs (o : Int) (a : Int) (u : Int) = false) : posV sg rs o a (u + 1) = posV sg rs o a u := by
 unfold posV
 rw [ovsMath.row_no (by rw [h]; exact Bool.and_false _)]
theorem pos_yes (h : metB sg rs (o : Int) (a : Int) (u : Int) = true) : posV sg rs o a (u + 1) = posV sg rs o a u ++ [(o, a, u)] := by
 unfold posV
 rw [ovsMath.row_yes rfl h]
 simp only [List.append_assoc]
theorem pos_row : posV sg rs o a rs.length = posV sg rs o (a + 1) 0 := by
 unfold posV
 rw [col_succ, row_zero, List.append_nil]
theorem pos_col : posV sg rs o (lh rs o).length 0 = posV sg rs (o + 1) 0 0 := by
 unfold posV
 rw [all_succ, row_zero, col_zero, row_zero, List.append_nil, List.append_nil, List.append_nil]
theorem pos_all : posV sg rs rs.length 0 0 = ovs sg rs anyW := by
 unfold posV ovs
 rw [row_zero, col_zero, List.append_nil, List.append_nil]
theorem pos_pre (ho : o < rs.length) (ha : a < (lh rs o).length) (hu : u ≤ rs.length) : posV sg rs o a u <+: ovs sg rs anyW := part_pre ho ha hu
end
end pksMath
end
section
namespace pksAns
open Go.RowKit base sig shape kindsP ruleMath peakMath ovsMath pkAll pksMath ownL
set_option maxRecDepth 100000
theorem info_Peak : ∃ z bytes, (Try.prog.info? 41).map (fun i => (i.zero, i.size, i.bytes)) = some (some z, nc sPeak, bytes) ∧ z.cells.size = nc sPeak ∧ bytes ≤ 4096 := ⟨.agg #[.slice none 0 0, .slice none 0 0, .slice none 0 0, .int .i64 0, .int .i64 0, .int .i64 0], 96, rfl, rfl, by decide⟩
def AnsPks (w : World) (L : List Pk) (b : Bool) (e : Ending) (w' : World) : Prop := ∃ A n c, e = .returned (.tuple #[.slice A n c, .bool b]) ∧ OwnL w' w.heap.size w'.heap.size 41 sPeak A n c L ∧ Below w.heap.size w w'
theorem ansPks_none {w w' : World} {L : List Pk} {b : Bool} (h : L = [] ∧ b = false) (hb : Below w.heap.size w w') : AnsPks w L b (.returned (.tuple #[.slice (some ⟨w'.heap.size, 0, none⟩) 0 0, .bool false])) (w'.alloc (.cells #[] 41)) := by
 obtain ⟨rfl, rfl⟩ := h
 exact ⟨_, 0, 0, rfl, OwnL.empty w' _ _ hb.size (by simp), hb.alloc hb.size _⟩
structure PksX (w wr : World) : Prop where
 r2 : Row wr (w.heap.size + 1) 47 #[.slice none 0 0]
 r3 : Row wr (w.heap.size + 1 + 1) 4 #[.bool false]
 b : Below w.heap.size w wr
structure PksI (w : World) (B lo : Nat) (sg : List Int) (rs : List Rl) (pre : List Tr) (wr : World) : Prop where
 x : PksX w wr
 p : ∃ O on oc, Row wr B 47 #[.slice O on oc] ∧ OwnL wr lo wr.heap.size 41 sPeak O on oc (pre.map (pkT sg rs))
 g : goodL sg rs pre = true
end pksAns
end
section
open Go.Lib (hid)
namespace pkSpec
open Go.RowKit base ints sig term termOk termFacts sub args sym varsOf marks app appAt segs kinds shape kindsR kindsP drawX fillMath renMath rename matchMath unifMath forest triMath stk partsSpec bnd Go.Proofs.Ytfmjhfodjhkmlaa.look occurs meetSpec fullSpec ruleMath ruleSpec peakMath pathSpec trySpec pkMath pkVars pkAns
set_option maxRecDepth 100000
theorem stepAppZ {w : World} {ops : Array Oper} {o : Oper} {a : Act} {K : Act → World → Prop} {Q : Exit → Act → World → Prop} {E : Prop} (hgd : o.guard = none) (s x : Operand)
  (ho : o.op = .call { callee := .builtin .append, args := #[s, x], argTypes := #[22, 22] })
  (base : Nat) (A : Option Addr) (n c : Nat) (xs : List Int) (hs : a.eval s = .slice A n c) (hown : Own w base (.slice A n c) xs)
  (b off m c2 B : Nat) (ys : List Int) (hx : a.eval x = .slice (some ⟨b, off, none⟩) m c2) (hseg : Seg w B (some ⟨b, off, none⟩) m ys) (hn : n ≤ 2097152) (hm : m ≤ 2097152) (hbase : base ≤ w.heap.size)
  (h : ∀ A' c' w', Own w' base (.slice A' (n + m) c') (xs ++ ys) → w.grownBy w' (blk A) → (blk A' = blk A ∨ blk A' = some w.heap.size) → K (a.put o.dst (.slice A' (n + m) c')) w') :
  if Region.wanted o (yielded ops a.tmps) = true then Oper.wp Try.prog o a w K Q else E := by
 have hw : Region.wanted o (yielded ops a.tmps) = true := by simp [Region.wanted, hgd]
 rw [if_pos hw]
 obtain ⟨i0, hi, hz0, hz1, hz2⟩ := info_parts info_i64
 have hl : xs.length = n := (Own.len hown).symm
 have ho1 : w.ownsRow base 2 1 (.slice A n c) n (xs.map (Value.int .i64)) := by rw [← hl]; rw [← hl] at hown; exact hown
 obtain ⟨v', w', hr, hown', hg, -, hat⟩ := run_append_own_at (P := Try.prog) (w := w) base 22 o.type 2 i0 (.int .i64 0) 1 8 Try.underlying22 hi hz0 hz1 hz2 rfl (by decide) (.slice A n c) n (xs.map (Value.int .i64)) ho1
  ⟨b, off, none⟩ m c2 (ys.map (Value.int .i64)) (by simp [hseg.1]) (fun j u hj => by
   have hjl : j < m := by
    have := (List.getElem?_eq_some_iff.1 hj).1
    simp at this
    have := hseg.1
    omega
   obtain ⟨b', off', e, _, hc⟩ := hseg.2 (by omega)
   injection e with e
   injection e with e1 e3
   subst e1 e3
   have hcj := hc j hjl
   have e2 : (⟨b, off, none⟩ : Addr).add j = ⟨b, off + j, none⟩ := by unfold Addr.add; split <;> simp_all
   rw [e2, hcj, ← hj]
   have := hseg.1
   simp [List.getD, show j < ys.length by omega]) (fun u hu => by
   obtain ⟨y, _, rfl⟩ := List.mem_map.1 hu
   rfl) (by unfold maxLen; omega) (by omega) hbase
 rw [← List.map_append] at hown'
 obtain ⟨A', c', rfl, ho'⟩ := own_of hown'
 rw [blk_own] at hg
 rw [blk_own, blk_own] at hat
 unfold Oper.wp execOp
 simp only [ho, resolve, invoke, builtin, Sem.run_bind, Sem.run_pure, Result.andThen_ok, List.map_toArray, List.map_cons, List.map_nil, hs, hx, hr]
 exact h A' c' w' ho' hg hat
theorem appAllZ {w : World} {ops : Array Oper} {rest : List Oper} {o : Oper} {a : Act} {Q : Exit → Act → World → Prop} (hgd : o.guard = none) (s x : Operand)
  (ho : o.op = .call { callee := .builtin .append, args := #[s, x], argTypes := #[22, 22] })
  (base : Nat) (A : Option Addr) (n c : Nat) (xs : List Int) (hs : a.eval s = .slice A n c) (hown : Own w base (.slice A n c) xs)
  (b off m c2 B : Nat) (ys : List Int) (hx : a.eval x = .slice (some ⟨b, off, none⟩) m c2) (hseg : Seg w B (some ⟨b, off, none⟩) m ys) (hn : n ≤ 2097152) (hm : m ≤ 2097152) (hbase : base ≤ w.heap.size)
  (h : ∀ A' c' w', Own w' base (.slice A' (n + m) c') (xs ++ ys) → w.grownBy w' (blk A) → (blk A' = blk A ∨ blk A' = some w.heap.size) → wpList Try.prog ops Q rest (a.put o.dst (.slice A' (n + m) c')) w') : wpList Try.prog ops Q (o :: rest) a w := by
 obtain ⟨i0, hi, hz0, hz1, hz2⟩ := info_parts info_i64
 have hl : xs.length = n := (Own.len hown).symm
 have ho1 : w.ownsRow base 2 1 (.slice A n c) n (xs.map (Value.int .i64)) := by rw [← hl]; rw [← hl] at hown; exact hown
 refine wpList_append_own_at w hgd s x 22 ho base 2 i0 (.int .i64 0) 1 8 Try.underlying22 hi hz0 hz1 hz2 rfl (by decide) (.slice A n c) n (xs.map (Value.int .i64)) hs ho1
  ⟨b, off, none⟩ m c2 (ys.map (Value.int .i64)) hx (by simp [hseg.1]) (fun j u hj => ?_) (fun u hu => ?_) (by unfold maxLen; omega) (by omega) hbase ?_
 ·have hjl : j < m := by
   have := (List.getElem?_eq_some_iff.1 hj).1
   simp at this
   have := hseg.1
   omega
  obtain ⟨b', off', e, _, hc⟩ := hseg.2 (by omega)
  injection e with e
  injection e with e1 e3
  subst e1 e3
  have hcj := hc j hjl
  have e2 : (⟨b, off, none⟩ : Addr).add j = ⟨b, off + j, none⟩ := by unfold Addr.add; split <;> simp_all
  rw [e2, hcj, ← hj]
  have := hseg.1
  simp [List.getD, show j < ys.length by omega]
 ·obtain ⟨y, _, rfl⟩ := List.mem_map.1 hu
  rfl
 ·intro v' w' hown' hg _ hat
  rw [← List.map_append] at hown'
  obtain ⟨A', c', rfl, ho'⟩ := own_of hown'
  rw [blk_own] at hg
  rw [blk_own, blk_own] at hat
  exact h A' c' w' ho' hg hat
theorem order_len9 (t : List Int) : (orderL t).length ≤ t.length := by
 have h : ∀ (l o : List Int), (l.foldl extV o).length ≤ o.length + l.length := by
  intro l
  induction l with
  | nil => intro o; simp
  | cons x r ih =>
   intro o
   rw [List.foldl_cons]
   have h1 := ih (extV o x)
   have h2 : (extV o x).length ≤ o.length + 1 := by
    unfold extV
    split
    ·exact ext_len o x
    ·omega
   rw [List.length_cons]
   omega
 have := h t []
 simpa [orderL] using this
def AnsPs (w : World) (sg : List Int) (rs : List Rl) (o a u : Nat) (e : Ending) (w' : World) : Prop := ∃ L, MguS sg (oS sg rs o a) (oT rs u) L ∧ AnsPk w (pkO (pk3 (fillL L (lh rs o)) (fillL L (leftA sg rs o a u)) (fillL L (rh rs o))) o a u) (pk3 (fillL L (lh rs o)) (fillL L (leftA sg rs o a u)) (fillL L (rh rs o))).isSome e w'
set_option maxHeartbeats 4000000 in
theorem l11Peak (A V : Option Addr) (n c q cv : Nat) (d : Dat sSystem) (o a u : Nat) (w : World) (h : Rd w w.heap.size sSystem [.slice A n c, .slice V q cv] d) (hz : sz sSystem d ≤ 1048576) (hok : sysOkB d.1 d.2 = true) (ho : o < d.2.length) (hu : u < d.2.length) (ha : a < (lh d.2 o).length) (hun : unB d.1 d.2 o a u = true) :
  Calls Try.prog 42 #[.agg #[.slice A n c, .slice V q cv], .int .i64 (o : Int), .int .i64 (a : Int), .int .i64 (u : Int)] w (AnsPs w d.1 d.2 o a u) := by
 obtain ⟨A1, n1, c1, A2, n2, c2, ea, ev, hA, kA, kV, hlen, hn, hn2, hr, hsg, hrs⟩ := rd_sys h hz
 injection ea with e1 e2 e3
 subst e1 e2 e3
 injection ev with e1 e2 e3
 subst e1 e2 e3
 obtain ⟨bV, oV, lo, ro, xo, rfl, hbV, hxo, cLo, cRo, rdo⟩ := rd_at hr (Below.refl _ _) hlen (show o < q by omega)
 obtain ⟨bV2, oV2, lu, ru, xu, eV2, -, hxu, cLu, cRu, rdu⟩ := rd_at hr (Below.refl _ _) hlen (show u < q by omega)
 injection eV2 with eV2
 injection eV2 with eb eo
 subst eb eo
 obtain ⟨LA, ln, lc, RA, rn, rc, rfl, rfl, sLo, kLo, sRo, kRo, hln, hrn⟩ := rd_rule rdo (by have := hrs o (by omega); rw [hxo.out] at this; exact this)
 obtain ⟨MA, mn, mc, NA, nn, nc', rfl, rfl, sLu, kLu, sRu, kRu, hmn, hnn⟩ := rd_rule rdu (by have := hrs u (by omega); rw [hxu.out] at this; exact this)
 have eLo : xo.1 = lh d.2 o := by unfold lh; rw [hxo.out]
 have eRo : xo.2 = rh d.2 o := by unfold rh; rw [hxo.out]
 have eRu : xu.2 = rh d.2 u := by unfold rh; rw [hxu.out]
 rw [eLo] at sLo
 rw [eRo] at sRo
 rw [eRu] at sRu
 have tLo := lh_ok hok ho
 have tRo := rh_ok hok ho
 have tLu := lh_ok hok hu
 have tRu := rh_ok hok hu
 have hvo := (rule_parts (trySpec.sys_rule hok ho)).2.2.2
 have hvu := (rule_parts (trySpec.sys_rule hok hu)).2.2.2
 have j1 : (0 : Int) ≤ (o : Int) := by omega
 have j2 : (o : Int) < (q : Int) := by omega
 have j3 : (0 : Int) ≤ (u : Int) := by omega
 have j4 : (u : Int) < (q : Int) := by omega
 have hsb : sigOkB d.1 = true := by unfold sysOkB at hok; rw [Bool.and_eq_true] at hok; exact hok.1
 have hars := (sig_arities hsb).1
 obtain ⟨W, hW, rX, rZ, bW⟩ := box2 w 33 41 #[.slice A n c, .slice (some ⟨bV, oV, none⟩) q cv] #[.slice none 0 0, .slice none 0 0, .slice none 0 0, .int .i64 0, .int .i64 0, .int .i64 0]
 have zW : W.heap.size = w.heap.size + 1 + 1 := by rw [hW]; simp
 have LT := hid (l11Try A (some ⟨bV, oV, none⟩) n c q cv d o a u W ((h.below bW).more bW.size) hz hok ho hu ha)
 have x0 : W.cell? ⟨w.heap.size, 0, none⟩ = some (.slice A n c) := rX.cell 0
 have x1 : W.cell? ⟨w.heap.size, 1, none⟩ = some (.slice (some ⟨bV, oV, none⟩) q cv) := rX.cell 1
 have e0 := x0
 have e1 := x1
 rw [hW] at e0 e1
 have HW := hid hW
 have HD := hid (And.intro hA (And.intro sLo (And.intro kLo (And.intro sRo (And.intro kRo (And.intro sRu (And.intro kRu (And.intro tLo (And.intro tRo (And.intro tLu (And.intro tRu (And.intro hvo (And.intro hvu (And.intro hars (And.intro ha hun)))))))))))))))
 have HC := hid (And.intro cLo (And.intro cRo (And.intro cLu cRu)))
 have HR := hid (And.intro rX (And.intro rZ bW))
 clear h hz hok ho hu hA kA kV hlen hr hsg hrs hxo hxu cLo cRo cLu cRu rdo rdu sLo kLo sRo kRo sLu kLu sRu kRu eLo eRo eRu tLo tRo tLu tRu hvo hvu hsb hars ha hun rX rZ bW hW
 go_enter Try.func42, Try.ntmps42
 go_wp2_with fail
 rw [← HW.out]
 refine LT.out.mono ?_
 rintro e w1 ⟨g, R, N, ok, B, rfl, hg, hR, hgR, hN, hB, b1, hyes, hno⟩
 obtain ⟨hA, sLo, kLo, sRo, kRo, sRu, kRu, tLo, tRo, tLu, tRu, hvo, hvu, hars, ha, hun⟩ := HD.out
 obtain rfl : ok = true := by rw [try_un hyes hno]; exact hun
 obtain ⟨hMid, L, rk, hRes⟩ := hyes rfl
 have hM := hMid.end hRes
 have z1 := b1.size
 have bw1 : Below w.heap.size w w1 := next_trans HR.out.2.2 b1
 have hwW : w.heap.size < W.heap.size := by rw [zW]; omega
 have k10 := (b1.cell (p := ⟨w.heap.size, 0, none⟩) hwW).trans x0
 have k11 := (b1.cell (p := ⟨w.heap.size, 1, none⟩) hwW).trans x1
 have k12 := (bw1.cell (p := ⟨bV, oV + o * 2, none⟩) hbV).trans HC.out.1
 have k13 := (bw1.cell (p := ⟨bV, oV + o * 2 + 1, none⟩) hbV).trans HC.out.2.1
 obtain ⟨W2, hW2⟩ : ∃ W2, W2 = w1.alloc (.cells #[.slice LA ln lc, .slice RA rn rc] 59) := ⟨_, rfl⟩
 have b2 : Below w1.heap.size w1 W2 := by rw [hW2]; exact (Below.refl _ _).alloc (Nat.le_refl _) _
 have r2 : Row W2 w1.heap.size 59 #[.slice LA ln lc, .slice RA rn rc] := by rw [hW2]; exact Row.new _ _ _
 have z2 := r2.lt
 have bw2 := next_trans bw1 b2
 have LE := hid (l13End A LA n c ln lc d.1 (lh d.2 o) a (oS d.1 d.2 o a) _ W2 ((hA.below bw2).more bw2.size) ((sLo.below bw2).more bw2.size) hn hln hars (drop_sub tLo ha) (fo_term (sub_ok tLo ha)))
 have y0 := (b2.cell (p := ⟨w.heap.size, 0, none⟩) (show w.heap.size < w1.heap.size by omega)).trans k10
 have y1 : W2.cell? ⟨w1.heap.size, 0, none⟩ = some (.slice LA ln lc) := r2.cell 0
 have f0 := y0
 have f1 := y1
 rw [hW2] at f0 f1
 have HW2 := hid hW2
 have HM := hid (And.intro hM (And.intro hMid (And.intro hRes (And.intro hB (And.intro b1 (And.intro b2 (And.intro r2 bw2)))))))
 clear hA sLo kLo sRo kRo sRu kRu tLo tRo tLu tRu hvo hvu hars ha hun hyes hno hMid hRes hM hB b1 b2 r2 bw1 bw2 hW2 LT x0 x1 e0 e1
 go_wp2_with fail
 rw [← HW2.out]
 refine LE.out.mono ?_
 rintro e w3 ⟨rfl, b3⟩
 obtain ⟨hA, sLo, kLo, sRo, kRo, sRu, kRu, tLo, tRo, tLu, tRu, hvo, hvu, hars, ha, hun⟩ := HD.out
 obtain ⟨hM, hMid, hRes, hB, b1, b2, r2, bw2⟩ := HM.out
 have z3 := b3.size
 have b13 : Below w1.heap.size w1 w3 := next_trans b2 b3
 have lO := term_len tLo
 have lRo := term_len tRo
 have lRu := term_len tRu
 have lLo := sLo.1
 have lRo2 := sRo.1
 have lRu2 := sRu.1
 have hcl := kLo.1
 have hcl2 := kLo.2.1
 obtain ⟨bl, ol, -, rfl, hbl, -, -⟩ := sLo.spot (show 0 < ln by omega)
 have KC := hid (fun (W' : World) (b : Below w3.heap.size w3 W') => (show W'.cell? ⟨w1.heap.size, 0, none⟩ = some (.slice (some ⟨bl, ol, none⟩) ln lc) ∧ W'.cell? ⟨w1.heap.size, 1, none⟩ = some (.slice RA rn rc) ∧ W'.cell? ⟨w.heap.size, 1, none⟩ = some (.slice (some ⟨bV, oV, none⟩) q cv) ∧ W'.cell? ⟨bV, oV + u * 2 + 1, none⟩ = some (.slice NA nn nc') ∧
   Row W' (w.heap.size + 1) 41 #[.slice none 0 0, .slice none 0 0, .slice none 0 0, .int .i64 0, .int .i64 0, .int .i64 0] from by
  have r3 := (r2.next b3).below b (by omega)
  have bwW : Below w.heap.size w W' := (bw2.trans (b3.mono (by omega))).trans (b.mono (by omega))
  have b1W : Below W.heap.size W W' := (b1.trans (b13.mono z1)).trans (b.mono (by omega))
  exact ⟨r3.cell 0, r3.cell 1, (HR.out.1.next b1W).cell 1, (bwW.cell (p := ⟨bV, oV + u * 2 + 1, none⟩) hbV).trans HC.out.2.2.2, HR.out.2.1.next b1W⟩))
 have SG := hid (fun (W' : World) (b : Below w3.heap.size w3 W') => (show Seg W' w.heap.size (some ⟨bl, ol, none⟩) ln (lh d.2 o) ∧ Seg W' w.heap.size RA rn (rh d.2 o) ∧ Seg W' w.heap.size NA nn (rh d.2 u) from by
  have bwW : Below w.heap.size w W' := (bw2.trans (b3.mono (by omega))).trans (b.mono (by omega))
  exact ⟨sLo.below bwW, sRo.below bwW, sRu.below bwW⟩))
 have BN := hid (fun (W' : World) (b : Below w3.heap.size w3 W') => (show Bnd W' (Qb W'.heap.size g R) g R B from by
  have hz := b.size
  exact (hB.next (b13.trans (b.mono (by omega))) (fun b9 h9 => by have := h9.1; omega)).mono fun b9 h9 => ⟨by have := h9.1; omega, h9.2.1, h9.2.2⟩))
 have FULL := hid (fun (W' : World) (b : Below w3.heap.size w3 W') (X : Option Addr) (xn xc : Nat) (t : List Int) (hX : RdQ W' (Qb W'.heap.size g R) sI [.slice X xn xc] t) (hxn : xn ≤ 1048576) (hv : ∀ z ∈ t, z < 0 → vr z < 48) => (show Calls Try.prog 63 #[.pointer (some ⟨g, 0, none⟩), .slice X xn xc] W' (AnsList W' (fl L t)) from by
  obtain ⟨K, hK⟩ := rk_bound rk t
  exact l11Full (Qb W'.heap.size g R) g R B d.1 L rk hRes hMid.vb (K + 1) X xn xc t W' (BN.out W' b) (fun b9 h9 => h9.1) hX hxn (fun z hz h0 => ⟨hv z hz h0, by have := hK z hz h0; omega⟩)))
 have hgW : w.heap.size ≤ g ∧ w.heap.size ≤ R := by omega
 have HMG := hid (And.intro hM (show Below w.heap.size w w3 from bw2.trans (b3.mono (by omega))))
 have LAW := hid (fun (W' : World) (b : Below w3.heap.size w3 W') => l11Away NA nn nc' (rh d.2 u) W' ((SG.out W' b).2.2.more (by have := b.size; omega)) hnn (fun x hx => by have := (term_mem tRu hx).1; omega))
 have k0 := (KC.out w3 (Below.refl _ _)).1
 have k1 := (KC.out w3 (Below.refl _ _)).2.2.1
 have k2 := (KC.out w3 (Below.refl _ _)).2.2.2.1
 have E0 : Own (w3.alloc (.cells #[] 2)).drew w3.heap.size (.slice (some ⟨w3.heap.size, 0, none⟩) 0 0) [] := Own.drew (own_empty w3 w3.heap.size (Nat.le_refl _))
 have bE : Below w3.heap.size w3 (w3.alloc (.cells #[] 2)).drew := ((Below.refl _ _).alloc (Nat.le_refl _) _).drew
 have SF := hid (put.Seg.front (SG.out _ bE).1 (show a ≤ ln by omega))
 have HE0 := hid (And.intro E0 bE)
 have i1 : (0 : Int) ≤ (a : Int) := by omega
 have i2 : (a : Int) ≤ (lc : Int) := by omega
 have hal : a ≤ 60 := by omega
 have hnn6 : 1 ≤ nn ∧ nn ≤ 60 := by omega
 clear hA sLo kLo sRo kRo sRu kRu tLo tRo tLu tRu hvo hvu hars ha hun hM hMid hRes hB b1 b2 r2 bw2 b3 b13 lLo lRo2 lRu2 E0 bE lO lRo lRu k10 k11 k12 k13 y0 y1 f0 f1 HM LE
 go_wp2_with fail
 go_region_held3 (fun w' => w'.cell? ⟨w1.heap.size, 0, none⟩ = some (.slice (some ⟨bl, ol, none⟩) ln lc) ∧ w'.cell? ⟨w.heap.size, 1, none⟩ = some (.slice (some ⟨bV, oV, none⟩) q cv) ∧ w'.cell? ⟨bV, oV + u * 2 + 1, none⟩ = some (.slice NA nn nc'))
  (go_keep)
  (first
   | (refine stepAppZ rfl _ _ rfl w3.heap.size (some ⟨w3.heap.size, 0, none⟩) 0 0 [] rfl HE0.out.1 bl ol a lc _ _ rfl SF.out (by omega) (by omega) (by simp) ?_; intro M4 mc4 w4 oM4 hg4 hat4; have b4 : Below w3.heap.size w3 w4 := HE0.out.2.trans ((Below.refl w3.heap.size _).grown hg4 (by simp) (fun k hk => (own_lt HE0.out.1 k hk).1)); have k0 := (KC.out w4 b4).1; have k1 := (KC.out w4 b4).2.2.1; have k2 := (KC.out w4 b4).2.2.2.1)
   | (go_at_call 62; refine (LAW.out w4 b4).mono ?_; rintro e w5 ⟨Y, yn, yc, rfl, oY, b5⟩; have b35 : Below w3.heap.size w3 w5 := next_trans b4 b5; have k0 := (KC.out w5 b35).1; have k1 := (KC.out w5 b35).2.2.1; have k2 := (KC.out w5 b35).2.2.2.1; have hy2 : 1 ≤ yn ∧ yn ≤ 60 := (by have h9 := Own.len oY; rw [shift_len] at h9; have := (SG.out w5 b35).2.2.1; omega); obtain ⟨gy, egy⟩ := drawAny.Own.some_ oY (by omega); cases egy; have oM5 : Own w5 w3.heap.size (.slice M4 a mc4) ((lh d.2 o).take a) := (by simpa using oM4.next b5))
   | (refine stepAppZ rfl _ _ rfl w3.heap.size M4 a mc4 _ rfl oM5 gy 0 yn yc _ _ rfl (Own.seg oY) (by omega) (by omega) b35.size ?_; intro M6 mc6 w6 oM6 hg6 hat6; have b36 : Below w3.heap.size w3 w6 := b35.trans ((Below.refl w3.heap.size _).grown hg6 b35.size (fun k hk => (own_lt oM4 k hk).1)); have k0 := (KC.out w6 b36).1; have k1 := (KC.out w6 b36).2.2.1; have k2 := (KC.out w6 b36).2.2.2.1))
 have RQ := hid (fun (W' : World) (b : Below w3.heap.size w3 W') => (show RdQ W' (Qb W'.heap.size g R) sI [.slice (some ⟨bl, ol, none⟩) ln lc] (lh d.2 o) ∧ RdQ W' (Qb W'.heap.size g R) sI [.slice RA rn rc] (rh d.2 o) from by
  have hz := b.size
  exact ⟨rdq_of (SG.out W' b).1 HD.out.2.2.1 fun b9 h9 => ⟨by omega, by omega, by omega⟩, rdq_of (SG.out W' b).2.1 HD.out.2.2.2.2.1 fun b9 h9 => ⟨by omega, by omega, by omega⟩⟩))
 have hv24 := hid (fun (t : List Int) (ht : termOkB d.1 t = true) => (show ∀ z ∈ t, z < 0 → vr z < 48 from fun z hz h0 => by have := (term_mem ht hz).1; unfold vr; omega))
 have L5 := hid (FULL.out w6 b36 _ ln lc (lh d.2 o) (RQ.out w6 b36).1 hln (hv24.out _ HD.out.2.2.2.2.2.2.2.1))
 have oM6' : Own w6 w3.heap.size (.slice M6 (a + yn) mc6) ((lh d.2 o).take a ++ shiftL 24 (rh d.2 u)) := oM6
 have HM6 := hid (And.intro oM6' b36)
 have k0 := (KC.out w6 b36).1
 have zw6 := b36.size
 clear oM6 oM6' b36 oM5 oM4 oY b5 b35 hg6 hat6 hg4 hat4 b4 k1 k2 SF LAW HE0
 go_wp2_with fail
 refine L5.out.mono ?_
 rintro e w7 ⟨T, tn, tc, rfl, oT, b7⟩
 have b37 : Below w3.heap.size w3 w7 := next_trans HM6.out.2 b7
 have k0 := (KC.out w7 b37).1
 have zw7 := b7.size
 have HT7 := hid (And.intro oT (And.intro (HM6.out.1.next b7) b37))
 have hsub : a + (oS d.1 d.2 o a).length ≤ ln := by
  have h1 := congrArg List.length (drop_sub HD.out.2.2.2.2.2.2.2.1 HD.out.2.2.2.2.2.2.2.2.2.2.2.2.2.2.1)
  rw [List.length_append, List.length_drop] at h1
  have h2 : (subL d.1 (lh d.2 o) a).length = (oS d.1 d.2 o a).length := rfl
  have h3 := HD.out.2.1.1
  have h4 := HD.out.2.2.2.2.2.2.2.2.2.2.2.2.2.2.1
  omega
 obtain ⟨es, hes⟩ : ∃ es, a + (oS d.1 d.2 o a).length = es := ⟨_, rfl⟩
 have ees : (a : Int) + ((oS d.1 d.2 o a).length : Int) = (es : Int) := by omega
 rw [hes] at hsub
 rw [ees]
 have HES := hid hes
 have i3 : (0 : Int) ≤ (es : Int) := by omega
 have i4 : (es : Int) ≤ (ln : Int) := by omega
 have i5 : (ln : Int) ≤ (lc : Int) := by omega
 clear ees hes oT b7 b37 L5
 have hln6 : ln ≤ 60 := by have h1 := (term_len HD.out.2.2.2.2.2.2.2.1).2; have h2 := HD.out.2.1.1; omega
 have hgb := (BN.out w3 (Below.refl _ _)).lt
 have STEP := hid (fun (M8 : Option Addr) (mc8 : Nat) (w8 : World) (oM8 : Own w8 w3.heap.size (.slice M8 (a + yn + (ln - es)) mc8) ((lh d.2 o).take a ++ shiftL 24 (rh d.2 u) ++ (lh d.2 o).drop es)) (hg8 : w7.grownBy w8 (blk M6)) => (show Below w3.heap.size w3 w8 ∧ w7.heap.size ≤ w8.heap.size ∧ Own w8 w6.heap.size (.slice T tn tc) (fl L (lh d.2 o)) ∧ Calls Try.prog 63 #[.pointer (some ⟨g, 0, none⟩), .slice M8 (a + yn + (ln - es)) mc8] w8 (AnsList w8 (fl L (leftA d.1 d.2 o a u))) from by
  obtain ⟨oT, oM7, b37⟩ := HT7.out
  have b38 : Below w3.heap.size w3 w8 := b37.trans ((Below.refl w3.heap.size _).grown hg8 (by omega) (fun k hk => (own_lt HM6.out.1 k hk).1))
  have e8 : (lh d.2 o).take a ++ shiftL 24 (rh d.2 u) ++ (lh d.2 o).drop es = leftA d.1 d.2 o a u := by
   unfold leftA
   rw [HES.out, List.append_assoc]
  rw [e8] at oM8
  refine ⟨b38, hg8.size, Own.kept oT hg8 ?_, FULL.out w8 b38 M8 _ mc8 _ (rdq_own oM8 fun b9 h1 h2 _ => ⟨h2, by omega, by omega⟩) (by omega) fun z hz h0 => ?_⟩
  ·cases hb : blk T with
   | none => exact .inl rfl
   | some k => exact .inr fun e => by have h1 := (own_lt oT k hb).1; have h2 := (own_lt HM6.out.1 k e.symm).2; omega
  ·unfold leftA at hz
   rcases List.mem_append.1 hz with hz | hz
   ·exact hv24.out _ HD.out.2.2.2.2.2.2.2.1 z (List.mem_of_mem_take hz) h0
   ·rcases List.mem_append.1 hz with hz | hz
    ·obtain ⟨y, hy, rfl⟩ := List.mem_map.1 hz
     have h1 := (term_mem HD.out.2.2.2.2.2.2.2.2.2.2.1 hy).1
     unfold sh at h0 ⊢
     unfold vr
     split at h0 <;> simp_all <;> omega
    ·exact hv24.out _ HD.out.2.2.2.2.2.2.2.1 z (List.mem_of_mem_drop hz) h0))
 go_upto_region 6 with fail
 go_cut [16] (fun x wx => ∃ Lf lfn lfc, x = .slice Lf lfn lfc ∧ Own wx w7.heap.size (.slice Lf lfn lfc) (fl L (leftA d.1 d.2 o a u)) ∧ Own wx w6.heap.size (.slice T tn tc) (fl L (lh d.2 o)) ∧ Below w3.heap.size w3 wx ∧ w7.heap.size ≤ wx.heap.size)
 case first =>
  by_cases hce : lc = es
  ·have SG7 := hid (show Seg w7 w7.heap.size (some ⟨bl, ol, none⟩) (ln - es) ((lh d.2 o).drop es) from ⟨by rw [List.length_drop]; have := HD.out.2.1.1; omega, fun h0 => absurd h0 (by omega)⟩)
   go_wp2_with (first
    | (at_builtin; refine appAllZ rfl _ _ rfl w3.heap.size M6 (a + yn) mc6 _ rfl HT7.out.2.1 bl ol (ln - es) 0 w7.heap.size ((lh d.2 o).drop es) rfl SG7.out (by omega) (by omega) (by omega) ?_; intro M8 mc8 w8 oM8 hg8 hat8; have hst := STEP.out M8 mc8 w8 oM8 hg8; have LF := hst.2.2.2)
    | (go_at_call 63; refine LF.mono ?_; rintro e w9 ⟨Lf, lfn, lfc, rfl, oL, b9⟩))
   go_meet
   exact ⟨Lf, lfn, lfc, rfl, Own.lower oL hst.2.1, hst.2.2.1.next b9, next_trans hst.1 b9, Nat.le_trans hst.2.1 b9.size⟩
  ·have SG7 := hid (show Seg w7 w7.heap.size (some ⟨bl, ol + es, none⟩) (ln - es) ((lh d.2 o).drop es) from put.Seg.back ((SG.out w7 HT7.out.2.2).1.more (by omega)) (by omega))
   go_wp2_with (first
    | (at_builtin; refine appAllZ rfl _ _ rfl w3.heap.size M6 (a + yn) mc6 _ rfl HT7.out.2.1 bl (ol + es) (ln - es) (lc - es) w7.heap.size ((lh d.2 o).drop es) rfl SG7.out (by omega) (by omega) (by omega) ?_; intro M8 mc8 w8 oM8 hg8 hat8; have hst := STEP.out M8 mc8 w8 oM8 hg8; have LF := hst.2.2.2)
    | (go_at_call 63; refine LF.mono ?_; rintro e w9 ⟨Lf, lfn, lfc, rfl, oL, b9⟩))
   go_meet
   exact ⟨Lf, lfn, lfc, rfl, Own.lower oL hst.2.1, hst.2.2.1.next b9, next_trans hst.1 b9, Nat.le_trans hst.2.1 b9.size⟩
 case rest =>
  rename World => wx
  obtain ⟨Lf, lfn, lfc, rfl, oL, oT, bx, zx⟩ := hcut
  have k1 := (KC.out wx bx).2.1
  have L7 := hid (FULL.out wx bx RA rn rc (rh d.2 o) (RQ.out wx bx).2 hrn (hv24.out _ HD.out.2.2.2.2.2.2.2.2.1))
  have HX := hid (And.intro oL (And.intro oT bx))
  clear oL oT bx
  go_wp2_with fail
  refine L7.out.mono ?_
  rintro e wy ⟨Rt, rtn, rtc, rfl, oR, by9⟩
  obtain ⟨oL, oT, bx⟩ := HX.out
  have bye : Below w3.heap.size w3 wy := next_trans bx by9
  have zy := by9.size
  have oTy := oT.next by9
  have oLy := oL.next by9
  have lT := Own.len oTy
  have lL := Own.len oLy
  have lR := Own.len oR
  have fT : (fl L (lh d.2 o)).length ≤ 60 := by unfold fl; split <;> simp_all
  have fL : (fl L (leftA d.1 d.2 o a u)).length ≤ 60 := by unfold fl; split <;> simp_all
  have fR : (fl L (rh d.2 o)).length ≤ 60 := by unfold fl; split <;> simp_all
  have L8 := hid (l2Order T tn tc (fl L (lh d.2 o)) wy (Own.seg oTy) (by omega))
  have HM := hid HMG.out.1
  have HSB := hid (show 1 ≤ (fillL L (lh d.2 o)).length ∧ 1 ≤ (fillL L (leftA d.1 d.2 o a u)).length ∧ 1 ≤ (fillL L (rh d.2 o)).length from by
   have hsb := HMG.out.1.uni.1
   refine ⟨((fo_term HD.out.2.2.2.2.2.2.2.1).fill hsb).pos, ?_, ((fo_term HD.out.2.2.2.2.2.2.2.2.1).fill hsb).pos⟩
   rw [fill_left, List.length_append, List.length_append]
   have := ((fo_shift HD.out.2.2.2.2.2.2.2.2.2.2.1).fill hsb).pos
   omega)
  have FN0 := hid (fun (t : List Int) (h1 : 1 ≤ (fillL L t).length) => (show ((fl L t).length = 0 ↔ 60 < (fillL L t).length) ∧ ((fillL L t).length ≤ 60 → fl L t = fillL L t) from by
   unfold fl
   split
   ·exact ⟨⟨fun h => by omega, fun h => by omega⟩, fun _ => rfl⟩
   ·exact ⟨⟨fun _ => by omega, fun _ => rfl⟩, fun h => by omega⟩))
  have PNO := hid (fun (h : ¬ ((fillL L (lh d.2 o)).length ≤ 60 ∧ (fillL L (leftA d.1 d.2 o a u)).length ≤ 60 ∧ (fillL L (rh d.2 o)).length ≤ 60 ∧ (orderL (fillL L (lh d.2 o))).length ≤ 24)) => (show pkO (pk3 (fillL L (lh d.2 o)) (fillL L (leftA d.1 d.2 o a u)) (fillL L (rh d.2 o))) o a u = ([], [], [], 0, 0, 0) ∧ (pk3 (fillL L (lh d.2 o)) (fillL L (leftA d.1 d.2 o a u)) (fillL L (rh d.2 o))).isSome = false from by
   have e : pk3 (fillL L (lh d.2 o)) (fillL L (leftA d.1 d.2 o a u)) (fillL L (rh d.2 o)) = none := by unfold pk3; rw [if_neg h]
   rw [e]
   exact ⟨rfl, rfl⟩))
  have HY := hid (And.intro oTy (And.intro oLy (And.intro oR (And.intro lT (And.intro lL (And.intro lR (And.intro fT (And.intro fL fR))))))))
  clear oL oT bx by9 oTy oLy oR L7 k1 lT lL lR fT fL fR
  go_wp2_with fail
  refine L8.out.mono ?_
  rintro e wz ⟨On, onn, onc, rfl, oO, bz9⟩
  have bz : Below w3.heap.size w3 wz := next_trans bye bz9
  have zz := bz9.size
  have rbz := (KC.out wz bz).2.2.2.2
  have belz : Below w.heap.size w wz := (HMG.out.2).trans (bz.mono (by omega))
  obtain ⟨oTy, oLy, oR, lT, lL, lR, fT, fL, fR⟩ := HY.out
  have lO := Own.len oO
  have fO : (orderL (fl L (lh d.2 o))).length ≤ 60 := Nat.le_trans (order_len9 _) fT
  have htn : tn ≤ 60 := by omega
  have hlf : lfn ≤ 60 := by omega
  have hrt : rtn ≤ 60 := by omega
  have hon : onn ≤ 60 := by omega
  have HZ := hid (And.intro (oTy.next bz9) (And.intro (oLy.next bz9) (And.intro (oR.next bz9) (And.intro lT (And.intro lL (And.intro lR (And.intro oO lO)))))))
  clear oTy oLy oR lT lL lR fT fL fR lO fO oO bz9 L8 bye
  by_cases ht0 : tn = 0
  ·have e1 : ((tn : Int) == 0) = true := by simp [ht0]
   have hno := hid (PNO.out fun h => by have h1 := (FN0.out _ HSB.out.1).1.1 (by have := HZ.out.2.2.2.1; omega); omega)
   clear ht0
   have y0 : wz.cell? ⟨w.heap.size + 1, 0, none⟩ = some (.slice none 0 0) := rbz.cell 0
   have g0 := rbz.free 0
   have rr0 := rbz.put 0 (.slice none 0 0)
   have y1 : (wz.setCell ⟨w.heap.size + 1, 0, none⟩ (.slice none 0 0)).cell? ⟨w.heap.size + 1, 1, none⟩ = some (.slice none 0 0) := rr0.cell 1
   have g1 := rr0.free 1
   have rr1 := rr0.put 1 (.slice none 0 0)
   have y2 : ((wz.setCell ⟨w.heap.size + 1, 0, none⟩ (.slice none 0 0)).setCell ⟨w.heap.size + 1, 1, none⟩ (.slice none 0 0)).cell? ⟨w.heap.size + 1, 2, none⟩ = some (.slice none 0 0) := rr1.cell 2
   have g2 := rr1.free 2
   have rr2 := rr1.put 2 (.slice none 0 0)
   have y3 : (((wz.setCell ⟨w.heap.size + 1, 0, none⟩ (.slice none 0 0)).setCell ⟨w.heap.size + 1, 1, none⟩ (.slice none 0 0)).setCell ⟨w.heap.size + 1, 2, none⟩ (.slice none 0 0)).cell? ⟨w.heap.size + 1, 3, none⟩ = some (.int .i64 0) := rr2.cell 3
   have g3 := rr2.free 3
   have rr3 := rr2.put 3 (.int .i64 0)
   have y4 : ((((wz.setCell ⟨w.heap.size + 1, 0, none⟩ (.slice none 0 0)).setCell ⟨w.heap.size + 1, 1, none⟩ (.slice none 0 0)).setCell ⟨w.heap.size + 1, 2, none⟩ (.slice none 0 0)).setCell ⟨w.heap.size + 1, 3, none⟩ (.int .i64 0)).cell? ⟨w.heap.size + 1, 4, none⟩ = some (.int .i64 0) := rr3.cell 4
   have g4 := rr3.free 4
   have rr4 := rr3.put 4 (.int .i64 0)
   have y5 : (((((wz.setCell ⟨w.heap.size + 1, 0, none⟩ (.slice none 0 0)).setCell ⟨w.heap.size + 1, 1, none⟩ (.slice none 0 0)).setCell ⟨w.heap.size + 1, 2, none⟩ (.slice none 0 0)).setCell ⟨w.heap.size + 1, 3, none⟩ (.int .i64 0)).setCell ⟨w.heap.size + 1, 4, none⟩ (.int .i64 0)).cell? ⟨w.heap.size + 1, 5, none⟩ = some (.int .i64 0) := rr4.cell 5
   have g5 := rr4.free 5
   have rr5 := rr4.put 5 (.int .i64 0)
   have u0 : ((((((wz.setCell ⟨w.heap.size + 1, 0, none⟩ (.slice none 0 0)).setCell ⟨w.heap.size + 1, 1, none⟩ (.slice none 0 0)).setCell ⟨w.heap.size + 1, 2, none⟩ (.slice none 0 0)).setCell ⟨w.heap.size + 1, 3, none⟩ (.int .i64 0)).setCell ⟨w.heap.size + 1, 4, none⟩ (.int .i64 0)).setCell ⟨w.heap.size + 1, 5, none⟩ (.int .i64 0)).cell? ⟨w.heap.size + 1, 0, none⟩ = some (.slice none 0 0) := rr5.cell 0
   have u1 : ((((((wz.setCell ⟨w.heap.size + 1, 0, none⟩ (.slice none 0 0)).setCell ⟨w.heap.size + 1, 1, none⟩ (.slice none 0 0)).setCell ⟨w.heap.size + 1, 2, none⟩ (.slice none 0 0)).setCell ⟨w.heap.size + 1, 3, none⟩ (.int .i64 0)).setCell ⟨w.heap.size + 1, 4, none⟩ (.int .i64 0)).setCell ⟨w.heap.size + 1, 5, none⟩ (.int .i64 0)).cell? ⟨w.heap.size + 1, 1, none⟩ = some (.slice none 0 0) := rr5.cell 1
   have u2 : ((((((wz.setCell ⟨w.heap.size + 1, 0, none⟩ (.slice none 0 0)).setCell ⟨w.heap.size + 1, 1, none⟩ (.slice none 0 0)).setCell ⟨w.heap.size + 1, 2, none⟩ (.slice none 0 0)).setCell ⟨w.heap.size + 1, 3, none⟩ (.int .i64 0)).setCell ⟨w.heap.size + 1, 4, none⟩ (.int .i64 0)).setCell ⟨w.heap.size + 1, 5, none⟩ (.int .i64 0)).cell? ⟨w.heap.size + 1, 2, none⟩ = some (.slice none 0 0) := rr5.cell 2
   have u3 : ((((((wz.setCell ⟨w.heap.size + 1, 0, none⟩ (.slice none 0 0)).setCell ⟨w.heap.size + 1, 1, none⟩ (.slice none 0 0)).setCell ⟨w.heap.size + 1, 2, none⟩ (.slice none 0 0)).setCell ⟨w.heap.size + 1, 3, none⟩ (.int .i64 0)).setCell ⟨w.heap.size + 1, 4, none⟩ (.int .i64 0)).setCell ⟨w.heap.size + 1, 5, none⟩ (.int .i64 0)).cell? ⟨w.heap.size + 1, 3, none⟩ = some (.int .i64 0) := rr5.cell 3
   have u4 : ((((((wz.setCell ⟨w.heap.size + 1, 0, none⟩ (.slice none 0 0)).setCell ⟨w.heap.size + 1, 1, none⟩ (.slice none 0 0)).setCell ⟨w.heap.size + 1, 2, none⟩ (.slice none 0 0)).setCell ⟨w.heap.size + 1, 3, none⟩ (.int .i64 0)).setCell ⟨w.heap.size + 1, 4, none⟩ (.int .i64 0)).setCell ⟨w.heap.size + 1, 5, none⟩ (.int .i64 0)).cell? ⟨w.heap.size + 1, 4, none⟩ = some (.int .i64 0) := rr5.cell 4
   have u5 : ((((((wz.setCell ⟨w.heap.size + 1, 0, none⟩ (.slice none 0 0)).setCell ⟨w.heap.size + 1, 1, none⟩ (.slice none 0 0)).setCell ⟨w.heap.size + 1, 2, none⟩ (.slice none 0 0)).setCell ⟨w.heap.size + 1, 3, none⟩ (.int .i64 0)).setCell ⟨w.heap.size + 1, 4, none⟩ (.int .i64 0)).setCell ⟨w.heap.size + 1, 5, none⟩ (.int .i64 0)).cell? ⟨w.heap.size + 1, 5, none⟩ = some (.int .i64 0) := rr5.cell 5
   have FZ : AnsPs w d.1 d.2 o a u (.returned (.tuple #[.agg #[.slice none 0 0, .slice none 0 0, .slice none 0 0, .int .i64 0, .int .i64 0, .int .i64 0], .bool false])) ((((((wz.setCell ⟨w.heap.size + 1, 0, none⟩ (.slice none 0 0)).setCell ⟨w.heap.size + 1, 1, none⟩ (.slice none 0 0)).setCell ⟨w.heap.size + 1, 2, none⟩ (.slice none 0 0)).setCell ⟨w.heap.size + 1, 3, none⟩ (.int .i64 0)).setCell ⟨w.heap.size + 1, 4, none⟩ (.int .i64 0)).setCell ⟨w.heap.size + 1, 5, none⟩ (.int .i64 0)) := ⟨L, HM.out, ansPk_no hno.out (Below.setCell (Below.setCell (Below.setCell (Below.setCell (Below.setCell (Below.setCell belz (show w.heap.size ≤ w.heap.size + 1 by omega) _) (show w.heap.size ≤ w.heap.size + 1 by omega) _) (show w.heap.size ≤ w.heap.size + 1 by omega) _) (show w.heap.size ≤ w.heap.size + 1 by omega) _) (show w.heap.size ≤ w.heap.size + 1 by omega) _) (show w.heap.size ≤ w.heap.size + 1 by omega) _)⟩
   have HFZ := hid FZ
   clear FZ rr0 rr1 rr2 rr3 rr4 rr5 rbz belz
   go_wp2
   exact bodyPost_ret (v := .tuple #[.agg #[.slice none 0 0, .slice none 0 0, .slice none 0 0, .int .i64 0, .int .i64 0, .int .i64 0], .bool false]) (by simp [results, Try.results42, go_sem, u0, u1, u2, u3, u4, u5]) rfl HFZ.out
  ·have e1 : ((tn : Int) == 0) = false := by simp [ht0]
   by_cases hl0 : lfn = 0
   ·have e2 : ((lfn : Int) == 0) = true := by simp [hl0]
    have hno := hid (PNO.out fun h => by have h1 := (FN0.out _ HSB.out.2.1).1.1 (by have := HZ.out.2.2.2.2.1; omega); omega)
    clear ht0 hl0
    have y0 : wz.cell? ⟨w.heap.size + 1, 0, none⟩ = some (.slice none 0 0) := rbz.cell 0
    have g0 := rbz.free 0
    have rr0 := rbz.put 0 (.slice none 0 0)
    have y1 : (wz.setCell ⟨w.heap.size + 1, 0, none⟩ (.slice none 0 0)).cell? ⟨w.heap.size + 1, 1, none⟩ = some (.slice none 0 0) := rr0.cell 1
    have g1 := rr0.free 1
    have rr1 := rr0.put 1 (.slice none 0 0)
    have y2 : ((wz.setCell ⟨w.heap.size + 1, 0, none⟩ (.slice none 0 0)).setCell ⟨w.heap.size + 1, 1, none⟩ (.slice none 0 0)).cell? ⟨w.heap.size + 1, 2, none⟩ = some (.slice none 0 0) := rr1.cell 2
    have g2 := rr1.free 2
    have rr2 := rr1.put 2 (.slice none 0 0)
    have y3 : (((wz.setCell ⟨w.heap.size + 1, 0, none⟩ (.slice none 0 0)).setCell ⟨w.heap.size + 1, 1, none⟩ (.slice none 0 0)).setCell ⟨w.heap.size + 1, 2, none⟩ (.slice none 0 0)).cell? ⟨w.heap.size + 1, 3, none⟩ = some (.int .i64 0) := rr2.cell 3
    have g3 := rr2.free 3
    have rr3 := rr2.put 3 (.int .i64 0)
    have y4 : ((((wz.setCell ⟨w.heap.size + 1, 0, none⟩ (.slice none 0 0)).setCell ⟨w.heap.size + 1, 1, none⟩ (.slice none 0 0)).setCell ⟨w.heap.size + 1, 2, none⟩ (.slice none 0 0)).setCell ⟨w.heap.size + 1, 3, none⟩ (.int .i64 0)).cell? ⟨w.heap.size + 1, 4, none⟩ = some (.int .i64 0) := rr3.cell 4
    have g4 := rr3.free 4
    have rr4 := rr3.put 4 (.int .i64 0)
    have y5 : (((((wz.setCell ⟨w.heap.size + 1, 0, none⟩ (.slice none 0 0)).setCell ⟨w.heap.size + 1, 1, none⟩ (.slice none 0 0)).setCell ⟨w.heap.size + 1, 2, none⟩ (.slice none 0 0)).setCell ⟨w.heap.size + 1, 3, none⟩ (.int .i64 0)).setCell ⟨w.heap.size + 1, 4, none⟩ (.int .i64 0)).cell? ⟨w.heap.size + 1, 5, none⟩ = some (.int .i64 0) := rr4.cell 5
    have g5 := rr4.free 5
    have rr5 := rr4.put 5 (.int .i64 0)
    have u0 : ((((((wz.setCell ⟨w.heap.size + 1, 0, none⟩ (.slice none 0 0)).setCell ⟨w.heap.size + 1, 1, none⟩ (.slice none 0 0)).setCell ⟨w.heap.size + 1, 2, none⟩ (.slice none 0 0)).setCell ⟨w.heap.size + 1, 3, none⟩ (.int .i64 0)).setCell ⟨w.heap.size + 1, 4, none⟩ (.int .i64 0)).setCell ⟨w.heap.size + 1, 5, none⟩ (.int .i64 0)).cell? ⟨w.heap.size + 1, 0, none⟩ = some (.slice none 0 0) := rr5.cell 0
    have u1 : ((((((wz.setCell ⟨w.heap.size + 1, 0, none⟩ (.slice none 0 0)).setCell ⟨w.heap.size + 1, 1, none⟩ (.slice none 0 0)).setCell ⟨w.heap.size + 1, 2, none⟩ (.slice none 0 0)).setCell ⟨w.heap.size + 1, 3, none⟩ (.int .i64 0)).setCell ⟨w.heap.size + 1, 4, none⟩ (.int .i64 0)).setCell ⟨w.heap.size + 1, 5, none⟩ (.int .i64 0)).cell? ⟨w.heap.size + 1, 1, none⟩ = some (.slice none 0 0) := rr5.cell 1
    have u2 : ((((((wz.setCell ⟨w.heap.size + 1, 0, none⟩ (.slice none 0 0)).setCell ⟨w.heap.size + 1, 1, none⟩ (.slice none 0 0)).setCell ⟨w.heap.size + 1, 2, none⟩ (.slice none 0 0)).setCell ⟨w.heap.size + 1, 3, none⟩ (.int .i64 0)).setCell ⟨w.heap.size + 1, 4, none⟩ (.int .i64 0)).setCell ⟨w.heap.size + 1, 5, none⟩ (.int .i64 0)).cell? ⟨w.heap.size + 1, 2, none⟩ = some (.slice none 0 0) := rr5.cell 2
    have u3 : ((((((wz.setCell ⟨w.heap.size + 1, 0, none⟩ (.slice none 0 0)).setCell ⟨w.heap.size + 1, 1, none⟩ (.slice none 0 0)).setCell ⟨w.heap.size + 1, 2, none⟩ (.slice none 0 0)).setCell ⟨w.heap.size + 1, 3, none⟩ (.int .i64 0)).setCell ⟨w.heap.size + 1, 4, none⟩ (.int .i64 0)).setCell ⟨w.heap.size + 1, 5, none⟩ (.int .i64 0)).cell? ⟨w.heap.size + 1, 3, none⟩ = some (.int .i64 0) := rr5.cell 3
    have u4 : ((((((wz.setCell ⟨w.heap.size + 1, 0, none⟩ (.slice none 0 0)).setCell ⟨w.heap.size + 1, 1, none⟩ (.slice none 0 0)).setCell ⟨w.heap.size + 1, 2, none⟩ (.slice none 0 0)).setCell ⟨w.heap.size + 1, 3, none⟩ (.int .i64 0)).setCell ⟨w.heap.size + 1, 4, none⟩ (.int .i64 0)).setCell ⟨w.heap.size + 1, 5, none⟩ (.int .i64 0)).cell? ⟨w.heap.size + 1, 4, none⟩ = some (.int .i64 0) := rr5.cell 4
    have u5 : ((((((wz.setCell ⟨w.heap.size + 1, 0, none⟩ (.slice none 0 0)).setCell ⟨w.heap.size + 1, 1, none⟩ (.slice none 0 0)).setCell ⟨w.heap.size + 1, 2, none⟩ (.slice none 0 0)).setCell ⟨w.heap.size + 1, 3, none⟩ (.int .i64 0)).setCell ⟨w.heap.size + 1, 4, none⟩ (.int .i64 0)).setCell ⟨w.heap.size + 1, 5, none⟩ (.int .i64 0)).cell? ⟨w.heap.size + 1, 5, none⟩ = some (.int .i64 0) := rr5.cell 5
    have FZ : AnsPs w d.1 d.2 o a u (.returned (.tuple #[.agg #[.slice none 0 0, .slice none 0 0, .slice none 0 0, .int .i64 0, .int .i64 0, .int .i64 0], .bool false])) ((((((wz.setCell ⟨w.heap.size + 1, 0, none⟩ (.slice none 0 0)).setCell ⟨w.heap.size + 1, 1, none⟩ (.slice none 0 0)).setCell ⟨w.heap.size + 1, 2, none⟩ (.slice none 0 0)).setCell ⟨w.heap.size + 1, 3, none⟩ (.int .i64 0)).setCell ⟨w.heap.size + 1, 4, none⟩ (.int .i64 0)).setCell ⟨w.heap.size + 1, 5, none⟩ (.int .i64 0)) := ⟨L, HM.out, ansPk_no hno.out (Below.setCell (Below.setCell (Below.setCell (Below.setCell (Below.setCell (Below.setCell belz (show w.heap.size ≤ w.heap.size + 1 by omega) _) (show w.heap.size ≤ w.heap.size + 1 by omega) _) (show w.heap.size ≤ w.heap.size + 1 by omega) _) (show w.heap.size ≤ w.heap.size + 1 by omega) _) (show w.heap.size ≤ w.heap.size + 1 by omega) _) (show w.heap.size ≤ w.heap.size + 1 by omega) _)⟩
    have HFZ := hid FZ
    clear FZ rr0 rr1 rr2 rr3 rr4 rr5 rbz belz
    go_wp2
    exact bodyPost_ret (v := .tuple #[.agg #[.slice none 0 0, .slice none 0 0, .slice none 0 0, .int .i64 0, .int .i64 0, .int .i64 0], .bool false]) (by simp [results, Try.results42, go_sem, u0, u1, u2, u3, u4, u5]) rfl HFZ.out
   ·have e2 : ((lfn : Int) == 0) = false := by simp [hl0]
    by_cases hr0 : rtn = 0
    ·have e3 : ((rtn : Int) == 0) = true := by simp [hr0]
     have hno := hid (PNO.out fun h => by have h1 := (FN0.out _ HSB.out.2.2).1.1 (by have := HZ.out.2.2.2.2.2.1; omega); omega)
     clear ht0 hl0 hr0
     have y0 : wz.cell? ⟨w.heap.size + 1, 0, none⟩ = some (.slice none 0 0) := rbz.cell 0
     have g0 := rbz.free 0
     have rr0 := rbz.put 0 (.slice none 0 0)
     have y1 : (wz.setCell ⟨w.heap.size + 1, 0, none⟩ (.slice none 0 0)).cell? ⟨w.heap.size + 1, 1, none⟩ = some (.slice none 0 0) := rr0.cell 1
     have g1 := rr0.free 1
     have rr1 := rr0.put 1 (.slice none 0 0)
     have y2 : ((wz.setCell ⟨w.heap.size + 1, 0, none⟩ (.slice none 0 0)).setCell ⟨w.heap.size + 1, 1, none⟩ (.slice none 0 0)).cell? ⟨w.heap.size + 1, 2, none⟩ = some (.slice none 0 0) := rr1.cell 2
     have g2 := rr1.free 2
     have rr2 := rr1.put 2 (.slice none 0 0)
     have y3 : (((wz.setCell ⟨w.heap.size + 1, 0, none⟩ (.slice none 0 0)).setCell ⟨w.heap.size + 1, 1, none⟩ (.slice none 0 0)).setCell ⟨w.heap.size + 1, 2, none⟩ (.slice none 0 0)).cell? ⟨w.heap.size + 1, 3, none⟩ = some (.int .i64 0) := rr2.cell 3
     have g3 := rr2.free 3
     have rr3 := rr2.put 3 (.int .i64 0)
     have y4 : ((((wz.setCell ⟨w.heap.size + 1, 0, none⟩ (.slice none 0 0)).setCell ⟨w.heap.size + 1, 1, none⟩ (.slice none 0 0)).setCell ⟨w.heap.size + 1, 2, none⟩ (.slice none 0 0)).setCell ⟨w.heap.size + 1, 3, none⟩ (.int .i64 0)).cell? ⟨w.heap.size + 1, 4, none⟩ = some (.int .i64 0) := rr3.cell 4
     have g4 := rr3.free 4
     have rr4 := rr3.put 4 (.int .i64 0)
     have y5 : (((((wz.setCell ⟨w.heap.size + 1, 0, none⟩ (.slice none 0 0)).setCell ⟨w.heap.size + 1, 1, none⟩ (.slice none 0 0)).setCell ⟨w.heap.size + 1, 2, none⟩ (.slice none 0 0)).setCell ⟨w.heap.size + 1, 3, none⟩ (.int .i64 0)).setCell ⟨w.heap.size + 1, 4, none⟩ (.int .i64 0)).cell? ⟨w.heap.size + 1, 5, none⟩ = some (.int .i64 0) := rr4.cell 5
     have g5 := rr4.free 5
     have rr5 := rr4.put 5 (.int .i64 0)
     have u0 : ((((((wz.setCell ⟨w.heap.size + 1, 0, none⟩ (.slice none 0 0)).setCell ⟨w.heap.size + 1, 1, none⟩ (.slice none 0 0)).setCell ⟨w.heap.size + 1, 2, none⟩ (.slice none 0 0)).setCell ⟨w.heap.size + 1, 3, none⟩ (.int .i64 0)).setCell ⟨w.heap.size + 1, 4, none⟩ (.int .i64 0)).setCell ⟨w.heap.size + 1, 5, none⟩ (.int .i64 0)).cell? ⟨w.heap.size + 1, 0, none⟩ = some (.slice none 0 0) := rr5.cell 0
     have u1 : ((((((wz.setCell ⟨w.heap.size + 1, 0, none⟩ (.slice none 0 0)).setCell ⟨w.heap.size + 1, 1, none⟩ (.slice none 0 0)).setCell ⟨w.heap.size + 1, 2, none⟩ (.slice none 0 0)).setCell ⟨w.heap.size + 1, 3, none⟩ (.int .i64 0)).setCell ⟨w.heap.size + 1, 4, none⟩ (.int .i64 0)).setCell ⟨w.heap.size + 1, 5, none⟩ (.int .i64 0)).cell? ⟨w.heap.size + 1, 1, none⟩ = some (.slice none 0 0) := rr5.cell 1
     have u2 : ((((((wz.setCell ⟨w.heap.size + 1, 0, none⟩ (.slice none 0 0)).setCell ⟨w.heap.size + 1, 1, none⟩ (.slice none 0 0)).setCell ⟨w.heap.size + 1, 2, none⟩ (.slice none 0 0)).setCell ⟨w.heap.size + 1, 3, none⟩ (.int .i64 0)).setCell ⟨w.heap.size + 1, 4, none⟩ (.int .i64 0)).setCell ⟨w.heap.size + 1, 5, none⟩ (.int .i64 0)).cell? ⟨w.heap.size + 1, 2, none⟩ = some (.slice none 0 0) := rr5.cell 2
     have u3 : ((((((wz.setCell ⟨w.heap.size + 1, 0, none⟩ (.slice none 0 0)).setCell ⟨w.heap.size + 1, 1, none⟩ (.slice none 0 0)).setCell ⟨w.heap.size + 1, 2, none⟩ (.slice none 0 0)).setCell ⟨w.heap.size + 1, 3, none⟩ (.int .i64 0)).setCell ⟨w.heap.size + 1, 4, none⟩ (.int .i64 0)).setCell ⟨w.heap.size + 1, 5, none⟩ (.int .i64 0)).cell? ⟨w.heap.size + 1, 3, none⟩ = some (.int .i64 0) := rr5.cell 3
     have u4 : ((((((wz.setCell ⟨w.heap.size + 1, 0, none⟩ (.slice none 0 0)).setCell ⟨w.heap.size + 1, 1, none⟩ (.slice none 0 0)).setCell ⟨w.heap.size + 1, 2, none⟩ (.slice none 0 0)).setCell ⟨w.heap.size + 1, 3, none⟩ (.int .i64 0)).setCell ⟨w.heap.size + 1, 4, none⟩ (.int .i64 0)).setCell ⟨w.heap.size + 1, 5, none⟩ (.int .i64 0)).cell? ⟨w.heap.size + 1, 4, none⟩ = some (.int .i64 0) := rr5.cell 4
     have u5 : ((((((wz.setCell ⟨w.heap.size + 1, 0, none⟩ (.slice none 0 0)).setCell ⟨w.heap.size + 1, 1, none⟩ (.slice none 0 0)).setCell ⟨w.heap.size + 1, 2, none⟩ (.slice none 0 0)).setCell ⟨w.heap.size + 1, 3, none⟩ (.int .i64 0)).setCell ⟨w.heap.size + 1, 4, none⟩ (.int .i64 0)).setCell ⟨w.heap.size + 1, 5, none⟩ (.int .i64 0)).cell? ⟨w.heap.size + 1, 5, none⟩ = some (.int .i64 0) := rr5.cell 5
     have FZ : AnsPs w d.1 d.2 o a u (.returned (.tuple #[.agg #[.slice none 0 0, .slice none 0 0, .slice none 0 0, .int .i64 0, .int .i64 0, .int .i64 0], .bool false])) ((((((wz.setCell ⟨w.heap.size + 1, 0, none⟩ (.slice none 0 0)).setCell ⟨w.heap.size + 1, 1, none⟩ (.slice none 0 0)).setCell ⟨w.heap.size + 1, 2, none⟩ (.slice none 0 0)).setCell ⟨w.heap.size + 1, 3, none⟩ (.int .i64 0)).setCell ⟨w.heap.size + 1, 4, none⟩ (.int .i64 0)).setCell ⟨w.heap.size + 1, 5, none⟩ (.int .i64 0)) := ⟨L, HM.out, ansPk_no hno.out (Below.setCell (Below.setCell (Below.setCell (Below.setCell (Below.setCell (Below.setCell belz (show w.heap.size ≤ w.heap.size + 1 by omega) _) (show w.heap.size ≤ w.heap.size + 1 by omega) _) (show w.heap.size ≤ w.heap.size + 1 by omega) _) (show w.heap.size ≤ w.heap.size + 1 by omega) _) (show w.heap.size ≤ w.heap.size + 1 by omega) _) (show w.heap.size ≤ w.heap.size + 1 by omega) _)⟩
     have HFZ := hid FZ
     clear FZ rr0 rr1 rr2 rr3 rr4 rr5 rbz belz
     go_wp2
     exact bodyPost_ret (v := .tuple #[.agg #[.slice none 0 0, .slice none 0 0, .slice none 0 0, .int .i64 0, .int .i64 0, .int .i64 0], .bool false]) (by simp [results, Try.results42, go_sem, u0, u1, u2, u3, u4, u5]) rfl HFZ.out
    ·have e3 : ((rtn : Int) == 0) = false := by simp [hr0]
     have t60 : (fillL L (lh d.2 o)).length ≤ 60 := Nat.le_of_not_lt fun h => ht0 (by have h1 := (FN0.out _ HSB.out.1).1.2 h; have := HZ.out.2.2.2.1; omega)
     have l60 : (fillL L (leftA d.1 d.2 o a u)).length ≤ 60 := Nat.le_of_not_lt fun h => hl0 (by have h1 := (FN0.out _ HSB.out.2.1).1.2 h; have := HZ.out.2.2.2.2.1; omega)
     have r60 : (fillL L (rh d.2 o)).length ≤ 60 := Nat.le_of_not_lt fun h => hr0 (by have h1 := (FN0.out _ HSB.out.2.2).1.2 h; have := HZ.out.2.2.2.2.2.1; omega)
     have eT := (FN0.out _ HSB.out.1).2 t60
     have eL := (FN0.out _ HSB.out.2.1).2 l60
     have eR := (FN0.out _ HSB.out.2.2).2 r60
     have lO := HZ.out.2.2.2.2.2.2.2
     rw [eT] at lO
     by_cases ho24 : 24 < onn
     ·have e4 : (24 : Int) < (onn : Int) := by omega
      have hno := hid (PNO.out fun h => by omega)
      clear ht0 hl0 hr0 t60 l60 r60 eT eL eR lO ho24
      have y0 : wz.cell? ⟨w.heap.size + 1, 0, none⟩ = some (.slice none 0 0) := rbz.cell 0
      have g0 := rbz.free 0
      have rr0 := rbz.put 0 (.slice none 0 0)
      have y1 : (wz.setCell ⟨w.heap.size + 1, 0, none⟩ (.slice none 0 0)).cell? ⟨w.heap.size + 1, 1, none⟩ = some (.slice none 0 0) := rr0.cell 1
      have g1 := rr0.free 1
      have rr1 := rr0.put 1 (.slice none 0 0)
      have y2 : ((wz.setCell ⟨w.heap.size + 1, 0, none⟩ (.slice none 0 0)).setCell ⟨w.heap.size + 1, 1, none⟩ (.slice none 0 0)).cell? ⟨w.heap.size + 1, 2, none⟩ = some (.slice none 0 0) := rr1.cell 2
      have g2 := rr1.free 2
      have rr2 := rr1.put 2 (.slice none 0 0)
      have y3 : (((wz.setCell ⟨w.heap.size + 1, 0, none⟩ (.slice none 0 0)).setCell ⟨w.heap.size + 1, 1, none⟩ (.slice none 0 0)).setCell ⟨w.heap.size + 1, 2, none⟩ (.slice none 0 0)).cell? ⟨w.heap.size + 1, 3, none⟩ = some (.int .i64 0) := rr2.cell 3
      have g3 := rr2.free 3
      have rr3 := rr2.put 3 (.int .i64 0)
      have y4 : ((((wz.setCell ⟨w.heap.size + 1, 0, none⟩ (.slice none 0 0)).setCell ⟨w.heap.size + 1, 1, none⟩ (.slice none 0 0)).setCell ⟨w.heap.size + 1, 2, none⟩ (.slice none 0 0)).setCell ⟨w.heap.size + 1, 3, none⟩ (.int .i64 0)).cell? ⟨w.heap.size + 1, 4, none⟩ = some (.int .i64 0) := rr3.cell 4
      have g4 := rr3.free 4
      have rr4 := rr3.put 4 (.int .i64 0)
      have y5 : (((((wz.setCell ⟨w.heap.size + 1, 0, none⟩ (.slice none 0 0)).setCell ⟨w.heap.size + 1, 1, none⟩ (.slice none 0 0)).setCell ⟨w.heap.size + 1, 2, none⟩ (.slice none 0 0)).setCell ⟨w.heap.size + 1, 3, none⟩ (.int .i64 0)).setCell ⟨w.heap.size + 1, 4, none⟩ (.int .i64 0)).cell? ⟨w.heap.size + 1, 5, none⟩ = some (.int .i64 0) := rr4.cell 5
      have g5 := rr4.free 5
      have rr5 := rr4.put 5 (.int .i64 0)
      have u0 : ((((((wz.setCell ⟨w.heap.size + 1, 0, none⟩ (.slice none 0 0)).setCell ⟨w.heap.size + 1, 1, none⟩ (.slice none 0 0)).setCell ⟨w.heap.size + 1, 2, none⟩ (.slice none 0 0)).setCell ⟨w.heap.size + 1, 3, none⟩ (.int .i64 0)).setCell ⟨w.heap.size + 1, 4, none⟩ (.int .i64 0)).setCell ⟨w.heap.size + 1, 5, none⟩ (.int .i64 0)).cell? ⟨w.heap.size + 1, 0, none⟩ = some (.slice none 0 0) := rr5.cell 0
      have u1 : ((((((wz.setCell ⟨w.heap.size + 1, 0, none⟩ (.slice none 0 0)).setCell ⟨w.heap.size + 1, 1, none⟩ (.slice none 0 0)).setCell ⟨w.heap.size + 1, 2, none⟩ (.slice none 0 0)).setCell ⟨w.heap.size + 1, 3, none⟩ (.int .i64 0)).setCell ⟨w.heap.size + 1, 4, none⟩ (.int .i64 0)).setCell ⟨w.heap.size + 1, 5, none⟩ (.int .i64 0)).cell? ⟨w.heap.size + 1, 1, none⟩ = some (.slice none 0 0) := rr5.cell 1
      have u2 : ((((((wz.setCell ⟨w.heap.size + 1, 0, none⟩ (.slice none 0 0)).setCell ⟨w.heap.size + 1, 1, none⟩ (.slice none 0 0)).setCell ⟨w.heap.size + 1, 2, none⟩ (.slice none 0 0)).setCell ⟨w.heap.size + 1, 3, none⟩ (.int .i64 0)).setCell ⟨w.heap.size + 1, 4, none⟩ (.int .i64 0)).setCell ⟨w.heap.size + 1, 5, none⟩ (.int .i64 0)).cell? ⟨w.heap.size + 1, 2, none⟩ = some (.slice none 0 0) := rr5.cell 2
      have u3 : ((((((wz.setCell ⟨w.heap.size + 1, 0, none⟩ (.slice none 0 0)).setCell ⟨w.heap.size + 1, 1, none⟩ (.slice none 0 0)).setCell ⟨w.heap.size + 1, 2, none⟩ (.slice none 0 0)).setCell ⟨w.heap.size + 1, 3, none⟩ (.int .i64 0)).setCell ⟨w.heap.size + 1, 4, none⟩ (.int .i64 0)).setCell ⟨w.heap.size + 1, 5, none⟩ (.int .i64 0)).cell? ⟨w.heap.size + 1, 3, none⟩ = some (.int .i64 0) := rr5.cell 3
      have u4 : ((((((wz.setCell ⟨w.heap.size + 1, 0, none⟩ (.slice none 0 0)).setCell ⟨w.heap.size + 1, 1, none⟩ (.slice none 0 0)).setCell ⟨w.heap.size + 1, 2, none⟩ (.slice none 0 0)).setCell ⟨w.heap.size + 1, 3, none⟩ (.int .i64 0)).setCell ⟨w.heap.size + 1, 4, none⟩ (.int .i64 0)).setCell ⟨w.heap.size + 1, 5, none⟩ (.int .i64 0)).cell? ⟨w.heap.size + 1, 4, none⟩ = some (.int .i64 0) := rr5.cell 4
      have u5 : ((((((wz.setCell ⟨w.heap.size + 1, 0, none⟩ (.slice none 0 0)).setCell ⟨w.heap.size + 1, 1, none⟩ (.slice none 0 0)).setCell ⟨w.heap.size + 1, 2, none⟩ (.slice none 0 0)).setCell ⟨w.heap.size + 1, 3, none⟩ (.int .i64 0)).setCell ⟨w.heap.size + 1, 4, none⟩ (.int .i64 0)).setCell ⟨w.heap.size + 1, 5, none⟩ (.int .i64 0)).cell? ⟨w.heap.size + 1, 5, none⟩ = some (.int .i64 0) := rr5.cell 5
      have FZ : AnsPs w d.1 d.2 o a u (.returned (.tuple #[.agg #[.slice none 0 0, .slice none 0 0, .slice none 0 0, .int .i64 0, .int .i64 0, .int .i64 0], .bool false])) ((((((wz.setCell ⟨w.heap.size + 1, 0, none⟩ (.slice none 0 0)).setCell ⟨w.heap.size + 1, 1, none⟩ (.slice none 0 0)).setCell ⟨w.heap.size + 1, 2, none⟩ (.slice none 0 0)).setCell ⟨w.heap.size + 1, 3, none⟩ (.int .i64 0)).setCell ⟨w.heap.size + 1, 4, none⟩ (.int .i64 0)).setCell ⟨w.heap.size + 1, 5, none⟩ (.int .i64 0)) := ⟨L, HM.out, ansPk_no hno.out (Below.setCell (Below.setCell (Below.setCell (Below.setCell (Below.setCell (Below.setCell belz (show w.heap.size ≤ w.heap.size + 1 by omega) _) (show w.heap.size ≤ w.heap.size + 1 by omega) _) (show w.heap.size ≤ w.heap.size + 1 by omega) _) (show w.heap.size ≤ w.heap.size + 1 by omega) _) (show w.heap.size ≤ w.heap.size + 1 by omega) _) (show w.heap.size ≤ w.heap.size + 1 by omega) _)⟩
      have HFZ := hid FZ
      clear FZ rr0 rr1 rr2 rr3 rr4 rr5 rbz belz
      go_wp2
      exact bodyPost_ret (v := .tuple #[.agg #[.slice none 0 0, .slice none 0 0, .slice none 0 0, .int .i64 0, .int .i64 0, .int .i64 0], .bool false]) (by simp [results, Try.results42, go_sem, u0, u1, u2, u3, u4, u5]) rfl HFZ.out
     ·have e4 : ¬ (24 : Int) < (onn : Int) := by omega
      obtain ⟨oT, oL, oR, -, -, -, oO, -⟩ := HZ.out
      rw [eT] at oT oO
      rw [eL] at oL
      rw [eR] at oR
      have PYES := hid (show pk3 (fillL L (lh d.2 o)) (fillL L (leftA d.1 d.2 o a u)) (fillL L (rh d.2 o)) = some ((fillL L (lh d.2 o)).map (ren (orderL (fillL L (lh d.2 o)))), (fillL L (leftA d.1 d.2 o a u)).map (ren (orderL (fillL L (lh d.2 o)))), (fillL L (rh d.2 o)).map (ren (orderL (fillL L (lh d.2 o))))) from by
       unfold pk3
       rw [if_pos ⟨t60, l60, r60, by omega⟩]
       rfl)
      have hnd := order_nodup (fillL L (lh d.2 o))
      have B1 := hid (l2By On T onn onc tn tc (orderL (fillL L (lh d.2 o))) (fillL L (lh d.2 o)) wz (Own.seg oO) (Own.seg oT) (by omega) (by omega) hnd (fun x hx h0 => order_mem.2 ⟨hx, h0⟩))
      have vL := left_vars HD.out.2.2.2.2.2.2.2.1 HD.out.2.2.2.2.2.2.2.2.2.2.2.2.2.2.1 HD.out.2.2.2.2.2.2.2.2.2.2.2.2.1 HM.out.uni.2
      have vR := right_vars (θ := L) HD.out.2.2.2.2.2.2.2.2.2.2.2.1
      have HO9 := hid (And.intro oO (And.intro oT (And.intro oL (And.intro oR (And.intro hnd (And.intro vL vR))))))
      clear ht0 hl0 hr0 t60 l60 r60 eT eL eR lO ho24 oT oL oR oO hnd vL vR
      go_wp2_with fail
      refine B1.out.mono ?_
      rintro e wa ⟨T9, t9n, t9c, rfl, o9T, ba⟩
      have B2 := hid (l2By On Lf onn onc lfn lfc (orderL (fillL L (lh d.2 o))) (fillL L (leftA d.1 d.2 o a u)) wa ((Own.seg HO9.out.1).next ba) ((Own.seg HO9.out.2.2.1).next ba) (by omega) (by omega) HO9.out.2.2.2.2.1 (fun x hx h0 => order_mem.2 ⟨HO9.out.2.2.2.2.2.1 x hx h0, h0⟩))
      have za := ba.size
      have HBA := hid (And.intro o9T ba)
      clear o9T ba B1
      go_wp2_with fail
      refine B2.out.mono ?_
      rintro e wb ⟨L9, l9n, l9c, rfl, o9L, bb⟩
      have B3 := hid (l2By On Rt onn onc rtn rtc (orderL (fillL L (lh d.2 o))) (fillL L (rh d.2 o)) wb (((Own.seg HO9.out.1).next HBA.out.2).next bb) (((Own.seg HO9.out.2.2.2.1).next HBA.out.2).next bb) (by omega) (by omega) HO9.out.2.2.2.2.1 (fun x hx h0 => order_mem.2 ⟨HO9.out.2.2.2.2.2.2 x hx h0, h0⟩))
      have zb := bb.size
      have HBB := hid (And.intro o9L bb)
      clear o9L bb B2
      go_wp2_with fail
      refine B3.out.mono ?_
      rintro e wc ⟨R9, r9n, r9c, rfl, o9R, bc⟩
      have zc := bc.size
      have rbc := ((rbz.next HBA.out.2).next HBB.out.2).next bc
      have belc : Below w.heap.size w wc := ((belz.trans (HBA.out.2.mono (by omega))).trans (HBB.out.2.mono (by omega))).trans (bc.mono (by omega))
      have zw3 : w.heap.size + 1 < wz.heap.size := rbz.lt
      have qT : Owned wc wz.heap.size wa.heap.size sI [.slice T9 t9n t9c] ((fillL L (lh d.2 o)).map (ren (orderL (fillL L (lh d.2 o))))) := ow_ints.2 ⟨(HBA.out.1.next HBB.out.2).next bc, fun k hk => (own_lt HBA.out.1 k hk).2⟩
      have qL : Owned wc wa.heap.size wb.heap.size sI [.slice L9 l9n l9c] ((fillL L (leftA d.1 d.2 o a u)).map (ren (orderL (fillL L (lh d.2 o))))) := ow_ints.2 ⟨HBB.out.1.next bc, fun k hk => (own_lt HBB.out.1 k hk).2⟩
      have qR : Owned wc wb.heap.size wc.heap.size sI [.slice R9 r9n r9c] ((fillL L (rh d.2 o)).map (ren (orderL (fillL L (lh d.2 o))))) := ow_ints.2 ⟨o9R, fun k hk => (own_lt o9R k hk).2⟩
      have pqT := (Owned.put (g := w.heap.size + 1) (i := 5) (u := .int .i64 (o : Int)) (Owned.put (g := w.heap.size + 1) (i := 4) (u := .int .i64 (u : Int)) (Owned.put (g := w.heap.size + 1) (i := 3) (u := .int .i64 (a : Int)) (Owned.put (g := w.heap.size + 1) (i := 2) (u := .slice R9 r9n r9c) (Owned.put (g := w.heap.size + 1) (i := 1) (u := .slice L9 l9n l9c) (Owned.put (g := w.heap.size + 1) (i := 0) (u := .slice T9 t9n t9c) qT (by omega)) (by omega)) (by omega)) (by omega)) (by omega)) (by omega))
      have pqL := (Owned.put (g := w.heap.size + 1) (i := 5) (u := .int .i64 (o : Int)) (Owned.put (g := w.heap.size + 1) (i := 4) (u := .int .i64 (u : Int)) (Owned.put (g := w.heap.size + 1) (i := 3) (u := .int .i64 (a : Int)) (Owned.put (g := w.heap.size + 1) (i := 2) (u := .slice R9 r9n r9c) (Owned.put (g := w.heap.size + 1) (i := 1) (u := .slice L9 l9n l9c) (Owned.put (g := w.heap.size + 1) (i := 0) (u := .slice T9 t9n t9c) qL (by omega)) (by omega)) (by omega)) (by omega)) (by omega)) (by omega))
      have pqR := (Owned.put (g := w.heap.size + 1) (i := 5) (u := .int .i64 (o : Int)) (Owned.put (g := w.heap.size + 1) (i := 4) (u := .int .i64 (u : Int)) (Owned.put (g := w.heap.size + 1) (i := 3) (u := .int .i64 (a : Int)) (Owned.put (g := w.heap.size + 1) (i := 2) (u := .slice R9 r9n r9c) (Owned.put (g := w.heap.size + 1) (i := 1) (u := .slice L9 l9n l9c) (Owned.put (g := w.heap.size + 1) (i := 0) (u := .slice T9 t9n t9c) qR (by omega)) (by omega)) (by omega)) (by omega)) (by omega)) (by omega))
      clear qT qL qR o9R bc rbz belz HBA HBB B3
      have y0 : wc.cell? ⟨w.heap.size + 1, 0, none⟩ = some (.slice none 0 0) := rbc.cell 0
      have g0 := rbc.free 0
      have rr0 := rbc.put 0 (.slice T9 t9n t9c)
      have y1 : (wc.setCell ⟨w.heap.size + 1, 0, none⟩ (.slice T9 t9n t9c)).cell? ⟨w.heap.size + 1, 1, none⟩ = some (.slice none 0 0) := rr0.cell 1
      have g1 := rr0.free 1
      have rr1 := rr0.put 1 (.slice L9 l9n l9c)
      have y2 : ((wc.setCell ⟨w.heap.size + 1, 0, none⟩ (.slice T9 t9n t9c)).setCell ⟨w.heap.size + 1, 1, none⟩ (.slice L9 l9n l9c)).cell? ⟨w.heap.size + 1, 2, none⟩ = some (.slice none 0 0) := rr1.cell 2
      have g2 := rr1.free 2
      have rr2 := rr1.put 2 (.slice R9 r9n r9c)
      have y3 : (((wc.setCell ⟨w.heap.size + 1, 0, none⟩ (.slice T9 t9n t9c)).setCell ⟨w.heap.size + 1, 1, none⟩ (.slice L9 l9n l9c)).setCell ⟨w.heap.size + 1, 2, none⟩ (.slice R9 r9n r9c)).cell? ⟨w.heap.size + 1, 3, none⟩ = some (.int .i64 0) := rr2.cell 3
      have g3 := rr2.free 3
      have rr3 := rr2.put 3 (.int .i64 (a : Int))
      have y4 : ((((wc.setCell ⟨w.heap.size + 1, 0, none⟩ (.slice T9 t9n t9c)).setCell ⟨w.heap.size + 1, 1, none⟩ (.slice L9 l9n l9c)).setCell ⟨w.heap.size + 1, 2, none⟩ (.slice R9 r9n r9c)).setCell ⟨w.heap.size + 1, 3, none⟩ (.int .i64 (a : Int))).cell? ⟨w.heap.size + 1, 4, none⟩ = some (.int .i64 0) := rr3.cell 4
      have g4 := rr3.free 4
      have rr4 := rr3.put 4 (.int .i64 (u : Int))
      have y5 : (((((wc.setCell ⟨w.heap.size + 1, 0, none⟩ (.slice T9 t9n t9c)).setCell ⟨w.heap.size + 1, 1, none⟩ (.slice L9 l9n l9c)).setCell ⟨w.heap.size + 1, 2, none⟩ (.slice R9 r9n r9c)).setCell ⟨w.heap.size + 1, 3, none⟩ (.int .i64 (a : Int))).setCell ⟨w.heap.size + 1, 4, none⟩ (.int .i64 (u : Int))).cell? ⟨w.heap.size + 1, 5, none⟩ = some (.int .i64 0) := rr4.cell 5
      have g5 := rr4.free 5
      have rr5 := rr4.put 5 (.int .i64 (o : Int))
      have u0 : ((((((wc.setCell ⟨w.heap.size + 1, 0, none⟩ (.slice T9 t9n t9c)).setCell ⟨w.heap.size + 1, 1, none⟩ (.slice L9 l9n l9c)).setCell ⟨w.heap.size + 1, 2, none⟩ (.slice R9 r9n r9c)).setCell ⟨w.heap.size + 1, 3, none⟩ (.int .i64 (a : Int))).setCell ⟨w.heap.size + 1, 4, none⟩ (.int .i64 (u : Int))).setCell ⟨w.heap.size + 1, 5, none⟩ (.int .i64 (o : Int))).cell? ⟨w.heap.size + 1, 0, none⟩ = some (.slice T9 t9n t9c) := rr5.cell 0
      have u1 : ((((((wc.setCell ⟨w.heap.size + 1, 0, none⟩ (.slice T9 t9n t9c)).setCell ⟨w.heap.size + 1, 1, none⟩ (.slice L9 l9n l9c)).setCell ⟨w.heap.size + 1, 2, none⟩ (.slice R9 r9n r9c)).setCell ⟨w.heap.size + 1, 3, none⟩ (.int .i64 (a : Int))).setCell ⟨w.heap.size + 1, 4, none⟩ (.int .i64 (u : Int))).setCell ⟨w.heap.size + 1, 5, none⟩ (.int .i64 (o : Int))).cell? ⟨w.heap.size + 1, 1, none⟩ = some (.slice L9 l9n l9c) := rr5.cell 1
      have u2 : ((((((wc.setCell ⟨w.heap.size + 1, 0, none⟩ (.slice T9 t9n t9c)).setCell ⟨w.heap.size + 1, 1, none⟩ (.slice L9 l9n l9c)).setCell ⟨w.heap.size + 1, 2, none⟩ (.slice R9 r9n r9c)).setCell ⟨w.heap.size + 1, 3, none⟩ (.int .i64 (a : Int))).setCell ⟨w.heap.size + 1, 4, none⟩ (.int .i64 (u : Int))).setCell ⟨w.heap.size + 1, 5, none⟩ (.int .i64 (o : Int))).cell? ⟨w.heap.size + 1, 2, none⟩ = some (.slice R9 r9n r9c) := rr5.cell 2
      have u3 : ((((((wc.setCell ⟨w.heap.size + 1, 0, none⟩ (.slice T9 t9n t9c)).setCell ⟨w.heap.size + 1, 1, none⟩ (.slice L9 l9n l9c)).setCell ⟨w.heap.size + 1, 2, none⟩ (.slice R9 r9n r9c)).setCell ⟨w.heap.size + 1, 3, none⟩ (.int .i64 (a : Int))).setCell ⟨w.heap.size + 1, 4, none⟩ (.int .i64 (u : Int))).setCell ⟨w.heap.size + 1, 5, none⟩ (.int .i64 (o : Int))).cell? ⟨w.heap.size + 1, 3, none⟩ = some (.int .i64 (a : Int)) := rr5.cell 3
      have u4 : ((((((wc.setCell ⟨w.heap.size + 1, 0, none⟩ (.slice T9 t9n t9c)).setCell ⟨w.heap.size + 1, 1, none⟩ (.slice L9 l9n l9c)).setCell ⟨w.heap.size + 1, 2, none⟩ (.slice R9 r9n r9c)).setCell ⟨w.heap.size + 1, 3, none⟩ (.int .i64 (a : Int))).setCell ⟨w.heap.size + 1, 4, none⟩ (.int .i64 (u : Int))).setCell ⟨w.heap.size + 1, 5, none⟩ (.int .i64 (o : Int))).cell? ⟨w.heap.size + 1, 4, none⟩ = some (.int .i64 (u : Int)) := rr5.cell 4
      have u5 : ((((((wc.setCell ⟨w.heap.size + 1, 0, none⟩ (.slice T9 t9n t9c)).setCell ⟨w.heap.size + 1, 1, none⟩ (.slice L9 l9n l9c)).setCell ⟨w.heap.size + 1, 2, none⟩ (.slice R9 r9n r9c)).setCell ⟨w.heap.size + 1, 3, none⟩ (.int .i64 (a : Int))).setCell ⟨w.heap.size + 1, 4, none⟩ (.int .i64 (u : Int))).setCell ⟨w.heap.size + 1, 5, none⟩ (.int .i64 (o : Int))).cell? ⟨w.heap.size + 1, 5, none⟩ = some (.int .i64 (o : Int)) := rr5.cell 5
      have FZ : AnsPs w d.1 d.2 o a u (.returned (.tuple #[.agg #[.slice T9 t9n t9c, .slice L9 l9n l9c, .slice R9 r9n r9c, .int .i64 (a : Int), .int .i64 (u : Int), .int .i64 (o : Int)], .bool true])) ((((((wc.setCell ⟨w.heap.size + 1, 0, none⟩ (.slice T9 t9n t9c)).setCell ⟨w.heap.size + 1, 1, none⟩ (.slice L9 l9n l9c)).setCell ⟨w.heap.size + 1, 2, none⟩ (.slice R9 r9n r9c)).setCell ⟨w.heap.size + 1, 3, none⟩ (.int .i64 (a : Int))).setCell ⟨w.heap.size + 1, 4, none⟩ (.int .i64 (u : Int))).setCell ⟨w.heap.size + 1, 5, none⟩ (.int .i64 (o : Int))) := ⟨L, HM.out, by
       rw [PYES.out]
       exact ⟨T9, t9n, t9c, L9, l9n, l9c, R9, r9n, r9c, rfl, join_Peak (d := (((fillL L (lh d.2 o)).map (ren (orderL (fillL L (lh d.2 o)))), (fillL L (leftA d.1 d.2 o a u)).map (ren (orderL (fillL L (lh d.2 o)))), (fillL L (rh d.2 o)).map (ren (orderL (fillL L (lh d.2 o)))), (a : Int), (u : Int), (o : Int)) : Dat sPeak)) (m0 := wz.heap.size) (m1 := wa.heap.size) (m2 := wb.heap.size) (m3 := wc.heap.size) (m4 := wc.heap.size) (m5 := wc.heap.size) (m6 := wc.heap.size) pqT pqL pqR (Owned.num _ _ _ _) (Owned.num _ _ _ _) (Owned.num _ _ _ _) za zb zc (Nat.le_refl _) (Nat.le_refl _) (Nat.le_refl _) (by omega) (by simp), (Below.setCell (Below.setCell (Below.setCell (Below.setCell (Below.setCell (Below.setCell belc (show w.heap.size ≤ w.heap.size + 1 by omega) _) (show w.heap.size ≤ w.heap.size + 1 by omega) _) (show w.heap.size ≤ w.heap.size + 1 by omega) _) (show w.heap.size ≤ w.heap.size + 1 by omega) _) (show w.heap.size ≤ w.heap.size + 1 by omega) _) (show w.heap.size ≤ w.heap.size + 1 by omega) _)⟩⟩
      have HFZ := hid FZ
      clear FZ rr0 rr1 rr2 rr3 rr4 rr5 rbc belc pqT pqL pqR
      go_wp2
      exact bodyPost_ret (v := .tuple #[.agg #[.slice T9 t9n t9c, .slice L9 l9n l9c, .slice R9 r9n r9c, .int .i64 (a : Int), .int .i64 (u : Int), .int .i64 (o : Int)], .bool true]) (by simp [results, Try.results42, go_sem, u0, u1, u2, u3, u4, u5]) rfl HFZ.out
end pkSpec
end
end Go.Proofs.Ytfmjhfodjhkmlaa
