/-
  MERGED: my texts ByImpl, ByImplB, WWalkBy, one behind the other, as they are. By an AI agent.
-/
import Derived.Test.YtblhmplpcdcejaaGreatMFnExactWalkBy8
import Derived.Deep.RegionHeld3
namespace Go.Proofs.YtblhmplpcdcejaaGreat
section
open Go.Lib (hid)
namespace byImpl
open Go.RowKit base ints sig term termOk endAt endOf marks app sym sub segs segsHelp kinds termFacts same shifted shape drawX kindsR kindsW varsOf ruleMath ruleSpec stepMath walkMath stepSpec stepImpl walkSpec walkX walkImpl ownL heldT orderMath orderSpec bySpec strat pickImpl
set_option maxRecDepth 100000
theorem gone_sz {sg : List Int} {rs : List Rl} {s : Int} {F i : Nat} {t u : List Int} {L : List St} (h : Gone sg rs s F t i L u) (ht : termOkB sg t = true) (hF : F ≤ 60) : sz sWalk ((t, L) : Wk) ≤ 1048576 := by
 obtain ⟨h1, h2, h3, h4, h5⟩ := h
 have hr := run_walk (sg := sg) (rs := rs) (s := s) (f := F) (t := t)
 rw [h1, go_append] at hr
 cases hg : goOn sg rs t L with
 | none => rw [hg] at hr; cases hr
 | some v =>
  refine walk_sz (term_len ht).2 (by show L.length ≤ 60; omega) (fun x hx => (term_len ((go_ok ht hg).2 x hx)).2)
theorem Wb.rdw {w wr : World} {T : TypeId} {a v : Value} {B : Nat} {X O : Option Addr} {xn xc on oc : Nat} {fr : List Int} {L : List St} (h : Wb w T a v B X O xn xc on oc fr L wr) : Rd wr wr.heap.size sWalk [.slice X xn xc, .slice O on oc] ((fr, L) : Wk) :=
 (owned_walk (h.x.wider (Nat.le_refl _) (Nat.le_succ _)) h.o (by have := h.z; omega) h.r3.lt).rd
set_option maxHeartbeats 8000000 in
theorem walk (g : Nat) (eg : ∀ args w, (callFunc g args).run Tryz.prog w = .ok (.enter g args) w) (a v u : Value) (d : Dat sSystem) (t : List Int) (s : Int) (F : Nat) (w : World) (h : Rd w w.heap.size sSystem [a, v] d) (ht : Rd w w.heap.size sI [u] t) (hz : sz sSystem d ≤ 1048576) (hok : rightB d.1 d.2 t = true) (hby : byB d.1 d.2 t s (F : Int) = true) (hF : F ≤ 60) (hg : PickFn g a v d s w) :
  Calls Tryz.prog 62 #[.agg #[a, v], u, .func (.func g) #[.agg #[a, v]] #[], .int .i64 (F : Int)] w (AnsWalk w (byW d.1 d.2 t s (F : Int)) (byD d.1 d.2 t s (F : Int))) := by
 obtain ⟨T, m, c, rfl, hT, hcT⟩ := rd_ints.1 ht
 obtain ⟨A, n, cs, V, q, cv, rfl, rfl, -⟩ := rd_sys h hz
 have htl := term_len (right_parts hok).2
 have hm : 1 ≤ m ∧ m ≤ 60 := by have := hT.1; omega
 obtain ⟨tb, toff, ty, rfl, -, -, -⟩ := hT.spot (k := 0) (by omega)
 obtain ⟨W, hW, r0, r1, bel⟩ : ∃ W, W = (w.alloc (.cells #[.slice A n cs, .slice V q cv] 98)).alloc (.cells #[.slice none 0 0, .slice none 0 0] 39) ∧ Row W w.heap.size 98 #[.slice A n cs, .slice V q cv] ∧ Row W (w.heap.size + 1) 39 #[.slice none 0 0, .slice none 0 0] ∧ Below w.heap.size w W := by
  refine ⟨_, rfl, (Row.new w _ _).alloc _, ?_, ((Below.refl _ _).alloc (Nat.le_refl _) _).alloc (by simp) _⟩
  have := Row.new (w.alloc (.cells #[.slice A n cs, .slice V q cv] 98)) 39 #[.slice none 0 0, .slice none 0 0]
  simpa using this
 have HW := hid hW
 have LC := hid (cloneInts tb toff m c t W (hT.next bel) (by omega))
 have LX := hid (fun (w1 : World) (bb : Below w.heap.size w w1) (nw : Value) (x : List Int) (hx : Rd w1 w1.heap.size sI [nw] x) (hr : rightB d.1 d.2 x = true) => selected g eg _ _ nw d x s w1 (h.next bb) hx hz hr (hg.next bb))
 have LD := hid (fun (w1 : World) (bb : Below w.heap.size w w1) (nw : Value) (x : List Int) (hx : Rd w1 w1.heap.size sI [nw] x) hr y k hy hk hred => reduced _ _ nw d x y k w1 (h.next bb) hx hz hr hy hk hred)
 have HOK := hid (And.intro hok (right_parts hok).2)
 have HB := hid hby
 have zW : w.heap.size + 1 < W.heap.size := r1.lt
 clear hW h ht hz hT hcT hg hok hby htl
 go_enter Tryz.func62, Tryz.ntmps62
 go_wp2_with fail
 rw [← HW.out]
 refine LC.out.mono ?_
 rintro e w3 ⟨X, xn, xc, rfl, oX, bb⟩
 replace r0 := r0.next bb
 replace r1 := r1.next bb
 replace bel := next_trans bel bb
 have zz := bb.size
 have b4 : Below w3.heap.size w3 (w3.alloc (.cells #[.slice X xn xc, .slice none 0 0] 39)) := (Below.refl _ _).alloc (Nat.le_refl _) _
 obtain ⟨W4, hW4⟩ : ∃ W4, W4 = w3.alloc (.cells #[.slice X xn xc, .slice none 0 0] 39) := ⟨_, rfl⟩
 have HI0 := hid (show Wb w 98 (.slice A n cs) (.slice V q cv) w3.heap.size X none xn xc 0 0 t [] W4 from by
  rw [hW4]
  exact ⟨r0.next b4, r1.next b4, Row.new _ _ _, ((Ownd.of_own oX).next b4).wider (by omega) (Nat.le_refl _), OwnL.nil _ _ _ _ _, next_trans bel b4, by omega⟩)
 have K0 : (w3.alloc (.cells #[.slice X xn xc, .slice none 0 0] 39)).cell? ⟨w.heap.size, 0, none⟩ = some (.slice A n cs) := (r0.next b4).cell 0
 have K1 : (w3.alloc (.cells #[.slice X xn xc, .slice none 0 0] 39)).cell? ⟨w.heap.size, 1, none⟩ = some (.slice V q cv) := (r0.next b4).cell 1
 have HW4 := hid hW4
 clear bb oX b4 r0 r1 bel hW4 LC HW
 go_wp2_with fail
 rw [← HW4.out]
 clear HW4 K0 K1
 generalize w3.heap.size = B at *
 go_loopg [11] F (fun g1 at_ wr => ∃ (i on oc : Nat) (O : Option Addr) (L : List St) (x : List Int), i + g1 = F ∧ Gone d.1 d.2 s F t i L x ∧ Wb w 98 (.slice A n cs) (.slice V q cv) B X O xn xc on oc t L wr)
 case atStart => exact ⟨0, 0, 0, _, _, _, by omega, gone_zero HOK.out.1, HI0.out⟩
 case round =>
  clear HI0
  obtain ⟨i, on, oc, O, L, x, hig, G, J⟩ := hrel
  have HI := hid hig
  have HG := hid G
  have hon : on = i := by rw [← G.2.1, J.o.1]
  subst hon
  have hx2 := gone_sz G HOK.out.2 hF
  have hiF : on ≤ F := G.2.2.2.2
  have HR := hid G.2.2.2.1
  have HEX := hid G.2.2.1
  have JD := J.next (drew_below wr)
  have LE1 := hid (endImpl _ _ ((t, L) : Wk) wr.drew (Wb.rdw JD) hx2)
  rw [← HEX.out] at LE1
  have LE2 := hid (fun (w1 : World) (bb : Below wr.heap.size wr w1) => (show Calls Tryz.prog 91 #[.agg #[.slice X xn xc, .slice O on oc]] w1 (fun e w' => ∃ A n c, e = .returned (.slice A n c) ∧ Rd w' w1.heap.size sI [.slice A n c] x ∧ Below w1.heap.size w1 w') from by
   have := endImpl _ _ ((t, L) : Wk) w1 (Wb.rdw (J.next bb)) hx2
   rw [← HEX.out] at this
   exact this))
  have K0 : wr.cell? ⟨w.heap.size, 0, none⟩ = some (.slice A n cs) := J.r0.cell 0
  have K1 : wr.cell? ⟨w.heap.size, 1, none⟩ = some (.slice V q cv) := J.r0.cell 1
  have K2 : wr.cell? ⟨B, 0, none⟩ = some (.slice X xn xc) := J.r3.cell 0
  have K3 : wr.cell? ⟨B, 1, none⟩ = some (.slice O on oc) := J.r3.cell 1
  have z0 : w.heap.size < wr.heap.size := J.r0.lt
  have z1 : B < wr.heap.size := J.r3.lt
  have LX1 := hid (fun (w1 : World) (bb : Below wr.heap.size wr w1) (nw : Value) (hx : Rd w1 w1.heap.size sI [nw] x) => LX.out w1 (next_trans J.b bb) nw x hx HR.out)
  have HJ := hid J
  have BD := hid (drew_below wr)
  clear J JD hig G hx2
  cases hp : pickL d.1 d.2 x s with
  | none =>
   have HP := hid (by_done (gone_none HG.out hp) HG.out.2.2.1 HB.out)
   have HND := hid (show normalB d.1 d.2 x = true by rw [normal_pick (s := s) HR.out, hp]; rfl)
   rw [hp] at LX1
   have LX1 := hid (show ∀ (w1 : World) (bb : Below wr.heap.size wr w1) (nw : Value) (hx : Rd w1 w1.heap.size sI [nw] x), Calls Tryz.prog 90 #[.agg #[.slice A n cs, .slice V q cv], nw, .func (.func g) #[.agg #[.slice A n cs, .slice V q cv]] #[]] w1 (fun e w' => e = .returned (.tuple #[.int .i64 0, .int .i64 0, .bool false]) ∧ Below w1.heap.size w1 w') from LX1.out)
   clear hp LD LX LE2
   go_wp2_with fail
   go_region_held3 (fun w' => w'.cell? ⟨w.heap.size, 0, none⟩ = some (.slice A n cs) ∧ w'.cell? ⟨w.heap.size, 1, none⟩ = some (.slice V q cv) ∧ w'.cell? ⟨B, 0, none⟩ = some (.slice X xn xc) ∧ w'.cell? ⟨B, 1, none⟩ = some (.slice O on oc))
    (go_keep)
    (first
     | (go_at_call 91; refine LE1.out.mono ?_; rintro e w4 ⟨N, nn, nc, rfl, hN, bb⟩; have a0 : w4.cell? ⟨w.heap.size, 0, none⟩ = some (.slice A n cs) := (bb.cell (p := ⟨w.heap.size, 0, none⟩) z0).trans K0; have a1 : w4.cell? ⟨w.heap.size, 1, none⟩ = some (.slice V q cv) := (bb.cell (p := ⟨w.heap.size, 1, none⟩) z0).trans K1; have a2 : w4.cell? ⟨B, 0, none⟩ = some (.slice X xn xc) := (bb.cell (p := ⟨B, 0, none⟩) z1).trans K2; have a3 : w4.cell? ⟨B, 1, none⟩ = some (.slice O on oc) := (bb.cell (p := ⟨B, 1, none⟩) z1).trans K3; have y0 : w.heap.size < w4.heap.size := Nat.lt_of_lt_of_le z0 bb.size; have y1 : B < w4.heap.size := Nat.lt_of_lt_of_le z1 bb.size)
     | (go_at_call 90; refine (LX1.out w4 (BD.out.trans bb) _ (hN.more bb.size)).mono ?_; rintro e w5 ⟨rfl, bb2⟩; have m0 : w5.cell? ⟨w.heap.size, 0, none⟩ = some (.slice A n cs) := (bb2.cell (p := ⟨w.heap.size, 0, none⟩) y0).trans a0; have m1 : w5.cell? ⟨w.heap.size, 1, none⟩ = some (.slice V q cv) := (bb2.cell (p := ⟨w.heap.size, 1, none⟩) y0).trans a1; have m2 : w5.cell? ⟨B, 0, none⟩ = some (.slice X xn xc) := (bb2.cell (p := ⟨B, 0, none⟩) y1).trans a2; have m3 : w5.cell? ⟨B, 1, none⟩ = some (.slice O on oc) := (bb2.cell (p := ⟨B, 1, none⟩) y1).trans a3))
   have HJ2 := HJ.out.next (BD.out.trans (bb.trans (bb2.mono bb.size)))
   have jr := HJ2.r1
   clear K0 K1 K2 K3 a0 a1 a2 a3 y0 y1 hN
   have FA := ansWalk_yes (b := byD d.1 d.2 t s (F : Int)) HJ2 HP.out.1 (Below.refl w5.heap.size w5)
   rw [HP.out.2, HND.out] at FA
   have HFA := hid FA
   have HPD := hid (show byD d.1 d.2 t s (F : Int) = true by rw [HP.out.2, HND.out])
   clear HJ LE1 LX1 BD bb bb2 HJ2 FA
   have y0 : w5.cell? ⟨w.heap.size + 1, 0, none⟩ = some (.slice none 0 0) := jr.cell 0
   have y1 : w5.cell? ⟨w.heap.size + 1, 1, none⟩ = some (.slice none 0 0) := jr.cell 1
   have g0 := jr.free 0
   have g1 := jr.free 1
   have ra := jr.put 0 (.slice X xn xc)
   have y2 : (w5.setCell ⟨w.heap.size + 1, 0, none⟩ (.slice X xn xc)).cell? ⟨w.heap.size + 1, 1, none⟩ = some (.slice none 0 0) := ra.cell 1
   have g2 := ra.free 1
   have rb := ra.put 1 (.slice O on oc)
   have u0 : ((w5.setCell ⟨w.heap.size + 1, 0, none⟩ (.slice X xn xc)).setCell ⟨w.heap.size + 1, 1, none⟩ (.slice O on oc)).cell? ⟨w.heap.size + 1, 0, none⟩ = some (.slice X xn xc) := rb.cell 0
   have u1 : ((w5.setCell ⟨w.heap.size + 1, 0, none⟩ (.slice X xn xc)).setCell ⟨w.heap.size + 1, 1, none⟩ (.slice O on oc)).cell? ⟨w.heap.size + 1, 1, none⟩ = some (.slice O on oc) := rb.cell 1
   have FZ : AnsWalk w (byW d.1 d.2 t s (F : Int)) true (.returned (.tuple #[.agg #[.slice X xn xc, .slice O on oc], .bool true])) ((w5.setCell ⟨w.heap.size + 1, 0, none⟩ (.slice X xn xc)).setCell ⟨w.heap.size + 1, 1, none⟩ (.slice O on oc)) := HFA.out
   have HFZ := hid FZ
   clear FZ ra rb jr
   go_wp2
   exact bodyPost_ret (v := .tuple #[.agg #[.slice X xn xc, .slice O on oc], .bool true]) (by simp [results, Tryz.results62, go_sem, u0, u1]) rfl (by rw [HPD.out]; exact HFZ.out)
  | some p =>
   obtain ⟨pa, pk, rfl, hpa, hpk, hred, -, hst⟩ := pick_step HR.out hp
   have HP := hid hp
   rw [hp] at LX1
   have LX1 := hid (show ∀ (w1 : World) (bb : Below wr.heap.size wr w1) (nw : Value) (hx : Rd w1 w1.heap.size sI [nw] x), Calls Tryz.prog 90 #[.agg #[.slice A n cs, .slice V q cv], nw, .func (.func g) #[.agg #[.slice A n cs, .slice V q cv]] #[]] w1 (fun e w' => e = .returned (.tuple #[.int .i64 (pa : Int), .int .i64 (pk : Int), .bool true]) ∧ Below w1.heap.size w1 w') from LX1.out)
   have HND := hid (show normalB d.1 d.2 x = false by rw [normal_pick (s := s) HR.out, hp]; rfl)
   by_cases hlt : on = F
   ·have HQ := hid (by_done (gone_full HG.out (by omega)) HG.out.2.2.1 HB.out)
    have hE : ((on : Int) == (F : Int)) = true := by simp; omega
    clear hp LD LX LE2 hst hred hlt
    go_wp2_with fail
    go_region_held3 (fun w' => w'.cell? ⟨w.heap.size, 0, none⟩ = some (.slice A n cs) ∧ w'.cell? ⟨w.heap.size, 1, none⟩ = some (.slice V q cv) ∧ w'.cell? ⟨B, 0, none⟩ = some (.slice X xn xc) ∧ w'.cell? ⟨B, 1, none⟩ = some (.slice O on oc))
     (go_keep)
     (first
      | (go_at_call 91; refine LE1.out.mono ?_; rintro e w4 ⟨N, nn, nc, rfl, hN, bb⟩; have a0 : w4.cell? ⟨w.heap.size, 0, none⟩ = some (.slice A n cs) := (bb.cell (p := ⟨w.heap.size, 0, none⟩) z0).trans K0; have a1 : w4.cell? ⟨w.heap.size, 1, none⟩ = some (.slice V q cv) := (bb.cell (p := ⟨w.heap.size, 1, none⟩) z0).trans K1; have a2 : w4.cell? ⟨B, 0, none⟩ = some (.slice X xn xc) := (bb.cell (p := ⟨B, 0, none⟩) z1).trans K2; have a3 : w4.cell? ⟨B, 1, none⟩ = some (.slice O on oc) := (bb.cell (p := ⟨B, 1, none⟩) z1).trans K3; have y0 : w.heap.size < w4.heap.size := Nat.lt_of_lt_of_le z0 bb.size; have y1 : B < w4.heap.size := Nat.lt_of_lt_of_le z1 bb.size)
      | (go_at_call 90; refine (LX1.out w4 (BD.out.trans bb) _ (hN.more bb.size)).mono ?_; rintro e w5 ⟨rfl, bb2⟩; have m0 : w5.cell? ⟨w.heap.size, 0, none⟩ = some (.slice A n cs) := (bb2.cell (p := ⟨w.heap.size, 0, none⟩) y0).trans a0; have m1 : w5.cell? ⟨w.heap.size, 1, none⟩ = some (.slice V q cv) := (bb2.cell (p := ⟨w.heap.size, 1, none⟩) y0).trans a1; have m2 : w5.cell? ⟨B, 0, none⟩ = some (.slice X xn xc) := (bb2.cell (p := ⟨B, 0, none⟩) y1).trans a2; have m3 : w5.cell? ⟨B, 1, none⟩ = some (.slice O on oc) := (bb2.cell (p := ⟨B, 1, none⟩) y1).trans a3))
    have HJ2 := HJ.out.next (BD.out.trans (bb.trans (bb2.mono bb.size)))
    have jr := HJ2.r1
    clear K0 K1 K2 K3 a0 a1 a2 a3 y0 y1 hN
    have FA := ansWalk_yes (b := byD d.1 d.2 t s (F : Int)) HJ2 HQ.out.1 (Below.refl w5.heap.size w5)
    rw [HQ.out.2, HND.out] at FA
    have HFA := hid FA
    have HPD := hid (show byD d.1 d.2 t s (F : Int) = false by rw [HQ.out.2, HND.out])
    clear HJ LE1 LX1 BD bb bb2 HJ2 FA
    have y0 : w5.cell? ⟨w.heap.size + 1, 0, none⟩ = some (.slice none 0 0) := jr.cell 0
    have y1 : w5.cell? ⟨w.heap.size + 1, 1, none⟩ = some (.slice none 0 0) := jr.cell 1
    have g0 := jr.free 0
    have g1 := jr.free 1
    have ra := jr.put 0 (.slice X xn xc)
    have y2 : (w5.setCell ⟨w.heap.size + 1, 0, none⟩ (.slice X xn xc)).cell? ⟨w.heap.size + 1, 1, none⟩ = some (.slice none 0 0) := ra.cell 1
    have g2 := ra.free 1
    have rb := ra.put 1 (.slice O on oc)
    have u0 : ((w5.setCell ⟨w.heap.size + 1, 0, none⟩ (.slice X xn xc)).setCell ⟨w.heap.size + 1, 1, none⟩ (.slice O on oc)).cell? ⟨w.heap.size + 1, 0, none⟩ = some (.slice X xn xc) := rb.cell 0
    have u1 : ((w5.setCell ⟨w.heap.size + 1, 0, none⟩ (.slice X xn xc)).setCell ⟨w.heap.size + 1, 1, none⟩ (.slice O on oc)).cell? ⟨w.heap.size + 1, 1, none⟩ = some (.slice O on oc) := rb.cell 1
    have FZ : AnsWalk w (byW d.1 d.2 t s (F : Int)) false (.returned (.tuple #[.agg #[.slice X xn xc, .slice O on oc], .bool false])) ((w5.setCell ⟨w.heap.size + 1, 0, none⟩ (.slice X xn xc)).setCell ⟨w.heap.size + 1, 1, none⟩ (.slice O on oc)) := HFA.out
    have HFZ := hid FZ
    clear FZ ra rb jr
    go_wp2
    exact bodyPost_ret (v := .tuple #[.agg #[.slice X xn xc, .slice O on oc], .bool false]) (by simp [results, Tryz.results62, go_sem, u0, u1]) rfl (by rw [HPD.out]; exact HFZ.out)
   ·have hE : ((on : Int) == (F : Int)) = false := by simp; omega
    have LD1 := hid (fun (w1 : World) (bb : Below wr.heap.size wr w1) (nw : Value) (hx : Rd w1 w1.heap.size sI [nw] x) => LD.out w1 (next_trans HJ.out.b bb) nw x hx HR.out pa pk hpa hpk hred)
    obtain ⟨so, hso⟩ : ∃ so, stepO d.1 (d.2.getD pk ([], [])) x pa = so := ⟨_, rfl⟩
    rw [hso] at LD1 hst
    have HST := hid hst
    have hlt2 : on < F := by omega
    clear hp LD LX hst hred hso
    go_wp2_with fail
    go_region_held3 (fun w' => w'.cell? ⟨w.heap.size, 0, none⟩ = some (.slice A n cs) ∧ w'.cell? ⟨w.heap.size, 1, none⟩ = some (.slice V q cv) ∧ w'.cell? ⟨B, 0, none⟩ = some (.slice X xn xc) ∧ w'.cell? ⟨B, 1, none⟩ = some (.slice O on oc))
     (go_keep)
     (first
      | (go_at_call 91; refine LE1.out.mono ?_; rintro e w4 ⟨N, nn, nc, rfl, hN, bb⟩; have a0 : w4.cell? ⟨w.heap.size, 0, none⟩ = some (.slice A n cs) := (bb.cell (p := ⟨w.heap.size, 0, none⟩) z0).trans K0; have a1 : w4.cell? ⟨w.heap.size, 1, none⟩ = some (.slice V q cv) := (bb.cell (p := ⟨w.heap.size, 1, none⟩) z0).trans K1; have a2 : w4.cell? ⟨B, 0, none⟩ = some (.slice X xn xc) := (bb.cell (p := ⟨B, 0, none⟩) z1).trans K2; have a3 : w4.cell? ⟨B, 1, none⟩ = some (.slice O on oc) := (bb.cell (p := ⟨B, 1, none⟩) z1).trans K3; have y0 : w.heap.size < w4.heap.size := Nat.lt_of_lt_of_le z0 bb.size; have y1 : B < w4.heap.size := Nat.lt_of_lt_of_le z1 bb.size)
      | (go_at_call 90; refine (LX1.out w4 (BD.out.trans bb) _ (hN.more bb.size)).mono ?_; rintro e w5 ⟨rfl, bb2⟩; have m0 : w5.cell? ⟨w.heap.size, 0, none⟩ = some (.slice A n cs) := (bb2.cell (p := ⟨w.heap.size, 0, none⟩) y0).trans a0; have m1 : w5.cell? ⟨w.heap.size, 1, none⟩ = some (.slice V q cv) := (bb2.cell (p := ⟨w.heap.size, 1, none⟩) y0).trans a1; have m2 : w5.cell? ⟨B, 0, none⟩ = some (.slice X xn xc) := (bb2.cell (p := ⟨B, 0, none⟩) y1).trans a2; have m3 : w5.cell? ⟨B, 1, none⟩ = some (.slice O on oc) := (bb2.cell (p := ⟨B, 1, none⟩) y1).trans a3))
    have B5 := BD.out.trans (bb.trans (bb2.mono bb.size))
    have HB5 := hid (show Below wr.heap.size wr w5 from B5)
    have HJ2 := hid (HJ.out.next B5)
    have LE3 := hid (LE2.out w5.drew (next_trans HB5.out (drew_below w5)))
    clear K0 K1 K2 K3 a0 a1 a2 a3 y0 y1 hN
    have z05 : w.heap.size < w5.heap.size := HJ2.out.r0.lt
    have z15 : B < w5.heap.size := HJ2.out.r3.lt
    have BD5 := hid (drew_below w5)
    clear HJ LE1 LX1 LE2 BD bb bb2 B5
    cases so with
    | none =>
     have HQ := hid (by_done (gone_stop HG.out HP.out HST.out) HG.out.2.2.1 HB.out)
     go_wp2_with fail
     go_region_held3 (fun w' => w'.cell? ⟨w.heap.size, 0, none⟩ = some (.slice A n cs) ∧ w'.cell? ⟨w.heap.size, 1, none⟩ = some (.slice V q cv) ∧ w'.cell? ⟨B, 0, none⟩ = some (.slice X xn xc) ∧ w'.cell? ⟨B, 1, none⟩ = some (.slice O on oc))
      (go_keep)
      (first
       | (go_at_call 91; refine LE3.out.mono ?_; rintro e w6 ⟨N2, nn2, nc2, rfl, hN2, bb6⟩; have b0 : w6.cell? ⟨w.heap.size, 0, none⟩ = some (.slice A n cs) := (bb6.cell (p := ⟨w.heap.size, 0, none⟩) z05).trans m0; have b1 : w6.cell? ⟨w.heap.size, 1, none⟩ = some (.slice V q cv) := (bb6.cell (p := ⟨w.heap.size, 1, none⟩) z05).trans m1; have b2 : w6.cell? ⟨B, 0, none⟩ = some (.slice X xn xc) := (bb6.cell (p := ⟨B, 0, none⟩) z15).trans m2; have b3 : w6.cell? ⟨B, 1, none⟩ = some (.slice O on oc) := (bb6.cell (p := ⟨B, 1, none⟩) z15).trans m3; have y6 : w.heap.size < w6.heap.size := Nat.lt_of_lt_of_le z05 bb6.size; have y7 : B < w6.heap.size := Nat.lt_of_lt_of_le z15 bb6.size)
       | (go_at_call 92; refine (LD1.out w6 (next_trans HB5.out (BD5.out.trans bb6)) _ (hN2.more bb6.size)).mono ?_; rintro e w7 ⟨Y, yn, yc, he, oY, bb7⟩; have he : e = .returned (.tuple #[.slice Y yn yc, .bool false]) := he; subst he; have p0 : w7.cell? ⟨w.heap.size, 0, none⟩ = some (.slice A n cs) := (bb7.cell (p := ⟨w.heap.size, 0, none⟩) y6).trans b0; have p1 : w7.cell? ⟨w.heap.size, 1, none⟩ = some (.slice V q cv) := (bb7.cell (p := ⟨w.heap.size, 1, none⟩) y6).trans b1; have p2 : w7.cell? ⟨B, 0, none⟩ = some (.slice X xn xc) := (bb7.cell (p := ⟨B, 0, none⟩) y7).trans b2; have p3 : w7.cell? ⟨B, 1, none⟩ = some (.slice O on oc) := (bb7.cell (p := ⟨B, 1, none⟩) y7).trans b3))
     have HJ3 := HJ2.out.next (BD5.out.trans (bb6.trans (bb7.mono bb6.size)))
     have jr := HJ3.r1
     have FA := ansWalk_yes (b := byD d.1 d.2 t s (F : Int)) HJ3 HQ.out.1 (Below.refl w7.heap.size w7)
     rw [HQ.out.2, HND.out] at FA
     have HFA := hid FA
     have HPD := hid (show byD d.1 d.2 t s (F : Int) = false by rw [HQ.out.2, HND.out])
     clear HJ2 LE3 LD1 LX1 BD5 bb6 bb7 HJ3 FA oY m0 m1 m2 m3 b0 b1 b2 b3 HB5
     have y0 : w7.cell? ⟨w.heap.size + 1, 0, none⟩ = some (.slice none 0 0) := jr.cell 0
     have y1 : w7.cell? ⟨w.heap.size + 1, 1, none⟩ = some (.slice none 0 0) := jr.cell 1
     have g0 := jr.free 0
     have g1 := jr.free 1
     have ra := jr.put 0 (.slice X xn xc)
     have y2 : (w7.setCell ⟨w.heap.size + 1, 0, none⟩ (.slice X xn xc)).cell? ⟨w.heap.size + 1, 1, none⟩ = some (.slice none 0 0) := ra.cell 1
     have g2 := ra.free 1
     have rb := ra.put 1 (.slice O on oc)
     have u0 : ((w7.setCell ⟨w.heap.size + 1, 0, none⟩ (.slice X xn xc)).setCell ⟨w.heap.size + 1, 1, none⟩ (.slice O on oc)).cell? ⟨w.heap.size + 1, 0, none⟩ = some (.slice X xn xc) := rb.cell 0
     have u1 : ((w7.setCell ⟨w.heap.size + 1, 0, none⟩ (.slice X xn xc)).setCell ⟨w.heap.size + 1, 1, none⟩ (.slice O on oc)).cell? ⟨w.heap.size + 1, 1, none⟩ = some (.slice O on oc) := rb.cell 1
     have FZ : AnsWalk w (byW d.1 d.2 t s (F : Int)) false (.returned (.tuple #[.agg #[.slice X xn xc, .slice O on oc], .bool false])) ((w7.setCell ⟨w.heap.size + 1, 0, none⟩ (.slice X xn xc)).setCell ⟨w.heap.size + 1, 1, none⟩ (.slice O on oc)) := HFA.out
     have HFZ := hid FZ
     clear FZ ra rb jr
     go_wp2
     exact bodyPost_ret (v := .tuple #[.agg #[.slice X xn xc, .slice O on oc], .bool false]) (by simp [results, Tryz.results62, go_sem, u0, u1]) rfl (by rw [HPD.out]; exact HFZ.out)
    | some y =>
     have HG2 := hid (gone_step HG.out hlt2 HP.out HST.out)
     go_wp2_with fail
     go_region_held3 (fun w' => w'.cell? ⟨w.heap.size, 0, none⟩ = some (.slice A n cs) ∧ w'.cell? ⟨w.heap.size, 1, none⟩ = some (.slice V q cv) ∧ w'.cell? ⟨B, 0, none⟩ = some (.slice X xn xc) ∧ w'.cell? ⟨B, 1, none⟩ = some (.slice O on oc))
      (go_keep)
      (first
       | (go_at_call 91; refine LE3.out.mono ?_; rintro e w6 ⟨N2, nn2, nc2, rfl, hN2, bb6⟩; have b0 : w6.cell? ⟨w.heap.size, 0, none⟩ = some (.slice A n cs) := (bb6.cell (p := ⟨w.heap.size, 0, none⟩) z05).trans m0; have b1 : w6.cell? ⟨w.heap.size, 1, none⟩ = some (.slice V q cv) := (bb6.cell (p := ⟨w.heap.size, 1, none⟩) z05).trans m1; have b2 : w6.cell? ⟨B, 0, none⟩ = some (.slice X xn xc) := (bb6.cell (p := ⟨B, 0, none⟩) z15).trans m2; have b3 : w6.cell? ⟨B, 1, none⟩ = some (.slice O on oc) := (bb6.cell (p := ⟨B, 1, none⟩) z15).trans m3; have y6 : w.heap.size < w6.heap.size := Nat.lt_of_lt_of_le z05 bb6.size; have y7 : B < w6.heap.size := Nat.lt_of_lt_of_le z15 bb6.size)
       | (go_at_call 92; refine (LD1.out w6 (next_trans HB5.out (BD5.out.trans bb6)) _ (hN2.more bb6.size)).mono ?_; rintro e w7 ⟨Y, yn, yc, he, oY, bb7⟩; have he : e = .returned (.tuple #[.slice Y yn yc, .bool true]) := he; subst he; have p0 : w7.cell? ⟨w.heap.size, 0, none⟩ = some (.slice A n cs) := (bb7.cell (p := ⟨w.heap.size, 0, none⟩) y6).trans b0; have p1 : w7.cell? ⟨w.heap.size, 1, none⟩ = some (.slice V q cv) := (bb7.cell (p := ⟨w.heap.size, 1, none⟩) y6).trans b1; have p2 : w7.cell? ⟨B, 0, none⟩ = some (.slice X xn xc) := (bb7.cell (p := ⟨B, 0, none⟩) y7).trans b2; have p3 : w7.cell? ⟨B, 1, none⟩ = some (.slice O on oc) := (bb7.cell (p := ⟨B, 1, none⟩) y7).trans b3))
     have oY : marks.Own w7 w6.heap.size (.slice Y yn yc) y := oY
     have B7 := BD5.out.trans (bb6.trans (bb7.mono bb6.size))
     have J3 := HJ2.out.next B7
     have zB : B + 1 ≤ w6.heap.size := by have := bb6.size; have h2 : w5.drew.heap.size = w5.heap.size := rfl; omega
     have J6 := HJ2.out.next (BD5.out.trans bb6)
     have b3' : Below w7.heap.size w7 (w7.alloc (.cells #[.int .i64 (pa : Int), .int .i64 (pk : Int), .slice Y yn yc] 71)) := (Below.refl _ _).alloc (Nat.le_refl _) _
     have z2 := bb7.size
     have HAPP := hid (show OwnL (w7.alloc (.cells #[.int .i64 (pa : Int), .int .i64 (pk : Int), .slice Y yn yc] 71)) (B + 1) w6.heap.size 71 sStep O on oc L ∧ OwnL (w7.alloc (.cells #[.int .i64 (pa : Int), .int .i64 (pk : Int), .slice Y yn yc] 71)) w6.heap.size (w7.heap.size + 1) 71 sStep (some ⟨w7.heap.size, 0, none⟩) 1 1 [((pa : Int), (pk : Int), y)] from
      ⟨(J6.o.next bb7).next b3', OwnL.single (e := 71) (s := sStep) (Row.new w7 71 #[.int .i64 (pa : Int), .int .i64 (pk : Int), .slice Y yn yc]) ((owned_step oY (pa : Int) (pk : Int)).next b3') (Nat.le_refl _) z2⟩)
     have HJ3 := hid J3
     have HR3 := hid (J3.r3.next b3')
     clear bb6 bb7 HJ2 LE3 LD1 LX1 oY b3' J3 J6 B7 BD5 b0 b1 b2 b3 HB5
     go_wp2_with (at_builtin; refine appLm rfl _ _ 37 71 sStep _ _ Tryz.underlying37 info_StepS rfl (by decide) rfl (B + 1) w6.heap.size w6.heap.size (w7.heap.size + 1) O on oc w7.heap.size 1 1 _ _ rfl HAPP.out.1 rfl HAPP.out.2 (Nat.le_refl _) zB (by omega) (by omega) (by simp; omega) ?_; intro A4 oc' w4 oL4 hg4 hat4 b4 hf4; obtain ⟨O', rfl⟩ := hf4 (.inr (by omega)); have rB4 := HR3.out.below b4 (show B < B + 1 by omega); have y1 : w4.cell? ⟨B, 1, none⟩ = some (.slice O on oc) := rB4.cell 1; have g1 := rB4.free 1; refine (?_ : Hid _).out)
     have HJ5 := hid (HJ3.out.app oL4 hg4)
     clear oL4 hg4 hat4 b4 hf4 HAPP HJ3 HR3 rB4
     refine hid ?_
     go_wp2
     go_roundg (gk - 1)
     case measure => have := HI.out; omega
     case rel => exact ⟨on + 1, on + 1, oc', some ⟨O', 0, none⟩, L ++ [((pa : Int), (pk : Int), y)], y, by have := HI.out; omega, HG2.out, HJ5.out⟩
end byImpl
end
section
open Go.Lib (hid)
namespace byImpl
open Go.RowKit base ints sig term termOk endAt endOf marks app sym sub segs segsHelp kinds termFacts same shifted shape drawX kindsR kindsW varsOf ruleMath ruleSpec stepMath walkMath stepSpec stepImpl walkSpec walkX walkImpl ownL heldT orderMath orderSpec bySpec strat pickImpl
set_option maxRecDepth 100000
set_option maxHeartbeats 4000000 in
theorem implWalkBy0 (a v u : Value) (d : Dat sSystem) (t : List Int) (s f : Int) (w : World) (h : Rd w w.heap.size sSystem [a, v] d) (ht : Rd w w.heap.size sI [u] t) (hz : sz sSystem d ≤ 1048576) (hz' : sz sI t ≤ 1048576) (s1 : -9223372036854775808 ≤ s) (s2 : s ≤ 9223372036854775807) :
  Calls Tryz.prog 22 #[.agg #[a, v], u, .int .i64 s, .int .i64 f] w (AnsWalk w (byW d.1 d.2 t s f) (byD d.1 d.2 t s f)) := by
 have h0 := h
 have ht0 := ht
 obtain ⟨T, m, c, rfl, -, -⟩ := rd_ints.1 ht
 obtain ⟨A, n, cs, V, q, cv, rfl, rfl, -⟩ := rd_sys h hz
 obtain ⟨W, hW, r0, r1, bel⟩ : ∃ W, W = (w.alloc (.cells #[.slice A n cs, .slice V q cv] 45)).alloc (.cells #[.slice none 0 0, .slice none 0 0] 39) ∧ Row W w.heap.size 45 #[.slice A n cs, .slice V q cv] ∧ Row W (w.heap.size + 1) 39 #[.slice none 0 0, .slice none 0 0] ∧ Below w.heap.size w W := by
  refine ⟨_, rfl, (Row.new w _ _).alloc _, ?_, ((Below.refl _ _).alloc (Nat.le_refl _) _).alloc (by simp) _⟩
  have := Row.new (w.alloc (.cells #[.slice A n cs, .slice V q cv] 45)) 39 #[.slice none 0 0, .slice none 0 0]
  simpa using this
 have HW := hid hW
 have LS := hid (strategyIn _ _ _ d t s W (h0.next bel) (ht0.next bel) hz hz' s1 s2)
 have HH := hid (And.intro h0 ht0)
 have K0 : W.cell? ⟨w.heap.size, 0, none⟩ = some (.slice A n cs) := r0.cell 0
 have K1 : W.cell? ⟨w.heap.size, 1, none⟩ = some (.slice V q cv) := r0.cell 1
 clear hW h ht h0 ht0
 cases ok : (rightB d.1 d.2 t && stratB s) with
 | false =>
  have HS := hid (by_off (by_no1 (f := f) ok))
  rw [ok] at LS
  clear ok
  go_enter Tryz.func22, Tryz.ntmps22
  go_wp2_with fail
  rw [← HW.out]
  refine LS.out.mono ?_
  rintro e w1 ⟨A1, n1, c1, A2, n2, c2, pf, rfl, -, bb⟩
  have b1 := next_trans bel bb
  have b2 : Below w1.heap.size w1 (w1.alloc (.cells #[.slice A1 n1 c1, .slice A2 n2 c2] 98)) := (Below.refl _ _).alloc (Nat.le_refl _) _
  have r3 := (r1.next bb).next b2
  have b3 := next_trans b1 b2
  clear bb b1 b2 bel r0 r1 LS K0 K1
  obtain ⟨W3, hW3⟩ : ∃ W3, W3 = w1.alloc (.cells #[.slice A1 n1 c1, .slice A2 n2 c2] 98) := ⟨_, rfl⟩
  rw [← hW3] at r3 b3
  have HW3 := hid hW3
  clear hW3
  go_upto_region 2 with fail
  rw [← HW3.out]
  clear HW3
  have y0 : W3.cell? ⟨w.heap.size + 1, 0, none⟩ = some (.slice none 0 0) := r3.cell 0
  have y1 : W3.cell? ⟨w.heap.size + 1, 1, none⟩ = some (.slice none 0 0) := r3.cell 1
  have g0 := r3.free 0
  have g1 := r3.free 1
  have ra := r3.put 0 (.slice none 0 0)
  have y2 : (W3.setCell ⟨w.heap.size + 1, 0, none⟩ (.slice none 0 0)).cell? ⟨w.heap.size + 1, 1, none⟩ = some (.slice none 0 0) := ra.cell 1
  have g2 := ra.free 1
  have rb := ra.put 1 (.slice none 0 0)
  have u0 : ((W3.setCell ⟨w.heap.size + 1, 0, none⟩ (.slice none 0 0)).setCell ⟨w.heap.size + 1, 1, none⟩ (.slice none 0 0)).cell? ⟨w.heap.size + 1, 0, none⟩ = some (.slice none 0 0) := rb.cell 0
  have u1 : ((W3.setCell ⟨w.heap.size + 1, 0, none⟩ (.slice none 0 0)).setCell ⟨w.heap.size + 1, 1, none⟩ (.slice none 0 0)).cell? ⟨w.heap.size + 1, 1, none⟩ = some (.slice none 0 0) := rb.cell 1
  have FZ : AnsWalk w (byW d.1 d.2 t s f) (byD d.1 d.2 t s f) (.returned (.tuple #[.agg #[.slice none 0 0, .slice none 0 0], .bool false])) ((W3.setCell ⟨w.heap.size + 1, 0, none⟩ (.slice none 0 0)).setCell ⟨w.heap.size + 1, 1, none⟩ (.slice none 0 0)) := ansWalk_no HS.out (((b3).setCell (show w.heap.size ≤ w.heap.size + 1 by omega) _).setCell (show w.heap.size ≤ w.heap.size + 1 by omega) _)
  have HFZ := hid FZ
  clear FZ ra rb b3
  go_wp2
  exact bodyPost_ret (v := .tuple #[.agg #[.slice none 0 0, .slice none 0 0], .bool false]) (by simp [results, Tryz.results22, go_sem, u0, u1]) rfl HFZ.out
 | true =>
  have HR := hid ((Bool.and_eq_true _ _).mp ok)
  have HOK := hid ok
  rw [ok] at LS
  clear ok
  go_enter Tryz.func22, Tryz.ntmps22
  go_wp2_with fail
  rw [← HW.out]
  refine LS.out.mono ?_
  rintro e w1 ⟨A1, n1, c1, A2, n2, c2, pf, rfl, hv, bb⟩
  obtain ⟨e1, e2, rfl⟩ := hv rfl
  injection e1 with e11 e12 e13
  injection e2 with e21 e22 e23
  subst e11 e12 e13 e21 e22 e23
  rw [pickV_yes HR.out.2]
  have b1 := next_trans bel bb
  have b2 : Below w1.heap.size w1 (w1.alloc (.cells #[.slice A1 n1 c1, .slice A2 n2 c2] 98)) := (Below.refl _ _).alloc (Nat.le_refl _) _
  have r3 := (r1.next bb).next b2
  have b3 := next_trans b1 b2
  have rS : Row (w1.alloc (.cells #[.slice A1 n1 c1, .slice A2 n2 c2] 98)) w1.heap.size 98 #[.slice A1 n1 c1, .slice A2 n2 c2] := Row.new _ _ _
  have zz : w.heap.size + 1 < w1.heap.size := (r1.next bb).lt
  obtain ⟨W3, hW3⟩ : ∃ W3, W3 = w1.alloc (.cells #[.slice A1 n1 c1, .slice A2 n2 c2] 98) := ⟨_, rfl⟩
  rw [← hW3] at r3 b3 rS
  have HW3 := hid hW3
  clear bb b1 b2 bel r0 r1 LS K0 K1 hW3
  go_upto_region 2 with fail
  rw [← HW3.out]
  clear HW3
  by_cases hf : 0 ≤ f ∧ f ≤ 60
  ·obtain ⟨F, rfl⟩ := Int.eq_ofNat_of_zero_le hf.1
   have hF : F ≤ 60 := by omega
   have hpf := pickFn (HH.out.1.next b3) hz HR.out.2
   have LX := hid (walk (pickG s) hpf.1 _ _ _ d t s F W3 (HH.out.1.next b3) (HH.out.2.next b3) hz HR.out.1 (by_yes HOK.out (fuel_yes hF)) hF hpf.2)
   generalize pickG s = g at *
   generalize byW d.1 d.2 t s (F : Int) = bw at *
   generalize byD d.1 d.2 t s (F : Int) = bd at *
   have k0 : W3.cell? ⟨w1.heap.size, 0, none⟩ = some (.slice A1 n1 c1) := rS.cell 0
   have k1 : W3.cell? ⟨w1.heap.size, 1, none⟩ = some (.slice A2 n2 c2) := rS.cell 1
   have f0 : decide ((F : Int) < 0) = false := by simp
   have f6 : decide ((60 : Int) < (F : Int)) = false := by simp; omega
   clear hpf hf
   go_wp2_with fail
   refine LX.out.mono ?_
   rintro e w4 ⟨X, xn, xc, O, on, oc, rfl, ow, bb⟩
   have jr := r3.next bb
   have b4 := next_trans b3 bb
   have zW3 : w.heap.size + 1 < W3.heap.size := r3.lt
   have FA : AnsWalk w bw bd (.returned (.tuple #[.agg #[.slice X xn xc, .slice O on oc], .bool bd])) ((w4.setCell ⟨w.heap.size + 1, 0, none⟩ (.slice X xn xc)).setCell ⟨w.heap.size + 1, 1, none⟩ (.slice O on oc)) :=
    ⟨_, _, _, _, _, _, rfl, ((ow.put (g := w.heap.size + 1) (i := 0) (by omega)).put (g := w.heap.size + 1) (i := 1) (by omega)).wider (by omega) (by simp), (b4.setCell (show w.heap.size ≤ w.heap.size + 1 by omega) _).setCell (show w.heap.size ≤ w.heap.size + 1 by omega) _⟩
   have HFA := hid FA
   clear FA ow bb b3 b4 r3 rS LX k0 k1
   have y0 : w4.cell? ⟨w.heap.size + 1, 0, none⟩ = some (.slice none 0 0) := jr.cell 0
   have y1 : w4.cell? ⟨w.heap.size + 1, 1, none⟩ = some (.slice none 0 0) := jr.cell 1
   have g0 := jr.free 0
   have g1 := jr.free 1
   have ra := jr.put 0 (.slice X xn xc)
   have y2 : (w4.setCell ⟨w.heap.size + 1, 0, none⟩ (.slice X xn xc)).cell? ⟨w.heap.size + 1, 1, none⟩ = some (.slice none 0 0) := ra.cell 1
   have g2 := ra.free 1
   have rb := ra.put 1 (.slice O on oc)
   have u0 : ((w4.setCell ⟨w.heap.size + 1, 0, none⟩ (.slice X xn xc)).setCell ⟨w.heap.size + 1, 1, none⟩ (.slice O on oc)).cell? ⟨w.heap.size + 1, 0, none⟩ = some (.slice X xn xc) := rb.cell 0
   have u1 : ((w4.setCell ⟨w.heap.size + 1, 0, none⟩ (.slice X xn xc)).setCell ⟨w.heap.size + 1, 1, none⟩ (.slice O on oc)).cell? ⟨w.heap.size + 1, 1, none⟩ = some (.slice O on oc) := rb.cell 1
   have FZ : AnsWalk w bw bd (.returned (.tuple #[.agg #[.slice X xn xc, .slice O on oc], .bool bd])) ((w4.setCell ⟨w.heap.size + 1, 0, none⟩ (.slice X xn xc)).setCell ⟨w.heap.size + 1, 1, none⟩ (.slice O on oc)) := HFA.out
   have HFZ := hid FZ
   clear FZ ra rb jr
   go_wp2
   exact bodyPost_ret (v := .tuple #[.agg #[.slice X xn xc, .slice O on oc], .bool bd]) (by simp [results, Tryz.results22, go_sem, u0, u1]) rfl HFZ.out
  ·have HB := hid (by_off (by_no2 (sg := d.1) (rs := d.2) (t := t) (s := s) (decide_eq_false hf : fuelB f = false)))
   by_cases hf0 : f < 0
   ·have f0 : decide (f < 0) = true := decide_eq_true hf0
    clear hf hf0 rS
    have y0 : W3.cell? ⟨w.heap.size + 1, 0, none⟩ = some (.slice none 0 0) := r3.cell 0
    have y1 : W3.cell? ⟨w.heap.size + 1, 1, none⟩ = some (.slice none 0 0) := r3.cell 1
    have g0 := r3.free 0
    have g1 := r3.free 1
    have ra := r3.put 0 (.slice none 0 0)
    have y2 : (W3.setCell ⟨w.heap.size + 1, 0, none⟩ (.slice none 0 0)).cell? ⟨w.heap.size + 1, 1, none⟩ = some (.slice none 0 0) := ra.cell 1
    have g2 := ra.free 1
    have rb := ra.put 1 (.slice none 0 0)
    have u0 : ((W3.setCell ⟨w.heap.size + 1, 0, none⟩ (.slice none 0 0)).setCell ⟨w.heap.size + 1, 1, none⟩ (.slice none 0 0)).cell? ⟨w.heap.size + 1, 0, none⟩ = some (.slice none 0 0) := rb.cell 0
    have u1 : ((W3.setCell ⟨w.heap.size + 1, 0, none⟩ (.slice none 0 0)).setCell ⟨w.heap.size + 1, 1, none⟩ (.slice none 0 0)).cell? ⟨w.heap.size + 1, 1, none⟩ = some (.slice none 0 0) := rb.cell 1
    have FZ : AnsWalk w (byW d.1 d.2 t s f) (byD d.1 d.2 t s f) (.returned (.tuple #[.agg #[.slice none 0 0, .slice none 0 0], .bool false])) ((W3.setCell ⟨w.heap.size + 1, 0, none⟩ (.slice none 0 0)).setCell ⟨w.heap.size + 1, 1, none⟩ (.slice none 0 0)) := ansWalk_no HB.out (((b3).setCell (show w.heap.size ≤ w.heap.size + 1 by omega) _).setCell (show w.heap.size ≤ w.heap.size + 1 by omega) _)
    have HFZ := hid FZ
    clear FZ ra rb b3
    go_wp2
    exact bodyPost_ret (v := .tuple #[.agg #[.slice none 0 0, .slice none 0 0], .bool false]) (by simp [results, Tryz.results22, go_sem, u0, u1]) rfl HFZ.out
   ·have f0 : decide (f < 0) = false := decide_eq_false hf0
    have f6 : decide (60 < f) = true := decide_eq_true (by omega)
    clear hf hf0 rS
    have y0 : W3.cell? ⟨w.heap.size + 1, 0, none⟩ = some (.slice none 0 0) := r3.cell 0
    have y1 : W3.cell? ⟨w.heap.size + 1, 1, none⟩ = some (.slice none 0 0) := r3.cell 1
    have g0 := r3.free 0
    have g1 := r3.free 1
    have ra := r3.put 0 (.slice none 0 0)
    have y2 : (W3.setCell ⟨w.heap.size + 1, 0, none⟩ (.slice none 0 0)).cell? ⟨w.heap.size + 1, 1, none⟩ = some (.slice none 0 0) := ra.cell 1
    have g2 := ra.free 1
    have rb := ra.put 1 (.slice none 0 0)
    have u0 : ((W3.setCell ⟨w.heap.size + 1, 0, none⟩ (.slice none 0 0)).setCell ⟨w.heap.size + 1, 1, none⟩ (.slice none 0 0)).cell? ⟨w.heap.size + 1, 0, none⟩ = some (.slice none 0 0) := rb.cell 0
    have u1 : ((W3.setCell ⟨w.heap.size + 1, 0, none⟩ (.slice none 0 0)).setCell ⟨w.heap.size + 1, 1, none⟩ (.slice none 0 0)).cell? ⟨w.heap.size + 1, 1, none⟩ = some (.slice none 0 0) := rb.cell 1
    have FZ : AnsWalk w (byW d.1 d.2 t s f) (byD d.1 d.2 t s f) (.returned (.tuple #[.agg #[.slice none 0 0, .slice none 0 0], .bool false])) ((W3.setCell ⟨w.heap.size + 1, 0, none⟩ (.slice none 0 0)).setCell ⟨w.heap.size + 1, 1, none⟩ (.slice none 0 0)) := ansWalk_no HB.out (((b3).setCell (show w.heap.size ≤ w.heap.size + 1 by omega) _).setCell (show w.heap.size ≤ w.heap.size + 1 by omega) _)
    have HFZ := hid FZ
    clear FZ ra rb b3
    go_wp2
    exact bodyPost_ret (v := .tuple #[.agg #[.slice none 0 0, .slice none 0 0], .bool false]) (by simp [results, Tryz.results22, go_sem, u0, u1]) rfl HFZ.out
theorem implWalkBy (a v u : Value) (d : Dat sSystem) (t : List Int) (s f : Int) (w : World) (h : Rd w w.heap.size sSystem [a, v] d) (ht : Rd w w.heap.size sI [u] t) (hz : sz sSystem d ≤ 1048576) (hz' : sz sI t ≤ 1048576) (s1 : -9223372036854775808 ≤ s) (s2 : s ≤ 9223372036854775807) (_ : -9223372036854775808 ≤ f) (_ : f ≤ 9223372036854775807) :
  Calls Tryz.prog 22 #[.agg #[a, v], u, .int .i64 s, .int .i64 f] w (AnsWalk w (byW d.1 d.2 t s f) (byD d.1 d.2 t s f)) := implWalkBy0 a v u d t s f w h ht hz hz' s1 s2
end byImpl
end
section
open Go.Lib (hid)
namespace wWalkBy
open Go.RowKit base ints sig cursor marks app sym appAt segs segsHelp segsMark kinds shape varsOf kindsR kindsW ruleMath ruleSpec stepMath walkMath stepSpec walkSpec orderMath orderSpec bySpec byImpl byX pickImpl
set_option maxRecDepth 100000
set_option maxHeartbeats 8000000 in
theorem law (v0_0 v0_1 : Value) (d0 : Dat sSystem) (a1 : Option Addr) (n1 c1 : Nat) (d1 : List Int) (x2 : Int) (x3 : Int) (w : World) (s0 : Rd w w.heap.size sSystem [v0_0, v0_1] d0) (s1 : Rd w w.heap.size sI [.slice a1 n1 c1] d1) (b2 : (Lit.int .i64 x2).wf = true) (b3 : (Lit.int .i64 x3).wf = true) :
  Calls Tryz.prog 4 #[.agg #[v0_0, v0_1], .slice a1 n1 c1, .int .i64 x2, .int .i64 x3] w (Fine w) := by
 have bd2 : -9223372036854775808 ≤ x2 ∧ x2 ≤ 9223372036854775807 := by simpa [Lit.wf, IntKind.min, IntKind.max, IntKind.signed, IntKind.bits] using b2
 obtain ⟨bl2, bh2⟩ := bd2
 clear b2
 have bd3 : -9223372036854775808 ≤ x3 ∧ x3 ≤ 9223372036854775807 := by simpa [Lit.wf, IntKind.min, IntKind.max, IntKind.signed, IntKind.bits] using b3
 obtain ⟨bl3, bh3⟩ := bd3
 clear b3
 have Hl1 := hid s1.seg.1
 have cp1 := (by obtain ⟨A, c, ec, hc⟩ := s1.slice; injection ec with e1 e2 e3; subst e1 e2 e3; exact hc : Cap a1 n1 c1)
 have hN1 : n1 ≤ 9223372036854775807 := Nat.le_trans cp1.1 cp1.2.1
 clear cp1
 obtain ⟨W, hW⟩ : ∃ W, W = w.alloc (.cells #[v0_0, v0_1] 27) := ⟨_, rfl⟩
 have rA0 : Row W (w.heap.size) 27 #[v0_0, v0_1] := by rw [hW]; have := Row.new (w) 27 #[v0_0, v0_1]; simpa using this
 have bW : Below w.heap.size w W := by rw [hW]; exact (Below.refl w.heap.size w).alloc (by simp) (.cells #[v0_0, v0_1] 27)
 have zA0 := rA0.lt
 replace s0 := s0.next bW
 replace s1 := s1.next bW
 have HW := hid hW
 clear hW
 obtain ⟨t0, ht0⟩ : ∃ z, sz sSystem d0 = z := ⟨_, rfl⟩
 have HT0 := hid ht0
 clear ht0
 obtain ⟨v, hv⟩ : ∃ v, byD d0.1 d0.2 d1 x2 x3 = v := ⟨_, rfl⟩
 have HV := hid hv
 clear hv
 have ev : (v != v) = false := by simp
 by_cases h1 : n1 ≤ 1048576
 case neg =>
  go_enter Tryz.func4, Tryz.ntmps4
  go_wp2_with fail
  rw [← HW.out]
  go_ret
  exact ⟨rfl, bW⟩
 have hi1 : Hid (sz sI d1 ≤ 1048576) := hid (by rw [sz_ints, Hl1.out]; exact h1)
 have hn1 := h1
 clear h1
 have h1 := hi1
 clear hi1
 go_enter Tryz.func4, Tryz.ntmps4
 go_wp2_with fail
 rw [← HW.out]
 clear HW
 have bel := Below.refl W.heap.size W
 have cA0_0 : W.cell? ⟨w.heap.size, 0, none⟩ = some (v0_0) := (rA0.next bel).cell 0
 have cA0_1 : W.cell? ⟨w.heap.size, 1, none⟩ = some (v0_1) := (rA0.next bel).cell 1
 refine (szK_System _ _ d0 (1048576) _ (s0.next bel) (by omega) (by omega)).mono ?_
 rintro e w1 ⟨he, bb⟩
 rw [HT0.out] at he
 replace bel := next_trans bel bb
 have zw1 := bb.size
 clear bb
 by_cases q0 : t0 ≤ 1048576
 case neg =>
  rw [if_pos (by omega)] at he
  subst he
  have F := hid (bW.trans (bel.mono bW.size))
  clear bel bW cA0_0 cA0_1
  go_wp2
  go_ret
  exact ⟨rfl, F.out⟩
 rw [if_neg (by omega)] at he
 subst he
 have h0 : Hid (sz sSystem d0 ≤ 1048576) := hid (by rw [HT0.out]; omega)
 clear cA0_0 cA0_1
 have cA0_0 : w1.cell? ⟨w.heap.size, 0, none⟩ = some (v0_0) := (rA0.next bel).cell 0
 have cA0_1 : w1.cell? ⟨w.heap.size, 1, none⟩ = some (v0_1) := (rA0.next bel).cell 1
 have hlen : sz sWalk (byW d0.1 d0.2 d1 x2 x3) ≤ 1048576 := byW_sz
 obtain ⟨ys, hys⟩ : ∃ ys, byW d0.1 d0.2 d1 x2 x3 = ys := ⟨_, rfl⟩
 rw [hys] at hlen
 have HY := hid hys
 clear hys
 replace hlen := hid hlen
 obtain ⟨cg, hcg⟩ : ∃ z, cntv sWalk ys = z := ⟨_, rfl⟩
 have hcG : cg ≤ 4 * 1048576 := by have j1 := cntv_le sWalk ys; have j2 := hlen.out; have j3 : wd sWalk = 4 := rfl; rw [hcg, j3] at j1; omega
 have HCG := hid hcg
 clear hcg
 obtain ⟨k0, hk0⟩ : ∃ z, cntv sSystem d0 = z := ⟨_, rfl⟩
 have hK0 : k0 ≤ 3 * 1048576 := by have j1 := cntv_le sSystem d0; have j2 := h0.out; have j3 : wd sSystem = 3 := rfl; rw [hk0, j3] at j1; omega
 have HK0 := hid hk0
 clear hk0
 obtain ⟨k1, hk1⟩ : ∃ z, cntv sI d1 = z := ⟨_, rfl⟩
 have hK1 : k1 ≤ 1 * 1048576 := by have j1 := cntv_le sI d1; have j2 := h1.out; have j3 : wd sI = 1 := rfl; rw [hk1, j3] at j1; omega
 have HK1 := hid hk1
 clear hk1
 go_wp2_with fail
 refine (toK_System _ _ d0 _ (s0.next bel) h0.out).mono ?_
 rintro e w2 ⟨p0A0, p0n0, p0c0, p0A1, p0n1, p0c1, rfl, op0, bb⟩
 replace bel := next_trans bel bb
 have zw2 := bb.size
 clear bb
 clear cA0_0 cA0_1
 have cA0_0 : w2.cell? ⟨w.heap.size, 0, none⟩ = some (v0_0) := (rA0.next bel).cell 0
 have cA0_1 : w2.cell? ⟨w.heap.size, 1, none⟩ = some (v0_1) := (rA0.next bel).cell 1
 go_wp2_with fail
 refine (toK_ints _ d1 _ (s1.next bel) h1.out).mono ?_
 rintro e w3 ⟨p1A0, p1n0, p1c0, rfl, op1, bb⟩
 replace op0 := op0.next bb
 replace bel := next_trans bel bb
 have zw3 := bb.size
 clear bb
 clear cA0_0 cA0_1
 have cA0_0 : w3.cell? ⟨w.heap.size, 0, none⟩ = some (v0_0) := (rA0.next bel).cell 0
 have cA0_1 : w3.cell? ⟨w.heap.size, 1, none⟩ = some (v0_1) := (rA0.next bel).cell 1
 go_wp2_with fail
 refine (specWalkByX _ _ _ d0 d1 x2 x3 _ op0.rd op1.rd h0.out h1.out bl2 bh2 bl3 bh3).mono ?_
 rintro e w4 ⟨wA0, wn0, wc0, wA1, wn1, wc1, he, o0, bb⟩
 rw [HV.out] at he
 rw [HY.out] at o0
 subst he
 replace op0 := op0.next bb
 replace op1 := op1.next bb
 replace bel := next_trans bel bb
 have zw4 := bb.size
 clear bb
 have sw := o0.rd
 clear o0
 clear op0 op1
 clear cA0_0 cA0_1
 have cA0_0 : w4.cell? ⟨w.heap.size, 0, none⟩ = some (v0_0) := (rA0.next bel).cell 0
 have cA0_1 : w4.cell? ⟨w.heap.size, 1, none⟩ = some (v0_1) := (rA0.next bel).cell 1
 have dA0_0 : (w4.alloc (.cells #[.slice wA0 wn0 wc0, .slice wA1 wn1 wc1] 39)).cell? ⟨w.heap.size, 0, none⟩ = some (v0_0) := ((rA0.next bel).alloc _).cell 0
 have dA0_1 : (w4.alloc (.cells #[.slice wA0 wn0 wc0, .slice wA1 wn1 wc1] 39)).cell? ⟨w.heap.size, 1, none⟩ = some (v0_1) := ((rA0.next bel).alloc _).cell 1
 go_wp2_with fail
 obtain ⟨w5, hw⟩ : ∃ W, W = w4.alloc (.cells #[.slice wA0 wn0 wc0, .slice wA1 wn1 wc1] 39) := ⟨_, rfl⟩
 rw [← hw]
 have rw : Row w5 w4.heap.size 39 #[.slice wA0 wn0 wc0, .slice wA1 wn1 wc1] := by rw [hw]; exact Row.new _ _ _
 have bb : Below w4.heap.size w4 w5 := by rw [hw]; exact (Below.refl _ _).alloc (Nat.le_refl _) _
 have yrw : w4.heap.size < w5.heap.size := by rw [hw]; simp
 clear hw
 replace sw := sw.next bb
 replace bel := next_trans bel bb
 have zw5 := bb.size
 clear bb
 clear dA0_0 dA0_1
 have belw := Below.refl w5.heap.size w5
 clear cA0_0 cA0_1
 have cA0_0 : w5.cell? ⟨w.heap.size, 0, none⟩ = some (v0_0) := (rA0.next bel).cell 0
 have cA0_1 : w5.cell? ⟨w.heap.size, 1, none⟩ = some (v0_1) := (rA0.next bel).cell 1
 have cw_0 : w5.cell? ⟨w4.heap.size, 0, none⟩ = some (.slice wA0 wn0 wc0) := (rw.next belw).cell 0
 have cw_1 : w5.cell? ⟨w4.heap.size, 1, none⟩ = some (.slice wA1 wn1 wc1) := (rw.next belw).cell 1
 refine (toK_System _ _ d0 _ (s0.next bel) h0.out).mono ?_
 rintro e w6 ⟨x0A0, x0n0, x0c0, x0A1, x0n1, x0c1, rfl, ox0, bb⟩
 replace bel := next_trans bel bb
 replace belw := next_trans belw bb
 have zw6 := bb.size
 clear bb
 clear cA0_0 cA0_1 cw_0 cw_1
 have cA0_0 : w6.cell? ⟨w.heap.size, 0, none⟩ = some (v0_0) := (rA0.next bel).cell 0
 have cA0_1 : w6.cell? ⟨w.heap.size, 1, none⟩ = some (v0_1) := (rA0.next bel).cell 1
 have cw_0 : w6.cell? ⟨w4.heap.size, 0, none⟩ = some (.slice wA0 wn0 wc0) := (rw.next belw).cell 0
 have cw_1 : w6.cell? ⟨w4.heap.size, 1, none⟩ = some (.slice wA1 wn1 wc1) := (rw.next belw).cell 1
 have dA0_0 : (w6.alloc (.cells #[.slice x0A0 x0n0 x0c0, .slice x0A1 x0n1 x0c1] 45)).cell? ⟨w.heap.size, 0, none⟩ = some (v0_0) := ((rA0.next bel).alloc _).cell 0
 have dA0_1 : (w6.alloc (.cells #[.slice x0A0 x0n0 x0c0, .slice x0A1 x0n1 x0c1] 45)).cell? ⟨w.heap.size, 1, none⟩ = some (v0_1) := ((rA0.next bel).alloc _).cell 1
 have dw_0 : (w6.alloc (.cells #[.slice x0A0 x0n0 x0c0, .slice x0A1 x0n1 x0c1] 45)).cell? ⟨w4.heap.size, 0, none⟩ = some (.slice wA0 wn0 wc0) := ((rw.next belw).alloc _).cell 0
 have dw_1 : (w6.alloc (.cells #[.slice x0A0 x0n0 x0c0, .slice x0A1 x0n1 x0c1] 45)).cell? ⟨w4.heap.size, 1, none⟩ = some (.slice wA1 wn1 wc1) := ((rw.next belw).alloc _).cell 1
 go_wp2_with fail
 obtain ⟨w7, hw⟩ : ∃ W, W = w6.alloc (.cells #[.slice x0A0 x0n0 x0c0, .slice x0A1 x0n1 x0c1] 45) := ⟨_, rfl⟩
 rw [← hw]
 have rx0 : Row w7 w6.heap.size 45 #[.slice x0A0 x0n0 x0c0, .slice x0A1 x0n1 x0c1] := by rw [hw]; exact Row.new _ _ _
 have bb : Below w6.heap.size w6 w7 := by rw [hw]; exact (Below.refl _ _).alloc (Nat.le_refl _) _
 have yrx0 : w6.heap.size < w7.heap.size := by rw [hw]; simp
 clear hw
 replace ox0 := ox0.next bb
 replace bel := next_trans bel bb
 replace belw := next_trans belw bb
 have zw7 := bb.size
 clear bb
 clear dA0_0 dA0_1 dw_0 dw_1
 clear cA0_0 cA0_1 cw_0 cw_1
 have cA0_0 : w7.cell? ⟨w.heap.size, 0, none⟩ = some (v0_0) := (rA0.next bel).cell 0
 have cA0_1 : w7.cell? ⟨w.heap.size, 1, none⟩ = some (v0_1) := (rA0.next bel).cell 1
 have cw_0 : w7.cell? ⟨w4.heap.size, 0, none⟩ = some (.slice wA0 wn0 wc0) := (rw.next belw).cell 0
 have cw_1 : w7.cell? ⟨w4.heap.size, 1, none⟩ = some (.slice wA1 wn1 wc1) := (rw.next belw).cell 1
 have cx0_0 : w7.cell? ⟨w6.heap.size, 0, none⟩ = some (.slice x0A0 x0n0 x0c0) := (rx0).cell 0
 have cx0_1 : w7.cell? ⟨w6.heap.size, 1, none⟩ = some (.slice x0A1 x0n1 x0c1) := (rx0).cell 1
 refine (toK_ints _ d1 _ (s1.next bel) h1.out).mono ?_
 rintro e w8 ⟨x1A0, x1n0, x1c0, rfl, ox1, bb⟩
 replace ox0 := ox0.next bb
 replace rx0 := rx0.next bb
 replace bel := next_trans bel bb
 replace belw := next_trans belw bb
 have zw8 := bb.size
 clear bb
 clear cA0_0 cA0_1 cw_0 cw_1 cx0_0 cx0_1
 have cA0_0 : w8.cell? ⟨w.heap.size, 0, none⟩ = some (v0_0) := (rA0.next bel).cell 0
 have cA0_1 : w8.cell? ⟨w.heap.size, 1, none⟩ = some (v0_1) := (rA0.next bel).cell 1
 have cw_0 : w8.cell? ⟨w4.heap.size, 0, none⟩ = some (.slice wA0 wn0 wc0) := (rw.next belw).cell 0
 have cw_1 : w8.cell? ⟨w4.heap.size, 1, none⟩ = some (.slice wA1 wn1 wc1) := (rw.next belw).cell 1
 have cx0_0 : w8.cell? ⟨w6.heap.size, 0, none⟩ = some (.slice x0A0 x0n0 x0c0) := (rx0).cell 0
 have cx0_1 : w8.cell? ⟨w6.heap.size, 1, none⟩ = some (.slice x0A1 x0n1 x0c1) := (rx0).cell 1
 go_wp2_with fail
 refine (implWalkBy _ _ _ d0 d1 x2 x3 _ ox0.rd ox1.rd h0.out h1.out bl2 bh2 bl3 bh3).mono ?_
 rintro e w9 ⟨gA0, gn0, gc0, gA1, gn1, gc1, he, o0, bb⟩
 rw [HV.out] at he
 rw [HY.out] at o0
 subst he
 replace ox0 := ox0.next bb
 replace rx0 := rx0.next bb
 replace ox1 := ox1.next bb
 replace bel := next_trans bel bb
 replace belw := next_trans belw bb
 have zw9 := bb.size
 clear bb
 have og := o0
 clear o0
 clear cA0_0 cA0_1 cw_0 cw_1 cx0_0 cx0_1
 have cA0_0 : w9.cell? ⟨w.heap.size, 0, none⟩ = some (v0_0) := (rA0.next bel).cell 0
 have cA0_1 : w9.cell? ⟨w.heap.size, 1, none⟩ = some (v0_1) := (rA0.next bel).cell 1
 have cw_0 : w9.cell? ⟨w4.heap.size, 0, none⟩ = some (.slice wA0 wn0 wc0) := (rw.next belw).cell 0
 have cw_1 : w9.cell? ⟨w4.heap.size, 1, none⟩ = some (.slice wA1 wn1 wc1) := (rw.next belw).cell 1
 have cx0_0 : w9.cell? ⟨w6.heap.size, 0, none⟩ = some (.slice x0A0 x0n0 x0c0) := (rx0).cell 0
 have cx0_1 : w9.cell? ⟨w6.heap.size, 1, none⟩ = some (.slice x0A1 x0n1 x0c1) := (rx0).cell 1
 have dA0_0 : (w9.alloc (.cells #[.slice gA0 gn0 gc0, .slice gA1 gn1 gc1] 39)).cell? ⟨w.heap.size, 0, none⟩ = some (v0_0) := ((rA0.next bel).alloc _).cell 0
 have dA0_1 : (w9.alloc (.cells #[.slice gA0 gn0 gc0, .slice gA1 gn1 gc1] 39)).cell? ⟨w.heap.size, 1, none⟩ = some (v0_1) := ((rA0.next bel).alloc _).cell 1
 have dw_0 : (w9.alloc (.cells #[.slice gA0 gn0 gc0, .slice gA1 gn1 gc1] 39)).cell? ⟨w4.heap.size, 0, none⟩ = some (.slice wA0 wn0 wc0) := ((rw.next belw).alloc _).cell 0
 have dw_1 : (w9.alloc (.cells #[.slice gA0 gn0 gc0, .slice gA1 gn1 gc1] 39)).cell? ⟨w4.heap.size, 1, none⟩ = some (.slice wA1 wn1 wc1) := ((rw.next belw).alloc _).cell 1
 have dx0_0 : (w9.alloc (.cells #[.slice gA0 gn0 gc0, .slice gA1 gn1 gc1] 39)).cell? ⟨w6.heap.size, 0, none⟩ = some (.slice x0A0 x0n0 x0c0) := ((rx0).alloc _).cell 0
 have dx0_1 : (w9.alloc (.cells #[.slice gA0 gn0 gc0, .slice gA1 gn1 gc1] 39)).cell? ⟨w6.heap.size, 1, none⟩ = some (.slice x0A1 x0n1 x0c1) := ((rx0).alloc _).cell 1
 go_wp2_with fail
 obtain ⟨w10, hw⟩ : ∃ W, W = w9.alloc (.cells #[.slice gA0 gn0 gc0, .slice gA1 gn1 gc1] 39) := ⟨_, rfl⟩
 rw [← hw]
 have rg : Row w10 w9.heap.size 39 #[.slice gA0 gn0 gc0, .slice gA1 gn1 gc1] := by rw [hw]; exact Row.new _ _ _
 have bb : Below w9.heap.size w9 w10 := by rw [hw]; exact (Below.refl _ _).alloc (Nat.le_refl _) _
 have yrg : w9.heap.size < w10.heap.size := by rw [hw]; simp
 clear hw
 replace ox0 := ox0.next bb
 replace rx0 := rx0.next bb
 replace ox1 := ox1.next bb
 replace og := og.next bb
 replace bel := next_trans bel bb
 replace belw := next_trans belw bb
 have zw10 := bb.size
 clear bb
 clear dA0_0 dA0_1 dw_0 dw_1 dx0_0 dx0_1
 clear cA0_0 cA0_1 cw_0 cw_1 cx0_0 cx0_1
 have cA0_0 : w10.cell? ⟨w.heap.size, 0, none⟩ = some (v0_0) := (rA0.next bel).cell 0
 have cA0_1 : w10.cell? ⟨w.heap.size, 1, none⟩ = some (v0_1) := (rA0.next bel).cell 1
 have cw_0 : w10.cell? ⟨w4.heap.size, 0, none⟩ = some (.slice wA0 wn0 wc0) := (rw.next belw).cell 0
 have cw_1 : w10.cell? ⟨w4.heap.size, 1, none⟩ = some (.slice wA1 wn1 wc1) := (rw.next belw).cell 1
 have cx0_0 : w10.cell? ⟨w6.heap.size, 0, none⟩ = some (.slice x0A0 x0n0 x0c0) := (rx0).cell 0
 have cx0_1 : w10.cell? ⟨w6.heap.size, 1, none⟩ = some (.slice x0A1 x0n1 x0c1) := (rx0).cell 1
 have cg_0 : w10.cell? ⟨w9.heap.size, 0, none⟩ = some (.slice gA0 gn0 gc0) := (rg).cell 0
 have cg_1 : w10.cell? ⟨w9.heap.size, 1, none⟩ = some (.slice gA1 gn1 gc1) := (rg).cell 1
 refine (eqK_Walk _ _ _ _ ys _ og.rd (sw.next belw) hlen.out).mono ?_
 rintro e w11 ⟨rfl, bb⟩
 replace ox0 := ox0.next bb
 replace rx0 := rx0.next bb
 replace ox1 := ox1.next bb
 replace og := og.next bb
 replace rg := rg.next bb
 replace bel := next_trans bel bb
 replace belw := next_trans belw bb
 have zw11 := bb.size
 clear bb
 clear cA0_0 cA0_1 cw_0 cw_1 cx0_0 cx0_1 cg_0 cg_1
 have cA0_0 : w11.cell? ⟨w.heap.size, 0, none⟩ = some (v0_0) := (rA0.next bel).cell 0
 have cA0_1 : w11.cell? ⟨w.heap.size, 1, none⟩ = some (v0_1) := (rA0.next bel).cell 1
 have cw_0 : w11.cell? ⟨w4.heap.size, 0, none⟩ = some (.slice wA0 wn0 wc0) := (rw.next belw).cell 0
 have cw_1 : w11.cell? ⟨w4.heap.size, 1, none⟩ = some (.slice wA1 wn1 wc1) := (rw.next belw).cell 1
 have cx0_0 : w11.cell? ⟨w6.heap.size, 0, none⟩ = some (.slice x0A0 x0n0 x0c0) := (rx0).cell 0
 have cx0_1 : w11.cell? ⟨w6.heap.size, 1, none⟩ = some (.slice x0A1 x0n1 x0c1) := (rx0).cell 1
 have cg_0 : w11.cell? ⟨w9.heap.size, 0, none⟩ = some (.slice gA0 gn0 gc0) := (rg).cell 0
 have cg_1 : w11.cell? ⟨w9.heap.size, 1, none⟩ = some (.slice gA1 gn1 gc1) := (rg).cell 1
 go_wp2_with fail
 replace ox0 := ox0.drew
 replace rx0 := rx0.drew
 replace ox1 := ox1.drew
 replace og := og.drew
 replace rg := rg.drew
 replace bel := bel.drew
 replace belw := belw.drew
 have zdw11 := (drew_below w11).size
 go_region_held3 (fun w' => w'.cell? ⟨w6.heap.size, 0, none⟩ = some (.slice x0A0 x0n0 x0c0) ∧ w'.cell? ⟨w6.heap.size, 1, none⟩ = some (.slice x0A1 x0n1 x0c1) ∧ w'.cell? ⟨w.heap.size, 0, none⟩ = some (v0_0) ∧ w'.cell? ⟨w.heap.size, 1, none⟩ = some (v0_1))
  (go_keep)
  (first
   | (go_at_call 9; refine (toK_System _ _ d0 _ (s0.next bel) h0.out).mono ?_; rintro e w12 ⟨t0A0, t0n0, t0c0, t0A1, t0n1, t0c1, rfl, ot, bb⟩; replace ox0 := ox0.next bb; replace rx0 := rx0.next bb; replace ox1 := ox1.next bb; replace og := og.next bb; replace rg := rg.next bb; replace bel := next_trans bel bb; replace belw := next_trans belw bb; have k0_0w12 : w12.cell? ⟨w.heap.size, 0, none⟩ = some (v0_0) := (rA0.next bel).cell 0; have k0_1w12 : w12.cell? ⟨w.heap.size, 1, none⟩ = some (v0_1) := (rA0.next bel).cell 1; have l0_0w12 : w12.cell? ⟨w6.heap.size, 0, none⟩ = some (.slice x0A0 x0n0 x0c0) := rx0.cell 0; have l0_1w12 : w12.cell? ⟨w6.heap.size, 1, none⟩ = some (.slice x0A1 x0n1 x0c1) := rx0.cell 1; have zqw12 := bb.size; clear bb)
   | (go_at_call 14; refine (eqK_System _ _ _ _ d0 _ ox0.rd ot.rd h0.out).mono ?_; rintro e w13 ⟨rfl, bb⟩; replace ox0 := ox0.next bb; replace rx0 := rx0.next bb; replace ox1 := ox1.next bb; replace og := og.next bb; replace rg := rg.next bb; replace bel := next_trans bel bb; replace belw := next_trans belw bb; have k0_0w13 : w13.cell? ⟨w.heap.size, 0, none⟩ = some (v0_0) := (rA0.next bel).cell 0; have k0_1w13 : w13.cell? ⟨w.heap.size, 1, none⟩ = some (v0_1) := (rA0.next bel).cell 1; have l0_0w13 : w13.cell? ⟨w6.heap.size, 0, none⟩ = some (.slice x0A0 x0n0 x0c0) := rx0.cell 0; have l0_1w13 : w13.cell? ⟨w6.heap.size, 1, none⟩ = some (.slice x0A1 x0n1 x0c1) := rx0.cell 1; have zqw13 := bb.size; clear bb ot))
 clear k0_0w12 l0_0w12 k0_1w12 l0_1w12 k0_0w13 l0_0w13 k0_1w13 l0_1w13
 clear cA0_0 cA0_1 cw_0 cw_1 cx0_0 cx0_1 cg_0 cg_1
 have cA0_0 : w13.cell? ⟨w.heap.size, 0, none⟩ = some (v0_0) := (rA0.next bel).cell 0
 have cA0_1 : w13.cell? ⟨w.heap.size, 1, none⟩ = some (v0_1) := (rA0.next bel).cell 1
 have cw_0 : w13.cell? ⟨w4.heap.size, 0, none⟩ = some (.slice wA0 wn0 wc0) := (rw.next belw).cell 0
 have cw_1 : w13.cell? ⟨w4.heap.size, 1, none⟩ = some (.slice wA1 wn1 wc1) := (rw.next belw).cell 1
 have cx0_0 : w13.cell? ⟨w6.heap.size, 0, none⟩ = some (.slice x0A0 x0n0 x0c0) := (rx0).cell 0
 have cx0_1 : w13.cell? ⟨w6.heap.size, 1, none⟩ = some (.slice x0A1 x0n1 x0c1) := (rx0).cell 1
 have cg_0 : w13.cell? ⟨w9.heap.size, 0, none⟩ = some (.slice gA0 gn0 gc0) := (rg).cell 0
 have cg_1 : w13.cell? ⟨w9.heap.size, 1, none⟩ = some (.slice gA1 gn1 gc1) := (rg).cell 1
 go_wp2_with fail
 refine (toK_ints _ d1 _ (s1.next bel) h1.out).mono ?_
 rintro e w14 ⟨t1A0, t1n0, t1c0, rfl, ot1, bb⟩
 replace ox0 := ox0.next bb
 replace rx0 := rx0.next bb
 replace ox1 := ox1.next bb
 replace og := og.next bb
 replace rg := rg.next bb
 replace bel := next_trans bel bb
 replace belw := next_trans belw bb
 have zw14 := bb.size
 clear bb
 clear cA0_0 cA0_1 cw_0 cw_1 cx0_0 cx0_1 cg_0 cg_1
 have cA0_0 : w14.cell? ⟨w.heap.size, 0, none⟩ = some (v0_0) := (rA0.next bel).cell 0
 have cA0_1 : w14.cell? ⟨w.heap.size, 1, none⟩ = some (v0_1) := (rA0.next bel).cell 1
 have cw_0 : w14.cell? ⟨w4.heap.size, 0, none⟩ = some (.slice wA0 wn0 wc0) := (rw.next belw).cell 0
 have cw_1 : w14.cell? ⟨w4.heap.size, 1, none⟩ = some (.slice wA1 wn1 wc1) := (rw.next belw).cell 1
 have cx0_0 : w14.cell? ⟨w6.heap.size, 0, none⟩ = some (.slice x0A0 x0n0 x0c0) := (rx0).cell 0
 have cx0_1 : w14.cell? ⟨w6.heap.size, 1, none⟩ = some (.slice x0A1 x0n1 x0c1) := (rx0).cell 1
 have cg_0 : w14.cell? ⟨w9.heap.size, 0, none⟩ = some (.slice gA0 gn0 gc0) := (rg).cell 0
 have cg_1 : w14.cell? ⟨w9.heap.size, 1, none⟩ = some (.slice gA1 gn1 gc1) := (rg).cell 1
 go_wp2_with fail
 refine (eqK_ints _ _ d1 _ ox1.rd ot1.rd h1.out).mono ?_
 rintro e w15 ⟨rfl, bb⟩
 replace ox0 := ox0.next bb
 replace rx0 := rx0.next bb
 replace ox1 := ox1.next bb
 replace og := og.next bb
 replace rg := rg.next bb
 replace ot1 := ot1.next bb
 replace bel := next_trans bel bb
 replace belw := next_trans belw bb
 have zw15 := bb.size
 clear bb
 clear ot1
 clear cA0_0 cA0_1 cw_0 cw_1 cx0_0 cx0_1 cg_0 cg_1
 have cA0_0 : w15.cell? ⟨w.heap.size, 0, none⟩ = some (v0_0) := (rA0.next bel).cell 0
 have cA0_1 : w15.cell? ⟨w.heap.size, 1, none⟩ = some (v0_1) := (rA0.next bel).cell 1
 have cw_0 : w15.cell? ⟨w4.heap.size, 0, none⟩ = some (.slice wA0 wn0 wc0) := (rw.next belw).cell 0
 have cw_1 : w15.cell? ⟨w4.heap.size, 1, none⟩ = some (.slice wA1 wn1 wc1) := (rw.next belw).cell 1
 have cx0_0 : w15.cell? ⟨w6.heap.size, 0, none⟩ = some (.slice x0A0 x0n0 x0c0) := (rx0).cell 0
 have cx0_1 : w15.cell? ⟨w6.heap.size, 1, none⟩ = some (.slice x0A1 x0n1 x0c1) := (rx0).cell 1
 have cg_0 : w15.cell? ⟨w9.heap.size, 0, none⟩ = some (.slice gA0 gn0 gc0) := (rg).cell 0
 have cg_1 : w15.cell? ⟨w9.heap.size, 1, none⟩ = some (.slice gA1 gn1 gc1) := (rg).cell 1
 obtain ⟨Fox0, fox0, nox0, box0⟩ := ox0
 go_wp2_with fail
 refine (markK_System _ _ d0 (1) Fox0 _ fox0 nox0 h0.out (by omega) (by rw [HK0.out]; omega)).mono ?_
 rintro e w16 ⟨he, omox0, onox0⟩
 rw [HK0.out] at he
 have bt := onox0.btw box0
 clear onox0
 clear omox0 fox0 nox0 box0
 subst he
 replace rx0 := Row.btw rx0 bt (by omega)
 replace ox1 := ox1.btw bt (by omega)
 replace og := og.btw bt (by omega)
 replace rg := Row.btw rg bt (by omega)
 replace bel := Below.btw bel bt (by omega) bel.size
 replace belw := Below.btw belw bt (by omega) belw.size
 have zw16 := bt.size
 clear bt
 clear cA0_0 cA0_1 cw_0 cw_1 cx0_0 cx0_1 cg_0 cg_1
 have cA0_0 : w16.cell? ⟨w.heap.size, 0, none⟩ = some (v0_0) := (rA0.next bel).cell 0
 have cA0_1 : w16.cell? ⟨w.heap.size, 1, none⟩ = some (v0_1) := (rA0.next bel).cell 1
 have cw_0 : w16.cell? ⟨w4.heap.size, 0, none⟩ = some (.slice wA0 wn0 wc0) := (rw.next belw).cell 0
 have cw_1 : w16.cell? ⟨w4.heap.size, 1, none⟩ = some (.slice wA1 wn1 wc1) := (rw.next belw).cell 1
 have cx0_0 : w16.cell? ⟨w6.heap.size, 0, none⟩ = some (.slice x0A0 x0n0 x0c0) := (rx0).cell 0
 have cx0_1 : w16.cell? ⟨w6.heap.size, 1, none⟩ = some (.slice x0A1 x0n1 x0c1) := (rx0).cell 1
 have cg_0 : w16.cell? ⟨w9.heap.size, 0, none⟩ = some (.slice gA0 gn0 gc0) := (rg).cell 0
 have cg_1 : w16.cell? ⟨w9.heap.size, 1, none⟩ = some (.slice gA1 gn1 gc1) := (rg).cell 1
 obtain ⟨Fox1, fox1, nox1, box1⟩ := ox1
 go_wp2_with fail
 refine (markK_ints _ d1 (1 + (k0 : Int)) Fox1 _ fox1 h1.out (by omega) (by omega)).mono ?_
 rintro e w17 ⟨he, omox1, onox1⟩
 rw [HK1.out] at he
 have bt := onox1.btw box1
 clear onox1
 clear omox1 fox1 nox1 box1
 subst he
 replace rx0 := Row.btw rx0 bt (by omega)
 replace og := og.btw bt (by omega)
 replace rg := Row.btw rg bt (by omega)
 replace bel := Below.btw bel bt (by omega) bel.size
 replace belw := Below.btw belw bt (by omega) belw.size
 have zw17 := bt.size
 clear bt
 clear cA0_0 cA0_1 cw_0 cw_1 cx0_0 cx0_1 cg_0 cg_1
 have cA0_0 : w17.cell? ⟨w.heap.size, 0, none⟩ = some (v0_0) := (rA0.next bel).cell 0
 have cA0_1 : w17.cell? ⟨w.heap.size, 1, none⟩ = some (v0_1) := (rA0.next bel).cell 1
 have cw_0 : w17.cell? ⟨w4.heap.size, 0, none⟩ = some (.slice wA0 wn0 wc0) := (rw.next belw).cell 0
 have cw_1 : w17.cell? ⟨w4.heap.size, 1, none⟩ = some (.slice wA1 wn1 wc1) := (rw.next belw).cell 1
 have cx0_0 : w17.cell? ⟨w6.heap.size, 0, none⟩ = some (.slice x0A0 x0n0 x0c0) := (rx0).cell 0
 have cx0_1 : w17.cell? ⟨w6.heap.size, 1, none⟩ = some (.slice x0A1 x0n1 x0c1) := (rx0).cell 1
 have cg_0 : w17.cell? ⟨w9.heap.size, 0, none⟩ = some (.slice gA0 gn0 gc0) := (rg).cell 0
 have cg_1 : w17.cell? ⟨w9.heap.size, 1, none⟩ = some (.slice gA1 gn1 gc1) := (rg).cell 1
 clear rx0
 clear cA0_0 cA0_1 cw_0 cw_1 cx0_0 cx0_1 cg_0 cg_1
 have cA0_0 : w17.cell? ⟨w.heap.size, 0, none⟩ = some (v0_0) := (rA0.next bel).cell 0
 have cA0_1 : w17.cell? ⟨w.heap.size, 1, none⟩ = some (v0_1) := (rA0.next bel).cell 1
 have cw_0 : w17.cell? ⟨w4.heap.size, 0, none⟩ = some (.slice wA0 wn0 wc0) := (rw.next belw).cell 0
 have cw_1 : w17.cell? ⟨w4.heap.size, 1, none⟩ = some (.slice wA1 wn1 wc1) := (rw.next belw).cell 1
 have cg_0 : w17.cell? ⟨w9.heap.size, 0, none⟩ = some (.slice gA0 gn0 gc0) := (rg).cell 0
 have cg_1 : w17.cell? ⟨w9.heap.size, 1, none⟩ = some (.slice gA1 gn1 gc1) := (rg).cell 1
 go_wp2_with fail
 refine (eqK_Walk _ _ _ _ ys _ og.rd (sw.next belw) hlen.out).mono ?_
 rintro e w18 ⟨rfl, bb⟩
 replace og := og.next bb
 replace rg := rg.next bb
 replace bel := next_trans bel bb
 replace belw := next_trans belw bb
 have zw18 := bb.size
 clear bb
 clear cA0_0 cA0_1 cw_0 cw_1 cg_0 cg_1
 have cA0_0 : w18.cell? ⟨w.heap.size, 0, none⟩ = some (v0_0) := (rA0.next bel).cell 0
 have cA0_1 : w18.cell? ⟨w.heap.size, 1, none⟩ = some (v0_1) := (rA0.next bel).cell 1
 have cw_0 : w18.cell? ⟨w4.heap.size, 0, none⟩ = some (.slice wA0 wn0 wc0) := (rw.next belw).cell 0
 have cw_1 : w18.cell? ⟨w4.heap.size, 1, none⟩ = some (.slice wA1 wn1 wc1) := (rw.next belw).cell 1
 have cg_0 : w18.cell? ⟨w9.heap.size, 0, none⟩ = some (.slice gA0 gn0 gc0) := (rg).cell 0
 have cg_1 : w18.cell? ⟨w9.heap.size, 1, none⟩ = some (.slice gA1 gn1 gc1) := (rg).cell 1
 obtain ⟨Fog, fog, nog, bog⟩ := og
 go_wp2_with fail
 refine (markK_Walk _ _ ys (1) Fog _ fog nog hlen.out (by omega) (by rw [HCG.out]; omega)).mono ?_
 rintro e w19 ⟨he, omog, onog⟩
 rw [HCG.out] at he
 have bt := onog.btw bog
 clear onog
 have om : Owned w19 (w8.heap.size) (w9.heap.size) sWalk [.slice gA0 gn0 gc0, .slice gA1 gn1 gc1] (mkv sWalk 1 ys) := ⟨Fog, omog, nog, bog⟩
 clear omog fog nog bog
 subst he
 replace rg := Row.btw rg bt (by omega)
 replace bel := Below.btw bel bt (by omega) bel.size
 replace belw := Below.btw belw bt (by omega) belw.size
 have zw19 := bt.size
 clear bt
 clear cA0_0 cA0_1 cw_0 cw_1 cg_0 cg_1
 have cA0_0 : w19.cell? ⟨w.heap.size, 0, none⟩ = some (v0_0) := (rA0.next bel).cell 0
 have cA0_1 : w19.cell? ⟨w.heap.size, 1, none⟩ = some (v0_1) := (rA0.next bel).cell 1
 have cw_0 : w19.cell? ⟨w4.heap.size, 0, none⟩ = some (.slice wA0 wn0 wc0) := (rw.next belw).cell 0
 have cw_1 : w19.cell? ⟨w4.heap.size, 1, none⟩ = some (.slice wA1 wn1 wc1) := (rw.next belw).cell 1
 have cg_0 : w19.cell? ⟨w9.heap.size, 0, none⟩ = some (.slice gA0 gn0 gc0) := (rg).cell 0
 have cg_1 : w19.cell? ⟨w9.heap.size, 1, none⟩ = some (.slice gA1 gn1 gc1) := (rg).cell 1
 go_wp2_with fail
 refine (heldK_Walk _ _ ys 1 _ om.rd hlen.out (by omega) (by rw [HCG.out]; omega)).mono ?_
 rintro e w20 ⟨he, bb⟩
 rw [HCG.out] at he
 subst he
 replace rg := rg.next bb
 replace om := om.next bb
 replace bel := next_trans bel bb
 replace belw := next_trans belw bb
 have zw20 := bb.size
 clear bb
 clear cA0_0 cA0_1 cw_0 cw_1 cg_0 cg_1
 have cA0_0 : w20.cell? ⟨w.heap.size, 0, none⟩ = some (v0_0) := (rA0.next bel).cell 0
 have cA0_1 : w20.cell? ⟨w.heap.size, 1, none⟩ = some (v0_1) := (rA0.next bel).cell 1
 have cw_0 : w20.cell? ⟨w4.heap.size, 0, none⟩ = some (.slice wA0 wn0 wc0) := (rw.next belw).cell 0
 have cw_1 : w20.cell? ⟨w4.heap.size, 1, none⟩ = some (.slice wA1 wn1 wc1) := (rw.next belw).cell 1
 have cg_0 : w20.cell? ⟨w9.heap.size, 0, none⟩ = some (.slice gA0 gn0 gc0) := (rg).cell 0
 have cg_1 : w20.cell? ⟨w9.heap.size, 1, none⟩ = some (.slice gA1 gn1 gc1) := (rg).cell 1
 go_wp2_with fail
 refine (toK_System _ _ d0 _ (s0.next bel) h0.out).mono ?_
 rintro e w21 ⟨p0A0, p0n0, p0c0, p0A1, p0n1, p0c1, rfl, op0, bb⟩
 replace rg := rg.next bb
 replace om := om.next bb
 replace bel := next_trans bel bb
 replace belw := next_trans belw bb
 have zw21 := bb.size
 clear bb
 clear cA0_0 cA0_1 cw_0 cw_1 cg_0 cg_1
 have cA0_0 : w21.cell? ⟨w.heap.size, 0, none⟩ = some (v0_0) := (rA0.next bel).cell 0
 have cA0_1 : w21.cell? ⟨w.heap.size, 1, none⟩ = some (v0_1) := (rA0.next bel).cell 1
 have cw_0 : w21.cell? ⟨w4.heap.size, 0, none⟩ = some (.slice wA0 wn0 wc0) := (rw.next belw).cell 0
 have cw_1 : w21.cell? ⟨w4.heap.size, 1, none⟩ = some (.slice wA1 wn1 wc1) := (rw.next belw).cell 1
 have cg_0 : w21.cell? ⟨w9.heap.size, 0, none⟩ = some (.slice gA0 gn0 gc0) := (rg).cell 0
 have cg_1 : w21.cell? ⟨w9.heap.size, 1, none⟩ = some (.slice gA1 gn1 gc1) := (rg).cell 1
 go_wp2_with fail
 refine (toK_ints _ d1 _ (s1.next bel) h1.out).mono ?_
 rintro e w22 ⟨p1A0, p1n0, p1c0, rfl, op1, bb⟩
 replace rg := rg.next bb
 replace om := om.next bb
 replace op0 := op0.next bb
 replace bel := next_trans bel bb
 replace belw := next_trans belw bb
 have zw22 := bb.size
 clear bb
 clear cA0_0 cA0_1 cw_0 cw_1 cg_0 cg_1
 have cA0_0 : w22.cell? ⟨w.heap.size, 0, none⟩ = some (v0_0) := (rA0.next bel).cell 0
 have cA0_1 : w22.cell? ⟨w.heap.size, 1, none⟩ = some (v0_1) := (rA0.next bel).cell 1
 have cw_0 : w22.cell? ⟨w4.heap.size, 0, none⟩ = some (.slice wA0 wn0 wc0) := (rw.next belw).cell 0
 have cw_1 : w22.cell? ⟨w4.heap.size, 1, none⟩ = some (.slice wA1 wn1 wc1) := (rw.next belw).cell 1
 have cg_0 : w22.cell? ⟨w9.heap.size, 0, none⟩ = some (.slice gA0 gn0 gc0) := (rg).cell 0
 have cg_1 : w22.cell? ⟨w9.heap.size, 1, none⟩ = some (.slice gA1 gn1 gc1) := (rg).cell 1
 go_wp2_with fail
 refine (implWalkBy _ _ _ d0 d1 x2 x3 _ op0.rd op1.rd h0.out h1.out bl2 bh2 bl3 bh3).mono ?_
 rintro e w23 ⟨hA0, hn0, hc0, hA1, hn1, hc1, he, o0, bb⟩
 rw [HV.out] at he
 rw [HY.out] at o0
 subst he
 replace rg := rg.next bb
 replace om := om.next bb
 replace op0 := op0.next bb
 replace op1 := op1.next bb
 replace bel := next_trans bel bb
 replace belw := next_trans belw bb
 have zw23 := bb.size
 clear bb
 have sh := o0.rd
 clear o0
 clear op0 op1
 clear cA0_0 cA0_1 cw_0 cw_1 cg_0 cg_1
 have cA0_0 : w23.cell? ⟨w.heap.size, 0, none⟩ = some (v0_0) := (rA0.next bel).cell 0
 have cA0_1 : w23.cell? ⟨w.heap.size, 1, none⟩ = some (v0_1) := (rA0.next bel).cell 1
 have cw_0 : w23.cell? ⟨w4.heap.size, 0, none⟩ = some (.slice wA0 wn0 wc0) := (rw.next belw).cell 0
 have cw_1 : w23.cell? ⟨w4.heap.size, 1, none⟩ = some (.slice wA1 wn1 wc1) := (rw.next belw).cell 1
 have cg_0 : w23.cell? ⟨w9.heap.size, 0, none⟩ = some (.slice gA0 gn0 gc0) := (rg).cell 0
 have cg_1 : w23.cell? ⟨w9.heap.size, 1, none⟩ = some (.slice gA1 gn1 gc1) := (rg).cell 1
 have dA0_0 : (w23.alloc (.cells #[.slice hA0 hn0 hc0, .slice hA1 hn1 hc1] 39)).cell? ⟨w.heap.size, 0, none⟩ = some (v0_0) := ((rA0.next bel).alloc _).cell 0
 have dA0_1 : (w23.alloc (.cells #[.slice hA0 hn0 hc0, .slice hA1 hn1 hc1] 39)).cell? ⟨w.heap.size, 1, none⟩ = some (v0_1) := ((rA0.next bel).alloc _).cell 1
 have dw_0 : (w23.alloc (.cells #[.slice hA0 hn0 hc0, .slice hA1 hn1 hc1] 39)).cell? ⟨w4.heap.size, 0, none⟩ = some (.slice wA0 wn0 wc0) := ((rw.next belw).alloc _).cell 0
 have dw_1 : (w23.alloc (.cells #[.slice hA0 hn0 hc0, .slice hA1 hn1 hc1] 39)).cell? ⟨w4.heap.size, 1, none⟩ = some (.slice wA1 wn1 wc1) := ((rw.next belw).alloc _).cell 1
 have dg_0 : (w23.alloc (.cells #[.slice hA0 hn0 hc0, .slice hA1 hn1 hc1] 39)).cell? ⟨w9.heap.size, 0, none⟩ = some (.slice gA0 gn0 gc0) := ((rg).alloc _).cell 0
 have dg_1 : (w23.alloc (.cells #[.slice hA0 hn0 hc0, .slice hA1 hn1 hc1] 39)).cell? ⟨w9.heap.size, 1, none⟩ = some (.slice gA1 gn1 gc1) := ((rg).alloc _).cell 1
 go_wp2_with fail
 obtain ⟨w24, hw⟩ : ∃ W, W = w23.alloc (.cells #[.slice hA0 hn0 hc0, .slice hA1 hn1 hc1] 39) := ⟨_, rfl⟩
 rw [← hw]
 have rh : Row w24 w23.heap.size 39 #[.slice hA0 hn0 hc0, .slice hA1 hn1 hc1] := by rw [hw]; exact Row.new _ _ _
 have bb : Below w23.heap.size w23 w24 := by rw [hw]; exact (Below.refl _ _).alloc (Nat.le_refl _) _
 have yrh : w23.heap.size < w24.heap.size := by rw [hw]; simp
 clear hw
 replace rg := rg.next bb
 replace om := om.next bb
 replace sh := sh.next bb
 replace bel := next_trans bel bb
 replace belw := next_trans belw bb
 have zw24 := bb.size
 clear bb
 clear dA0_0 dA0_1 dw_0 dw_1 dg_0 dg_1
 have belh := Below.refl w24.heap.size w24
 clear cA0_0 cA0_1 cw_0 cw_1 cg_0 cg_1
 have cA0_0 : w24.cell? ⟨w.heap.size, 0, none⟩ = some (v0_0) := (rA0.next bel).cell 0
 have cA0_1 : w24.cell? ⟨w.heap.size, 1, none⟩ = some (v0_1) := (rA0.next bel).cell 1
 have cw_0 : w24.cell? ⟨w4.heap.size, 0, none⟩ = some (.slice wA0 wn0 wc0) := (rw.next belw).cell 0
 have cw_1 : w24.cell? ⟨w4.heap.size, 1, none⟩ = some (.slice wA1 wn1 wc1) := (rw.next belw).cell 1
 have cg_0 : w24.cell? ⟨w9.heap.size, 0, none⟩ = some (.slice gA0 gn0 gc0) := (rg).cell 0
 have cg_1 : w24.cell? ⟨w9.heap.size, 1, none⟩ = some (.slice gA1 gn1 gc1) := (rg).cell 1
 have ch_0 : w24.cell? ⟨w23.heap.size, 0, none⟩ = some (.slice hA0 hn0 hc0) := (rh.next belh).cell 0
 have ch_1 : w24.cell? ⟨w23.heap.size, 1, none⟩ = some (.slice hA1 hn1 hc1) := (rh.next belh).cell 1
 refine (eqK_Walk _ _ _ _ ys _ (sh.next belh) (sw.next belw) hlen.out).mono ?_
 rintro e w25 ⟨rfl, bb⟩
 replace rg := rg.next bb
 replace om := om.next bb
 replace bel := next_trans bel bb
 replace belw := next_trans belw bb
 replace belh := next_trans belh bb
 have zw25 := bb.size
 clear bb
 clear cA0_0 cA0_1 cw_0 cw_1 cg_0 cg_1 ch_0 ch_1
 have cA0_0 : w25.cell? ⟨w.heap.size, 0, none⟩ = some (v0_0) := (rA0.next bel).cell 0
 have cA0_1 : w25.cell? ⟨w.heap.size, 1, none⟩ = some (v0_1) := (rA0.next bel).cell 1
 have cw_0 : w25.cell? ⟨w4.heap.size, 0, none⟩ = some (.slice wA0 wn0 wc0) := (rw.next belw).cell 0
 have cw_1 : w25.cell? ⟨w4.heap.size, 1, none⟩ = some (.slice wA1 wn1 wc1) := (rw.next belw).cell 1
 have cg_0 : w25.cell? ⟨w9.heap.size, 0, none⟩ = some (.slice gA0 gn0 gc0) := (rg).cell 0
 have cg_1 : w25.cell? ⟨w9.heap.size, 1, none⟩ = some (.slice gA1 gn1 gc1) := (rg).cell 1
 have ch_0 : w25.cell? ⟨w23.heap.size, 0, none⟩ = some (.slice hA0 hn0 hc0) := (rh.next belh).cell 0
 have ch_1 : w25.cell? ⟨w23.heap.size, 1, none⟩ = some (.slice hA1 hn1 hc1) := (rh.next belh).cell 1
 go_wp2_with fail
 refine (heldK_Walk _ _ ys 1 _ om.rd hlen.out (by omega) (by rw [HCG.out]; omega)).mono ?_
 rintro e w26 ⟨he, bb⟩
 rw [HCG.out] at he
 subst he
 replace rg := rg.next bb
 replace om := om.next bb
 replace bel := next_trans bel bb
 replace belw := next_trans belw bb
 replace belh := next_trans belh bb
 have zw26 := bb.size
 clear bb
 clear cA0_0 cA0_1 cw_0 cw_1 cg_0 cg_1 ch_0 ch_1
 have cA0_0 : w26.cell? ⟨w.heap.size, 0, none⟩ = some (v0_0) := (rA0.next bel).cell 0
 have cA0_1 : w26.cell? ⟨w.heap.size, 1, none⟩ = some (v0_1) := (rA0.next bel).cell 1
 have cw_0 : w26.cell? ⟨w4.heap.size, 0, none⟩ = some (.slice wA0 wn0 wc0) := (rw.next belw).cell 0
 have cw_1 : w26.cell? ⟨w4.heap.size, 1, none⟩ = some (.slice wA1 wn1 wc1) := (rw.next belw).cell 1
 have cg_0 : w26.cell? ⟨w9.heap.size, 0, none⟩ = some (.slice gA0 gn0 gc0) := (rg).cell 0
 have cg_1 : w26.cell? ⟨w9.heap.size, 1, none⟩ = some (.slice gA1 gn1 gc1) := (rg).cell 1
 have ch_0 : w26.cell? ⟨w23.heap.size, 0, none⟩ = some (.slice hA0 hn0 hc0) := (rh.next belh).cell 0
 have ch_1 : w26.cell? ⟨w23.heap.size, 1, none⟩ = some (.slice hA1 hn1 hc1) := (rh.next belh).cell 1
 have F := hid (bW.trans (bel.mono bW.size))
 clear bel belw belh rg om bW cA0_0 cA0_1 cw_0 cw_1 cg_0 cg_1 ch_0 ch_1
 go_wp2
 go_ret
 exact ⟨rfl, F.out⟩
end wWalkBy
end
end Go.Proofs.YtblhmplpcdcejaaGreat
