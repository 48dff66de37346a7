/-
  MERGED: my texts ByImpl, ByImplB, one behind the other, as they are. By an AI agent.
-/
import Derived.Test.YtmoidijngeijkaaGreatMFnOrders9
namespace Go.Proofs.YtmoidijngeijkaaGreat
section
open Go.Lib (hid)
namespace byImpl
open Go.RowKit base ints sig term termOk endAt endOf marks app sym sub segs segsHelp kinds termFacts same shifted shape drawX kindsR kindsW varsOf ruleMath ruleSpec stepMath walkMath stepSpec stepImpl walkSpec walkX walkImpl ownL heldT orderMath orderSpec bySpec strat pickImpl
set_option maxRecDepth 100000
theorem gone_sz {sg : List Int} {rs : List Rl} {s : Int} {F i : Nat} {t u : List Int} {L : List St} (h : Gone sg rs s F t i L u) (ht : termOkB sg t = true) (hF : F ≤ 60) : sz sWalk ((t, L) : Wk) ≤ 1048576 := by
 obtain ⟨h1, h2, h3, h4, h5⟩ := h
 have hr := run_walk (sg := sg) (rs := rs) (s := s) (f := F) (t := t)
 rw [h1, go_append] at hr
 cases hg : goOn sg rs t L with
 | none => rw [hg] at hr; cases hr
 | some v =>
  refine walk_sz (term_len ht).2 (by show L.length ≤ 60; omega) (fun x hx => (term_len ((go_ok ht hg).2 x hx)).2)
theorem Wb.rdw {w wr : World} {T : TypeId} {a v : Value} {B : Nat} {X O : Option Addr} {xn xc on oc : Nat} {fr : List Int} {L : List St} (h : Wb w T a v B X O xn xc on oc fr L wr) : Rd wr wr.heap.size sWalk [.slice X xn xc, .slice O on oc] ((fr, L) : Wk) :=
 (owned_walk (h.x.wider (Nat.le_refl _) (Nat.le_succ _)) h.o (by have := h.z; omega) h.r3.lt).rd
set_option maxHeartbeats 8000000 in
theorem walk (g : Nat) (eg : ∀ args w, (callFunc g args).run Tryz.prog w = .ok (.enter g args) w) (a v u : Value) (d : Dat sSystem) (t : List Int) (s : Int) (F : Nat) (w : World) (h : Rd w w.heap.size sSystem [a, v] d) (ht : Rd w w.heap.size sI [u] t) (hz : sz sSystem d ≤ 1048576) (hok : rightB d.1 d.2 t = true) (hby : byB d.1 d.2 t s (F : Int) = true) (hF : F ≤ 60) (hg : PickFn g a v d s w) :
  Calls Tryz.prog 36 #[.agg #[a, v], u, .func (.func g) #[.agg #[a, v]] #[], .int .i64 (F : Int)] w (AnsWalk w (byW d.1 d.2 t s (F : Int)) (byD d.1 d.2 t s (F : Int))) := by
 obtain ⟨T, m, c, rfl, hT, hcT⟩ := rd_ints.1 ht
 obtain ⟨A, n, cs, V, q, cv, rfl, rfl, -⟩ := rd_sys h hz
 have htl := term_len (right_parts hok).2
 have hm : 1 ≤ m ∧ m ≤ 60 := by have := hT.1; omega
 obtain ⟨tb, toff, ty, rfl, -, -, -⟩ := hT.spot (k := 0) (by omega)
 obtain ⟨W, hW, r0, r1, bel⟩ : ∃ W, W = (w.alloc (.cells #[.slice A n cs, .slice V q cv] 65)).alloc (.cells #[.slice none 0 0, .slice none 0 0] 34) ∧ Row W w.heap.size 65 #[.slice A n cs, .slice V q cv] ∧ Row W (w.heap.size + 1) 34 #[.slice none 0 0, .slice none 0 0] ∧ Below w.heap.size w W := by
  refine ⟨_, rfl, (Row.new w _ _).alloc _, ?_, ((Below.refl _ _).alloc (Nat.le_refl _) _).alloc (by simp) _⟩
  have := Row.new (w.alloc (.cells #[.slice A n cs, .slice V q cv] 65)) 34 #[.slice none 0 0, .slice none 0 0]
  simpa using this
 have HW := hid hW
 have LC := hid (cloneInts tb toff m c t W (hT.next bel) (by omega))
 have LX := hid (fun (w1 : World) (bb : Below w.heap.size w w1) (nw : Value) (x : List Int) (hx : Rd w1 w1.heap.size sI [nw] x) (hr : rightB d.1 d.2 x = true) => selected g eg _ _ nw d x s w1 (h.next bb) hx hz hr (hg.next bb))
 have LD := hid (fun (w1 : World) (bb : Below w.heap.size w w1) (nw : Value) (x : List Int) (hx : Rd w1 w1.heap.size sI [nw] x) hr y k hy hk hred => reduced _ _ nw d x y k w1 (h.next bb) hx hz hr hy hk hred)
 have HOK := hid (And.intro hok (right_parts hok).2)
 have HB := hid hby
 have zW : w.heap.size + 1 < W.heap.size := r1.lt
 clear hW h ht hz hT hcT hg hok hby htl
 go_enter Tryz.func36, Tryz.ntmps36
 go_wp2_with fail
 rw [← HW.out]
 refine LC.out.mono ?_
 rintro e w3 ⟨X, xn, xc, rfl, oX, bb⟩
 replace r0 := r0.next bb
 replace r1 := r1.next bb
 replace bel := next_trans bel bb
 have zz := bb.size
 have b4 : Below w3.heap.size w3 (w3.alloc (.cells #[.slice X xn xc, .slice none 0 0] 34)) := (Below.refl _ _).alloc (Nat.le_refl _) _
 obtain ⟨W4, hW4⟩ : ∃ W4, W4 = w3.alloc (.cells #[.slice X xn xc, .slice none 0 0] 34) := ⟨_, rfl⟩
 have HI0 := hid (show Wb w 65 (.slice A n cs) (.slice V q cv) w3.heap.size X none xn xc 0 0 t [] W4 from by
  rw [hW4]
  exact ⟨r0.next b4, r1.next b4, Row.new _ _ _, ((Ownd.of_own oX).next b4).wider (by omega) (Nat.le_refl _), OwnL.nil _ _ _ _ _, next_trans bel b4, by omega⟩)
 have K0 : (w3.alloc (.cells #[.slice X xn xc, .slice none 0 0] 34)).cell? ⟨w.heap.size, 0, none⟩ = some (.slice A n cs) := (r0.next b4).cell 0
 have K1 : (w3.alloc (.cells #[.slice X xn xc, .slice none 0 0] 34)).cell? ⟨w.heap.size, 1, none⟩ = some (.slice V q cv) := (r0.next b4).cell 1
 have HW4 := hid hW4
 clear bb oX b4 r0 r1 bel hW4 LC HW
 go_wp2_with fail
 rw [← HW4.out]
 clear HW4 K0 K1
 generalize w3.heap.size = B at *
 go_loopg [11] F (fun g1 at_ wr => ∃ (i on oc : Nat) (O : Option Addr) (L : List St) (x : List Int), i + g1 = F ∧ Gone d.1 d.2 s F t i L x ∧ Wb w 65 (.slice A n cs) (.slice V q cv) B X O xn xc on oc t L wr)
 case atStart => exact ⟨0, 0, 0, _, _, _, by omega, gone_zero HOK.out.1, HI0.out⟩
 case round =>
  clear HI0
  obtain ⟨i, on, oc, O, L, x, hig, G, J⟩ := hrel
  have HI := hid hig
  have HG := hid G
  have hon : on = i := by rw [← G.2.1, J.o.1]
  subst hon
  have hx2 := gone_sz G HOK.out.2 hF
  have hiF : on ≤ F := G.2.2.2.2
  have HR := hid G.2.2.2.1
  have HEX := hid G.2.2.1
  have JD := J.next (drew_below wr)
  have LE1 := hid (endImpl _ _ ((t, L) : Wk) wr.drew (Wb.rdw JD) hx2)
  rw [← HEX.out] at LE1
  have LE2 := hid (fun (w1 : World) (bb : Below wr.heap.size wr w1) => (show Calls Tryz.prog 49 #[.agg #[.slice X xn xc, .slice O on oc]] w1 (fun e w' => ∃ A n c, e = .returned (.slice A n c) ∧ Rd w' w1.heap.size sI [.slice A n c] x ∧ Below w1.heap.size w1 w') from by
   have := endImpl _ _ ((t, L) : Wk) w1 (Wb.rdw (J.next bb)) hx2
   rw [← HEX.out] at this
   exact this))
  have K0 : wr.cell? ⟨w.heap.size, 0, none⟩ = some (.slice A n cs) := J.r0.cell 0
  have K1 : wr.cell? ⟨w.heap.size, 1, none⟩ = some (.slice V q cv) := J.r0.cell 1
  have K2 : wr.cell? ⟨B, 0, none⟩ = some (.slice X xn xc) := J.r3.cell 0
  have K3 : wr.cell? ⟨B, 1, none⟩ = some (.slice O on oc) := J.r3.cell 1
  have z0 : w.heap.size < wr.heap.size := J.r0.lt
  have z1 : B < wr.heap.size := J.r3.lt
  have LX1 := hid (fun (w1 : World) (bb : Below wr.heap.size wr w1) (nw : Value) (hx : Rd w1 w1.heap.size sI [nw] x) => LX.out w1 (next_trans J.b bb) nw x hx HR.out)
  have HJ := hid J
  have BD := hid (drew_below wr)
  clear J JD hig G hx2
  cases hp : pickL d.1 d.2 x s with
  | none =>
   have HP := hid (by_done (gone_none HG.out hp) HG.out.2.2.1 HB.out)
   have HND := hid (show normalB d.1 d.2 x = true by rw [normal_pick (s := s) HR.out, hp]; rfl)
   rw [hp] at LX1
   have LX1 := hid (show ∀ (w1 : World) (bb : Below wr.heap.size wr w1) (nw : Value) (hx : Rd w1 w1.heap.size sI [nw] x), Calls Tryz.prog 89 #[.agg #[.slice A n cs, .slice V q cv], nw, .func (.func g) #[.agg #[.slice A n cs, .slice V q cv]] #[]] w1 (fun e w' => e = .returned (.tuple #[.int .i64 0, .int .i64 0, .bool false]) ∧ Below w1.heap.size w1 w') from LX1.out)
   clear hp LD LX LE2
   go_wp2_with fail
   go_region_held3 (fun w' => w'.cell? ⟨w.heap.size, 0, none⟩ = some (.slice A n cs) ∧ w'.cell? ⟨w.heap.size, 1, none⟩ = some (.slice V q cv) ∧ w'.cell? ⟨B, 0, none⟩ = some (.slice X xn xc) ∧ w'.cell? ⟨B, 1, none⟩ = some (.slice O on oc))
    (go_keep)
    (first
     | (go_at_call 49; refine LE1.out.mono ?_; rintro e w4 ⟨N, nn, nc, rfl, hN, bb⟩; have a0 : w4.cell? ⟨w.heap.size, 0, none⟩ = some (.slice A n cs) := (bb.cell (p := ⟨w.heap.size, 0, none⟩) z0).trans K0; have a1 : w4.cell? ⟨w.heap.size, 1, none⟩ = some (.slice V q cv) := (bb.cell (p := ⟨w.heap.size, 1, none⟩) z0).trans K1; have a2 : w4.cell? ⟨B, 0, none⟩ = some (.slice X xn xc) := (bb.cell (p := ⟨B, 0, none⟩) z1).trans K2; have a3 : w4.cell? ⟨B, 1, none⟩ = some (.slice O on oc) := (bb.cell (p := ⟨B, 1, none⟩) z1).trans K3; have y0 : w.heap.size < w4.heap.size := Nat.lt_of_lt_of_le z0 bb.size; have y1 : B < w4.heap.size := Nat.lt_of_lt_of_le z1 bb.size)
     | (go_at_call 89; refine (LX1.out w4 (BD.out.trans bb) _ (hN.more bb.size)).mono ?_; rintro e w5 ⟨rfl, bb2⟩; have m0 : w5.cell? ⟨w.heap.size, 0, none⟩ = some (.slice A n cs) := (bb2.cell (p := ⟨w.heap.size, 0, none⟩) y0).trans a0; have m1 : w5.cell? ⟨w.heap.size, 1, none⟩ = some (.slice V q cv) := (bb2.cell (p := ⟨w.heap.size, 1, none⟩) y0).trans a1; have m2 : w5.cell? ⟨B, 0, none⟩ = some (.slice X xn xc) := (bb2.cell (p := ⟨B, 0, none⟩) y1).trans a2; have m3 : w5.cell? ⟨B, 1, none⟩ = some (.slice O on oc) := (bb2.cell (p := ⟨B, 1, none⟩) y1).trans a3))
   have HJ2 := HJ.out.next (BD.out.trans (bb.trans (bb2.mono bb.size)))
   have jr := HJ2.r1
   clear K0 K1 K2 K3 a0 a1 a2 a3 y0 y1 hN
   have FA := ansWalk_yes (b := byD d.1 d.2 t s (F : Int)) HJ2 HP.out.1 (Below.refl w5.heap.size w5)
   rw [HP.out.2, HND.out] at FA
   have HFA := hid FA
   have HPD := hid (show byD d.1 d.2 t s (F : Int) = true by rw [HP.out.2, HND.out])
   clear HJ LE1 LX1 BD bb bb2 HJ2 FA
   have y0 : w5.cell? ⟨w.heap.size + 1, 0, none⟩ = some (.slice none 0 0) := jr.cell 0
   have y1 : w5.cell? ⟨w.heap.size + 1, 1, none⟩ = some (.slice none 0 0) := jr.cell 1
   have g0 := jr.free 0
   have g1 := jr.free 1
   have ra := jr.put 0 (.slice X xn xc)
   have y2 : (w5.setCell ⟨w.heap.size + 1, 0, none⟩ (.slice X xn xc)).cell? ⟨w.heap.size + 1, 1, none⟩ = some (.slice none 0 0) := ra.cell 1
   have g2 := ra.free 1
   have rb := ra.put 1 (.slice O on oc)
   have u0 : ((w5.setCell ⟨w.heap.size + 1, 0, none⟩ (.slice X xn xc)).setCell ⟨w.heap.size + 1, 1, none⟩ (.slice O on oc)).cell? ⟨w.heap.size + 1, 0, none⟩ = some (.slice X xn xc) := rb.cell 0
   have u1 : ((w5.setCell ⟨w.heap.size + 1, 0, none⟩ (.slice X xn xc)).setCell ⟨w.heap.size + 1, 1, none⟩ (.slice O on oc)).cell? ⟨w.heap.size + 1, 1, none⟩ = some (.slice O on oc) := rb.cell 1
   have FZ : AnsWalk w (byW d.1 d.2 t s (F : Int)) true (.returned (.tuple #[.agg #[.slice X xn xc, .slice O on oc], .bool true])) ((w5.setCell ⟨w.heap.size + 1, 0, none⟩ (.slice X xn xc)).setCell ⟨w.heap.size + 1, 1, none⟩ (.slice O on oc)) := HFA.out
   have HFZ := hid FZ
   clear FZ ra rb jr
   go_wp2
   exact bodyPost_ret (v := .tuple #[.agg #[.slice X xn xc, .slice O on oc], .bool true]) (by simp [results, Tryz.results36, go_sem, u0, u1]) rfl (by rw [HPD.out]; exact HFZ.out)
  | some p =>
   obtain ⟨pa, pk, rfl, hpa, hpk, hred, -, hst⟩ := pick_step HR.out hp
   have HP := hid hp
   rw [hp] at LX1
   have LX1 := hid (show ∀ (w1 : World) (bb : Below wr.heap.size wr w1) (nw : Value) (hx : Rd w1 w1.heap.size sI [nw] x), Calls Tryz.prog 89 #[.agg #[.slice A n cs, .slice V q cv], nw, .func (.func g) #[.agg #[.slice A n cs, .slice V q cv]] #[]] w1 (fun e w' => e = .returned (.tuple #[.int .i64 (pa : Int), .int .i64 (pk : Int), .bool true]) ∧ Below w1.heap.size w1 w') from LX1.out)
   have HND := hid (show normalB d.1 d.2 x = false by rw [normal_pick (s := s) HR.out, hp]; rfl)
   by_cases hlt : on = F
   ·have HQ := hid (by_done (gone_full HG.out (by omega)) HG.out.2.2.1 HB.out)
    have hE : ((on : Int) == (F : Int)) = true := by simp; omega
    clear hp LD LX LE2 hst hred hlt
    go_wp2_with fail
    go_region_held3 (fun w' => w'.cell? ⟨w.heap.size, 0, none⟩ = some (.slice A n cs) ∧ w'.cell? ⟨w.heap.size, 1, none⟩ = some (.slice V q cv) ∧ w'.cell? ⟨B, 0, none⟩ = some (.slice X xn xc) ∧ w'.cell? ⟨B, 1, none⟩ = some (.slice O on oc))
     (go_keep)
     (first
      | (go_at_call 49; refine LE1.out.mono ?_; rintro e w4 ⟨N, nn, nc, rfl, hN, bb⟩; have a0 : w4.cell? ⟨w.heap.size, 0, none⟩ = some (.slice A n cs) := (bb.cell (p := ⟨w.heap.size, 0, none⟩) z0).trans K0; have a1 : w4.cell? ⟨w.heap.size, 1, none⟩ = some (.slice V q cv) := (bb.cell (p := ⟨w.heap.size, 1, none⟩) z0).trans K1; have a2 : w4.cell? ⟨B, 0, none⟩ = some (.slice X xn xc) := (bb.cell (p := ⟨B, 0, none⟩) z1).trans K2; have a3 : w4.cell? ⟨B, 1, none⟩ = some (.slice O on oc) := (bb.cell (p := ⟨B, 1, none⟩) z1).trans K3; have y0 : w.heap.size < w4.heap.size := Nat.lt_of_lt_of_le z0 bb.size; have y1 : B < w4.heap.size := Nat.lt_of_lt_of_le z1 bb.size)
      | (go_at_call 89; refine (LX1.out w4 (BD.out.trans bb) _ (hN.more bb.size)).mono ?_; rintro e w5 ⟨rfl, bb2⟩; have m0 : w5.cell? ⟨w.heap.size, 0, none⟩ = some (.slice A n cs) := (bb2.cell (p := ⟨w.heap.size, 0, none⟩) y0).trans a0; have m1 : w5.cell? ⟨w.heap.size, 1, none⟩ = some (.slice V q cv) := (bb2.cell (p := ⟨w.heap.size, 1, none⟩) y0).trans a1; have m2 : w5.cell? ⟨B, 0, none⟩ = some (.slice X xn xc) := (bb2.cell (p := ⟨B, 0, none⟩) y1).trans a2; have m3 : w5.cell? ⟨B, 1, none⟩ = some (.slice O on oc) := (bb2.cell (p := ⟨B, 1, none⟩) y1).trans a3))
    have HJ2 := HJ.out.next (BD.out.trans (bb.trans (bb2.mono bb.size)))
    have jr := HJ2.r1
    clear K0 K1 K2 K3 a0 a1 a2 a3 y0 y1 hN
    have FA := ansWalk_yes (b := byD d.1 d.2 t s (F : Int)) HJ2 HQ.out.1 (Below.refl w5.heap.size w5)
    rw [HQ.out.2, HND.out] at FA
    have HFA := hid FA
    have HPD := hid (show byD d.1 d.2 t s (F : Int) = false by rw [HQ.out.2, HND.out])
    clear HJ LE1 LX1 BD bb bb2 HJ2 FA
    have y0 : w5.cell? ⟨w.heap.size + 1, 0, none⟩ = some (.slice none 0 0) := jr.cell 0
    have y1 : w5.cell? ⟨w.heap.size + 1, 1, none⟩ = some (.slice none 0 0) := jr.cell 1
    have g0 := jr.free 0
    have g1 := jr.free 1
    have ra := jr.put 0 (.slice X xn xc)
    have y2 : (w5.setCell ⟨w.heap.size + 1, 0, none⟩ (.slice X xn xc)).cell? ⟨w.heap.size + 1, 1, none⟩ = some (.slice none 0 0) := ra.cell 1
    have g2 := ra.free 1
    have rb := ra.put 1 (.slice O on oc)
    have u0 : ((w5.setCell ⟨w.heap.size + 1, 0, none⟩ (.slice X xn xc)).setCell ⟨w.heap.size + 1, 1, none⟩ (.slice O on oc)).cell? ⟨w.heap.size + 1, 0, none⟩ = some (.slice X xn xc) := rb.cell 0
    have u1 : ((w5.setCell ⟨w.heap.size + 1, 0, none⟩ (.slice X xn xc)).setCell ⟨w.heap.size + 1, 1, none⟩ (.slice O on oc)).cell? ⟨w.heap.size + 1, 1, none⟩ = some (.slice O on oc) := rb.cell 1
    have FZ : AnsWalk w (byW d.1 d.2 t s (F : Int)) false (.returned (.tuple #[.agg #[.slice X xn xc, .slice O on oc], .bool false])) ((w5.setCell ⟨w.heap.size + 1, 0, none⟩ (.slice X xn xc)).setCell ⟨w.heap.size + 1, 1, none⟩ (.slice O on oc)) := HFA.out
    have HFZ := hid FZ
    clear FZ ra rb jr
    go_wp2
    exact bodyPost_ret (v := .tuple #[.agg #[.slice X xn xc, .slice O on oc], .bool false]) (by simp [results, Tryz.results36, go_sem, u0, u1]) rfl (by rw [HPD.out]; exact HFZ.out)
   ·have hE : ((on : Int) == (F : Int)) = false := by simp; omega
    have LD1 := hid (fun (w1 : World) (bb : Below wr.heap.size wr w1) (nw : Value) (hx : Rd w1 w1.heap.size sI [nw] x) => LD.out w1 (next_trans HJ.out.b bb) nw x hx HR.out pa pk hpa hpk hred)
    obtain ⟨so, hso⟩ : ∃ so, stepO d.1 (d.2.getD pk ([], [])) x pa = so := ⟨_, rfl⟩
    rw [hso] at LD1 hst
    have HST := hid hst
    have hlt2 : on < F := by omega
    clear hp LD LX hst hred hso
    go_wp2_with fail
    go_region_held3 (fun w' => w'.cell? ⟨w.heap.size, 0, none⟩ = some (.slice A n cs) ∧ w'.cell? ⟨w.heap.size, 1, none⟩ = some (.slice V q cv) ∧ w'.cell? ⟨B, 0, none⟩ = some (.slice X xn xc) ∧ w'.cell? ⟨B, 1, none⟩ = some (.slice O on oc))
     (go_keep)
     (first
      | (go_at_call 49; refine LE1.out.mono ?_; rintro e w4 ⟨N, nn, nc, rfl, hN, bb⟩; have a0 : w4.cell? ⟨w.heap.size, 0, none⟩ = some (.slice A n cs) := (bb.cell (p := ⟨w.heap.size, 0, none⟩) z0).trans K0; have a1 : w4.cell? ⟨w.heap.size, 1, none⟩ = some (.slice V q cv) := (bb.cell (p := ⟨w.heap.size, 1, none⟩) z0).trans K1; have a2 : w4.cell? ⟨B, 0, none⟩ = some (.slice X xn xc) := (bb.cell (p := ⟨B, 0, none⟩) z1).trans K2; have a3 : w4.cell? ⟨B, 1, none⟩ = some (.slice O on oc) := (bb.cell (p := ⟨B, 1, none⟩) z1).trans K3; have y0 : w.heap.size < w4.heap.size := Nat.lt_of_lt_of_le z0 bb.size; have y1 : B < w4.heap.size := Nat.lt_of_lt_of_le z1 bb.size)
      | (go_at_call 89; refine (LX1.out w4 (BD.out.trans bb) _ (hN.more bb.size)).mono ?_; rintro e w5 ⟨rfl, bb2⟩; have m0 : w5.cell? ⟨w.heap.size, 0, none⟩ = some (.slice A n cs) := (bb2.cell (p := ⟨w.heap.size, 0, none⟩) y0).trans a0; have m1 : w5.cell? ⟨w.heap.size, 1, none⟩ = some (.slice V q cv) := (bb2.cell (p := ⟨w.heap.size, 1, none⟩) y0).trans a1; have m2 : w5.cell? ⟨B, 0, none⟩ = some (.slice X xn xc) := (bb2.cell (p := ⟨B, 0, none⟩) y1).trans a2; have m3 : w5.cell? ⟨B, 1, none⟩ = some (.slice O on oc) := (bb2.cell (p := ⟨B, 1, none⟩) y1).trans a3))
    have B5 := BD.out.trans (bb.trans (bb2.mono bb.size))
    have HB5 := hid (show Below wr.heap.size wr w5 from B5)
    have HJ2 := hid (HJ.out.next B5)
    have LE3 := hid (LE2.out w5.drew (next_trans HB5.out (drew_below w5)))
    clear K0 K1 K2 K3 a0 a1 a2 a3 y0 y1 hN
    have z05 : w.heap.size < w5.heap.size := HJ2.out.r0.lt
    have z15 : B < w5.heap.size := HJ2.out.r3.lt
    have BD5 := hid (drew_below w5)
    clear HJ LE1 LX1 LE2 BD bb bb2 B5
    cases so with
    | none =>
     have HQ := hid (by_done (gone_stop HG.out HP.out HST.out) HG.out.2.2.1 HB.out)
     go_wp2_with fail
     go_region_held3 (fun w' => w'.cell? ⟨w.heap.size, 0, none⟩ = some (.slice A n cs) ∧ w'.cell? ⟨w.heap.size, 1, none⟩ = some (.slice V q cv) ∧ w'.cell? ⟨B, 0, none⟩ = some (.slice X xn xc) ∧ w'.cell? ⟨B, 1, none⟩ = some (.slice O on oc))
      (go_keep)
      (first
       | (go_at_call 49; refine LE3.out.mono ?_; rintro e w6 ⟨N2, nn2, nc2, rfl, hN2, bb6⟩; have b0 : w6.cell? ⟨w.heap.size, 0, none⟩ = some (.slice A n cs) := (bb6.cell (p := ⟨w.heap.size, 0, none⟩) z05).trans m0; have b1 : w6.cell? ⟨w.heap.size, 1, none⟩ = some (.slice V q cv) := (bb6.cell (p := ⟨w.heap.size, 1, none⟩) z05).trans m1; have b2 : w6.cell? ⟨B, 0, none⟩ = some (.slice X xn xc) := (bb6.cell (p := ⟨B, 0, none⟩) z15).trans m2; have b3 : w6.cell? ⟨B, 1, none⟩ = some (.slice O on oc) := (bb6.cell (p := ⟨B, 1, none⟩) z15).trans m3; have y6 : w.heap.size < w6.heap.size := Nat.lt_of_lt_of_le z05 bb6.size; have y7 : B < w6.heap.size := Nat.lt_of_lt_of_le z15 bb6.size)
       | (go_at_call 90; refine (LD1.out w6 (next_trans HB5.out (BD5.out.trans bb6)) _ (hN2.more bb6.size)).mono ?_; rintro e w7 ⟨Y, yn, yc, he, oY, bb7⟩; have he : e = .returned (.tuple #[.slice Y yn yc, .bool false]) := he; subst he; have p0 : w7.cell? ⟨w.heap.size, 0, none⟩ = some (.slice A n cs) := (bb7.cell (p := ⟨w.heap.size, 0, none⟩) y6).trans b0; have p1 : w7.cell? ⟨w.heap.size, 1, none⟩ = some (.slice V q cv) := (bb7.cell (p := ⟨w.heap.size, 1, none⟩) y6).trans b1; have p2 : w7.cell? ⟨B, 0, none⟩ = some (.slice X xn xc) := (bb7.cell (p := ⟨B, 0, none⟩) y7).trans b2; have p3 : w7.cell? ⟨B, 1, none⟩ = some (.slice O on oc) := (bb7.cell (p := ⟨B, 1, none⟩) y7).trans b3))
     have HJ3 := HJ2.out.next (BD5.out.trans (bb6.trans (bb7.mono bb6.size)))
     have jr := HJ3.r1
     have FA := ansWalk_yes (b := byD d.1 d.2 t s (F : Int)) HJ3 HQ.out.1 (Below.refl w7.heap.size w7)
     rw [HQ.out.2, HND.out] at FA
     have HFA := hid FA
     have HPD := hid (show byD d.1 d.2 t s (F : Int) = false by rw [HQ.out.2, HND.out])
     clear HJ2 LE3 LD1 LX1 BD5 bb6 bb7 HJ3 FA oY m0 m1 m2 m3 b0 b1 b2 b3 HB5
     have y0 : w7.cell? ⟨w.heap.size + 1, 0, none⟩ = some (.slice none 0 0) := jr.cell 0
     have y1 : w7.cell? ⟨w.heap.size + 1, 1, none⟩ = some (.slice none 0 0) := jr.cell 1
     have g0 := jr.free 0
     have g1 := jr.free 1
     have ra := jr.put 0 (.slice X xn xc)
     have y2 : (w7.setCell ⟨w.heap.size + 1, 0, none⟩ (.slice X xn xc)).cell? ⟨w.heap.size + 1, 1, none⟩ = some (.slice none 0 0) := ra.cell 1
     have g2 := ra.free 1
     have rb := ra.put 1 (.slice O on oc)
     have u0 : ((w7.setCell ⟨w.heap.size + 1, 0, none⟩ (.slice X xn xc)).setCell ⟨w.heap.size + 1, 1, none⟩ (.slice O on oc)).cell? ⟨w.heap.size + 1, 0, none⟩ = some (.slice X xn xc) := rb.cell 0
     have u1 : ((w7.setCell ⟨w.heap.size + 1, 0, none⟩ (.slice X xn xc)).setCell ⟨w.heap.size + 1, 1, none⟩ (.slice O on oc)).cell? ⟨w.heap.size + 1, 1, none⟩ = some (.slice O on oc) := rb.cell 1
     have FZ : AnsWalk w (byW d.1 d.2 t s (F : Int)) false (.returned (.tuple #[.agg #[.slice X xn xc, .slice O on oc], .bool false])) ((w7.setCell ⟨w.heap.size + 1, 0, none⟩ (.slice X xn xc)).setCell ⟨w.heap.size + 1, 1, none⟩ (.slice O on oc)) := HFA.out
     have HFZ := hid FZ
     clear FZ ra rb jr
     go_wp2
     exact bodyPost_ret (v := .tuple #[.agg #[.slice X xn xc, .slice O on oc], .bool false]) (by simp [results, Tryz.results36, go_sem, u0, u1]) rfl (by rw [HPD.out]; exact HFZ.out)
    | some y =>
     have HG2 := hid (gone_step HG.out hlt2 HP.out HST.out)
     go_wp2_with fail
     go_region_held3 (fun w' => w'.cell? ⟨w.heap.size, 0, none⟩ = some (.slice A n cs) ∧ w'.cell? ⟨w.heap.size, 1, none⟩ = some (.slice V q cv) ∧ w'.cell? ⟨B, 0, none⟩ = some (.slice X xn xc) ∧ w'.cell? ⟨B, 1, none⟩ = some (.slice O on oc))
      (go_keep)
      (first
       | (go_at_call 49; refine LE3.out.mono ?_; rintro e w6 ⟨N2, nn2, nc2, rfl, hN2, bb6⟩; have b0 : w6.cell? ⟨w.heap.size, 0, none⟩ = some (.slice A n cs) := (bb6.cell (p := ⟨w.heap.size, 0, none⟩) z05).trans m0; have b1 : w6.cell? ⟨w.heap.size, 1, none⟩ = some (.slice V q cv) := (bb6.cell (p := ⟨w.heap.size, 1, none⟩) z05).trans m1; have b2 : w6.cell? ⟨B, 0, none⟩ = some (.slice X xn xc) := (bb6.cell (p := ⟨B, 0, none⟩) z15).trans m2; have b3 : w6.cell? ⟨B, 1, none⟩ = some (.slice O on oc) := (bb6.cell (p := ⟨B, 1, none⟩) z15).trans m3; have y6 : w.heap.size < w6.heap.size := Nat.lt_of_lt_of_le z05 bb6.size; have y7 : B < w6.heap.size := Nat.lt_of_lt_of_le z15 bb6.size)
       | (go_at_call 90; refine (LD1.out w6 (next_trans HB5.out (BD5.out.trans bb6)) _ (hN2.more bb6.size)).mono ?_; rintro e w7 ⟨Y, yn, yc, he, oY, bb7⟩; have he : e = .returned (.tuple #[.slice Y yn yc, .bool true]) := he; subst he; have p0 : w7.cell? ⟨w.heap.size, 0, none⟩ = some (.slice A n cs) := (bb7.cell (p := ⟨w.heap.size, 0, none⟩) y6).trans b0; have p1 : w7.cell? ⟨w.heap.size, 1, none⟩ = some (.slice V q cv) := (bb7.cell (p := ⟨w.heap.size, 1, none⟩) y6).trans b1; have p2 : w7.cell? ⟨B, 0, none⟩ = some (.slice X xn xc) := (bb7.cell (p := ⟨B, 0, none⟩) y7).trans b2; have p3 : w7.cell? ⟨B, 1, none⟩ = some (.slice O on oc) := (bb7.cell (p := ⟨B, 1, none⟩) y7).trans b3))
     have oY : marks.Own w7 w6.heap.size (.slice Y yn yc) y := oY
     have B7 := BD5.out.trans (bb6.trans (bb7.mono bb6.size))
     have J3 := HJ2.out.next B7
     have zB : B + 1 ≤ w6.heap.size := by have := bb6.size; have h2 : w5.drew.heap.size = w5.heap.size := rfl; omega
     have J6 := HJ2.out.next (BD5.out.trans bb6)
     have b3' : Below w7.heap.size w7 (w7.alloc (.cells #[.int .i64 (pa : Int), .int .i64 (pk : Int), .slice Y yn yc] 75)) := (Below.refl _ _).alloc (Nat.le_refl _) _
     have z2 := bb7.size
     have HAPP := hid (show OwnL (w7.alloc (.cells #[.int .i64 (pa : Int), .int .i64 (pk : Int), .slice Y yn yc] 75)) (B + 1) w6.heap.size 75 sStep O on oc L ∧ OwnL (w7.alloc (.cells #[.int .i64 (pa : Int), .int .i64 (pk : Int), .slice Y yn yc] 75)) w6.heap.size (w7.heap.size + 1) 75 sStep (some ⟨w7.heap.size, 0, none⟩) 1 1 [((pa : Int), (pk : Int), y)] from
      ⟨(J6.o.next bb7).next b3', OwnL.single (e := 75) (s := sStep) (Row.new w7 75 #[.int .i64 (pa : Int), .int .i64 (pk : Int), .slice Y yn yc]) ((owned_step oY (pa : Int) (pk : Int)).next b3') (Nat.le_refl _) z2⟩)
     have HJ3 := hid J3
     have HR3 := hid (J3.r3.next b3')
     clear bb6 bb7 HJ2 LE3 LD1 LX1 oY b3' J3 J6 B7 BD5 b0 b1 b2 b3 HB5
     go_wp2_with (at_builtin; refine appLm rfl _ _ 32 75 sStep _ _ Tryz.underlying32 info_StepS rfl (by decide) rfl (B + 1) w6.heap.size w6.heap.size (w7.heap.size + 1) O on oc w7.heap.size 1 1 _ _ rfl HAPP.out.1 rfl HAPP.out.2 (Nat.le_refl _) zB (by omega) (by omega) (by simp; omega) ?_; intro A4 oc' w4 oL4 hg4 hat4 b4 hf4; obtain ⟨O', rfl⟩ := hf4 (.inr (by omega)); have rB4 := HR3.out.below b4 (show B < B + 1 by omega); have y1 : w4.cell? ⟨B, 1, none⟩ = some (.slice O on oc) := rB4.cell 1; have g1 := rB4.free 1; refine (?_ : Hid _).out)
     have HJ5 := hid (HJ3.out.app oL4 hg4)
     clear oL4 hg4 hat4 b4 hf4 HAPP HJ3 HR3 rB4
     refine hid ?_
     go_wp2
     go_roundg (gk - 1)
     case measure => have := HI.out; omega
     case rel => exact ⟨on + 1, on + 1, oc', some ⟨O', 0, none⟩, L ++ [((pa : Int), (pk : Int), y)], y, by have := HI.out; omega, HG2.out, HJ5.out⟩
end byImpl
end
section
open Go.Lib (hid)
namespace byImpl
open Go.RowKit base ints sig term termOk endAt endOf marks app sym sub segs segsHelp kinds termFacts same shifted shape drawX kindsR kindsW varsOf ruleMath ruleSpec stepMath walkMath stepSpec stepImpl walkSpec walkX walkImpl ownL heldT orderMath orderSpec bySpec strat pickImpl
set_option maxRecDepth 100000
set_option maxHeartbeats 4000000 in
theorem implWalkBy0 (a v u : Value) (d : Dat sSystem) (t : List Int) (s f : Int) (w : World) (h : Rd w w.heap.size sSystem [a, v] d) (ht : Rd w w.heap.size sI [u] t) (hz : sz sSystem d ≤ 1048576) (hz' : sz sI t ≤ 1048576) (s1 : -9223372036854775808 ≤ s) (s2 : s ≤ 9223372036854775807) :
  Calls Tryz.prog 8 #[.agg #[a, v], u, .int .i64 s, .int .i64 f] w (AnsWalk w (byW d.1 d.2 t s f) (byD d.1 d.2 t s f)) := by
 have h0 := h
 have ht0 := ht
 obtain ⟨T, m, c, rfl, -, -⟩ := rd_ints.1 ht
 obtain ⟨A, n, cs, V, q, cv, rfl, rfl, -⟩ := rd_sys h hz
 obtain ⟨W, hW, r0, r1, bel⟩ : ∃ W, W = (w.alloc (.cells #[.slice A n cs, .slice V q cv] 29)).alloc (.cells #[.slice none 0 0, .slice none 0 0] 34) ∧ Row W w.heap.size 29 #[.slice A n cs, .slice V q cv] ∧ Row W (w.heap.size + 1) 34 #[.slice none 0 0, .slice none 0 0] ∧ Below w.heap.size w W := by
  refine ⟨_, rfl, (Row.new w _ _).alloc _, ?_, ((Below.refl _ _).alloc (Nat.le_refl _) _).alloc (by simp) _⟩
  have := Row.new (w.alloc (.cells #[.slice A n cs, .slice V q cv] 29)) 34 #[.slice none 0 0, .slice none 0 0]
  simpa using this
 have HW := hid hW
 have LS := hid (strategyIn _ _ _ d t s W (h0.next bel) (ht0.next bel) hz hz' s1 s2)
 have HH := hid (And.intro h0 ht0)
 have K0 : W.cell? ⟨w.heap.size, 0, none⟩ = some (.slice A n cs) := r0.cell 0
 have K1 : W.cell? ⟨w.heap.size, 1, none⟩ = some (.slice V q cv) := r0.cell 1
 clear hW h ht h0 ht0
 cases ok : (rightB d.1 d.2 t && stratB s) with
 | false =>
  have HS := hid (by_off (by_no1 (f := f) ok))
  rw [ok] at LS
  clear ok
  go_enter Tryz.func8, Tryz.ntmps8
  go_wp2_with fail
  rw [← HW.out]
  refine LS.out.mono ?_
  rintro e w1 ⟨A1, n1, c1, A2, n2, c2, pf, rfl, -, bb⟩
  have b1 := next_trans bel bb
  have b2 : Below w1.heap.size w1 (w1.alloc (.cells #[.slice A1 n1 c1, .slice A2 n2 c2] 65)) := (Below.refl _ _).alloc (Nat.le_refl _) _
  have r3 := (r1.next bb).next b2
  have b3 := next_trans b1 b2
  clear bb b1 b2 bel r0 r1 LS K0 K1
  obtain ⟨W3, hW3⟩ : ∃ W3, W3 = w1.alloc (.cells #[.slice A1 n1 c1, .slice A2 n2 c2] 65) := ⟨_, rfl⟩
  rw [← hW3] at r3 b3
  have HW3 := hid hW3
  clear hW3
  go_upto_region 2 with fail
  rw [← HW3.out]
  clear HW3
  have y0 : W3.cell? ⟨w.heap.size + 1, 0, none⟩ = some (.slice none 0 0) := r3.cell 0
  have y1 : W3.cell? ⟨w.heap.size + 1, 1, none⟩ = some (.slice none 0 0) := r3.cell 1
  have g0 := r3.free 0
  have g1 := r3.free 1
  have ra := r3.put 0 (.slice none 0 0)
  have y2 : (W3.setCell ⟨w.heap.size + 1, 0, none⟩ (.slice none 0 0)).cell? ⟨w.heap.size + 1, 1, none⟩ = some (.slice none 0 0) := ra.cell 1
  have g2 := ra.free 1
  have rb := ra.put 1 (.slice none 0 0)
  have u0 : ((W3.setCell ⟨w.heap.size + 1, 0, none⟩ (.slice none 0 0)).setCell ⟨w.heap.size + 1, 1, none⟩ (.slice none 0 0)).cell? ⟨w.heap.size + 1, 0, none⟩ = some (.slice none 0 0) := rb.cell 0
  have u1 : ((W3.setCell ⟨w.heap.size + 1, 0, none⟩ (.slice none 0 0)).setCell ⟨w.heap.size + 1, 1, none⟩ (.slice none 0 0)).cell? ⟨w.heap.size + 1, 1, none⟩ = some (.slice none 0 0) := rb.cell 1
  have FZ : AnsWalk w (byW d.1 d.2 t s f) (byD d.1 d.2 t s f) (.returned (.tuple #[.agg #[.slice none 0 0, .slice none 0 0], .bool false])) ((W3.setCell ⟨w.heap.size + 1, 0, none⟩ (.slice none 0 0)).setCell ⟨w.heap.size + 1, 1, none⟩ (.slice none 0 0)) := ansWalk_no HS.out (((b3).setCell (show w.heap.size ≤ w.heap.size + 1 by omega) _).setCell (show w.heap.size ≤ w.heap.size + 1 by omega) _)
  have HFZ := hid FZ
  clear FZ ra rb b3
  go_wp2
  exact bodyPost_ret (v := .tuple #[.agg #[.slice none 0 0, .slice none 0 0], .bool false]) (by simp [results, Tryz.results8, go_sem, u0, u1]) rfl HFZ.out
 | true =>
  have HR := hid ((Bool.and_eq_true _ _).mp ok)
  have HOK := hid ok
  rw [ok] at LS
  clear ok
  go_enter Tryz.func8, Tryz.ntmps8
  go_wp2_with fail
  rw [← HW.out]
  refine LS.out.mono ?_
  rintro e w1 ⟨A1, n1, c1, A2, n2, c2, pf, rfl, hv, bb⟩
  obtain ⟨e1, e2, rfl⟩ := hv rfl
  injection e1 with e11 e12 e13
  injection e2 with e21 e22 e23
  subst e11 e12 e13 e21 e22 e23
  rw [pickV_yes HR.out.2]
  have b1 := next_trans bel bb
  have b2 : Below w1.heap.size w1 (w1.alloc (.cells #[.slice A1 n1 c1, .slice A2 n2 c2] 65)) := (Below.refl _ _).alloc (Nat.le_refl _) _
  have r3 := (r1.next bb).next b2
  have b3 := next_trans b1 b2
  have rS : Row (w1.alloc (.cells #[.slice A1 n1 c1, .slice A2 n2 c2] 65)) w1.heap.size 65 #[.slice A1 n1 c1, .slice A2 n2 c2] := Row.new _ _ _
  have zz : w.heap.size + 1 < w1.heap.size := (r1.next bb).lt
  obtain ⟨W3, hW3⟩ : ∃ W3, W3 = w1.alloc (.cells #[.slice A1 n1 c1, .slice A2 n2 c2] 65) := ⟨_, rfl⟩
  rw [← hW3] at r3 b3 rS
  have HW3 := hid hW3
  clear bb b1 b2 bel r0 r1 LS K0 K1 hW3
  go_upto_region 2 with fail
  rw [← HW3.out]
  clear HW3
  by_cases hf : 0 ≤ f ∧ f ≤ 60
  ·obtain ⟨F, rfl⟩ := Int.eq_ofNat_of_zero_le hf.1
   have hF : F ≤ 60 := by omega
   have hpf := pickFn (HH.out.1.next b3) hz HR.out.2
   have LX := hid (walk (pickG s) hpf.1 _ _ _ d t s F W3 (HH.out.1.next b3) (HH.out.2.next b3) hz HR.out.1 (by_yes HOK.out (fuel_yes hF)) hF hpf.2)
   generalize pickG s = g at *
   generalize byW d.1 d.2 t s (F : Int) = bw at *
   generalize byD d.1 d.2 t s (F : Int) = bd at *
   have k0 : W3.cell? ⟨w1.heap.size, 0, none⟩ = some (.slice A1 n1 c1) := rS.cell 0
   have k1 : W3.cell? ⟨w1.heap.size, 1, none⟩ = some (.slice A2 n2 c2) := rS.cell 1
   have f0 : decide ((F : Int) < 0) = false := by simp
   have f6 : decide ((60 : Int) < (F : Int)) = false := by simp; omega
   clear hpf hf
   go_wp2_with fail
   refine LX.out.mono ?_
   rintro e w4 ⟨X, xn, xc, O, on, oc, rfl, ow, bb⟩
   have jr := r3.next bb
   have b4 := next_trans b3 bb
   have zW3 : w.heap.size + 1 < W3.heap.size := r3.lt
   have FA : AnsWalk w bw bd (.returned (.tuple #[.agg #[.slice X xn xc, .slice O on oc], .bool bd])) ((w4.setCell ⟨w.heap.size + 1, 0, none⟩ (.slice X xn xc)).setCell ⟨w.heap.size + 1, 1, none⟩ (.slice O on oc)) :=
    ⟨_, _, _, _, _, _, rfl, ((ow.put (g := w.heap.size + 1) (i := 0) (by omega)).put (g := w.heap.size + 1) (i := 1) (by omega)).wider (by omega) (by simp), (b4.setCell (show w.heap.size ≤ w.heap.size + 1 by omega) _).setCell (show w.heap.size ≤ w.heap.size + 1 by omega) _⟩
   have HFA := hid FA
   clear FA ow bb b3 b4 r3 rS LX k0 k1
   have y0 : w4.cell? ⟨w.heap.size + 1, 0, none⟩ = some (.slice none 0 0) := jr.cell 0
   have y1 : w4.cell? ⟨w.heap.size + 1, 1, none⟩ = some (.slice none 0 0) := jr.cell 1
   have g0 := jr.free 0
   have g1 := jr.free 1
   have ra := jr.put 0 (.slice X xn xc)
   have y2 : (w4.setCell ⟨w.heap.size + 1, 0, none⟩ (.slice X xn xc)).cell? ⟨w.heap.size + 1, 1, none⟩ = some (.slice none 0 0) := ra.cell 1
   have g2 := ra.free 1
   have rb := ra.put 1 (.slice O on oc)
   have u0 : ((w4.setCell ⟨w.heap.size + 1, 0, none⟩ (.slice X xn xc)).setCell ⟨w.heap.size + 1, 1, none⟩ (.slice O on oc)).cell? ⟨w.heap.size + 1, 0, none⟩ = some (.slice X xn xc) := rb.cell 0
   have u1 : ((w4.setCell ⟨w.heap.size + 1, 0, none⟩ (.slice X xn xc)).setCell ⟨w.heap.size + 1, 1, none⟩ (.slice O on oc)).cell? ⟨w.heap.size + 1, 1, none⟩ = some (.slice O on oc) := rb.cell 1
   have FZ : AnsWalk w bw bd (.returned (.tuple #[.agg #[.slice X xn xc, .slice O on oc], .bool bd])) ((w4.setCell ⟨w.heap.size + 1, 0, none⟩ (.slice X xn xc)).setCell ⟨w.heap.size + 1, 1, none⟩ (.slice O on oc)) := HFA.out
   have HFZ := hid FZ
   clear FZ ra rb jr
   go_wp2
   exact bodyPost_ret (v := .tuple #[.agg #[.slice X xn xc, .slice O on oc], .bool bd]) (by simp [results, Tryz.results8, go_sem, u0, u1]) rfl HFZ.out
  ·have HB := hid (by_off (by_no2 (sg := d.1) (rs := d.2) (t := t) (s := s) (decide_eq_false hf : fuelB f = false)))
   by_cases hf0 : f < 0
   ·have f0 : decide (f < 0) = true := decide_eq_true hf0
    clear hf hf0 rS
    have y0 : W3.cell? ⟨w.heap.size + 1, 0, none⟩ = some (.slice none 0 0) := r3.cell 0
    have y1 : W3.cell? ⟨w.heap.size + 1, 1, none⟩ = some (.slice none 0 0) := r3.cell 1
    have g0 := r3.free 0
    have g1 := r3.free 1
    have ra := r3.put 0 (.slice none 0 0)
    have y2 : (W3.setCell ⟨w.heap.size + 1, 0, none⟩ (.slice none 0 0)).cell? ⟨w.heap.size + 1, 1, none⟩ = some (.slice none 0 0) := ra.cell 1
    have g2 := ra.free 1
    have rb := ra.put 1 (.slice none 0 0)
    have u0 : ((W3.setCell ⟨w.heap.size + 1, 0, none⟩ (.slice none 0 0)).setCell ⟨w.heap.size + 1, 1, none⟩ (.slice none 0 0)).cell? ⟨w.heap.size + 1, 0, none⟩ = some (.slice none 0 0) := rb.cell 0
    have u1 : ((W3.setCell ⟨w.heap.size + 1, 0, none⟩ (.slice none 0 0)).setCell ⟨w.heap.size + 1, 1, none⟩ (.slice none 0 0)).cell? ⟨w.heap.size + 1, 1, none⟩ = some (.slice none 0 0) := rb.cell 1
    have FZ : AnsWalk w (byW d.1 d.2 t s f) (byD d.1 d.2 t s f) (.returned (.tuple #[.agg #[.slice none 0 0, .slice none 0 0], .bool false])) ((W3.setCell ⟨w.heap.size + 1, 0, none⟩ (.slice none 0 0)).setCell ⟨w.heap.size + 1, 1, none⟩ (.slice none 0 0)) := ansWalk_no HB.out (((b3).setCell (show w.heap.size ≤ w.heap.size + 1 by omega) _).setCell (show w.heap.size ≤ w.heap.size + 1 by omega) _)
    have HFZ := hid FZ
    clear FZ ra rb b3
    go_wp2
    exact bodyPost_ret (v := .tuple #[.agg #[.slice none 0 0, .slice none 0 0], .bool false]) (by simp [results, Tryz.results8, go_sem, u0, u1]) rfl HFZ.out
   ·have f0 : decide (f < 0) = false := decide_eq_false hf0
    have f6 : decide (60 < f) = true := decide_eq_true (by omega)
    clear hf hf0 rS
    have y0 : W3.cell? ⟨w.heap.size + 1, 0, none⟩ = some (.slice none 0 0) := r3.cell 0
    have y1 : W3.cell? ⟨w.heap.size + 1, 1, none⟩ = some (.slice none 0 0) := r3.cell 1
    have g0 := r3.free 0
    have g1 := r3.free 1
    have ra := r3.put 0 (.slice none 0 0)
    have y2 : (W3.setCell ⟨w.heap.size + 1, 0, none⟩ (.slice none 0 0)).cell? ⟨w.heap.size + 1, 1, none⟩ = some (.slice none 0 0) := ra.cell 1
    have g2 := ra.free 1
    have rb := ra.put 1 (.slice none 0 0)
    have u0 : ((W3.setCell ⟨w.heap.size + 1, 0, none⟩ (.slice none 0 0)).setCell ⟨w.heap.size + 1, 1, none⟩ (.slice none 0 0)).cell? ⟨w.heap.size + 1, 0, none⟩ = some (.slice none 0 0) := rb.cell 0
    have u1 : ((W3.setCell ⟨w.heap.size + 1, 0, none⟩ (.slice none 0 0)).setCell ⟨w.heap.size + 1, 1, none⟩ (.slice none 0 0)).cell? ⟨w.heap.size + 1, 1, none⟩ = some (.slice none 0 0) := rb.cell 1
    have FZ : AnsWalk w (byW d.1 d.2 t s f) (byD d.1 d.2 t s f) (.returned (.tuple #[.agg #[.slice none 0 0, .slice none 0 0], .bool false])) ((W3.setCell ⟨w.heap.size + 1, 0, none⟩ (.slice none 0 0)).setCell ⟨w.heap.size + 1, 1, none⟩ (.slice none 0 0)) := ansWalk_no HB.out (((b3).setCell (show w.heap.size ≤ w.heap.size + 1 by omega) _).setCell (show w.heap.size ≤ w.heap.size + 1 by omega) _)
    have HFZ := hid FZ
    clear FZ ra rb b3
    go_wp2
    exact bodyPost_ret (v := .tuple #[.agg #[.slice none 0 0, .slice none 0 0], .bool false]) (by simp [results, Tryz.results8, go_sem, u0, u1]) rfl HFZ.out
theorem owned_last {w : World} {lo hi : Nat} {f s : Value} {k : Dat sWalk} (h : Owned w lo hi sWalk [f, s] k) : Owned w lo hi sI [f] k.1 ∧ ∀ n, n < List.length k.2 → ∃ g nn c U un uc, s = .slice (some ⟨g, 0, none⟩) nn c ∧ g < w.heap.size ∧ w.cell? ⟨g, n * 3 + 2, none⟩ = some (.slice U un uc) ∧ marks.Own w lo (.slice U un uc) (k.2.getD n (0, 0, [])).2.2 := by
 obtain ⟨F, ho, hn, hl⟩ := h
 obtain ⟨ca, cb, Fa, Fb, e1, rfl, l1, l2, oa, ob⟩ := ow_cat ho
 have hca : ca.length = 1 := l1
 obtain ⟨x, rfl⟩ : ∃ x, ca = [x] := by
  cases ca with
  | nil => cases hca
  | cons x r => cases r with
   | nil => exact ⟨x, rfl⟩
   | cons y z => simp at hca
 rw [List.singleton_append, List.cons.injEq] at e1
 obtain ⟨rfl, rfl⟩ := e1
 have hnd := List.nodup_append.1 hn
 refine ⟨⟨Fa, oa, hnd.1, fun j hj => hl j (List.mem_append_left _ hj)⟩, fun n hlt => ?_⟩
 obtain ⟨g, nn, c, es, Gj, rfl, hdl, hel, hp, hgw, hes, hG, -, hsub, -⟩ := Ow.elem' ob hnd.2.1 hlt
 obtain ⟨v0, rfl⟩ := cells_Step hes.rd
 obtain ⟨c1, c2, F1, F2, e1, rfl, q1, q2, o1, o2⟩ := ow_cat hes
 obtain ⟨c3, c4, F3, F4, e2, rfl, q3, q4, o3, o4⟩ := ow_cat o2
 have hc1 : c1.length = 1 := q1
 have hc3 : c3.length = 1 := q3
 obtain ⟨x1, rfl⟩ : ∃ x, c1 = [x] := by
  cases c1 with
  | nil => cases hc1
  | cons x r => cases r with
   | nil => exact ⟨x, rfl⟩
   | cons y z => simp at hc1
 obtain ⟨x3, rfl⟩ : ∃ x, c3 = [x] := by
  cases c3 with
  | nil => cases hc3
  | cons x r => cases r with
   | nil => exact ⟨x, rfl⟩
   | cons y z => simp at hc3
 rw [List.singleton_append, List.cons.injEq] at e1
 obtain ⟨-, rfl⟩ := e1
 rw [List.singleton_append, List.cons.injEq] at e2
 obtain ⟨-, rfl⟩ := e2
 obtain ⟨U, un, uc, e3, -⟩ := rd_ints.1 o4.rd
 subst e3
 have hc := hp 2 (by show 2 < 3; omega)
 refine ⟨g, nn, c, U, un, uc, rfl, hgw, hc, ?_⟩
 have hO : Owned w lo hi sI [.slice U un uc] (k.2.getD n (0, 0, [])).2.2 := ⟨F4, o4, by
  exact (List.nodup_append.1 (List.nodup_append.1 hG).2.1).2.1, fun j hj => hl j (List.mem_append_right _ (hsub j (List.mem_append_right _ (List.mem_append_right _ hj))))⟩
 exact (ow_ints.1 hO).1
set_option maxHeartbeats 1000000 in
theorem endOwn (f s : Value) (k : Dat sWalk) (lo : Nat) (w : World) (h : Owned w lo w.heap.size sWalk [f, s] k) (hz : sz sWalk k ≤ 1048576) :
  Calls Tryz.prog 49 #[.agg #[f, s]] w fun e w' => ∃ A n c, e = .returned (.slice A n c) ∧ marks.Own w' lo (.slice A n c) (endL k) ∧ Below w.heap.size w w' := by
 obtain ⟨hF0, hlast⟩ := owned_last h
 obtain ⟨F, fn, fc, S, sn, sc, rfl, rfl, hF, hcF, hfn, hsn, hsn1, hcS, hrF, hrS, hzF, hzS⟩ := rd_walk h.rd hz
 obtain ⟨W, hW, rW, bel⟩ := box1 w 34 #[.slice F fn fc, .slice S sn sc]
 have HW := hid hW
 by_cases h0 : sn = 0
 ·subst h0
  have F1 := hid (show ∃ A n c, Ending.returned (.slice F fn fc) = .returned (.slice A n c) ∧ marks.Own W lo (.slice A n c) (endL k) ∧ Below w.heap.size w W from ⟨_, _, _, rfl, by rw [end_none hsn]; exact (ow_ints.1 (hF0.next bel)).1, bel⟩)
  clear hW h hz hF hcF hsn hcS hrF hrS hzF hzS bel rW hF0 hlast
  go_enter Tryz.func49, Tryz.ntmps49
  go_wp2
  rw [← HW.out]
  go_ret
  exact F1.out
 ·obtain ⟨n, rfl⟩ : ∃ n, sn = n + 1 := ⟨sn - 1, by omega⟩
  obtain ⟨b, nn, c, U, un, uc, eS, hbw, c2, oU⟩ := hlast n (by rw [hsn]; omega)
  injection eS with eS1 eS2 eS3
  subst eS1
  have F1 := hid (show ∃ A n c, Ending.returned (.slice U un uc) = .returned (.slice A n c) ∧ marks.Own W lo (.slice A n c) (endL k) ∧ Below w.heap.size w W from ⟨_, _, _, rfl, by rw [end_last hsn rfl]; exact oU.next bel, bel⟩)
  have c2' : (w.alloc (.cells #[.slice F fn fc, .slice (some ⟨b, 0, none⟩) (n + 1) sc] 34)).cell? ⟨b, 0 + n * 3 + 2, none⟩ = some (.slice U un uc) := by rw [← hW, Nat.zero_add]; exact (bel.cell (p := ⟨b, n * 3 + 2, none⟩) hbw).trans c2
  have c2'' : (w.alloc (.cells #[.slice F fn fc, .slice (some ⟨b, 0, none⟩) (n + 1) sc] 34)).cell? ⟨b, n * 3 + 2, none⟩ = some (.slice U un uc) := by rw [← hW]; exact (bel.cell (p := ⟨b, n * 3 + 2, none⟩) hbw).trans c2
  have i1 : ¬ ((n : Int) + 1 = 0) := by omega
  have i2 : ((n : Int) + 1) - 1 = (n : Int) := by omega
  have i3 : (0 : Int) ≤ (n : Int) := by omega
  have i4 : (n : Int) < (n : Int) + 1 := by omega
  clear hW h hz hF hcF hsn hcS hrF hrS hzF hzS c2 h0 bel rW hF0 hlast oU eS2 eS3
  go_enter Tryz.func49, Tryz.ntmps49
  go_wp2
  rw [← HW.out]
  go_ret
  exact F1.out
set_option maxHeartbeats 2000000 in
theorem implNormalBy0 (a v u : Value) (d : Dat sSystem) (t : List Int) (s f : Int) (w : World) (h : Rd w w.heap.size sSystem [a, v] d) (ht : Rd w w.heap.size sI [u] t) (hz : sz sSystem d ≤ 1048576) (hz' : sz sI t ≤ 1048576) (s1 : -9223372036854775808 ≤ s) (s2 : s ≤ 9223372036854775807) :
  Calls Tryz.prog 16 #[.agg #[a, v], u, .int .i64 s, .int .i64 f] w (AnsPairO w (byN d.1 d.2 t s f) (byD d.1 d.2 t s f)) := by
 obtain ⟨W, hW, rA, bel⟩ := box1 w 29 #[a, v]
 have HW := hid hW
 have LW := hid (implWalkBy0 a v u d t s f W (h.next bel) (ht.next bel) hz hz' s1 s2)
 obtain ⟨T, m, c, rfl, -, -⟩ := rd_ints.1 ht
 clear hW h ht
 obtain ⟨bd, hbd⟩ : ∃ b, byD d.1 d.2 t s f = b := ⟨_, rfl⟩
 have HB := hid hbd
 rw [hbd] at LW ⊢
 clear hbd
 go_enter Tryz.func16, Tryz.ntmps16
 go_wp2_with fail
 rw [← HW.out]
 refine LW.out.mono ?_
 rintro e w1 ⟨X, xn, xc, O, on, oc, rfl, ow, bb⟩
 have b1 := next_trans bel bb
 have b2 : Below w1.heap.size w1 (w1.alloc (.cells #[.slice X xn xc, .slice O on oc] 34)) := (Below.refl _ _).alloc (Nat.le_refl _) _
 have LE := hid (endOwn _ _ _ W.heap.size (w1.alloc (.cells #[.slice X xn xc, .slice O on oc] 34)) ((ow.next b2).wider (Nat.le_refl _) b2.size) byW_sz)
 have bel2 := hid (next_trans b1 b2)
 have zW := bel.size
 clear ow bb b1 b2 bel rA LW
 cases bd with
 | false =>
  have F := hid (show AnsPairO w (byN d.1 d.2 t s f) false (.returned (.tuple #[.slice none 0 0, .bool false])) (w1.alloc (.cells #[.slice X xn xc, .slice O on oc] 34)) from ⟨_, 0, 0, rfl, by rw [byN_no HB.out]; exact marks.Own.nil _ _, bel2.out⟩)
  clear LE
  go_wp2
  go_ret2
  exact F.out
 | true =>
  go_wp2_with fail
  refine LE.out.mono ?_
  rintro e w3 ⟨N, nn, nc, rfl, oN, bb⟩
  have F := hid (show AnsPairO w (byN d.1 d.2 t s f) true (.returned (.tuple #[.slice N nn nc, .bool true])) w3 from ⟨N, nn, nc, rfl, by rw [byN_yes HB.out]; exact Own.lower oN zW, next_trans bel2.out bb⟩)
  clear oN bb LE
  go_wp2
  go_ret2
  exact F.out
set_option maxHeartbeats 2000000 in
theorem implCountBy0 (a v u : Value) (d : Dat sSystem) (t : List Int) (s f : Int) (w : World) (h : Rd w w.heap.size sSystem [a, v] d) (ht : Rd w w.heap.size sI [u] t) (hz : sz sSystem d ≤ 1048576) (hz' : sz sI t ≤ 1048576) (s1 : -9223372036854775808 ≤ s) (s2 : s ≤ 9223372036854775807) :
  Calls Tryz.prog 11 #[.agg #[a, v], u, .int .i64 s, .int .i64 f] w (AnsInt w (byC d.1 d.2 t s f)) := by
 obtain ⟨W, hW, rA, bel⟩ := box1 w 29 #[a, v]
 have HW := hid hW
 have LW := hid (implWalkBy0 a v u d t s f W (h.next bel) (ht.next bel) hz hz' s1 s2)
 obtain ⟨T, m, c, rfl, -, -⟩ := rd_ints.1 ht
 clear hW h ht
 obtain ⟨bd, hbd⟩ : ∃ b, byD d.1 d.2 t s f = b := ⟨_, rfl⟩
 have HB := hid hbd
 rw [hbd] at LW
 clear hbd
 go_enter Tryz.func11, Tryz.ntmps11
 go_wp2_with fail
 rw [← HW.out]
 refine LW.out.mono ?_
 rintro e w1 ⟨X, xn, xc, O, on, oc, rfl, ow, bb⟩
 have b1 := next_trans bel bb
 have b2 : Below w1.heap.size w1 (w1.alloc (.cells #[.slice X xn xc, .slice O on oc] 34)) := (Below.refl _ _).alloc (Nat.le_refl _) _
 have bel2 := hid (next_trans b1 b2)
 have HL := hid (show (byW d.1 d.2 t s f).2.length = on from by
  obtain ⟨F', fn, fc, S, sn, sc, e1, e2, -, -, -, h7, -⟩ := rd_walk ow.rd byW_sz
  injection e2 with e3 e4 e5
  rw [e4]; exact h7)
 clear ow bb b1 b2 bel rA LW
 cases bd with
 | false =>
  have F := hid (show AnsInt w (byC d.1 d.2 t s f) (.returned (.int .i64 (-1))) (w1.alloc (.cells #[.slice X xn xc, .slice O on oc] 34)) from ⟨by rw [byC_no HB.out], bel2.out⟩)
  go_wp2
  go_ret
  exact F.out
 | true =>
  have F := hid (show AnsInt w (byC d.1 d.2 t s f) (.returned (.int .i64 (on : Int))) (w1.alloc (.cells #[.slice X xn xc, .slice O on oc] 34)) from ⟨by rw [byC_yes HB.out, HL.out], bel2.out⟩)
  go_wp2
  go_ret
  exact F.out
end byImpl
end
end Go.Proofs.YtmoidijngeijkaaGreat
