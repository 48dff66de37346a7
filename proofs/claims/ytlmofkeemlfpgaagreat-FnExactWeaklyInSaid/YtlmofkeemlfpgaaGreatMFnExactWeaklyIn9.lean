/-
  MERGED: my texts OvAt, PeakImpl, Written, LookOv, RenWide, Then, ThenOv, PkFacts, PeakRun, one behind the other, as they are. By an AI agent.
-/
import Derived.Test.YtlmofkeemlfpgaaGreatMFnExactWeaklyIn8
import Derived.Deep.DeepCutAuto
import Derived.Laws.NewBlocks
import Derived.Laws.EntriesVeiled
import Derived.Deep.RegionHeld3
namespace Go.Proofs.YtlmofkeemlfpgaaGreat
section
open Go.Lib (hid)
namespace ovAt
open Go.RowKit base ints sig term termOk termFacts sub args sym varsOf marks app appAt segs kinds shape kindsR drawX fillMath matchMath unifMath forest triMath nodes ufMath stk bnd Go.Proofs.YtlmofkeemlfpgaaGreat.look pathSpec ruleMath ruleSpec peakMath peakImpl trySpec ovImpl linkImpl finMath doneMap finImpl ovStart ovAdd
set_option maxRecDepth 100000
theorem ov_of {w : World} {p N : Nat} {A X K : Option Addr} {n c xn xc kc : Nat} {v : Value} {o a u : Int} {sg nums : List Int} {lk : List Nat} (hr : Row w p 122 #[.slice A n c, v, .int .i64 o, .int .i64 a, .int .i64 u, .slice X xn xc, .slice K xn kc]) (hX : Own w (p + 1) (.slice X xn xc) nums) (hK : Own w (p + 1) (.slice K xn kc) (castL lk)) (hs : Apart2 X K) (h1 : 1 ≤ xn)
  (hA : Seg w N A n sg) (kA : Cap A n c) (hN : N ≤ p) : ∃ lb, K = some ⟨lb, 0, none⟩ ∧ p < lb ∧ Ov w (Qb w.heap.size p lb) p lb A n c v o a u X xn xc kc sg nums lk := by
 have hl := Own.len hK
 rw [castL_len] at hl
 rcases Own.form hK with ⟨e, -⟩ | ⟨g, c', cur, e, hg, hrow, hsz, hcs⟩
 ·injection e with _ e _
  omega
 ·injection e with e1 e2 e3
  subst e1 e3
  have hpl := hr.lt
  refine ⟨g, rfl, hg, ⟨hr, ?_, ?_, ⟨cur, hrow, hl.symm, fun i hi => ?_⟩, by omega, fun b hb => ⟨hb.2.2, hb.2.1, hb.1⟩⟩⟩
  ·exact rdq_of hA kA fun b hb => ⟨by omega, by omega, by omega⟩
  ·refine rdq_own hX fun b hb1 hb2 hb3 => ⟨hb2, fun e => ?_, by omega⟩
   exact hs b hb3 (by rw [e]; rfl)
  ·rw [hcs i (by rw [castL_len]; omega)]
   unfold castL
   simp [List.getD_eq_getElem?_getD, show i < lk.length by omega]
structure Made (w : World) (lo : Nat) (A : Option Addr) (n c : Nat) (v : Value) (sg : List Int) (rs : List Rl) (o a u p : Nat) : Prop where
 ge : lo ≤ p
 ex : ∃ (lb xc lc : Nat) (X : Option Addr) (N : Nat) (lk : List Nat) (rt rk : Nat → Nat) (D : List Nat), Ov w (Qb N p lb) p lb A n c v (o : Int) (a : Int) (u : Int) X ((lh rs o).length + (lh rs u).length) xc lc sg (lh rs o ++ lh rs u) lk ∧
  Whole sg ((lh rs o).length + (lh rs u).length) (fun i => (lh rs o ++ lh rs u).getD i 0) (nodes.nd sg (lh rs o ++ lh rs u) (lh rs o ++ shiftL 24 (lh rs u))) (chN sg (lh rs o ++ lh rs u)) (inn sg (lh rs o) a) a (lh rs o).length lk rt rk D
def AnsOv (w : World) (A : Option Addr) (n c : Nat) (v : Value) (sg : List Int) (rs : List Rl) (o x u : Int) (e : Ending) (w' : World) : Prop :=
 Below w.heap.size w w' ∧ ((metB sg rs o x u = false ∧ e = .returned (.tuple #[.pointer none, .bool false])) ∨ (metB sg rs o x u = true ∧ ∃ p, e = .returned (.tuple #[.pointer (some ⟨p, 0, none⟩), .bool true]) ∧ Made w' w.heap.size A n c v sg rs o.toNat x.toNat u.toNat p))
theorem ct_le (n : Nat) (rt : Nat → Nat) (F : Int → Option Bool) : Ct n rt F ≤ n := by
 unfold Ct
 have := List.countP_le_length (l := List.range n) (p := fun i => decide (rt i = i) && (F (i : Int)).isNone)
 simpa using this
theorem good_nil (n : Nat) (nm : Nat → Int) (ch : Nat → List Nat) (rt : Nat → Nat) : ufMath.Good n nm ch rt [] := fun j hj => absurd hj (Nat.not_lt_zero _)
theorem underStart (p : Nat) (A V : Option Addr) (n c q cv : Nat) (o : Nat) (T3 T4 T5 T6 : Value) (rs : List Rl) (B : Nat) (w : World) (hr : Row w p 122 #[.slice A n c, .slice V q cv, .int .i64 (o : Int), T3, T4, T5, T6]) (h : Rd w B sRuleS [.slice V q cv] rs) (hl : rs.length = q) (ho : o < q) (hq : q ≤ 1048576) (hsz : sz sRule (rs.getD o ([], [])) ≤ 1048576) :
  Calls Tryz.prog 103 #[.pointer (some ⟨p, 0, none⟩)] w fun e w' => e = .returned (.int .i64 ((lh rs o).length : Int)) ∧ Below w.heap.size w w' := by
 obtain ⟨b, off, l, r, x, rfl, hb, hx, cL, cR, rd⟩ := rd_at h (Below.refl _ _) hl ho
 obtain ⟨LA, ln, lc, RA, rn, rc, rfl, rfl, sL, kL, -, -, hln, -⟩ := rd_rule rd (by rw [hx.out] at hsz; exact hsz)
 have e : (lh rs o).length = ln := by unfold lh; rw [hx.out]; exact sL.1
 have q1 : w.cell? ⟨p, 1, none⟩ = some (.slice (some ⟨b, off, none⟩) q cv) := hr.cell 1
 have q2 : w.cell? ⟨p, 2, none⟩ = some (.int .i64 (o : Int)) := hr.cell 2
 have j1 : (0 : Int) ≤ (o : Int) := by omega
 have j2 : (o : Int) < (q : Int) := by omega
 rw [e]
 clear hr h rd sL kL cR hx e hsz
 go_enter Tryz.func103, Tryz.ntmps103
 go_wp2
 go_quiet (fail)
 go_wp2
 go_ret
 exact ⟨rfl, below_drewN (Below.refl _ _) _⟩
set_option maxHeartbeats 4000000 in
theorem overlapAt (A V : Option Addr) (n c q cv : Nat) (d : Dat sSystem) (o x u : Int) (w : World) (h : Rd w w.heap.size sSystem [.slice A n c, .slice V q cv] d) (hz : sz sSystem d ≤ 1048576) (hok : ∀ k, k < d.2.length → ruleOkB d.1 (d.2.getD k ([], [])) = true) :
  Calls Tryz.prog 99 #[.agg #[.slice A n c, .slice V q cv], .int .i64 o, .int .i64 x, .int .i64 u] w (AnsOv w A n c (.slice V q cv) d.1 d.2 o x u) := by
 have hterm : ∀ k, k < d.2.length → termOkB d.1 (lh d.2 k) = true := fun k hk => (rule_parts (hok k hk)).1
 obtain ⟨W0, hW0⟩ : ∃ W0, W0 = w.alloc (.cells #[.slice A n c, .slice V q cv] 76) := ⟨_, rfl⟩
 have b0 : Below w.heap.size w W0 := by rw [hW0]; exact (Below.refl _ _).alloc (Nat.le_refl _) _
 have r0 : Row W0 w.heap.size 76 #[.slice A n c, .slice V q cv] := by rw [hW0]; exact Row.new _ _ _
 have z0 : W0.heap.size = w.heap.size + 1 := by rw [hW0]; simp
 have LM := hid (mayOverlap (.slice A n c) (.slice V q cv) d o x u W0 ((h.below b0).more b0.size) hz hterm)
 have k00 : W0.cell? ⟨w.heap.size, 0, none⟩ = some (.slice A n c) := r0.cell 0
 have k01 : W0.cell? ⟨w.heap.size, 1, none⟩ = some (.slice V q cv) := r0.cell 1
 have HW0 := hid hW0
 cases hm : mayB d.2 o x u with
 | false =>
  rw [hm] at LM
  have FM : metB d.1 d.2 o x u = false := by unfold metB; rw [hm]; rfl
  have HF := hid FM
  have HB0 := hid b0
  rw [hW0] at k00 k01
  clear hterm hok h hz hm FM hW0 r0 b0
  go_enter Tryz.func99, Tryz.ntmps99
  go_wp2_with fail
  rw [← HW0.out]
  refine LM.out.mono ?_
  rintro e w1 ⟨rfl, bb⟩
  have F := hid (show AnsOv w A n c (.slice V q cv) d.1 d.2 o x u (.returned (.tuple #[.pointer none, .bool false])) w1 from ⟨next_trans HB0.out bb, .inl ⟨HF.out, rfl⟩⟩)
  clear bb
  go_wp2
  go_ret2
  exact F.out
 | true =>
  obtain ⟨⟨ho1, hu1⟩, hs1, -⟩ := may_parts hm
  unfold walkMath.inB at ho1 hu1
  unfold symAt at hs1
  have ho2 := of_decide_eq_true ho1
  have hu2 := of_decide_eq_true hu1
  have hs2 := of_decide_eq_true hs1
  clear ho1 hu1 hs1
  obtain ⟨o, rfl⟩ : ∃ z : Nat, o = (z : Int) := ⟨o.toNat, by omega⟩
  obtain ⟨u, rfl⟩ : ∃ z : Nat, u = (z : Int) := ⟨u.toNat, by omega⟩
  obtain ⟨a, rfl⟩ : ∃ z : Nat, x = (z : Int) := ⟨x.toNat, by omega⟩
  have eo : lhsI d.2 (o : Int) = lh d.2 o := by unfold lhsI lh; rw [Int.toNat_natCast]
  rw [eo] at hs2
  have ha : a < (lh d.2 o).length := by omega
  have ho : o < d.2.length := by omega
  have hu : u < d.2.length := by omega
  clear hs2 ho2 hu2 eo
  rw [hm] at LM
  have tLo := hterm o ho
  have tLu := hterm u hu
  have scO := (term_parts tLo).2.2
  have scU := (term_parts tLu).2.2
  have hars := (sig_arities (term_parts tLo).1).1
  have hvLo : ∀ z ∈ lh d.2 o, -24 ≤ z := fun z hz => (term_mem tLo hz).1
  have hlo60 := term_len tLo
  have hlu60 := term_len tLu
  have HMET := hid (show ∀ b, unB d.1 d.2 o a u = b → metB d.1 d.2 (o : Int) (a : Int) (u : Int) = b from fun b hb => by
   unfold metB
   rw [hm, Int.toNat_natCast, Int.toNat_natCast, Int.toNat_natCast, hb]
   rfl)
  obtain ⟨A1, n1, c1, A2, n2, c2, ea, ev, hA, kA, kV, hlen, hn, hn2, hr, hsg, hrs⟩ := rd_sys h hz
  injection ea with e1 e2 e3
  subst e1 e2 e3
  injection ev with e1 e2 e3
  subst e1 e2 e3
  have hr9 := hr
  obtain ⟨bV, oV, lo, ro, xo, rfl, hbV, hxo, cLo, cRo, rdo⟩ := rd_at hr (Below.refl _ _) hlen (show o < q by omega)
  obtain ⟨bV2, oV2, lu, ru, xu, eV2, -, hxu, cLu, cRu, rdu⟩ := rd_at hr (Below.refl _ _) hlen (show u < q by omega)
  injection eV2 with eV2
  injection eV2 with eb eo
  subst eb eo
  have hsz9 := hrs o (by omega)
  obtain ⟨LA, ln, lc, RA, rn, rc, rfl, rfl, sLo, kLo, sRo, kRo, hln, hrn⟩ := rd_rule rdo (by have := hrs o (by omega); rw [hxo.out] at this; exact this)
  obtain ⟨MA, mn, mc, NA, nn, nc', rfl, rfl, sLu, kLu, sRu, kRu, hmn, hnn⟩ := rd_rule rdu (by have := hrs u (by omega); rw [hxu.out] at this; exact this)
  have eLo : xo.1 = lh d.2 o := by unfold lh; rw [hxo.out]
  have eLu : xu.1 = lh d.2 u := by unfold lh; rw [hxu.out]
  rw [eLo] at sLo
  rw [eLu] at sLu
  have lLo := sLo.1
  have lLu := sLu.1
  have j1 : (0 : Int) ≤ (o : Int) := by omega
  have j2 : (o : Int) < (q : Int) := by omega
  have j3 : (0 : Int) ≤ (u : Int) := by omega
  have j4 : (u : Int) < (q : Int) := by omega
  have HR9 := hid hr9
  have HRS := hid hsz9
  have HLEN := hid hlen
  have HSC := hid (And.intro scO (And.intro scU hvLo))
  have HARS := hid hars
  have HTLU := hid tLu
  have HTLO := hid tLo
  have HSLO := hid (And.intro sLo sLu)
  have HA := hid (And.intro hA kA)
  have HB0 := hid b0
  have HR0 := hid r0
  have HLL := hid (And.intro lLo lLu)
  have HHA := hid ha
  have hln60 : 1 ≤ ln ∧ ln ≤ 60 := by omega
  have hmn60 : 1 ≤ mn ∧ mn ≤ 60 := by omega
  have q3 : W0.cell? ⟨bV, oV + o * 2, none⟩ = some (.slice LA ln lc) := (b0.cell (p := ⟨bV, oV + o * 2, none⟩) hbV).trans cLo
  have q4 : W0.cell? ⟨bV, oV + u * 2, none⟩ = some (.slice MA mn mc) := (b0.cell (p := ⟨bV, oV + u * 2, none⟩) hbV).trans cLu
  have e00 := k00
  have e01 := k01
  rw [hW0] at e00 e01
  clear hterm hok h hz hm hr hsg hrs rdo rdu sRo sRu kRo kRu cLo cRo cLu cRu hxo hxu eLo eLu r0 b0 hW0 scO scU hvLo hars tLo tLu hA sLo sLu hr9 hsz9 hlen lLo lLu ha kLo kLu
  go_enter Tryz.func99, Tryz.ntmps99
  go_wp2_with fail
  rw [← HW0.out]
  refine LM.out.mono ?_
  rintro e w1 ⟨rfl, bb⟩
  clear e00 e01
  have z1 := bb.size
  have k10 : w1.cell? ⟨w.heap.size, 0, none⟩ = some (.slice A n c) := (bb.cell (p := ⟨w.heap.size, 0, none⟩) (by rw [z0]; exact Nat.lt_succ_self _)).trans k00
  have k11 : w1.cell? ⟨w.heap.size, 1, none⟩ = some (.slice (some ⟨bV, oV, none⟩) q cv) := (bb.cell (p := ⟨w.heap.size, 1, none⟩) (by rw [z0]; exact Nat.lt_succ_self _)).trans k01
  have hbV0 : bV < W0.heap.size := by rw [z0]; omega
  have k13 := (bb.cell (p := ⟨bV, oV + o * 2, none⟩) hbV0).trans q3
  have k14 := (bb.cell (p := ⟨bV, oV + u * 2, none⟩) hbV0).trans q4
  obtain ⟨p, hp⟩ : ∃ p, p = w1.heap.size := ⟨_, rfl⟩
  have hb1z := HB0.out.size
  obtain ⟨W2, hW2⟩ : ∃ W2, W2 = w1.alloc (.cells #[.slice A n c, .slice (some ⟨bV, oV, none⟩) q cv, .int .i64 (o : Int), .int .i64 (a : Int), .int .i64 (u : Int), .slice none 0 0, .slice none 0 0] 122) := ⟨_, rfl⟩
  have r2 : Row W2 p 122 #[.slice A n c, .slice (some ⟨bV, oV, none⟩) q cv, .int .i64 (o : Int), .int .i64 (a : Int), .int .i64 (u : Int), .slice none 0 0, .slice none 0 0] := by rw [hW2, hp]; exact Row.new _ _ _
  have b12 : Below p w1 W2 := by rw [hW2, hp]; exact (Below.refl _ _).alloc (Nat.le_refl _) _
  have hBp : w.heap.size < p := by rw [hp]; omega
  have bw2 : Below w.heap.size w W2 := (next_trans HB0.out bb).trans (b12.mono (by omega))
  have g1 : W2.cell? ⟨w.heap.size, 1, none⟩ = some (.slice (some ⟨bV, oV, none⟩) q cv) := (b12.cell (p := ⟨w.heap.size, 1, none⟩) hBp).trans k11
  have g3 := (b12.cell (p := ⟨bV, oV + o * 2, none⟩) (show bV < p by omega)).trans k13
  have g4 := (b12.cell (p := ⟨bV, oV + u * 2, none⟩) (show bV < p by omega)).trans k14
  have L1 := hid (ovAdd p _ _ _ _ _ none none LA 0 0 0 ln lc [] [] (lh d.2 o) W2 r2 (Own.nil _ _) (Own.nil _ _) (fun k hk => by cases hk) ((HSLO.out.1.below bw2).more (by omega)) (by omega) (by omega) hln60.1)
  have f1 := g1
  have f3 := g3
  rw [hW2] at f1 f3
  have HP := hid hp
  have HW2 := hid hW2
  clear q3 q4 r2 hW2 k00 k01 hp z1 bb b12 k13 k14 z0
  go_wp2_with fail
  rw [← HW2.out, ← HP.out]
  refine L1.out.mono ?_
  rintro e w3 ⟨⟨v, rfl⟩, X, xc, K, kc, r3, x3, K3, s3, b3⟩
  clear f1 f3 L1 k10 k11
  have h1 := (b3.cell (p := ⟨w.heap.size, 1, none⟩) hBp).trans g1
  have h3 := (b3.cell (p := ⟨bV, oV + o * 2, none⟩) (show bV < p by omega)).trans g3
  have h4 := (b3.cell (p := ⟨bV, oV + u * 2, none⟩) (show bV < p by omega)).trans g4
  have bw3 : Below w.heap.size w w3 := bw2.trans (b3.mono (by omega))
  have L2 := hid (ovAdd p _ _ _ _ _ X K MA (0 + ln) xc kc mn mc _ _ (lh d.2 u) w3 r3 x3 K3 s3 ((HSLO.out.2.below bw3).more (by omega)) (by omega) (by omega) hmn60.1)
  clear r3 x3 K3 s3 b3 bw2
  go_wp2_with fail
  refine L2.out.mono ?_
  rintro e w4 ⟨⟨v, rfl⟩, X2, xc2, K2, kc2, r4, x4, K4, s4, b4⟩
  have bw4 : Below w.heap.size w w4 := bw3.trans (b4.mono (by omega))
  have hp4 := r4.lt
  obtain ⟨eo, eu⟩ := HLL.out
  rw [show 0 + ln + mn = (lh d.2 o).length + (lh d.2 u).length by omega] at r4 x4 K4
  have x4' : Own w4 (p + 1) (.slice X2 ((lh d.2 o).length + (lh d.2 u).length) xc2) (lh d.2 o ++ lh d.2 u) := x4
  have e9 : [] ++ castL (lkT 0 (lh d.2 o) ln) ++ castL (lkT (0 + ln) (lh d.2 u) mn) = castL (lk0 (lh d.2 o) (lh d.2 u)) := by rw [List.nil_append, ← castL_app, Nat.zero_add, ← lkT_all, eo, eu]
  have K4' : Own w4 (p + 1) (.slice K2 ((lh d.2 o).length + (lh d.2 u).length) kc2) (castL (lk0 (lh d.2 o) (lh d.2 u))) := by rw [← e9]; exact K4
  have LU := hid (underStart p A (some ⟨bV, oV, none⟩) n c q cv o _ _ _ _ d.2 w.heap.size w4 r4 (HR9.out.below bw4) HLEN.out (by omega) (by omega) HRS.out)
  obtain ⟨lb, rfl, hlb, O4⟩ := ov_of r4 x4' K4' s4 (by omega) (HA.out.1.below bw4) HA.out.2 (Nat.le_of_lt hBp)
  obtain ⟨scO, scU, hvLo⟩ := HSC.out
  have hN := gr0 (lu := lh d.2 u) scO scU hvLo HHA.out
  have HN := hid hN
  have HNO := hid (show (∀ θ, ¬ Unis d.1 (nodes.nd d.1 (lh d.2 o ++ lh d.2 u) (lh d.2 o ++ shiftL 24 (lh d.2 u)) a) (nodes.nd d.1 (lh d.2 o ++ lh d.2 u) (lh d.2 o ++ shiftL 24 (lh d.2 u)) (lh d.2 o).length) θ) → metB d.1 d.2 (o : Int) (a : Int) (u : Int) = false from fun h => HMET.out false (unB_no (by rw [nd_lo scO HHA.out, nd_lu scU] at h; exact h)))
  have HYES := hid (show (∃ θ, Unis d.1 (nodes.nd d.1 (lh d.2 o ++ lh d.2 u) (lh d.2 o ++ shiftL 24 (lh d.2 u)) a) (nodes.nd d.1 (lh d.2 o ++ lh d.2 u) (lh d.2 o ++ shiftL 24 (lh d.2 u)) (lh d.2 o).length) θ) → metB d.1 d.2 (o : Int) (a : Int) (u : Int) = true from fun h => HMET.out true (by
   obtain ⟨θ, h⟩ := h
   rw [nd_lo scO HHA.out, nd_lu scU] at h
   exact unB_yes h))
  have LK := hid (fun (w5 : World) (b5 : Below w4.heap.size w4 w5) => link (Qb w4.heap.size p lb) p lb A n c (.slice (some ⟨bV, oV, none⟩) q cv) (o : Int) (a : Int) (u : Int) X2 ((lh d.2 o).length + (lh d.2 u).length) xc2 kc2 d.1 (lh d.2 o ++ lh d.2 u) (lh d.2 o ++ shiftL 24 (lh d.2 u)) (inn d.1 (lh d.2 o) a) a (lh d.2 o).length hN HARS.out (by omega) (by omega) (roots (lk0 (lh d.2 o) (lh d.2 u))) _ _ _ (fun _ _ => False) a (lh d.2 o).length w5 (Nat.le_refl _) (O4.next b5) (lk0_ok scO scU hvLo a) (snd0 scO scU a _) (clo0 _) hN.gr.ia.2 hN.gr.iu.2 ⟨a, hN.gr.ia.2, hN.gr.ia.1, rfl⟩ ⟨_, hN.gr.iu.2, hN.gr.iu.1, rfl⟩ (fun θ hθ => hθ.2))
  have HSC2 := hid (And.intro scO (And.intro scU hvLo))
  have zz4 := b4.size
  clear r4 x4 K4 x4' K4' s4 b4 bw3 L2 O4 hN scO scU hvLo h1 h3 h4 g1 g3 g4 HSC eo eu e9
  go_wp2_with fail
  refine LU.out.mono ?_
  rintro e w5 ⟨rfl, b5⟩
  have LK5 := hid (LK.out w5 b5)
  have z5 := b5.size
  have bw5 : Below w.heap.size w w5 := next_trans bw4 b5
  clear LK LU b5
  go_wp2_with fail
  refine LK5.out.mono ?_
  rintro e w6 ⟨ok, lk', rfl, O6, g6, hyes, hno⟩
  have bw6 : Below w.heap.size w w6 := bw5.grown g6 (by have := bw5.size; omega) (fun k hk => by injection hk; omega)
  clear LK5
  cases ok with
  | false =>
   have F := hid (show AnsOv w A n c (.slice (some ⟨bV, oV, none⟩) q cv) d.1 d.2 (o : Int) (a : Int) (u : Int) (.returned (.tuple #[.pointer none, .bool false])) w6 from ⟨bw6, .inl ⟨HNO.out (hno rfl), rfl⟩⟩)
   clear O6 g6 hyes hno bw6 bw5 bw4
   go_wp2
   go_ret2
   exact F.out
  | true =>
   obtain ⟨rt', rk', hL', hS', hC', he', -, -⟩ := hyes rfl
   clear hno hyes
   have z6 := g6.size
   have hlb6 := O6.lt.2
   obtain ⟨W7, hW7⟩ : ∃ W7, W7 = w6.alloc (.map #[] 0) := ⟨_, rfl⟩
   have b7 : Below w6.heap.size w6 W7 := by rw [hW7]; exact (Below.refl _ _).alloc (Nat.le_refl _) _
   have z7 : W7.heap.size = w6.heap.size + 1 := by rw [hW7]; simp
   have D7 : Dn W7 w6.heap.size 0 (fun _ => none) := by rw [hW7]; exact dn_made w6
   have O7 := O6.next b7
   have hct := ct_le ((lh d.2 o).length + (lh d.2 u).length) rt' (fun _ => none)
   have LF := hid (isFinite (Qb w4.heap.size p lb) p lb A n c (.slice (some ⟨bV, oV, none⟩) q cv) (o : Int) (a : Int) (u : Int) X2 ((lh d.2 o).length + (lh d.2 u).length) xc2 kc2 d.1 (lh d.2 o ++ lh d.2 u) (lh d.2 o ++ shiftL 24 (lh d.2 u)) (inn d.1 (lh d.2 o) a) a (lh d.2 o).length HN.out HARS.out (by omega) (by omega) lk' rt' rk' hL' hS' w6.heap.size (by omega) (by omega) (fun z hz => by have := hz.1; omega)
    (Ct ((lh d.2 o).length + (lh d.2 u).length) rt' (fun _ => none) + 1) [] [] (fun _ => none) 0 a W7 (Nat.lt_succ_self _) O7 D7 (by omega) Mk.start (good_nil _ _ _ _) HN.out.gr.ia.2 ⟨a, HN.out.gr.ia.2, HN.out.gr.ia.1, rfl⟩ (fun r hr => by cases hr))
   have HW7 := hid hW7
   have HFN := hid (And.intro hL' (And.intro hS' (And.intro hC' he')))
   have HO7 := hid O7
   have bw7 : Below w.heap.size w W7 := next_trans bw6 b7
   clear O6 g6 bw6 bw5 bw4 hL' hS' hC' he' O7 D7 hct b7 hW7
   have hmm := @run_makeMap Tryz.prog
   go_wp2_with fail
   rw [← HW7.out]
   refine LF.out.mono ?_
   rintro e w8 ⟨ok2, rfl, g8, h8y, h8n⟩
   have bw8 : Below w.heap.size w w8 := bw7.grown g8 (by have := bw7.size; omega) (fun k hk => by injection hk; omega)
   cases ok2 with
   | false =>
    have F := hid (show AnsOv w A n c (.slice (some ⟨bV, oV, none⟩) q cv) d.1 d.2 (o : Int) (a : Int) (u : Int) (.returned (.tuple #[.pointer none, .bool false])) w8 from ⟨bw8, .inl ⟨HNO.out (h8n rfl), rfl⟩⟩)
    clear bw7 bw8 g8 h8y h8n LF
    go_wp2
    go_ret2
    exact F.out
   | true =>
    obtain ⟨E, nn', F', -, -, -, -, hG, hrD⟩ := h8y rfl
    obtain ⟨hL', hS', hC', he'⟩ := HFN.out
    obtain ⟨scO, scU, hvLo⟩ := HSC2.out
    have hWh := whole_of scO scU hvLo HHA.out hL' hS' hC' he' hG hrD
    have hun : metB d.1 d.2 (o : Int) (a : Int) (u : Int) = true := HYES.out (whole_un hWh)
    have F := hid (show AnsOv w A n c (.slice (some ⟨bV, oV, none⟩) q cv) d.1 d.2 (o : Int) (a : Int) (u : Int) (.returned (.tuple #[.pointer (some ⟨p, 0, none⟩), .bool true])) w8 from
     ⟨bw8, .inr ⟨hun, p, rfl, ⟨Nat.le_of_lt hBp, lb, xc2, kc2, X2, w4.heap.size, lk', rt', rk', _, Ov.grown HO7.out g8 (by omega) (by omega) (fun z hz => by have := hz.1; omega), hWh⟩⟩⟩)
    clear bw7 bw8 g8 h8y h8n LF hL' hS' hC' he' scO scU hvLo hWh hun hG hrD
    go_wp2
    go_ret2
    exact F.out
end ovAt
end
section
namespace peakImpl
open Go.RowKit heldT base ints sig term termOk endAt marks app sym pathSpec wayTo place segs segsHelp kinds termFacts same shape kindsR kindsW kindsP varsOf ruleMath ruleSpec ruleImpl stepMath walkMath stepSpec stepImpl walkSpec walkImpl peakMath peakSame
set_option maxRecDepth 100000
theorem rd_zero (w : World) (B : Nat) : Rd w B sSystem [.slice none 0 0, .slice none 0 0] (([], []) : Dat sSystem) :=
 ⟨[.slice none 0 0], [.slice none 0 0], rfl, ⟨none, 0, 0, rfl, ⟨Nat.le_refl _, by omega, fun _ => rfl⟩, rfl, fun h => absurd h (by omega)⟩, ⟨none, 0, 0, rfl, ⟨Nat.le_refl _, by omega, fun _ => rfl⟩, rfl, fun h => absurd h (by omega)⟩⟩
end peakImpl
end
section
open Go.Lib (hid)
namespace written
open Go.RowKit base ints sig term args sym marks app appAt segs kinds shape drawX bnd fillMath unifMath forest triMath ufMath nodes ovImpl linkImpl pathSpec cursor
set_option maxRecDepth 100000
theorem take_app (z y : List Int) (n : Nat) : (z.take n ++ y).take n = (z ++ y).take n := by
 by_cases h : z.length ≤ n
 ·rw [List.take_of_length_le h]
 ·rw [List.take_append_of_le_length (by rw [List.length_take]; omega), List.take_append_of_le_length (by omega), List.take_take, Nat.min_self]
theorem grown_on {a b c : World} {r r' : Option Nat} (h : a.grownBy b r) (k : b.grownBy c r') (hr : ∀ z, r' = some z → r = some z ∨ a.heap.size ≤ z) : a.grownBy c r := by
 refine ⟨k.os.trans h.os, k.tape.trans h.tape, k.output.trans h.output, Nat.le_trans h.size k.size, fun z hz hne => ?_⟩
 have hs := h.size
 refine (k.block z (by omega) fun e => ?_).trans (h.block z hz hne)
 rcases hr z e.symm with e | e
 ·exact hne e.symm
 ·omega
def AnsWr (w : World) (base : Nat) (T : Option Addr) (ys : List Int) (e : Ending) (w' : World) : Prop :=
 ∃ (T' : Option Addr) (n' c' : Nat), e = .returned (.slice T' n' c') ∧ Own w' base (.slice T' n' c') ys ∧ w.grownBy w' (blk T) ∧ ∀ k, blk T' = some k → blk T = some k ∨ w.heap.size ≤ k
section
variable {w w' : World} {Q : Nat → Prop} {p lb : Nat} {A : Option Addr} {n c : Nat} {v : Value} {o a u : Int} {X : Option Addr} {xn xc lc : Nat} {sg nums : List Int} {lk : List Nat}
theorem ov_far (h : Ov w Q p lb A n c v o a u X xn xc lc sg nums lk) {r : Option Nat} (hg : w.grownBy w' r) (hr : ∀ k, r = some k → k ≠ p ∧ k ≠ lb ∧ ¬ Q k) : Ov w' Q p lb A n c v o a u X xn xc lc sg nums lk := by
 cases r with
 | none => exact h.next ⟨hg.os, hg.tape, hg.output, hg.size, fun k hk => hg.block k hk (by simp)⟩
 | some k =>
  obtain ⟨h1, h2, h3⟩ := hr k rfl
  exact finImpl.Ov.grown h hg h1 h2 fun z hz e => h3 (e ▸ hz)
end
def HeadWr (w : World) (base : Nat) (T0 : Option Addr) (t1 : List Int) (rd : Nat → List Int) (cs : List Nat) (Y : Option Addr) (yn yc : Nat) (args : List Int) (k : Nat) (out : Value) (wr : World) : Prop :=
 ∃ (T : Option Addr) (n c : Nat), out = .slice T n c ∧ Own wr base (.slice T n c) ((t1 ++ ((cs.take k).map rd).flatten).take 61) ∧ w.grownBy wr (blk T0) ∧ (∀ k, blk T = some k → blk T0 = some k ∨ w.heap.size ≤ k) ∧ Own wr 0 (.slice Y yn yc) args
set_option maxHeartbeats 4000000 in
theorem written (Q : Nat → Prop) (p lb : Nat) (A : Option Addr) (n c : Nat) (v : Value) (o a u : Int) (X : Option Addr) (xn xc lc : Nat) (sg nums nums' : List Int) (Inn : Nat → Prop) (ra ru : Nat) (hN : Nd sg nums nums' xn Inn ra ru) (hs : Arities sg) (hn : n ≤ 1048576) (hxn : xn ≤ 1000) (lk : List Nat) (rt rk : Nat → Nat)
  (hL : Lk xn (fun i => nums.getD i 0) (nodes.nd sg nums nums') Inn lk rt rk) (D : List Nat) (hG : ufMath.Good xn (fun i => nums.getD i 0) (chN sg nums) rt D) (base : Nat) (hb1 : p < base) (hb2 : lb < base) (hb3 : ∀ z, Q z → z < base) :
  ∀ (m x : Nat) (t : List Int) (T : Option Addr) (tn tc : Nat) (w : World), Ov w Q p lb A n c v o a u X xn xc lc sg nums lk → x < xn → (nums.getD (rt x) 0 < 0 ∨ ∃ j, j < m ∧ j < D.length ∧ D.getD j 0 = rt x) → Own w base (.slice T tn tc) t → tn ≤ 61 → base ≤ w.heap.size →
  Calls Tryz.prog 136 #[.pointer (some ⟨p, 0, none⟩), .slice T tn tc, .int .i64 (x : Int)] w (AnsWr w base T ((t ++ rnd (fun i => nums.getD i 0) (chN sg nums) rt D x).take 61)) := by
 intro m
 induction m using Nat.strongRecOn with
 | _ m IH =>
 intro x t T tn tc w hO hx hm hT htn hbase
 have htl := Own.len hT
 obtain ⟨hr1, hr2⟩ := hL.root x hx
 have hrn := (hL.lt x hx).2
 have LT := hid (gives.tooLong T tn tc w (by omega))
 by_cases h61 : 60 < tn
 ·have e1 : (t ++ rnd (fun i => nums.getD i 0) (chN sg nums) rt D x).take 61 = t := by
   rw [List.take_append_of_le_length (by omega), List.take_of_length_le (by omega)]
  have F := hid (show AnsWr w base T ((t ++ rnd (fun i => nums.getD i 0) (chN sg nums) rt D x).take 61) (.returned (.slice T tn tc)) w from by rw [e1]; exact ⟨T, tn, tc, rfl, hT, World.grownBy.refl _ _, fun k hk => .inl hk⟩)
  have e2 : decide (60 < tn) = true := decide_eq_true h61
  rw [e2] at LT
  clear hO hT hm IH htl hr1 hr2 hrn e1 e2 hx
  go_enter Tryz.func136, Tryz.ntmps136
  go_wp2_with fail
  refine LT.out.mono ?_
  rintro e w1 ⟨rfl, rfl⟩
  go_wp2
  go_ret
  exact F.out
 ·have e2 : decide (60 < tn) = false := decide_eq_false h61
  rw [e2] at LT
  obtain ⟨r, hr⟩ : ∃ r, rt x = r := ⟨_, rfl⟩
  have LF := hid (find Q p lb A n c v o a u X xn xc lc sg nums lk x w hO hL hx)
  rw [hr] at LF hr1 hr2 hrn hm
  obtain ⟨hnl, -, hspot⟩ := rdq_nums hO.nm
  obtain ⟨bX, oX, rfl, hqX, hcX⟩ := hspot (by omega)
  have c5 := hO.c5
  obtain ⟨z, hz⟩ : ∃ z, nums.getD r 0 = z := ⟨_, rfl⟩
  have ca : w.cell? ⟨bX, oX + r, none⟩ = some (.int .i64 z) := by rw [← hz]; exact hcX r hrn
  have i0 : (0 : Int) ≤ (r : Int) := by omega
  have i1 : (r : Int) < (xn : Int) := by omega
  have hT1 := fun y : Int => Own.alloc hT (.cells #[.int .i64 y] 2)
  have HT1 := hid hT1
  have HO := hid hO
  have HT := hid hT
  have HIH := hid IH
  have HR := hid hr
  have HZ := hid hz
  have HR1 := hid (And.intro hr1 hr2)
  by_cases hz0 : z < 0
  ·have erd : rnd (fun i => nums.getD i 0) (chN sg nums) rt D x = [-1 - (r : Int)] := by
    rw [rnd_var (by rw [hr]; show nums.getD r 0 < 0; rw [hz]; exact hz0), hr]
   have e1 : (t ++ rnd (fun i => nums.getD i 0) (chN sg nums) rt D x).take 61 = t ++ [-1 - (r : Int)] := by
    rw [erd, List.take_of_length_le (by simp; omega)]
   have HE1 := hid e1
   clear hO hT hm IH htl hr1 hr2 hx hnl hspot hcX hqX hr hz erd e1 e2 hT1
   go_enter Tryz.func136, Tryz.ntmps136
   go_wp2_with fail
   refine LT.out.mono ?_
   rintro e w1 ⟨rfl, rfl⟩
   go_wp2_with fail
   refine LF.out.mono ?_
   rintro e w1 ⟨rfl, rfl⟩
   go_wp2_with (at_builtin; refine appAllAt rfl _ _ rfl base T tn tc t rfl (HT1.out _) (some ⟨w1.heap.size, 0, none⟩) 1 1 (w1.heap.size + 1) [-1 - (r : Int)] rfl (by simpa using renImpl.one_seg w1 (-1 - (r : Int))) (by omega) (by omega) (by omega) (by simp; omega) ?_; intro T' tc' w2 ho2 hg hat; refine (?_ : Hid _).out)
   have hg1 : w1.grownBy w2 (blk T) := grown_trans (grown_below ((Below.refl _ w1).alloc (Nat.le_refl _) _) _) hg
   have F := hid (show AnsWr w1 base T ((t ++ rnd (fun i => nums.getD i 0) (chN sg nums) rt D x).take 61) (.returned (.slice T' (tn + 1) tc')) w2 from by
    rw [HE1.out]
    refine ⟨T', tn + 1, tc', rfl, ho2, hg1, fun k hk => ?_⟩
    rcases hat with h | h
    ·exact .inl (h ▸ hk)
    ·rw [h] at hk
     injection hk with hk
     right
     simp at hk
     omega)
   clear ho2 hg hat hg1 HT1
   refine hid ?_
   go_wp2
   go_ret
   exact F.out
  ·have hj : ∃ j, j < m ∧ j < D.length ∧ D.getD j 0 = r := hm.resolve_left (by rw [hz]; exact hz0)
   obtain ⟨j, hjm, hjD, hjr⟩ := hj
   obtain ⟨-, -, hcl⟩ := hG j hjD
   rw [hjr] at hcl
   have hcl := hcl (by show 0 ≤ nums.getD r 0; rw [hz]; omega)
   have hlt := hN.gr.lt r hrn (by show 0 ≤ nums.getD r 0; rw [hz]; omega)
   obtain ⟨js, hjs⟩ := hN.sc r hrn
   have erd : rnd (fun i => nums.getD i 0) (chN sg nums) rt D x = z :: ((chN sg nums r).map (rnd (fun i => nums.getD i 0) (chN sg nums) rt D)).flatten := by
    have := rnd_sym hG (r := x) (by rw [hr]; exact mem_at.2 ⟨j, hjD, hjr⟩) (by rw [hr]; show 0 ≤ nums.getD r 0; rw [hz]; omega)
    rw [this, hr]
    show nums.getD r 0 :: _ = _
    rw [hz]
   have HERD := hid erd
   have HCL := hid (And.intro hcl hlt)
   have hgeT := fun k (hk : blk T = some k) => Own.ge hT k hk
   have HGT := hid hgeT
   have AK := hid (fun k (hk : k < (chN sg nums r).length) => (show (argsL sg nums r).getD k 0 = (((chN sg nums r).getD k 0 : Nat) : Int) ∧ (chN sg nums r).getD k 0 ∈ chN sg nums r from by
    constructor
    ·rw [args_cast]
     simp [List.getD_eq_getElem?_getD, hk]
    ·rw [List.getD_eq_getElem?_getD, List.getElem?_eq_getElem hk]
     exact List.getElem_mem _))
   have hal : (argsL sg nums r).length = (chN sg nums r).length := by unfold chN; rw [List.length_map]
   have HAL := hid hal
   have ha3 : (argsL sg nums r).length ≤ 3 := argsL_len hs r
   have HA3 := hid ha3
   have HJS := hid hjs
   clear hO hT hm IH htl hr1 hr2 hx hnl hspot hcX hqX hr hz erd e2 hT1 hcl hlt hjs hgeT hal ha3 hjr
   go_enter Tryz.func136, Tryz.ntmps136
   go_wp2_with fail
   refine LT.out.mono ?_
   rintro e w1 ⟨rfl, rfl⟩
   go_wp2_with fail
   refine LF.out.mono ?_
   rintro e w1 ⟨rfl, rfl⟩
   go_wp2_with (at_builtin; refine appAllAt rfl _ _ rfl base T tn tc t rfl (HT1.out _) (some ⟨w1.heap.size, 0, none⟩) 1 1 (w1.heap.size + 1) [z] rfl (by simpa using renImpl.one_seg w1 z) (by omega) (by omega) (by omega) (by simp; omega) ?_; intro T1 tc1 w2 ho2 hg hat; refine (?_ : Hid _).out)
   have hg1 : w1.grownBy w2 (blk T) := grown_trans (grown_below ((Below.refl _ w1).alloc (Nat.le_refl _) _) _) hg
   have hat1 : ∀ k, blk T1 = some k → blk T = some k ∨ w1.heap.size ≤ k := fun k hk => by
    rcases hat with h | h
    ·exact .inl (h ▸ hk)
    ·rw [h] at hk
     injection hk with hk
     right
     simp at hk
     omega
   have O2 := ov_far HO.out hg1 (fun k hk => by have := HGT.out k hk; exact ⟨by omega, by omega, fun h => by have := hb3 k h; omega⟩)
   have LA := hid (ovArgs Q p lb A n c v o a u (some ⟨bX, oX, none⟩) xn xc lc sg nums lk r js w2 O2 hs hn (by omega) hrn HJS.out)
   have HO2 := hid O2
   have HOW := hid (And.intro ho2 (And.intro hg1 hat1))
   clear ho2 hg hat hg1 hat1 O2 HT1 LT LF
   refine hid ?_
   go_wp2_with fail
   refine LA.out.mono ?_
   rintro e w3 ⟨Y, yn, yc, rfl, oY, b3⟩
   obtain ⟨ho2, hg1, hat1⟩ := HOW.out
   have hyl := Own.len oY
   have hyn : yn = (chN sg nums r).length := by rw [hyl]; exact HAL.out
   have hy3 : yn ≤ 3 := by rw [hyl]; exact HA3.out
   have hYT : ∀ k, blk Y = some k → w2.heap.size ≤ k ∧ k < w3.heap.size := fun k hk => own_lt oY k hk
   have hT1s : ∀ k, blk T1 = some k → base ≤ k ∧ k < w2.heap.size := fun k hk => own_lt ho2 k hk
   have O3 := hid (HO2.out.next b3)
   have z3 := b3.size
   have hg3 : w1.grownBy w3 (blk T) := grown_trans hg1 (grown_below b3 _)
   have hzz := hg1.size
   have S0 := hid (show HeadWr w3 base T1 (t ++ [z]) (rnd (fun i => nums.getD i 0) (chN sg nums) rt D) (chN sg nums r) Y yn yc (argsL sg nums r) 0 (.slice T1 (tn + 1) tc1) w3 from
    ⟨T1, tn + 1, tc1, rfl, by
     have hl2 := Own.len ho2
     rw [show ((t ++ [z] ++ (((chN sg nums r).take 0).map (rnd (fun i => nums.getD i 0) (chN sg nums) rt D)).flatten).take 61) = t ++ [z] from by
      rw [List.take_zero, List.map_nil, List.flatten_nil, List.append_nil, List.take_of_length_le (by omega)]]
     exact ho2.next b3, World.grownBy.refl _ _, fun k hk => .inl hk, Own.lower oY (Nat.zero_le _)⟩)
   have HYT := hid (And.intro hYT hT1s)
   have HYN := hid hyn
   have HG3 := hid (And.intro hg3 (And.intro hat1 hzz))
   clear oY b3 ho2 hg1 hat1 HOW LA hYT hT1s hyl hyn hg3
   go_wp2_with fail
   go_loopw [1, 42] (fun out i wr => ∃ k : Nat, i = .int .i64 (k : Int) ∧ k ≤ yn ∧ HeadWr w3 base T1 (t ++ [z]) (rnd (fun i => nums.getD i 0) (chN sg nums) rt D) (chN sg nums r) Y yn yc (argsL sg nums r) k out wr) (fun _ i _ => yn - (intOf i).toNat)
   case atStart => exact ⟨0, rfl, Nat.zero_le _, S0.out⟩
   case round =>
    clear S0
    obtain ⟨k, rfl, hk, T2, n2, c2, rfl, oT2, g2, hat2, oY⟩ := hrel
    by_cases hky : k < yn
    ·have hkc : k < (chN sg nums r).length := by rw [← HYN.out]; exact hky
     obtain ⟨hak, hmem⟩ := AK.out k hkc
     obtain ⟨hcl, hlt⟩ := HCL.out
     obtain ⟨cc, hcc⟩ : ∃ cc, (chN sg nums r).getD k 0 = cc := ⟨_, rfl⟩
     rw [hcc] at hak hmem
     obtain ⟨i, hij, hi⟩ := hcl cc hmem
     have hccx := hlt cc hmem
     obtain ⟨b', off', rfl, hbb, hcell⟩ := (Own.seg oY).round hky
     rw [hak] at hcell
     have hl2 := Own.len oT2
     have hn2 : n2 ≤ 61 := by rw [hl2, List.length_take]; omega
     have hTT : ∀ q, blk T2 = some q → base ≤ q := fun q hq => Own.ge oT2 q hq
     have Or := ov_far O3.out g2 (fun q hq => by have := (HYT.out.2 q hq).1; exact ⟨by omega, by omega, fun h => by have := hb3 q h; omega⟩)
     have hz2 := g2.size
     have LI := hid (HIH.out j hjm cc _ T2 n2 c2 wr Or hccx (.inr ⟨i, hij, by omega, hi⟩) oT2 hn2 (by omega))
     have HST := hid (And.intro oT2 (And.intro g2 (And.intro hat2 oY)))
     have HCC := hid hcc
     have i0 : (0 : Int) ≤ (k : Int) := by omega
     have i1 : (k : Int) < (yn : Int) := by omega
     clear hak hmem hcl hlt hi hl2 Or oT2 g2 hat2 oY hcc hTT
     go_wp2_with fail
     refine LI.out.mono ?_
     rintro e w4 ⟨T3, n3, c3, rfl, oT3, g3, hat3⟩
     obtain ⟨oT2, g2, hat2, oY⟩ := HST.out
     have S2 := hid (show HeadWr w3 base T1 (t ++ [z]) (rnd (fun i => nums.getD i 0) (chN sg nums) rt D) (chN sg nums r) (some ⟨b', off', none⟩) yn yc (argsL sg nums r) (k + 1) (.slice T3 n3 c3) w4 from by
      refine ⟨T3, n3, c3, rfl, ?_, grown_on g2 g3 fun q hq => (hat2 q hq).imp id id, fun q hq => ?_, ?_⟩
      ·rw [take_app] at oT3
       have e1 : (chN sg nums r).take (k + 1) = (chN sg nums r).take k ++ [cc] := by
        rw [List.take_add_one, List.getElem?_eq_getElem hkc]
        have := HCC.out
        rw [List.getD_eq_getElem?_getD, List.getElem?_eq_getElem hkc] at this
        simp only [Option.getD_some] at this
        rw [this]
        rfl
       rw [e1, List.map_append, List.flatten_append, ← List.append_assoc]
       simpa using oT3
      ·rcases hat3 q hq with h | h
       ·exact hat2 q h
       ·exact .inr (by omega)
      ·refine Own.kept oY g3 ?_
       right
       intro e
       have h1 := HYT.out.1 b' rfl
       rcases hat2 b' (by rw [← e]; rfl) with h | h
       ·have := (HYT.out.2 b' h).2; omega
       ·omega)
     clear oT2 g2 hat2 oY oT3 g3 hat3 LI HST
     go_wp2
     go_roundw
     case rel => exact ⟨k + 1, by simp, hky, S2.out⟩
     case measure => simp [intOf]; omega
    ·have i1 : ¬ (k : Int) < (yn : Int) := by omega
     have hky2 : k = (chN sg nums r).length := by have := HYN.out; omega
     have F := hid (show AnsWr w1 base T ((t ++ rnd (fun i => nums.getD i 0) (chN sg nums) rt D x).take 61) (.returned (.slice T2 n2 c2)) wr from by
      obtain ⟨hg3, hat1, hzz⟩ := HG3.out
      refine ⟨T2, n2, c2, rfl, ?_, grown_on hg3 g2 fun q hq => ?_, fun q hq => ?_⟩
      ·rw [HERD.out]
       rw [hky2, List.take_length] at oT2
       simpa using oT2
      ·exact hat1 q hq
      ·rcases hat2 q hq with h | h
       ·exact hat1 q h
       ·exact .inr (by omega))
     clear oT2 g2 hat2 oY hky2
     go_wp2
     go_ret
     exact F.out
end written
end
section
namespace lookOv
open Go.RowKit base ints sig term args sym marks app appAt segs kinds shape drawX bnd renMath rename fillMath unifMath forest triMath ufMath nodes ovImpl linkImpl pathSpec cursor written
set_option maxRecDepth 100000
theorem ov_blocks {w w' : World} {Q : Nat → Prop} {p lb : Nat} {A : Option Addr} {n c : Nat} {v : Value} {o a u : Int} {X : Option Addr} {xn xc lc : Nat} {sg nums : List Int} {lk : List Nat} (h : Ov w Q p lb A n c v o a u X xn xc lc sg nums lk) (hs : w.heap.size ≤ w'.heap.size) (hb : ∀ k, k = p ∨ k = lb ∨ Q k → w'.heap[k]? = w.heap[k]?) : Ov w' Q p lb A n c v o a u X xn xc lc sg nums lk := by
 obtain ⟨cur, h1, h2, h3⟩ := h.lk
 exact ⟨(hb p (.inl rfl)).trans h.row, h.sg.keep fun b hq => hb b (.inr (.inr hq)), h.nm.keep fun b hq => hb b (.inr (.inr hq)), ⟨cur, (hb lb (.inr (.inl rfl))).trans h1, h2, h3⟩, h.ne, fun b hq => ⟨(h.q b hq).1, (h.q b hq).2.1, by have := (h.q b hq).2.2; omega⟩⟩
theorem seg_post {w : World} {B n k b off : Nat} {xs : List Int} (h : Seg w B (some ⟨b, off, none⟩) n xs) (hk : k ≤ n) : Seg w B (some ⟨b, off + k, none⟩) (n - k) (xs.drop k) := by
 refine ⟨by rw [List.length_drop, h.1], fun hn => ?_⟩
 obtain ⟨b', off', e, hb, hc⟩ := h.2 (by omega)
 injection e with e
 injection e with e1 e2
 subst e1 e2
 refine ⟨b, off + k, rfl, hb, fun j hj => ?_⟩
 have := hc (k + j) (by omega)
 rw [Nat.add_assoc, this]
 simp [List.getD_eq_getElem?_getD]
set_option maxHeartbeats 4000000 in
theorem lookOv (Q : Nat → Prop) (p lb : Nat) (A : Option Addr) (n c : Nat) (v : Value) (o a u : Int) (X : Option Addr) (xn xc lc : Nat) (sg nums nums' : List Int) (Inn : Nat → Prop) (ra ru : Nat) (hN : Nd sg nums nums' xn Inn ra ru) (hs : Arities sg) (hn : n ≤ 1048576) (hxn : xn ≤ 1000) (lk : List Nat) (rt rk : Nat → Nat)
  (hL : Lk xn (fun i => nums.getD i 0) (nodes.nd sg nums nums') Inn lk rt rk) (D : List Nat) (hG : ufMath.Good xn (fun i => nums.getD i 0) (chN sg nums) rt D) (bo bs s i : Nat) (W : World) (hO : Ov W Q p lb A n c v o a u X xn xc lc sg nums lk) (ko : W.cell? ⟨bo, 0, none⟩ = some (.pointer (some ⟨p, 0, none⟩))) (ks : W.cell? ⟨bs, 0, none⟩ = some (.int .i64 (s : Int)))
  (hsx : s < xn) (hi : i ≤ 1000) (hmem : (-1 - (i : Int)) ∈ nums.drop s) (hroot : ∀ j, j < xn → nums.getD j 0 < 0 → nums.getD (rt j) 0 < 0 ∨ rt j ∈ D) :
  Calls Tryz.prog 135 #[.int .i64 (i : Int), .pointer (some ⟨bo, 0, none⟩), .pointer (some ⟨bs, 0, none⟩)] W (AnsList W ((rnd (fun i => nums.getD i 0) (chN sg nums) rt D (s + idx (nums.drop s) (-1 - (i : Int)))).take 61)) := by
 obtain ⟨hnl, hcap, hspot⟩ := rdq_nums hO.nm
 obtain ⟨bX, oX, rfl, hqX, hcX⟩ := hspot (by omega)
 have c5 := hO.c5
 have hq := fun b hb => (hO.q b hb).2.2
 have sN : Seg W W.heap.size (some ⟨bX, oX, none⟩) xn nums := Rd.seg (hO.nm.rd hq)
 obtain ⟨q, hqq⟩ : ∃ q, idx (nums.drop s) (-1 - (i : Int)) = q := ⟨_, rfl⟩
 have hql : q < xn - s := by
  have := idx_lt hmem
  rw [hqq, List.length_drop, hnl] at this
  exact this
 have hneg : nums.getD (s + q) 0 < 0 := by
  have h1 := idx_get hmem
  rw [hqq, List.getD_eq_getElem?_getD, List.getElem?_drop] at h1
  rw [List.getD_eq_getElem?_getD, h1]
  omega
 rw [hqq]
 have hij := hroot (s + q) (by omega) hneg
 have hm : nums.getD (rt (s + q)) 0 < 0 ∨ ∃ j, j < D.length ∧ j < D.length ∧ D.getD j 0 = rt (s + q) := hij.imp id fun h => by
  obtain ⟨j, h1, h2⟩ := mem_at.1 h
  exact ⟨j, h1, h1, h2⟩
 have EI := Lib.hid (show indexI (nums.drop s) (-1 - (i : Int)) = (q : Int) by unfold indexI; rw [if_pos hmem, hqq])
 have LI := Lib.hid (fun d' : Nat => indexOf (some ⟨bX, oX + s, none⟩) (xn - s) (xc - s) (nums.drop s) (-1 - (i : Int)) (W.drewN d') ((seg_post sN (by omega)).drewN d') (by omega))
 have LW0 := (fun d' : Nat => Go.Proofs.YtlmofkeemlfpgaaGreat.written.written Q p lb A n c v o a u (some ⟨bX, oX, none⟩) xn xc lc sg nums nums' Inn ra ru hN hs hn hxn lk rt rk hL D hG W.heap.size hO.lt.1 hO.lt.2 hq D.length (s + q) [] none 0 0 (W.drewN d') (hO.drewN d') (by omega) hm (Own.nil _ _) (by omega) (Nat.le_refl _))
 simp only [Int.natCast_add, List.nil_append] at LW0
 have LW := Lib.hid LW0
 have i6 : (s : Int) + (q : Int) ≤ 1000 := by omega
 have hxc := hcap.1
 have i1 : (s : Int) ≤ (xn : Int) := by omega
 have i2 : (xn : Int) ≤ (xc : Int) := by omega
 have i3 : ¬ xc = s := by omega
 have i4 : (0 : Int) ≤ (s : Int) := by omega
 have i7 : (0 : Int) ≤ (q : Int) := by omega
 clear LW0 hnl hspot hcX hqX hq sN hql hneg hij hm hmem hqq hroot hO hL hG hN hs hcap
 go_enter Tryz.func135, Tryz.ntmps135
 go_wp2_with fail
 go_quiet ((go_at_call 133; exact Calls.quiet_of_same (v := .int .i64 (q : Int)) ((LI.out _).mono fun _ _ ⟨h1, h2⟩ => ⟨by rw [h2, EI.out], h1.symm⟩)))
 go_wp2_with fail
 refine (LW.out _).mono ?_
 rintro e w2 ⟨T', n', c', rfl, oT, gT, -⟩
 have F := Lib.hid (show AnsList W ((rnd (fun i => nums.getD i 0) (chN sg nums) rt D (s + q)).take 61) (.returned (.slice T' n' c')) w2 from ⟨T', n', c', rfl, oT, ⟨gT.os, gT.tape, gT.output, gT.size, fun k hk => gT.block k hk (by simp [blk])⟩⟩)
 clear oT gT
 go_wp2
 go_ret
 exact F.out
end lookOv
end
section
open Go.Lib (hid)
namespace renWide
open Go.RowKit base ints sig cursor term termOk marks app appAt sym segs termFacts varsMath fillMath Go.Proofs.YtlmofkeemlfpgaaGreat.look renMath rename renImpl
set_option maxRecDepth 100000
theorem varTermW (i : Int) (w : World) (h0 : 0 ≤ i) (h1 : i ≤ 1000000) :
  Calls Tryz.prog 134 #[.int .i64 i] w (AnsList w [-1 - i]) := by
 have F : AnsList w [-1 - i] (.returned (.slice (some ⟨w.heap.size, 0, none⟩) 1 1)) (w.alloc (.cells #[.int .i64 (-1 - i)] 2)) :=
  ⟨_, 1, 1, rfl, Own.of_row (Row.new _ _ _) rfl rfl (Nat.le_refl _) (by omega) (Nat.le_refl _) (fun j hj => by
   have e : j = 0 := by omega
   subst e
   rfl), (Below.refl _ _).alloc (Nat.le_refl _) _⟩
 have HF := hid F
 clear F
 go_enter Tryz.func134, Tryz.ntmps134
 go_wp2
 go_ret
 exact HF.out
def AnsRenW (W : World) (B bs : Nat) (S : Option Addr) (o : List Int) (x : Int) (e : Ending) (w' : World) : Prop :=
 ∃ A c S' sn' sc', e = .returned (.slice A 1 c) ∧ Seg w' w'.heap.size A 1 [-1 - (idx (ext o x) x : Int)] ∧ (A = none → c = 0) ∧ Row w' B 22 #[.slice S' sn' sc'] ∧
  Own w' bs (.slice S' sn' sc') ((ext o x).map vn) ∧ (blk S' = blk S ∨ ∃ k, blk S' = some k ∧ W.heap.size ≤ k) ∧ Side B (blk S) W w'
set_option maxHeartbeats 4000000 in
theorem ren1W (B bs : Nat)  (S : Option Addr) (sn sc : Nat) (o : List Int) (x : Int) (W : World) (hr : Row W B 22 #[.slice S sn sc]) (ho : Own W bs (.slice S sn sc) (o.map vn)) (hx0 : -100000 ≤ x) (hx1 : x < 0) (hsn : sn ≤ 100000) (hB : B < bs) (hbs : bs ≤ W.heap.size) :
  Calls Tryz.prog 132 #[.int .i64 (-1 - x), .pointer (some ⟨B, 0, none⟩)] W (AnsRenW W B bs S o x) := by
 have hl := Own.len ho
 simp only [List.length_map] at hl
 have hlt := hr.lt
 have cB : W.cell? ⟨B, 0, none⟩ = some (.slice S sn sc) := hr.cell 0
 have fB : W.frozen? ⟨B, 0, none⟩ = false := hr.free 0
 have LI := hid (indexOf S sn sc (o.map vn) (-1 - x) W (Own.seg ho) (by omega))
 by_cases hin : x ∈ o
 ·have hi : idx o x < o.length := idx_lt hin
  obtain ⟨q, hq⟩ : ∃ q, idx o x = q := ⟨_, rfl⟩
  have EI := hid (show indexI (o.map vn) (-1 - x) = (q : Int) by
   unfold indexI
   rw [show (-1 - x : Int) = vn x from rfl, if_pos ((mem_map_inj vn_inj).2 hin), idx_map vn_inj, hq])
  have EX := hid (show ext o x = o by unfold ext; rw [if_pos hin])
  have LV := hid (varTermW (q : Int) W (by omega) (by omega))
  have HQ := hid hq
  have hq60 : q ≤ 100000 := by omega
  have HR := hid hr
  have HO := hid ho
  clear hin hi hq hl hr ho
  go_enter Tryz.func132, Tryz.ntmps132
  go_wp2_with fail
  refine LI.out.mono ?_
  rintro e w' ⟨rfl, he⟩
  rw [EI.out] at he
  subst he
  clear LI
  go_wp2_with fail
  refine LV.out.mono ?_
  rintro e w1 ⟨A, n, c, rfl, oq, bb⟩
  have hn1 := Own.len oq
  simp only [List.length_cons, List.length_nil] at hn1
  subst hn1
  have F : AnsRenW W B bs S o x (.returned (.slice A 1 c)) w1 :=
   ⟨A, c, S, sn, sc, rfl, by rw [EX.out, HQ.out]; exact Own.seg oq, (own_cap oq).2.2, HR.out.next bb, by rw [EX.out]; exact HO.out.next bb, .inl rfl, Side.of_below bb⟩
  have HF := hid F
  clear F oq bb LV cB fB
  go_wp2
  go_ret
  exact HF.out
 ·have EI := hid (show indexI (o.map vn) (-1 - x) = -1 by
   unfold indexI
   rw [show (-1 - x : Int) = vn x from rfl, if_neg (fun h => hin ((mem_map_inj vn_inj).1 h))])
  have EX := hid (show (ext o x).map vn = o.map vn ++ [-1 - x] by unfold ext; rw [if_neg hin, List.map_append]; rfl)
  have EQ := hid (show idx (ext o x) x = sn by unfold ext; rw [if_neg hin, idx_app_new hin, hl])
  have hne := own_ne ho hr
  have hr1 := hr.alloc (.cells #[.int .i64 (-1 - x)] 2)
  have ho1 := Own.alloc ho (.cells #[.int .i64 (-1 - x)] 2)
  have HNE := hid hne
  have HN := hid hl
  clear hin hl hr ho hne
  go_enter Tryz.func132, Tryz.ntmps132
  go_wp2_with fail
  refine LI.out.mono ?_
  rintro e w' ⟨rfl, he⟩
  rw [EI.out] at he
  subst he
  clear LI
  go_wp2_with (first
   | (at_builtin; refine appAllAt rfl _ _ rfl bs S sn sc (o.map vn) rfl ho1 (some ⟨W.heap.size, 0, none⟩) 1 1 (W.heap.size + 1) [-1 - x] rfl (by simpa using one_seg W (-1 - x)) (by omega) (by omega) (by omega) (by simp; omega) ?_; intro S' sc' w2 ho2 hg hat; have r2 := Row.away hr1 hg HNE.out; have cB2 : w2.cell? ⟨B, 0, none⟩ = some (.slice S sn sc) := r2.cell 0; have fB2 : w2.frozen? ⟨B, 0, none⟩ = false := r2.free 0)
   | (go_at_call 134; refine (varTermW (sn : Int) _ (by omega) (by omega)).mono ?_; rintro e w3 ⟨A, n, c, rfl, oq, bb⟩))
  have hn1 := Own.len oq
  simp only [List.length_cons, List.length_nil] at hn1
  subst hn1
  have r3 := r2.put 0 (.slice S' (sn + 1) sc')
  have hg3 : w2.grownBy (w2.setCell ⟨B, 0, none⟩ (.slice S' (sn + 1) sc')) (some B) := grown_put (World.grownBy.refl _ _) _ _
  have o3 := Own.far ho2 hg3 (fun k hk => by injection hk; omega)
  have sd : Side B (blk S) W w3 := (((Side.of_below ((Below.refl _ _).alloc (Nat.le_refl _) _)).trans (Side.of_grown hg)).trans (Side.of_var hg3)).trans (Side.of_below bb)
  have F : AnsRenW W B bs S o x (.returned (.slice A 1 c)) w3 := by
   refine ⟨A, c, S', sn + 1, sc', rfl, by rw [EQ.out]; exact Own.seg oq, (own_cap oq).2.2, r3.next bb, by rw [EX.out]; exact o3.next bb, ?_, sd⟩
   rcases hat with h | h
   ·exact .inl h
   ·exact .inr ⟨_, h, by simp⟩
  have HF := hid F
  clear F oq bb r3 hg3 o3 sd hat hg ho2 r2 cB2 fB2 cB fB hr1 ho1
  go_wp2
  go_ret
  exact HF.out
def HeadRGW (w : World) (B bs m : Nat) (o t : List Int) (S0 : Option Addr) (out i : Value) (wr : World) : Prop :=
 ∃ (k : Nat) (O : Option Addr) (on oc : Nat) (S : Option Addr) (sn sc : Nat), k ≤ m ∧ i = .int .i64 k ∧ out = .slice O on oc ∧ Own wr w.heap.size (.slice O on oc) (renF o (t.take k)) ∧ Row wr B 22 #[.slice S sn sc] ∧
  Own wr bs (.slice S sn sc) ((ordF o (t.take k)).map vn) ∧ (blk S = blk S0 ∨ ∃ q, blk S = some q ∧ w.heap.size ≤ q) ∧ (blk O = none ∨ blk O ≠ blk S) ∧ Side B (blk S0) w wr
def AnsRGW (w : World) (B bs : Nat) (o t : List Int) (S0 : Option Addr) (e : Ending) (w' : World) : Prop :=
 ∃ O on oc S sn sc, e = .returned (.slice O on oc) ∧ Own w' w.heap.size (.slice O on oc) (renF o t) ∧ Row w' B 22 #[.slice S sn sc] ∧ Own w' bs (.slice S sn sc) ((ordF o t).map vn) ∧ (blk S = blk S0 ∨ ∃ q, blk S = some q ∧ w.heap.size ≤ q) ∧ (blk O = none ∨ blk O ≠ blk S) ∧ Side B (blk S0) w w'
set_option maxHeartbeats 4000000 in
theorem fillRenW (B bs : Nat) (A : Option Addr) (m c : Nat) (o t : List Int) (S0 : Option Addr) (n0 c0 : Nat) (w : World) (hr : Row w B 22 #[.slice S0 n0 c0]) (hS : Own w bs (.slice S0 n0 c0) (o.map vn)) (h : Seg w w.heap.size A m t) (hA : ∀ k, blk A = some k → k ≠ B ∧ blk S0 ≠ some k) (hm : m ≤ 10000) (ho : o.length ≤ 50000) (hv : ∀ x ∈ t, -100000 ≤ x) (hB : B < bs) (hbs : bs ≤ w.heap.size) :
  Calls Tryz.prog 104 #[.func (.func 132) #[] #[.pointer (some ⟨B, 0, none⟩)], .slice A m c] w (AnsRGW w B bs o t S0) := by
 have HL := hid h.1
 have HV := hid hv
 have hBw := hr.lt
 have HG := hid (fun k hk => (blk_lt hS k hk).1)
 have S1 : HeadRGW w B bs m o t S0 (.slice none 0 0) (.int .i64 0) w := ⟨0, none, 0, 0, S0, n0, c0, Nat.zero_le _, rfl, rfl, by simpa [renF] using Own.nil w w.heap.size, hr, by simpa [ordF] using hS, .inl rfl, .inl rfl, Side.of_below (Below.refl _ _)⟩
 have HS0 := hid S1
 clear S1 hv hr hS
 go_enter Tryz.func104, Tryz.ntmps104
 go_wp2
 go_loopw [5, 10] (fun out i wr => HeadRGW w B bs m o t S0 out i wr) (fun _ i _ => m - (intOf i).toNat)
 case atStart => exact HS0.out
 case round =>
  obtain ⟨k, O, on, oc, S, sn, sc, hk, rfl, rfl, hO, hr, hs, hat0, hne, hsd⟩ := hrel
  clear HS0
  have hon : on ≤ 10000 := by rw [Own.len hO]; unfold renF; simp; omega
  have hsn : sn ≤ 100000 := by have h1 := Own.len hs; have h2 := ordF_len o (t.take k); simp at h1 h2; omega
  have hBlt := hr.lt
  have hwz := hsd.size
  by_cases hlt : k < m
  ·obtain ⟨b, off, x, rfl, hbb, hx, ex⟩ := h.spot hlt
   have hx1 : wr.cell? ⟨b, off + k, none⟩ = some (.int .i64 x) := by
    have hA1 := hA b rfl
    have hneS : some b ≠ blk S0 := fun e => hA1.2 e.symm
    exact (World.cell?_of_block (hsd.block b hbb hA1.1 hneS)).trans hx
   have hmem := mem_of_get (by rw [HL.out]; exact hlt) ex.out
   have hx24 : -100000 ≤ x := HV.out x hmem
   have E := hid (renF_take (o := o) (t := t) (k := k) (by rw [HL.out]; exact hlt) ex.out)
   have EO := hid (ordF_take (o := o) (t := t) (k := k) (by rw [HL.out]; exact hlt) ex.out)
   clear hmem hx h ex
   by_cases hpos : 0 ≤ x
   ·have R := hid (show ren (extV (ordF o (t.take k)) x) x = x by unfold ren; rw [if_neg (by omega)])
    have R2 := hid (show extV (ordF o (t.take k)) x = ordF o (t.take k) by unfold extV; rw [if_neg (by omega)])
    have ho1 := Own.alloc hO (.cells #[.int .i64 x] 2)
    have hs1 := Own.alloc hs (.cells #[.int .i64 x] 2)
    have hr1 := hr.alloc (.cells #[.int .i64 x] 2)
    go_wp2_with (at_builtin; refine appAllAt rfl _ _ rfl w.heap.size O on oc (renF o (t.take k)) rfl ho1 (some ⟨wr.heap.size, 0, none⟩) 1 1 (wr.heap.size + 1) [x] rfl (by simpa using one_seg wr x) (by omega) (by omega) (by omega) (by simp; omega) ?_; intro O' oc' w2 ho2 hg hat)
    have S1 : HeadRGW w B bs m o t S0 (.slice O' (on + 1) oc') (.int .i64 ((k : Int) + 1)) w2 := by
     refine ⟨k + 1, O', on + 1, oc', S, sn, sc, hlt, by simp, rfl, by rw [E.out, R.out]; exact ho2, Row.away hr1 hg (own_ne ho1 hr1), by rw [EO.out, R2.out]; exact Own.kept hs1 hg (ne_flip hne), hat0, ?_, ?_⟩
     ·rcases hat with h | h
      ·rw [h]; exact hne
      ·exact ne_new hs1 _ (Nat.le_refl _) h
     ·exact (hsd.allocs _).grow hg (fun q hq => (blk_lt hO q hq).1)
    have S := hid S1
    clear S1 ho2 hg hat ho1 hs1 hr1 hO hs hr hne hsd R R2 E EO hat0
    go_wp2
    go_roundw
    case rel => exact S.out
    case measure => simp [intOf]; omega
   ·have hneg : x < 0 := by omega
    have R := hid (show ren (extV (ordF o (t.take k)) x) x = -1 - (idx (ext (ordF o (t.take k)) x) x : Int) by unfold ren extV; rw [if_pos hneg, if_pos hneg])
    have R2 := hid (show extV (ordF o (t.take k)) x = ext (ordF o (t.take k)) x by unfold extV; rw [if_pos hneg])
    have L := hid (ren1W B bs S sn sc _ x wr hr hs hx24 hneg hsn hB (by omega))
    go_wp2_with (first
     | (go_at_call 132; refine L.out.mono ?_; rintro e w1 ⟨A1, c1, S1, sn1, sc1, rfl, s1, hc1, r1, os1, hat1, sd⟩; have ho1 := Own.side hO sd hr hne; have hz1 := sd.size; have hne1 : blk O = none ∨ blk O ≠ blk S1 := (by rcases hat1 with h | ⟨q, h, hq⟩; (rw [h]; exact hne); (rw [h]; exact (by cases e : blk O with | none => exact .inl rfl | some z => exact .inr (fun e2 => by injection e2 with e2; have := (blk_lt hO z e).2; omega)))))
     | (at_builtin; refine appAllAt rfl _ _ rfl w.heap.size O on oc (renF o (t.take k)) rfl ho1 A1 1 c1 w1.heap.size _ rfl s1 (by omega) (by omega) (by omega) (by omega) ?_; intro O' oc' w2 ho2 hg hat))
    have SS : HeadRGW w B bs m o t S0 (.slice O' (on + 1) oc') (.int .i64 ((k : Int) + 1)) w2 := by
     refine ⟨k + 1, O', on + 1, oc', S1, sn1, sc1, hlt, by simp, rfl, by rw [E.out, R.out]; exact ho2, Row.away r1 hg (own_ne ho1 r1), by rw [EO.out, R2.out]; exact Own.kept os1 hg (ne_flip hne1), ?_, ?_, ?_⟩
     ·rcases hat1 with h | ⟨q, h, hq⟩
      ·rw [h]; exact hat0
      ·exact .inr ⟨q, h, by omega⟩
     ·rcases hat with h | h
      ·rw [h]; exact hne1
      ·exact ne_new os1 _ (Nat.le_refl _) h
     ·exact (hsd.on hat0 sd).grow hg (fun q hq => (blk_lt ho1 q hq).1)
    have HSS := hid SS
    clear SS ho2 hg hat ho1 s1 r1 os1 hat1 sd hne1 hO hs hr hne hsd R R2 E EO L hat0
    go_wp2
    go_roundw
    case rel => exact HSS.out
    case measure => simp [intOf]; omega
  ·rw [List.take_of_length_le (by rw [HL.out]; omega)] at hO hs
   have F : AnsRGW w B bs o t S0 (.returned (.slice O on oc)) wr := ⟨O, on, oc, S, sn, sc, rfl, hO, hr, hs, hat0, hne, hsd⟩
   have HF := hid F
   clear F hO hs hr hne hsd h
   go_wp2
   go_ret
   exact HF.out
end renWide
end
section
namespace thn
open Go.RowKit base ints cursor marks app sym segs fillMath Go.Proofs.YtlmofkeemlfpgaaGreat.look
set_option maxRecDepth 100000
def LooksE (x : Option Nat) (g : Nat) (lb : Array Value) (w : World) (L : Nat → List Int) (N : Nat) : Prop :=
 ∀ (W : World) (i : Nat), w.grownBy W x → i < N → Calls Tryz.prog g (#[.int .i64 (i : Int)] ++ lb) W (AnsLook w.heap.size W (L i))
section
variable {x : Option Nat} {g : Nat} {lb : Array Value} {w w' : World} {L L' : Nat → List Int} {N : Nat}
theorem LooksE.next (h : LooksE x g lb w L N) (hg : w.grownBy w' x) : LooksE x g lb w' L N :=
 fun W i hW hi => (h W i (grown_trans hg hW) hi).mono fun _ _ ⟨A, n, c, he, h1, h2, h3, h4⟩ => ⟨A, n, c, he, h1, h2, fun k hk => by have := h3 k hk; have := hg.size; omega, h4⟩
theorem LooksE.ext (h : LooksE x g lb w L N) (e : ∀ i, i < N → L i = L' i) : LooksE x g lb w L' N := fun W i hW hi => by rw [← e i hi]; exact h W i hW hi
end
theorem thenC (g1 g2 : Nat) (lb1 lb2 : Array Value) (w : World) :
  Calls Tryz.prog 102 #[.func (.func g1) #[] lb1, .func (.func g2) #[] lb2] w fun e w' => e = .returned (.func (.func 137) #[] #[.pointer (some ⟨w.heap.size + 1, 0, none⟩), .pointer (some ⟨w.heap.size, 0, none⟩)]) ∧ w' = (w.alloc (.cells #[.func (.func g1) #[] lb1] 124)).alloc (.cells #[.func (.func g2) #[] lb2] 124) := by
 have hmf : ∀ (fn : Fn) (first cap : Array Value) (w : World), (Instr.makeFunc fn first cap).run Tryz.prog w = .ok (.func fn first cap) w := fun _ _ _ _ => rfl
 go_enter Tryz.func102, Tryz.ntmps102
 go_wp2
 go_ret
 exact ⟨rfl, rfl⟩
def AnsThen (w : World) (g1 g2 : Nat) (lb1 lb2 : Array Value) (e : Ending) (w' : World) : Prop :=
 ∃ b1 b2, e = .returned (.func (.func 137) #[] #[.pointer (some ⟨b2, 0, none⟩), .pointer (some ⟨b1, 0, none⟩)]) ∧ w.heap.size ≤ b1 ∧ w.heap.size ≤ b2 ∧ w'.cell? ⟨b1, 0, none⟩ = some (.func (.func g1) #[] lb1) ∧ w'.cell? ⟨b2, 0, none⟩ = some (.func (.func g2) #[] lb2) ∧ Below w.heap.size w w'
theorem thenB (g1 g2 : Nat) (lb1 lb2 : Array Value) (w : World) :
  Calls Tryz.prog 102 #[.func (.func g1) #[] lb1, .func (.func g2) #[] lb2] w (AnsThen w g1 g2 lb1 lb2) :=
 (thenC g1 g2 lb1 lb2 w).mono fun e w' ⟨h1, h2⟩ => by
  subst h2
  refine ⟨_, _, h1, Nat.le_refl _, Nat.le_succ _, ((Row.new w _ _).alloc _).cell 0, ?_, ((Below.refl _ _).alloc (Nat.le_refl _) _).alloc (by simp) _⟩
  simp
end thn
end
section
open Go.Lib (hid)
open List (setIfInBounds_toArray set_cons_zero set_cons_succ getElem_toArray getElem_cons_zero getElem_cons_succ)
namespace thenOv
open Go.RowKit base ints sig cursor marks app appAt sym segs fillMath Go.Proofs.YtlmofkeemlfpgaaGreat.look renMath rename renImpl renWide matchMath unifMath pathSpec
set_option maxRecDepth 100000
theorem ordF_app (o a b : List Int) : ordF o (a ++ b) = ordF (ordF o a) b := by unfold ordF; rw [List.foldl_append]
theorem ren_ordF {n : Int} : ∀ {b o : List Int}, (n < 0 → n ∈ o) → ren (ordF o b) n = ren o n
 | [], _, _ => rfl
 | x :: r, o, h => by
  have e : ordF o (x :: r) = ordF (extV o x) r := rfl
  rw [e, ren_ordF fun h0 => extV_mem.2 (.inr (h h0))]
  exact ren_ext h
theorem renF_app (o a b : List Int) : renF o (a ++ b) = renF o a ++ renF (ordF o a) b := by
 unfold renF
 rw [ordF_app, List.map_append]
 congr 1
 refine List.map_congr_left fun n hn => ren_ordF fun h0 => ?_
 exact fold_ext_mem.2 (.inl ⟨hn, h0⟩)
structure Fz (w0 : World) (z0 B : Nat) (W : World) : Prop where
 os : W.os = w0.os
 tape : W.tape = w0.tape
 output : W.output = w0.output
 size : w0.heap.size ≤ W.heap.size
 blk : ∀ k, k < z0 → k ≠ B → W.heap[k]? = w0.heap[k]?
theorem Fz.refl (w0 : World) (z0 B : Nat) : Fz w0 z0 B w0 := ⟨rfl, rfl, rfl, Nat.le_refl _, fun _ _ _ => rfl⟩
theorem Fz.side {w0 : World} {z0 B : Nat} {W W' : World} {r : Option Nat} (h : Fz w0 z0 B W) (hz : z0 ≤ W.heap.size) (hs : Side B r W W') (hr : ∀ k, r = some k → z0 ≤ k) : Fz w0 z0 B W' :=
 ⟨hs.os.trans h.os, hs.tape.trans h.tape, hs.output.trans h.output, Nat.le_trans h.size hs.size, fun k hk hb => (hs.block k (by omega) hb (fun e => by have := hr k e.symm; omega)).trans (h.blk k hk hb)⟩
theorem Fz.below {w0 : World} {z0 B : Nat} {W W' : World} (h : Fz w0 z0 B W) (hz : z0 ≤ W.heap.size) (hb : Below W.heap.size W W') : Fz w0 z0 B W' := h.side (r := none) hz (Side.of_below hb) (fun k e => by cases e)
theorem Fz.drew {w0 : World} {z0 B : Nat} {W : World} (h : Fz w0 z0 B W) : Fz w0 z0 B W.drew := ⟨h.os, h.tape, h.output, h.size, h.blk⟩
theorem Fz.cell {w0 : World} {z0 B : Nat} {W : World} (h : Fz w0 z0 B W) {b i : Nat} (hb : b < z0) (hB : b ≠ B) : W.cell? ⟨b, i, none⟩ = w0.cell? ⟨b, i, none⟩ := World.cell?_of_block (h.blk b hb hB)
def LookR (w0 : World) (z0 B : Nat) (g : Nat) (lb : Array Value) (T : Nat → List Int) (dom : Nat → Prop) : Prop :=
 ∀ (W : World) (i : Nat), Fz w0 z0 B W → dom i → Calls Tryz.prog g (#[.int .i64 (i : Int)] ++ lb) W (AnsList W (T i))
set_option maxHeartbeats 4000000 in
theorem thenRen (w0 : World) (z0 B b1 b2 g1 : Nat) (lb1 : Array Value) (e1 : ∀ args w, (callFunc g1 args).run Tryz.prog w = .ok (.enter g1 args) w) (T : Nat → List Int) (dom : Nat → Prop) (hz : z0 ≤ w0.heap.size) (hB : B < z0) (z1 : b1 < z0) (z2 : b2 < z0) (n1 : b1 ≠ B) (n2 : b2 ≠ B)
  (c1 : w0.cell? ⟨b1, 0, none⟩ = some (.func (.func g1) #[] lb1)) (c2 : w0.cell? ⟨b2, 0, none⟩ = some (.func (.func 132) #[] #[.pointer (some ⟨B, 0, none⟩)])) (hl : LookR w0 z0 B g1 lb1 T dom)
  (W : World) (i : Nat) (o : List Int) (S : Option Addr) (sn sc : Nat) (hF : Fz w0 z0 B W) (hr : Row W B 22 #[.slice S sn sc]) (hS : Own W z0 (.slice S sn sc) (o.map vn)) (hi : dom i) (h61 : (T i).length ≤ 61) (hv : ∀ x ∈ T i, -100000 ≤ x) (ho : o.length ≤ 50000) :
  Calls Tryz.prog 137 #[.int .i64 (i : Int), .pointer (some ⟨b2, 0, none⟩), .pointer (some ⟨b1, 0, none⟩)] W (AnsRGW W B z0 o (T i) S) := by
 have hsz := hF.size
 have p1 : W.cell? ⟨b1, 0, none⟩ = some (.func (.func g1) #[] lb1) := (hF.cell z1 n1).trans c1
 have p2 : W.cell? ⟨b2, 0, none⟩ = some (.func (.func 132) #[] #[.pointer (some ⟨B, 0, none⟩)]) := (hF.cell z2 n2).trans c2
 have HL1 := hid (hl W.drew i hF.drew hi)
 have hSl := own_lt hS
 have L2 := hid (fun (w3 : World) (X : Option Addr) (xn xc : Nat) (b3 : Below W.heap.size W.drew w3) (oX : Own w3 W.heap.size (.slice X xn xc) (T i)) => (show Calls Tryz.prog 104 #[.func (.func 132) #[] #[.pointer (some ⟨B, 0, none⟩)], .slice X xn xc] w3 (AnsRGW w3 B z0 o (T i) S) from by
  have b3' : Below W.heap.size W w3 := (Below.refl _ W).drew.trans b3
  have hx := Own.len oX
  have hs3 := b3'.size
  refine fillRenW B z0 X xn xc o (T i) S sn sc w3 (hr.next b3') (hS.next b3') (Own.seg oX) (fun k hk => ?_) (by omega) ho hv hB (by omega)
  have h1 := Own.ge oX k hk
  exact ⟨by omega, fun e => by have := (hSl k e).2; omega⟩))
 have FIN := hid (fun (w3 w4 : World) (e : Ending) (b3 : Below W.heap.size W.drew w3) (h : AnsRGW w3 B z0 o (T i) S e w4) => (show AnsRGW W B z0 o (T i) S e w4 from by
  obtain ⟨O, on, oc, S', sn', sc', rfl, h1, h2, h3, h4, h5, h6⟩ := h
  have b3' : Below W.heap.size W w3 := (Below.refl _ W).drew.trans b3
  have hs3 := b3'.size
  refine ⟨O, on, oc, S', sn', sc', rfl, Own.lower h1 hs3, h2, h3, h4.imp id fun ⟨q, e, hq⟩ => ⟨q, e, by omega⟩, h5, (Side.of_below b3').trans h6⟩))
 have HZ := hid (fun (w3 w4 : World) (b3 : Below W.heap.size W.drew w3) (h : Side B (blk S) w3 w4) => (show w4.cell? ⟨b1, 0, none⟩ = some (.func (.func g1) #[] lb1) ∧ w4.cell? ⟨b2, 0, none⟩ = some (.func (.func 132) #[] #[.pointer (some ⟨B, 0, none⟩)]) from by
  have hF4 := (hF.drew.below (by show z0 ≤ W.heap.size; omega) b3).side (by have h9 : W.heap.size ≤ w3.heap.size := b3.size; omega) h (fun k e => (hSl k e).1)
  exact ⟨(hF4.cell z1 n1).trans c1, (hF4.cell z2 n2).trans c2⟩))
 clear hF hr hS hl hi c1 c2
 go_enter Tryz.func137, Tryz.ntmps137
 go_wp2_with fail
 refine wp_region_held_drew (S := (fun w' => w'.cell? ⟨b1, 0, none⟩ = some (.func (.func g1) #[] lb1) ∧ w'.cell? ⟨b2, 0, none⟩ = some (.func (.func 132) #[] #[.pointer (some ⟨B, 0, none⟩)]))) (by kernel_rfl) ⟨p1, p2⟩ (fun hHeld => ?_)
 refine wpAnyH_take (i := 0) (v := ?_) rfl (by kernel_rfl) (by kernel_rfl) (by kernel_rfl) (fun _ _ _ h => h) (Or.inl ⟨by rfl, ?_⟩) (by assumption) ?_
 rotate_left 1
 ·(intro w0 hSw; (try dsimp only at hSw); go_simp; try with_reducible rfl)
 try simp only [Act.put, setIfInBounds_toArray, set_cons_zero, set_cons_succ, getElem_toArray, getElem_cons_zero, getElem_cons_succ]
 refine wpAnyH_take (i := 1) (v := ?_) rfl (by kernel_rfl) (by kernel_rfl) (by kernel_rfl) (fun _ _ _ h => h) (Or.inl ⟨by rfl, ?_⟩) (by assumption) ?_
 rotate_left 1
 ·(intro w0 hSw; (try dsimp only at hSw); go_simp; try with_reducible rfl)
 try simp only [Act.put, setIfInBounds_toArray, set_cons_zero, set_cons_succ, getElem_toArray, getElem_cons_zero, getElem_cons_succ]
 refine wpAnyH_take (i := 2) (v := ?_) rfl (by kernel_rfl) (by kernel_rfl) (by kernel_rfl) (fun _ _ _ h => h) (Or.inl ⟨by rfl, ?_⟩) (by assumption) ?_
 rotate_left 1
 ·(intro w0 hSw; (try dsimp only at hSw); go_simp; try with_reducible rfl)
 try simp only [Act.put, setIfInBounds_toArray, set_cons_zero, set_cons_succ, getElem_toArray, getElem_cons_zero, getElem_cons_succ]
 refine wpAnyH_ready (rs := [3]) (by kernel_rfl) (by simp) (AllReadyH.cons rfl (fun K hK => ?_) AllReadyH.nil)
 go_simp
 refine HL1.out.mono ?_
 rintro e w3 ⟨X, xn, xc, rfl, oX, b3⟩
 have x1 : w3.cell? ⟨b1, 0, none⟩ = some (.func (.func g1) #[] lb1) := (b3.cell (p := ⟨b1, 0, none⟩) (World.block_lt_of_cell? _ _ p1)).trans p1
 have x2 : w3.cell? ⟨b2, 0, none⟩ = some (.func (.func 132) #[] #[.pointer (some ⟨B, 0, none⟩)]) := (b3.cell (p := ⟨b2, 0, none⟩) (World.block_lt_of_cell? _ _ p2)).trans p2
 have LF := hid (L2.out w3 X xn xc b3 oX)
 have HB3 := hid b3
 clear oX b3
 go_wp2_with fail
 refine hK.out _ _ ?_ (fun hHeld => ?_)
 ·first | assumption | (dsimp only; assumption) | exact ⟨by assumption, by assumption⟩
 clear hK K
 try simp only [Act.put, setIfInBounds_toArray, set_cons_zero, set_cons_succ, getElem_toArray, getElem_cons_zero, getElem_cons_succ]
 refine wpAnyH_ready (rs := [4]) (by kernel_rfl) (by simp) (AllReadyH.cons rfl (fun K hK => ?_) AllReadyH.nil)
 go_simp
 refine LF.out.mono ?_
 rintro e w4 hans
 have hans2 := hans
 obtain ⟨Y, yn, yc, S', sn', sc', rfl, -, -, -, -, -, h6⟩ := hans2
 obtain ⟨y1, y2⟩ := HZ.out w3 w4 HB3.out h6
 have HANS := hid hans
 clear hans h6
 go_wp2_with fail
 refine hK.out _ _ ?_ (fun hHeld => ?_)
 ·first | assumption | (dsimp only; assumption) | exact ⟨by assumption, by assumption⟩
 clear hK K
 try simp only [Act.put, setIfInBounds_toArray, set_cons_zero, set_cons_succ, getElem_toArray, getElem_cons_zero, getElem_cons_succ]
 refine wpAnyH_take (i := 5) (v := ?_) rfl (by kernel_rfl) (by kernel_rfl) (by kernel_rfl) (fun _ _ _ h => h) (Or.inl ⟨by rfl, ?_⟩) (by assumption) ?_
 rotate_left 1
 ·(intro w0 hSw; (try dsimp only at hSw); go_simp; try with_reducible rfl)
 try simp only [Act.put, setIfInBounds_toArray, set_cons_zero, set_cons_succ, getElem_toArray, getElem_cons_zero, getElem_cons_succ]
 refine wpAnyH_done (by kernel_rfl) ?_ _
 have HF := hid (FIN.out w3 w4 _ HB3.out HANS.out)
 clear HL1 LF L2 FIN HZ HANS p1 p2 x1 x2
 go_wp2
 go_ret
 exact HF.out
theorem fill_len61 {L : Nat → List Int} : ∀ {t : List Int}, (∀ x ∈ t, x < 0 → (L (vr x)).length ≤ 61) → (fillL L t).length ≤ 61 * t.length
 | [], _ => Nat.le_refl _
 | x :: r, h => by
  have h1 := fill_len61 (t := r) fun y hy => h y (List.mem_cons_of_mem _ hy)
  rw [fill_cons, List.length_append, List.length_cons]
  have h2 : (rep L x).length ≤ 61 := by
   by_cases h0 : x < 0
   ·rw [rep_vr h0]; exact h x (List.mem_cons_self ..) h0
   ·rw [rep_sym (by omega)]; simp
  omega
def HeadFT (w : World) (B z0 m : Nat) (o t : List Int) (L : Nat → List Int) (S0 : Option Addr) (out i : Value) (wr : World) : Prop :=
 ∃ (k : Nat) (O : Option Addr) (on oc : Nat) (S : Option Addr) (sn sc : Nat), k ≤ m ∧ i = .int .i64 k ∧ out = .slice O on oc ∧ Own wr w.heap.size (.slice O on oc) (renF o (fillL L (t.take k))) ∧ Row wr B 22 #[.slice S sn sc] ∧
  Own wr z0 (.slice S sn sc) ((ordF o (fillL L (t.take k))).map vn) ∧ (blk S = blk S0 ∨ ∃ q, blk S = some q ∧ w.heap.size ≤ q) ∧ (blk O = none ∨ blk O ≠ blk S) ∧ Side B (blk S0) w wr
set_option maxHeartbeats 4000000 in
theorem fillThen (w0 : World) (z0 B b1 b2 g1 : Nat) (lb1 : Array Value) (e1 : ∀ args w, (callFunc g1 args).run Tryz.prog w = .ok (.enter g1 args) w) (L : Nat → List Int) (dom : Nat → Prop) (hz : z0 ≤ w0.heap.size) (hB : B < z0) (z1 : b1 < z0) (z2 : b2 < z0) (n1 : b1 ≠ B) (n2 : b2 ≠ B)
  (c1 : w0.cell? ⟨b1, 0, none⟩ = some (.func (.func g1) #[] lb1)) (c2 : w0.cell? ⟨b2, 0, none⟩ = some (.func (.func 132) #[] #[.pointer (some ⟨B, 0, none⟩)])) (hl : LookR w0 z0 B g1 lb1 L dom) (hdb : ∀ i, dom i → i ≤ 1000) (hT : ∀ i, dom i → 1 ≤ (L i).length ∧ (L i).length ≤ 61 ∧ ∀ x ∈ L i, -100000 ≤ x)
  (A : Option Addr) (m c : Nat) (t o : List Int) (S0 : Option Addr) (n0 c0 : Nat) (w : World) (hF : Fz w0 z0 B w) (hr : Row w B 22 #[.slice S0 n0 c0]) (hS : Own w z0 (.slice S0 n0 c0) (o.map vn)) (h : Seg w w.heap.size A m t) (hA : ∀ k, blk A = some k → k ≠ B ∧ blk S0 ≠ some k) (hm : m ≤ 60) (hd : ∀ x ∈ t, x < 0 → dom (vr x)) (ho : o.length ≤ 40000) :
  Calls Tryz.prog 104 #[.func (.func 137) #[] #[.pointer (some ⟨b2, 0, none⟩), .pointer (some ⟨b1, 0, none⟩)], .slice A m c] w (AnsRGW w B z0 o (fillL L t) S0) := by
 have HL := hid h.1
 have HD := hid hd
 have HT := hid hT
 have hBw := hr.lt
 have hzw : z0 ≤ w.heap.size := by have := hF.size; omega
 have HSL := hid (own_lt hS)
 have HFZ := hid hF
 have LC := hid (fun (W : World) (i : Nat) (o : List Int) (S : Option Addr) (sn sc : Nat) hF hr hS hi ho => thenRen w0 z0 B b1 b2 g1 lb1 e1 L dom hz hB z1 z2 n1 n2 c1 c2 hl W i o S sn sc hF hr hS hi (hT i hi).2.1 (hT i hi).2.2 ho)
 have S1 : HeadFT w B z0 m o t L S0 (.slice none 0 0) (.int .i64 0) w := ⟨0, none, 0, 0, S0, n0, c0, Nat.zero_le _, rfl, rfl, by simpa [renF, fillL] using Own.nil w w.heap.size, hr, by simpa [ordF, fillL] using hS, .inl rfl, .inl rfl, Side.of_below (Below.refl _ _)⟩
 have HS0 := hid S1
 have HBD := hid (fun k => (show (fillL L (t.take k)).length ≤ 3660 from by
  have h1 := fill_len61 (L := L) (t := t.take k) fun x hx h0 => (hT _ (hd x (List.mem_of_mem_take hx) h0)).2.1
  have h2 : (t.take k).length ≤ 60 := by rw [List.length_take, h.1]; omega
  omega))
 clear S1 hd hr hS hF hT hl c1 c2 e1
 go_enter Tryz.func104, Tryz.ntmps104
 go_wp2
 go_loopw [5, 10] (fun out i wr => HeadFT w B z0 m o t L S0 out i wr) (fun _ i _ => m - (intOf i).toNat)
 case atStart => exact HS0.out
 case round =>
  obtain ⟨k, O, on, oc, S, sn, sc, hk, rfl, rfl, hO, hr, hs, hat0, hne, hsd⟩ := hrel
  clear HS0
  have hon : on ≤ 10000 := by have h1 := HBD.out k; rw [Own.len hO]; unfold renF; simp; omega
  have hord : (ordF o (fillL L (t.take k))).length ≤ 50000 := by have h1 := HBD.out k; have h2 := ordF_len o (fillL L (t.take k)); omega
  have hBlt := hr.lt
  have hwz := hsd.size
  by_cases hlt : k < m
  ·obtain ⟨b, off, x, rfl, hbb, hx, ex⟩ := h.spot hlt
   have hx1 : wr.cell? ⟨b, off + k, none⟩ = some (.int .i64 x) := by
    have hA1 := hA b rfl
    have hneS : some b ≠ blk S0 := fun e => hA1.2 e.symm
    exact (World.cell?_of_block (hsd.block b hbb hA1.1 hneS)).trans hx
   have hmem := mem_of_get (by rw [HL.out]; exact hlt) ex.out
   have E := hid (fill_take (L := L) (t := t) (k := k) (by rw [HL.out]; exact hlt) ex.out)
   by_cases hpos : 0 ≤ x
   ·have R := hid (show renF o (fillL L (t.take (k + 1))) = renF o (fillL L (t.take k)) ++ [x] ∧ ordF o (fillL L (t.take (k + 1))) = ordF o (fillL L (t.take k)) from by
     have e2 : ordF (ordF o (fillL L (t.take k))) [x] = ordF o (fillL L (t.take k)) := by
      show extV (ordF o (fillL L (t.take k))) x = _
      unfold extV
      rw [if_neg (by omega)]
     rw [E.out, rep_sym hpos, renF_app, ordF_app, e2]
     refine ⟨?_, rfl⟩
     congr 1
     unfold renF
     rw [e2]
     show [ren _ x] = [x]
     unfold ren
     rw [if_neg (by omega)])
    have ho1 := Own.alloc hO (.cells #[.int .i64 x] 2)
    have hs1 := Own.alloc hs (.cells #[.int .i64 x] 2)
    have hr1 := hr.alloc (.cells #[.int .i64 x] 2)
    clear hmem hx ex
    go_wp2_with (at_builtin; refine appAllAt rfl _ _ rfl w.heap.size O on oc _ rfl ho1 (some ⟨wr.heap.size, 0, none⟩) 1 1 (wr.heap.size + 1) [x] rfl (by simpa using one_seg wr x) (by omega) (by omega) (by omega) (by simp; omega) ?_; intro O' oc' w2 ho2 hg hat)
    have S1 : HeadFT w B z0 m o t L S0 (.slice O' (on + 1) oc') (.int .i64 ((k : Int) + 1)) w2 := by
     refine ⟨k + 1, O', on + 1, oc', S, sn, sc, hlt, by simp, rfl, by rw [R.out.1]; exact ho2, Row.away hr1 hg (own_ne ho1 hr1), by rw [R.out.2]; exact Own.kept hs1 hg (ne_flip hne), hat0, ?_, ?_⟩
     ·rcases hat with h | h
      ·rw [h]; exact hne
      ·exact ne_new hs1 _ (Nat.le_refl _) h
     ·exact (hsd.allocs _).grow hg (fun q hq => (blk_lt hO q hq).1)
    have S := hid S1
    clear S1 ho2 hg hat ho1 hs1 hr1 hO hs hr hne hsd R E hat0
    go_wp2
    go_roundw
    case rel => exact S.out
    case measure => simp [intOf]; omega
   ·have hneg : x < 0 := by omega
    have hdom := HD.out x hmem hneg
    have hTi := HT.out (vr x) hdom
    have R := hid (show renF o (fillL L (t.take (k + 1))) = renF o (fillL L (t.take k)) ++ renF (ordF o (fillL L (t.take k))) (L (vr x)) ∧ ordF o (fillL L (t.take (k + 1))) = ordF (ordF o (fillL L (t.take k))) (L (vr x)) from by
     rw [E.out, rep_vr hneg, renF_app, ordF_app]
     exact ⟨rfl, rfl⟩)
    have hFr := HFZ.out.side hzw hsd (fun q hq => (HSL.out q hq).1)
    have hcall := LC.out wr (vr x) _ S sn sc hFr hr hs hdom hord
    have evr : ((vr x : Nat) : Int) = -1 - x := by unfold vr; omega
    have hx9 : -1001 ≤ x := by have := hdb _ hdom; unfold vr at this; omega
    rw [evr] at hcall
    have LX := hid hcall
    have hlen : (renF (ordF o (fillL L (t.take k))) (L (vr x))).length = (L (vr x)).length := by unfold renF; rw [List.length_map]
    obtain ⟨n', hn'⟩ : ∃ n', (L (vr x)).length = n' := ⟨_, rfl⟩
    rw [hn'] at hlen hTi
    have HLEN := hid hlen
    have hTi1 := hTi.1
    have hTi2 := hTi.2.1
    clear hmem hx ex hcall hdom hFr evr hTi hn' hlen
    go_wp2_with (first
     | (go_at_call 137; go_must (refine LX.out.mono ?_); rintro e w1 ⟨A1, n1', cc1, S1, sn1, sc1, rfl, o1, r1, os1, hat1, hne0, sd⟩; have ho1 := Own.side hO sd hr hne; have hz1 := sd.size; have en : n1' = n' := (by have hl1 := Own.len o1; have hnn := HLEN.out; omega); cases en; have hne1 : blk O = none ∨ blk O ≠ blk S1 := (by rcases hat1 with h | ⟨q, h, hq⟩; (rw [h]; exact hne); (right; intro e; rw [h] at e; have := (blk_lt hO q e).2; omega)))
     | (at_builtin; go_must (refine appAllAt rfl _ _ rfl w.heap.size O on oc _ rfl ho1 A1 n' cc1 w1.heap.size _ rfl (Own.seg o1) (by omega) (by omega) (by omega) (by omega) ?_); intro O' oc' w2 ho2 hg hat))
    have SS : HeadFT w B z0 m o t L S0 (.slice O' (on + n') oc') (.int .i64 ((k : Int) + 1)) w2 := by
     refine ⟨k + 1, O', on + n', oc', S1, sn1, sc1, hlt, by simp, rfl, by rw [R.out.1]; exact ho2, Row.away r1 hg (own_ne ho1 r1), by rw [R.out.2]; exact Own.kept os1 hg (ne_flip hne1), ?_, ?_, ?_⟩
     ·rcases hat1 with h | ⟨q, h, hq⟩
      ·rw [h]; exact hat0
      ·exact .inr ⟨q, h, by omega⟩
     ·rcases hat with h | h
      ·rw [h]; exact hne1
      ·exact ne_new os1 _ (Nat.le_refl _) h
     ·exact (hsd.on hat0 sd).grow hg (fun q hq => (blk_lt ho1 q hq).1)
    have HSS := hid SS
    clear SS ho2 hg hat ho1 o1 r1 os1 hat1 sd hne1 hne0 hO hs hr hne hsd R E LX hat0
    go_wp2
    go_roundw
    case rel => exact HSS.out
    case measure => simp [intOf]; omega
  ·rw [List.take_of_length_le (by rw [HL.out]; omega)] at hO hs
   have F : AnsRGW w B z0 o (fillL L t) S0 (.returned (.slice O on oc)) wr := ⟨O, on, oc, S, sn, sc, rfl, hO, hr, hs, hat0, hne, hsd⟩
   have HF := hid F
   clear F hO hs hr hne hsd h
   go_wp2
   go_ret
   exact HF.out
end thenOv
end
section
namespace pkFacts
open Go.RowKit base ints sig term termOk termFacts args sym marks app segs shape drawX renMath renImpl matchMath fillMath unifMath forest triMath ufMath nodes ruleMath trySpec ovImpl linkImpl ovStart ovAt put thenOv
set_option maxRecDepth 100000
def numsO (rs : List Rl) (o u : Nat) : List Int := lh rs o ++ lh rs u
def rdO (sg : List Int) (rs : List Rl) (o u : Nat) (rt : Nat → Nat) (D : List Nat) : Nat → List Int := rnd (fun i => (numsO rs o u).getD i 0) (chN sg (numsO rs o u)) rt D
def Tl (sg : List Int) (rs : List Rl) (o u : Nat) (rt : Nat → Nat) (D : List Nat) (s i : Nat) : List Int := (rdO sg rs o u rt D (s + idx ((numsO rs o u).drop s) (-1 - (i : Int)))).take 61
def topI (sg : List Int) (rs : List Rl) (o u : Nat) (rt : Nat → Nat) (D : List Nat) : List Int := fillL (Tl sg rs o u rt D 0) (lh rs o)
def rightI (sg : List Int) (rs : List Rl) (o u : Nat) (rt : Nat → Nat) (D : List Nat) : List Int := fillL (Tl sg rs o u rt D 0) (rh rs o)
def frontI (sg : List Int) (rs : List Rl) (o a u : Nat) (rt : Nat → Nat) (D : List Nat) : List Int := fillL (Tl sg rs o u rt D 0) ((lh rs o).take a)
def midI (sg : List Int) (rs : List Rl) (o u : Nat) (rt : Nat → Nat) (D : List Nat) : List Int := fillL (Tl sg rs o u rt D (lh rs o).length) (rh rs u)
def o1I (sg : List Int) (rs : List Rl) (o u : Nat) (rt : Nat → Nat) (D : List Nat) : List Int := ordF [] (topI sg rs o u rt D)
def o2I (sg : List Int) (rs : List Rl) (o u : Nat) (rt : Nat → Nat) (D : List Nat) : List Int := ordF (o1I sg rs o u rt D) (rightI sg rs o u rt D)
def o3I (sg : List Int) (rs : List Rl) (o a u : Nat) (rt : Nat → Nat) (D : List Nat) : List Int := ordF (o2I sg rs o u rt D) (frontI sg rs o a u rt D)
def topR (sg : List Int) (rs : List Rl) (o u : Nat) (rt : Nat → Nat) (D : List Nat) : List Int := renF [] (topI sg rs o u rt D)
def rightR (sg : List Int) (rs : List Rl) (o u : Nat) (rt : Nat → Nat) (D : List Nat) : List Int := renF (o1I sg rs o u rt D) (rightI sg rs o u rt D)
def midR (sg : List Int) (rs : List Rl) (o a u : Nat) (rt : Nat → Nat) (D : List Nat) : List Int := renF (o3I sg rs o a u rt D) (midI sg rs o u rt D)
def placeR (sg : List Int) (rs : List Rl) (o a u : Nat) (rt : Nat → Nat) (D : List Nat) : Nat := (frontI sg rs o a u rt D).length
def okI (sg : List Int) (rs : List Rl) (o a u : Nat) (rt : Nat → Nat) (D : List Nat) : Bool := putB sg (topR sg rs o u rt D) (midR sg rs o a u rt D) (placeR sg rs o a u rt D : Nat) && termOkB sg (rightR sg rs o u rt D)
def leftR (sg : List Int) (rs : List Rl) (o a u : Nat) (rt : Nat → Nat) (D : List Nat) : List Int := putR sg (topR sg rs o u rt D) (midR sg rs o a u rt D) (placeR sg rs o a u rt D : Nat)
theorem rsv_low {n : Nat} {nm : Nat → Int} {ch : Nat → List Nat} {rt : Nat → Nat} (hch : ∀ i, i < n → 0 ≤ nm i → ∀ c ∈ ch i, c < n) (hrt : ∀ i, i < n → rt i < n) : ∀ (f r : Nat), r < n → ∀ x ∈ rsv nm ch rt f r, -1 - (n : Int) ≤ x
 | 0, r, hr, x, hx => by
  unfold rsv at hx
  rw [List.mem_singleton] at hx
  omega
 | f + 1, r, hr, x, hx => by
  unfold rsv at hx
  split at hx
  ·rw [List.mem_singleton] at hx
   omega
  ·rename_i h0
   rcases List.mem_cons.1 hx with e | e
   ·omega
   ·obtain ⟨l, hl, hxl⟩ := List.mem_flatten.1 e
    obtain ⟨c, hc, rfl⟩ := List.mem_map.1 hl
    exact rsv_low hch hrt f _ (hrt c (hch r hr (by omega) c hc)) x hxl
theorem lookMade (p : Nat) (s : Int) (w : World) : Calls Tryz.prog 101 #[.pointer (some ⟨p, 0, none⟩), .int .i64 s] w fun e w' => e = .returned (.func (.func 135) #[] #[.pointer (some ⟨w.heap.size, 0, none⟩), .pointer (some ⟨w.heap.size + 1, 0, none⟩)]) ∧
  w' = (w.alloc (.cells #[.pointer (some ⟨p, 0, none⟩)] 90)).alloc (.cells #[.int .i64 s] 2) := by
 have hmf : ∀ (fn : Fn) (first cap : Array Value) (w : World), (Instr.makeFunc fn first cap).run Tryz.prog w = .ok (.func fn first cap) w := fun _ _ _ _ => rfl
 go_enter Tryz.func101, Tryz.ntmps101
 go_wp2
 go_ret
 exact ⟨rfl, rfl⟩
section
variable {sg : List Int} {rs : List Rl} {o a u : Nat} {lk : List Nat} {rt rk : Nat → Nat} {D : List Nat}
theorem tl_facts (h : Whole sg ((lh rs o).length + (lh rs u).length) (fun i => (lh rs o ++ lh rs u).getD i 0) (nodes.nd sg (lh rs o ++ lh rs u) (lh rs o ++ shiftL 24 (lh rs u))) (chN sg (lh rs o ++ lh rs u)) (inn sg (lh rs o) a) a (lh rs o).length lk rt rk D) (h1 : (lh rs o).length ≤ 60) (h2 : (lh rs u).length ≤ 60) {s i : Nat} (hs : s ≤ (lh rs o).length) (hm : (-1 - (i : Int)) ∈ (numsO rs o u).drop s) :
  1 ≤ (Tl sg rs o u rt D s i).length ∧ (Tl sg rs o u rt D s i).length ≤ 61 ∧ ∀ x ∈ Tl sg rs o u rt D s i, -100000 ≤ x := by
 have hl : (numsO rs o u).length = (lh rs o).length + (lh rs u).length := by unfold numsO; rw [List.length_append]
 have hlt : s + idx ((numsO rs o u).drop s) (-1 - (i : Int)) < (lh rs o).length + (lh rs u).length := by
  have := idx_lt hm
  rw [List.length_drop, hl] at this
  omega
 have hneg : (numsO rs o u).getD (s + idx ((numsO rs o u).drop s) (-1 - (i : Int))) 0 < 0 := by
  have h1 := idx_get hm
  rw [List.getD_eq_getElem?_getD, List.getElem?_drop] at h1
  rw [List.getD_eq_getElem?_getD, h1]
  omega
 have hd : rt (s + idx ((numsO rs o u).drop s) (-1 - (i : Int))) ∈ D ∨ (fun i => (lh rs o ++ lh rs u).getD i 0) (rt (s + idx ((numsO rs o u).drop s) (-1 - (i : Int)))) < 0 := by
  by_cases h0 : (fun i => (lh rs o ++ lh rs u).getD i 0) (rt (s + idx ((numsO rs o u).drop s) (-1 - (i : Int)))) < 0
  ·exact .inr h0
  ·exact .inl (h.hasD hlt (Int.not_lt.1 h0) (.inl hneg))
 have hfo := (h.fo hd).pos
 unfold Tl
 refine ⟨by rw [List.length_take]; show 1 ≤ min 61 (rdO sg rs o u rt D _).length; have : 1 ≤ (rdO sg rs o u rt D (s + idx ((numsO rs o u).drop s) (-1 - (i : Int)))).length := hfo; omega, by rw [List.length_take]; omega, fun x hx => ?_⟩
 have h3 := rsv_low (nm := fun i => (lh rs o ++ lh rs u).getD i 0) (ch := chN sg (lh rs o ++ lh rs u)) (rt := rt) h.gr.lt (fun i hi => (h.lk.lt i hi).2) D.length _ ((h.lk.lt _ hlt).2) x (List.mem_of_mem_take hx)
 omega
end
end pkFacts
end
section
open Go.Lib (hid)
namespace peakRun
open Go.RowKit base ints sig term termOk termFacts args sym varsOf marks app appAt segs kinds shape kindsR kindsP drawX renMath renImpl renWide matchMath fillMath Go.Proofs.YtlmofkeemlfpgaaGreat.look thn unifMath forest triMath ufMath nodes ruleMath ruleSpec peakMath trySpec ovImpl linkImpl ovStart ovAt put thenOv pkFacts pathSpec pkAns
set_option maxRecDepth 100000
def pkI (sg : List Int) (rs : List Rl) (o a u : Nat) (rt : Nat → Nat) (D : List Nat) : Pk := if okI sg rs o a u rt D = true then (topR sg rs o u rt D, leftR sg rs o a u rt D, rightR sg rs o u rt D, (a : Int), (u : Int), (o : Int)) else ([], [], [], 0, 0, 0)
def Bx (w : World) (LO RO LU RU : Value) (p4 p5 : Nat) (wx : World) : Prop := Row wx p4 69 #[LO, RO] ∧ Row wx p5 69 #[LU, RU] ∧ Row wx w.heap.size 38 #[.slice none 0 0, .slice none 0 0, .slice none 0 0, .int .i64 0, .int .i64 0, .int .i64 0] ∧ Below w.heap.size w wx ∧ (w.heap.size < p4 ∧ w.heap.size < p5 ∧ p4 ≠ p5)
theorem bx_new {w W1 : World} {LO RO LU RU : Value} (hr : Row W1 w.heap.size 38 #[.slice none 0 0, .slice none 0 0, .slice none 0 0, .int .i64 0, .int .i64 0, .int .i64 0]) (hb : Below w.heap.size w W1) (hz : W1.heap.size = w.heap.size + 1) :
  Bx w LO RO LU RU (w.heap.size + 1) (w.heap.size + 1 + 1) ((W1.alloc (.cells #[LO, RO] 69)).alloc (.cells #[LU, RU] 69)).drew ∧ Bx w LO RO LU RU (w.heap.size + 1 + 1) (w.heap.size + 1) ((W1.alloc (.cells #[LU, RU] 69)).alloc (.cells #[LO, RO] 69)).drew := by
 have h1 := fun (x y : Array Value) => Row.new (W1.alloc (.cells x 69)) 69 y
 have h2 := fun (x y : Array Value) => (Row.new W1 69 x).alloc (.cells y 69)
 have e : ∀ x : Array Value, (W1.alloc (.cells x 69)).heap.size = w.heap.size + 1 + 1 := fun x => by simp [hz]
 have h3 := fun (x y : Array Value) => ((hb.alloc (by omega) (.cells x 69)).alloc (by simp; omega) (.cells y 69)).drew
 refine ⟨⟨?_, ?_, ((hr.alloc _).alloc _).drew, h3 _ _, by omega, by omega, by omega⟩, ⟨?_, ?_, ((hr.alloc _).alloc _).drew, h3 _ _, by omega, by omega, by omega⟩⟩
 ·have := (h2 #[LO, RO] #[LU, RU]).drew
  rw [hz] at this
  exact this
 ·have := (h1 #[LO, RO] #[LU, RU]).drew
  rw [e] at this
  exact this
 ·have := (h1 #[LU, RU] #[LO, RO]).drew
  rw [e] at this
  exact this
 ·have := (h2 #[LU, RU] #[LO, RO]).drew
  rw [hz] at this
  exact this
structure Rs (w0 : World) (z0 B : Nat) (o : List Int) (S : Option Addr) (sn sc : Nat) (W : World) : Prop where
 fz : Fz w0 z0 B W
 row : Row W B 22 #[.slice S sn sc]
 own : Own W z0 (.slice S sn sc) (o.map vn)
theorem Rs.next {w0 : World} {z0 B : Nat} {o : List Int} {S : Option Addr} {sn sc : Nat} {W W' : World} (h : Rs w0 z0 B o S sn sc W) (hz : z0 ≤ w0.heap.size) (hb : Below W.heap.size W W') : Rs w0 z0 B o S sn sc W' := ⟨h.fz.below (by have := h.fz.size; omega) hb, h.row.next hb, h.own.next hb⟩
theorem rs_step {w0 : World} {z0 B : Nat} {o t : List Int} {S : Option Addr} {sn sc : Nat} {W w' : World} {e : Ending} (hR : Rs w0 z0 B o S sn sc W) (hz : z0 ≤ w0.heap.size) (h : AnsRGW W B z0 o t S e w') :
  ∃ (O : Option Addr) (on oc : Nat) (S' : Option Addr) (sn' sc' : Nat), e = .returned (.slice O on oc) ∧ Own w' W.heap.size (.slice O on oc) (renF o t) ∧ Rs w0 z0 B (ordF o t) S' sn' sc' w' ∧ (∀ k, blk O = some k → blk S' ≠ some k) ∧ W.heap.size ≤ w'.heap.size ∧
   (∀ (base : Nat) (X : Option Addr) (xn xc : Nat) (xs : List Int), Own W base (.slice X xn xc) xs → (∀ k, blk X = some k → blk S ≠ some k) → Own w' base (.slice X xn xc) xs ∧ ∀ k, blk X = some k → blk S' ≠ some k) := by
 obtain ⟨O, on, oc, S', sn', sc', rfl, h1, h2, h3, h4, h5, h6⟩ := h
 have hSl := own_lt hR.own
 refine ⟨O, on, oc, S', sn', sc', rfl, h1, ⟨hR.fz.side (by have := hR.fz.size; omega) h6 (fun k hk => (hSl k hk).1), h2, h3⟩, fun k hk e => ?_, h6.size, fun base X xn xc xs hX hne => ⟨Own.side hX h6 hR.row ?_, fun k hk e => ?_⟩⟩
 ·rcases h5 with h5 | h5
  ·rw [h5] at hk; cases hk
  ·exact h5 (hk.trans e.symm)
 ·cases hb : blk X with
  | none => exact .inl rfl
  | some k => exact .inr fun e => hne k hb e.symm
 ·rcases h4 with h4 | ⟨q, h4, hq⟩
  ·exact hne k hk (h4 ▸ e)
  ·rw [h4] at e
   injection e with e
   have := (own_lt hX k hk).2
   omega
def AnsLkM (w : World) (p : Nat) (s : Int) (e : Ending) (w' : World) : Prop := ∃ bo bs, e = .returned (.func (.func 135) #[] #[.pointer (some ⟨bo, 0, none⟩), .pointer (some ⟨bs, 0, none⟩)]) ∧ (w.heap.size ≤ bo ∧ bo < w'.heap.size) ∧ (w.heap.size ≤ bs ∧ bs < w'.heap.size) ∧ w'.cell? ⟨bo, 0, none⟩ = some (.pointer (some ⟨p, 0, none⟩)) ∧ w'.cell? ⟨bs, 0, none⟩ = some (.int .i64 s) ∧ Below w.heap.size w w'
theorem lookE (p : Nat) (s : Int) (w : World) : Calls Tryz.prog 101 #[.pointer (some ⟨p, 0, none⟩), .int .i64 s] w (AnsLkM w p s) := by
 refine (lookMade p s w).mono ?_
 rintro e w' ⟨rfl, rfl⟩
 have h1 := (Row.new w 90 #[.pointer (some ⟨p, 0, none⟩)]).alloc (.cells #[.int .i64 s] 2)
 have h2 := Row.new (w.alloc (.cells #[.pointer (some ⟨p, 0, none⟩)] 90)) 2 #[.int .i64 s]
 rw [World.size_alloc] at h2
 exact ⟨_, _, rfl, ⟨Nat.le_refl _, h1.lt⟩, ⟨by omega, h2.lt⟩, h1.cell 0, h2.cell 0, ((Below.refl _ _).alloc (Nat.le_refl _) _).alloc (by simp) _⟩
theorem fz_below {w w0 W : World} {N z0 B : Nat} (hb : Below N w w0) (hF : Fz w0 z0 B W) (h1 : N ≤ z0) (h2 : N ≤ B) : Below N w W :=
 ⟨hF.os.trans hb.os, hF.tape.trans hb.tape, hF.output.trans hb.output, Nat.le_trans hb.size hF.size, fun k hk => (hF.blk k (by omega) (by omega)).trans (hb.block k hk)⟩
theorem pk_off {sg : List Int} {rs : List Rl} {o a u : Nat} {rt : Nat → Nat} {D : List Nat} (h : okI sg rs o a u rt D = false) : pkI sg rs o a u rt D = ([], [], [], 0, 0, 0) ∧ okI sg rs o a u rt D = false := ⟨by unfold pkI; rw [if_neg (by rw [h]; simp)], h⟩
set_option maxHeartbeats 4000000 in
theorem peakRun (p lb : Nat) (A V X : Option Addr) (n c q cv xc lc N : Nat) (d : Dat sSystem) (o a u : Nat) (lk : List Nat) (rt rk : Nat → Nat) (D : List Nat) (w : World) (h : Rd w w.heap.size sSystem [.slice A n c, .slice V q cv] d) (hz : sz sSystem d ≤ 1048576) (hok : ∀ k, k < d.2.length → ruleOkB d.1 (d.2.getD k ([], [])) = true) (ho : o < d.2.length) (hu : u < d.2.length) (ha : a < (lh d.2 o).length)
  (hO : Ov w (Qb N p lb) p lb A n c (.slice V q cv) (o : Int) (a : Int) (u : Int) X ((lh d.2 o).length + (lh d.2 u).length) xc lc d.1 (lh d.2 o ++ lh d.2 u) lk)
  (hWh : Whole d.1 ((lh d.2 o).length + (lh d.2 u).length) (fun i => (lh d.2 o ++ lh d.2 u).getD i 0) (nodes.nd d.1 (lh d.2 o ++ lh d.2 u) (lh d.2 o ++ shiftL 24 (lh d.2 u))) (chN d.1 (lh d.2 o ++ lh d.2 u)) (inn d.1 (lh d.2 o) a) a (lh d.2 o).length lk rt rk D) :
  Calls Tryz.prog 71 #[.pointer (some ⟨p, 0, none⟩)] w (AnsPk w (pkI d.1 d.2 o a u rt D) (okI d.1 d.2 o a u rt D)) := by
 have hterm : ∀ k, k < d.2.length → termOkB d.1 (lh d.2 k) = true ∧ termOkB d.1 (rh d.2 k) = true ∧ ∀ x, x ∈ rh d.2 k → x < 0 → x ∈ lh d.2 k := fun k hk => ⟨(rule_parts (hok k hk)).1, (rule_parts (hok k hk)).2.1, (rule_parts (hok k hk)).2.2.2⟩
 obtain ⟨A1, n1, c1, A2, n2, c2, ea, ev, hA, kA, kV, hlen, hn, hn2, hr, hsg, hrs⟩ := rd_sys h hz
 injection ea with e1 e2 e3
 subst e1 e2 e3
 injection ev with e1 e2 e3
 subst e1 e2 e3
 have hr9 := hr
 obtain ⟨bV, oV, lo, ro, xo, rfl, hbV, hxo, cLo, cRo, rdo⟩ := rd_at hr (Below.refl _ _) hlen (show o < q by omega)
 obtain ⟨bV2, oV2, lu, ru, xu, eV2, -, hxu, cLu, cRu, rdu⟩ := rd_at hr (Below.refl _ _) hlen (show u < q by omega)
 injection eV2 with eV2
 injection eV2 with eb eo
 subst eb eo
 have hsz9 := hrs o (by omega)
 obtain ⟨LA, ln, lc2, RA, rn, rc, rfl, rfl, sLo, kLo, sRo, kRo, hln, hrn⟩ := rd_rule rdo (by have := hrs o (by omega); rw [hxo.out] at this; exact this)
 obtain ⟨MA, mn, mc, NA, nn, nc', rfl, rfl, sLu, kLu, sRu, kRu, hmn, hnn⟩ := rd_rule rdu (by have := hrs u (by omega); rw [hxu.out] at this; exact this)
 have eLo : xo.1 = lh d.2 o := by unfold lh; rw [hxo.out]
 have eRo : xo.2 = rh d.2 o := by unfold rh; rw [hxo.out]
 have eLu : xu.1 = lh d.2 u := by unfold lh; rw [hxu.out]
 have eRu : xu.2 = rh d.2 u := by unfold rh; rw [hxu.out]
 rw [eLo] at sLo
 rw [eRo] at sRo
 rw [eLu] at sLu
 rw [eRu] at sRu
 have j1 : (0 : Int) ≤ (o : Int) := by omega
 have j2 : (o : Int) < (q : Int) := by omega
 have j3 : (0 : Int) ≤ (u : Int) := by omega
 have j4 : (u : Int) < (q : Int) := by omega
 have hpl := hO.lt.1
 have p1 : w.cell? ⟨p, 1, none⟩ = some (.slice (some ⟨bV, oV, none⟩) q cv) := hO.row.cell 1
 have p2 : w.cell? ⟨p, 2, none⟩ = some (.int .i64 (o : Int)) := hO.row.cell 2
 have p4 : w.cell? ⟨p, 4, none⟩ = some (.int .i64 (u : Int)) := hO.row.cell 4
 obtain ⟨W1, hW1⟩ : ∃ W1, W1 = w.alloc (.cells #[.slice none 0 0, .slice none 0 0, .slice none 0 0, .int .i64 0, .int .i64 0, .int .i64 0] 38) := ⟨_, rfl⟩
 have b1 : Below w.heap.size w W1 := by rw [hW1]; exact (Below.refl _ _).alloc (Nat.le_refl _) _
 have r1 : Row W1 w.heap.size 38 #[.slice none 0 0, .slice none 0 0, .slice none 0 0, .int .i64 0, .int .i64 0, .int .i64 0] := by rw [hW1]; exact Row.new _ _ _
 have z1 : W1.heap.size = w.heap.size + 1 := by rw [hW1]; simp
 have g1 := (b1.cell (p := ⟨p, 1, none⟩) hpl).trans p1
 have g2 := (b1.cell (p := ⟨p, 2, none⟩) hpl).trans p2
 have g3 := (b1.cell (p := ⟨p, 4, none⟩) hpl).trans p4
 have g4 := (b1.cell (p := ⟨bV, oV + o * 2, none⟩) hbV).trans cLo
 have g5 := (b1.cell (p := ⟨bV, oV + o * 2 + 1, none⟩) hbV).trans cRo
 have g6 := (b1.cell (p := ⟨bV, oV + u * 2, none⟩) hbV).trans cLu
 have g7 := (b1.cell (p := ⟨bV, oV + u * 2 + 1, none⟩) hbV).trans cRu
 have HW1 := hid hW1
 have HD := hid (And.intro hterm (And.intro hO (And.intro hWh (And.intro hA (And.intro kA (And.intro hr9 (And.intro hlen (And.intro hsz9 (And.intro sLo (And.intro kLo (And.intro sRo (And.intro kRo (And.intro sLu (And.intro sRu (And.intro kRu (And.intro ho (And.intro hu (And.intro ha trivial))))))))))))))))))
 have HC := hid (bx_new (LO := .slice LA ln lc2) (RO := .slice RA rn rc) (LU := .slice MA mn mc) (RU := .slice NA nn nc') r1 b1 z1)
 clear h hz hok hO hWh hA kA kV hlen hr hsg hrs hr9 hxo hxu cLo cRo cLu cRu rdo rdu eLo eRo eLu eRu sLo sRo sLu sRu kLo kRo kLu kRu hsz9 hterm p1 p2 p4 hW1 r1 b1 ho hu ha
 go_enter Tryz.func71, Tryz.ntmps71
 go_wp2_with fail
 rw [← HW1.out]
 go_cut [4, 5] (fun x4 x5 wx => ∃ p4 p5, x4 = .pointer (some ⟨p4, 0, none⟩) ∧ x5 = .pointer (some ⟨p5, 0, none⟩) ∧ Bx w (.slice LA ln lc2) (.slice RA rn rc) (.slice MA mn mc) (.slice NA nn nc') p4 p5 wx)
 case first =>
  go_region_held3 (fun w' => w'.cell? ⟨p, 1, none⟩ = some (.slice (some ⟨bV, oV, none⟩) q cv) ∧ w'.cell? ⟨p, 2, none⟩ = some (.int .i64 (o : Int)) ∧ w'.cell? ⟨p, 4, none⟩ = some (.int .i64 (u : Int)) ∧ w'.cell? ⟨bV, oV + o * 2, none⟩ = some (.slice LA ln lc2) ∧ w'.cell? ⟨bV, oV + o * 2 + 1, none⟩ = some (.slice RA rn rc) ∧ w'.cell? ⟨bV, oV + u * 2, none⟩ = some (.slice MA mn mc) ∧ w'.cell? ⟨bV, oV + u * 2 + 1, none⟩ = some (.slice NA nn nc')) (go_keep) ((fail))
  all_goals
   go_wp2_with fail
   go_meet
   first
    | exact ⟨_, _, rfl, rfl, HC.out.1⟩
    | exact ⟨_, _, rfl, rfl, HC.out.2⟩
 case rest =>
  rename World => wc
  obtain ⟨p4, p5, rfl, rfl, rp4, rp5, rb0, bwc, hp4w, hp5w, hp45⟩ := hcut
  clear g1 g2 g3 g4 g5 g6 g7 HC z1 HW1
  obtain ⟨hterm, hO, hWh, hA, kA, hr9, hlen, hsz9, sLo, kLo, sRo, kRo, sLu, sRu, kRu, ho, hu, ha, -⟩ := HD.out
  have hpc := rp4.lt
  have hpc5 := rp5.lt
  have hb0c := rb0.lt
  have zwc := bwc.size
  have HBX := hid (And.intro rp4 (And.intro rp5 (And.intro rb0 bwc)))
  have HOc := hid (hO.next bwc)
  have hplc := (hO.next bwc).lt
  clear hterm hO hWh hA kA hr9 hlen hsz9 sLo kLo sRo kRo sLu sRu kRu ho hu ha rp4 rp5 rb0 bwc
  go_wp2_with fail
  refine (renaming_ wc).mono ?_
  rintro e wa ⟨rfl, hwa⟩
  have rBa : Row wa wc.heap.size 22 #[.slice none 0 0] := by rw [hwa]; exact Row.new _ _ _
  have ba : Below wc.heap.size wc wa := by rw [hwa]; exact (Below.refl _ _).alloc (Nat.le_refl _) _
  have za := rBa.lt
  have HA := hid (And.intro rBa ba)
  clear hwa rBa ba
  go_wp2_with fail
  refine (lookE p 0 wa).mono ?_
  rintro e wb ⟨bo1, bs1, rfl, hbo1, hbs1, ko1, ks1, bb⟩
  have zb := bb.size
  have HB := hid (And.intro ko1 (And.intro ks1 bb))
  clear ko1 ks1 bb
  go_wp2_with fail
  refine (thenB 135 132 #[.pointer (some ⟨bo1, 0, none⟩), .pointer (some ⟨bs1, 0, none⟩)] #[.pointer (some ⟨wc.heap.size, 0, none⟩)] wb).mono ?_
  rintro e wd ⟨b1, b2, rfl, hb1, hb2, c1, c2, bd⟩
  have zd := bd.size
  have hb1d := World.block_lt_of_cell? _ _ c1
  have hb2d := World.block_lt_of_cell? _ _ c2
  have HDD := hid (And.intro c1 (And.intro c2 bd))
  clear c1 c2 bd
  have bcd : Below wc.heap.size wc wd := (HA.out.2.trans (HB.out.2.2.mono (Nat.le_of_lt za))).trans (HDD.out.2.2.mono (by omega))
  have LU := hid (show Calls Tryz.prog 103 #[.pointer (some ⟨p, 0, none⟩)] wd fun e w' => e = .returned (.int .i64 ((lh d.2 o).length : Int)) ∧ Below wd.heap.size wd w' from by
   obtain ⟨hterm, hO, hWh, hA, kA, hr9, hlen, hsz9, sLo, kLo, sRo, kRo, sLu, sRu, kRu, ho, hu, ha, -⟩ := HD.out
   exact underStart p A _ n c q cv o _ _ _ _ d.2 w.heap.size wd (HOc.out.next bcd).row ((hr9.below HBX.out.2.2.2).below (bcd.mono zwc)) hlen (by omega) (by omega) hsz9)
  have HCD := hid bcd
  clear bcd
  go_wp2_with fail
  refine LU.out.mono ?_
  rintro e we ⟨rfl, be⟩
  have ze := be.size
  have HE := hid be
  clear be LU
  go_wp2_with fail
  refine (lookE p ((lh d.2 o).length : Int) we).mono ?_
  rintro e wf ⟨bo2, bs2, rfl, hbo2, hbs2, ko2, ks2, bf⟩
  have zf := bf.size
  have HF := hid (And.intro ko2 (And.intro ks2 bf))
  clear ko2 ks2 bf
  go_wp2_with fail
  refine (thenB 135 132 #[.pointer (some ⟨bo2, 0, none⟩), .pointer (some ⟨bs2, 0, none⟩)] #[.pointer (some ⟨wc.heap.size, 0, none⟩)] wf).mono ?_
  rintro e wg ⟨b3, b4, rfl, hb3, hb4, c3, c4, bg⟩
  have zg := bg.size
  have hb3g := World.block_lt_of_cell? _ _ c3
  have hb4g := World.block_lt_of_cell? _ _ c4
  have HG := hid (And.intro c3 (And.intro c4 bg))
  clear c3 c4 bg
  obtain ⟨-, hO, hWh, hA, kA, -, -, -, sLo, kLo, sRo, kRo, sLu, sRu, kRu, ho, hu, ha, -⟩ := HD.out
  obtain ⟨tLo, tRo, vRo⟩ := HD.out.1 o ho
  obtain ⟨tLu, tRu, vRu⟩ := HD.out.1 u hu
  have bwg : Below wc.heap.size wc wg := ((HCD.out.trans (HE.out.mono (by omega))).trans (HF.out.2.2.mono (by omega))).trans (HG.out.2.2.mono (by omega))
  have bag : Below wa.heap.size wa wg := ((((HB.out.2.2).trans (HDD.out.2.2.mono (by omega))).trans (HE.out.mono (by omega))).trans (HF.out.2.2.mono (by omega))).trans (HG.out.2.2.mono (by omega))
  have bbg : Below wb.heap.size wb wg := ((HDD.out.2.2.trans (HE.out.mono (by omega))).trans (HF.out.2.2.mono (by omega))).trans (HG.out.2.2.mono (by omega))
  have bdg : Below wd.heap.size wd wg := (HE.out.trans (HF.out.2.2.mono (by omega))).trans (HG.out.2.2.mono (by omega))
  have bwwg : Below w.heap.size w wg := HBX.out.2.2.2.trans (bwg.mono (by omega))
  have hOg : Ov wg (Qb N p lb) p lb A n c (.slice (some ⟨bV, oV, none⟩) q cv) (o : Int) (a : Int) (u : Int) X ((lh d.2 o).length + (lh d.2 u).length) xc lc d.1 (lh d.2 o ++ lh d.2 u) lk := hO.next bwwg
  have c1 : wg.cell? ⟨b1, 0, none⟩ = some (.func (.func 135) #[] #[.pointer (some ⟨bo1, 0, none⟩), .pointer (some ⟨bs1, 0, none⟩)]) := (bdg.cell (p := ⟨b1, 0, none⟩) hb1d).trans HDD.out.1
  have c2 : wg.cell? ⟨b2, 0, none⟩ = some (.func (.func 132) #[] #[.pointer (some ⟨wc.heap.size, 0, none⟩)]) := (bdg.cell (p := ⟨b2, 0, none⟩) hb2d).trans HDD.out.2.1
  have ko1 := (bbg.cell (p := ⟨bo1, 0, none⟩) hbo1.2).trans HB.out.1
  have ks1 := (bbg.cell (p := ⟨bs1, 0, none⟩) hbs1.2).trans HB.out.2.1
  have ko2 := (HG.out.2.2.cell (p := ⟨bo2, 0, none⟩) hbo2.2).trans HF.out.1
  have ks2 := (HG.out.2.2.cell (p := ⟨bs2, 0, none⟩) hbs2.2).trans HF.out.2.1
  have rBg := HA.out.1.next bag
  have scO := (term_parts tLo).2.2
  have scU := (term_parts tLu).2.2
  have lO := term_len tLo
  have lU := term_len tLu
  have hars := (sig_arities (term_parts tLo).1).1
  have hN := gr0 (lu := lh d.2 u) scO scU (fun z hz => (term_mem tLo hz).1) ha
  have hroot : ∀ j, j < (lh d.2 o).length + (lh d.2 u).length → (lh d.2 o ++ lh d.2 u).getD j 0 < 0 → (lh d.2 o ++ lh d.2 u).getD (rt j) 0 < 0 ∨ rt j ∈ D := fun j hj h0 => by
   by_cases h1 : (lh d.2 o ++ lh d.2 u).getD (rt j) 0 < 0
   ·exact .inl h1
   ·exact .inr (hWh.hasD hj (Int.not_lt.1 h1) (.inl h0))
  have hov : ∀ W, Fz wg wg.heap.size wc.heap.size W → Ov W (Qb N p lb) p lb A n c (.slice (some ⟨bV, oV, none⟩) q cv) (o : Int) (a : Int) (u : Int) X ((lh d.2 o).length + (lh d.2 u).length) xc lc d.1 (lh d.2 o ++ lh d.2 u) lk := fun W hF => lookOv.ov_blocks hOg hF.size fun k hk => by
   have h1 := hO.lt
   have h2 : k < w.heap.size := by
    rcases hk with e | e | e
    ·omega
    ·omega
    ·exact (hO.q k e).2.2
   exact hF.blk k (by omega) (by omega)
  have hvO : ∀ i : Nat, (-1 - (i : Int)) ∈ lh d.2 o → i ≤ 1000 := fun i hi => by have := (term_mem tLo hi).1; omega
  have hvU : ∀ i : Nat, (-1 - (i : Int)) ∈ lh d.2 u → i ≤ 1000 := fun i hi => by have := (term_mem tLu hi).1; omega
  have LO1 : LookR wg wg.heap.size wc.heap.size 135 #[.pointer (some ⟨bo1, 0, none⟩), .pointer (some ⟨bs1, 0, none⟩)] (Tl d.1 d.2 o u rt D 0) (fun i => (-1 - (i : Int)) ∈ lh d.2 o) := fun W i hF hi =>
   lookOv.lookOv (Qb N p lb) p lb A n c _ _ _ _ X _ xc lc d.1 _ _ _ _ _ hN hars hn (by omega) lk rt rk hWh.lk D hWh.good bo1 bs1 0 i W (hov W hF) ((hF.cell (by omega) (by omega)).trans ko1) ((hF.cell (by omega) (by omega)).trans ks1) (by omega) (hvO i hi) (List.mem_append_left _ hi) hroot
  have LO2 : LookR wg wg.heap.size wc.heap.size 135 #[.pointer (some ⟨bo2, 0, none⟩), .pointer (some ⟨bs2, 0, none⟩)] (Tl d.1 d.2 o u rt D (lh d.2 o).length) (fun i => (-1 - (i : Int)) ∈ lh d.2 u) := fun W i hF hi =>
   lookOv.lookOv (Qb N p lb) p lb A n c _ _ _ _ X _ xc lc d.1 _ _ _ _ _ hN hars hn (by omega) lk rt rk hWh.lk D hWh.good bo2 bs2 (lh d.2 o).length i W (hov W hF) ((hF.cell (by omega) (by omega)).trans ko2) ((hF.cell (by omega) (by omega)).trans ks2) (by omega) (hvU i hi) (by rw [List.drop_left]; exact hi) hroot
  have hT1 : ∀ i : Nat, (-1 - (i : Int)) ∈ lh d.2 o → 1 ≤ (Tl d.1 d.2 o u rt D 0 i).length ∧ (Tl d.1 d.2 o u rt D 0 i).length ≤ 61 ∧ ∀ x ∈ Tl d.1 d.2 o u rt D 0 i, -100000 ≤ x := fun i hi => tl_facts hWh lO.2 lU.2 (Nat.zero_le _) (List.mem_append_left _ hi)
  have hT2 : ∀ i : Nat, (-1 - (i : Int)) ∈ lh d.2 u → 1 ≤ (Tl d.1 d.2 o u rt D (lh d.2 o).length i).length ∧ (Tl d.1 d.2 o u rt D (lh d.2 o).length i).length ≤ 61 ∧ ∀ x ∈ Tl d.1 d.2 o u rt D (lh d.2 o).length i, -100000 ≤ x := fun i hi => tl_facts hWh lO.2 lU.2 (Nat.le_refl _) (by unfold numsO; rw [List.drop_left]; exact hi)
  have c3 := HG.out.1
  have c4 := HG.out.2.1
  have FO1 := hid (fun (A' : Option Addr) (m c' : Nat) (t o' : List Int) (S0 : Option Addr) (n0 c0 : Nat) (W : World) (hR : Rs wg wg.heap.size wc.heap.size o' S0 n0 c0 W) (hs : Seg W W.heap.size A' m t) (hA' : ∀ k, blk A' = some k → k ≠ wc.heap.size ∧ blk S0 ≠ some k) (hm : m ≤ 60) (hd : ∀ x ∈ t, x < 0 → x ∈ lh d.2 o) (ho' : o'.length ≤ 40000) =>
   fillThen wg wg.heap.size wc.heap.size b1 b2 135 _ (enters_of Tryz.func135 (by kernel_rfl) rfl) _ _ (Nat.le_refl _) (by omega) (by omega) (by omega) (by omega) (by omega) c1 c2 LO1 hvO hT1 A' m c' t o' S0 n0 c0 W hR.fz hR.row hR.own hs hA' hm (fun x hx h0 => by show (-1 - ((vr x : Nat) : Int)) ∈ _; rw [at_vr h0]; exact hd x hx h0) ho')
  have FO2 := hid (fun (A' : Option Addr) (m c' : Nat) (t o' : List Int) (S0 : Option Addr) (n0 c0 : Nat) (W : World) (hR : Rs wg wg.heap.size wc.heap.size o' S0 n0 c0 W) (hs : Seg W W.heap.size A' m t) (hA' : ∀ k, blk A' = some k → k ≠ wc.heap.size ∧ blk S0 ≠ some k) (hm : m ≤ 60) (hd : ∀ x ∈ t, x < 0 → x ∈ lh d.2 u) (ho' : o'.length ≤ 40000) =>
   fillThen wg wg.heap.size wc.heap.size b3 b4 135 _ (enters_of Tryz.func135 (by kernel_rfl) rfl) _ _ (Nat.le_refl _) (by omega) (by omega) (by omega) (by omega) (by omega) c3 c4 LO2 hvU hT2 A' m c' t o' S0 n0 c0 W hR.fz hR.row hR.own hs hA' hm (fun x hx h0 => by show (-1 - ((vr x : Nat) : Int)) ∈ _; rw [at_vr h0]; exact hd x hx h0) ho')
  have R0 : Rs wg wg.heap.size wc.heap.size [] none 0 0 wg := ⟨Fz.refl _ _ _, rBg, Own.nil _ _⟩
  have hplw := hO.lt
  obtain ⟨bl, ol, -, rfl, hbl, -, -⟩ := sLo.spot (show 0 < ln by have := sLo.1; omega)
  have lLo := sLo.1
  have lRo := sRo.1
  have lRu := sRu.1
  have SG := hid (fun (W : World) (hF : Fz wg wg.heap.size wc.heap.size W) => (show Seg W W.heap.size (some ⟨bl, ol, none⟩) ln (lh d.2 o) ∧ Seg W W.heap.size RA rn (rh d.2 o) ∧ Seg W W.heap.size NA nn (rh d.2 u) ∧ Seg W W.heap.size A n d.1 from by
   have hk : ∀ p : Addr, p.block < w.heap.size → W.cell? p = wg.cell? p := fun p hp => World.cell?_of_block (hF.blk p.block (by omega) (by omega))
   have hsz := hF.size
   exact ⟨((sLo.below bwwg).keep hk).more (by omega), ((sRo.below bwwg).keep hk).more (by omega), ((sRu.below bwwg).keep hk).more (by omega), (((hA.below bwwg)).keep hk).more (by omega)⟩))
  have SB := hid (show (∀ k, blk RA = some k → rn ≠ 0 → k < w.heap.size) from fun k hk hn0 => by
   obtain ⟨b9, o9, e9, h9, -⟩ := sRo.2 (by omega)
   rw [e9] at hk
   unfold blk at hk
   simp at hk
   omega)
  have SB2 := hid (show (∀ k, blk NA = some k → nn ≠ 0 → k < w.heap.size) from fun k hk hn0 => by
   obtain ⟨b9, o9, e9, h9, -⟩ := sRu.2 (by omega)
   rw [e9] at hk
   unfold blk at hk
   simp at hk
   omega)
  have rowO := (hOg).row
  have rp4 := HBX.out.1.next bwg
  have rp5 := HBX.out.2.1.next bwg
  have rb0 := HBX.out.2.2.1.next bwg
  have KC := hid (fun (W : World) (hF : Fz wg wg.heap.size wc.heap.size W) => (show W.cell? ⟨p4, 0, none⟩ = some (.slice (some ⟨bl, ol, none⟩) ln lc2) ∧ W.cell? ⟨p4, 1, none⟩ = some (.slice RA rn rc) ∧ W.cell? ⟨p5, 1, none⟩ = some (.slice NA nn nc') ∧ W.cell? ⟨p, 0, none⟩ = some (.slice A n c) ∧ W.cell? ⟨p, 2, none⟩ = some (.int .i64 (o : Int)) ∧ W.cell? ⟨p, 3, none⟩ = some (.int .i64 (a : Int)) ∧ W.cell? ⟨p, 4, none⟩ = some (.int .i64 (u : Int)) ∧
    Row W w.heap.size 38 #[.slice none 0 0, .slice none 0 0, .slice none 0 0, .int .i64 0, .int .i64 0, .int .i64 0] from
   ⟨(hF.cell (by omega) (by omega)).trans (rp4.cell 0), (hF.cell (by omega) (by omega)).trans (rp4.cell 1), (hF.cell (by omega) (by omega)).trans (rp5.cell 1), (hF.cell (by omega) (by omega)).trans (rowO.cell 0), (hF.cell (by omega) (by omega)).trans (rowO.cell 2), (hF.cell (by omega) (by omega)).trans (rowO.cell 3), (hF.cell (by omega) (by omega)).trans (rowO.cell 4), (hF.blk _ (by omega) (by omega)).trans rb0⟩))
  have HV := hid (And.intro vRo vRu)
  have HTT := hid (And.intro tRo (And.intro tRu (And.intro kLo (And.intro kRo (And.intro kRu kA)))))
  have HBW := hid bwwg
  have HLL := hid (And.intro lLo (And.intro lRo (And.intro lRu ha)))
  have hln6 : 1 ≤ ln ∧ ln ≤ 60 := by omega
  have hrn6 : 1 ≤ rn ∧ rn ≤ 60 := by have := term_len tRo; omega
  have hnn6 : 1 ≤ nn ∧ nn ≤ 60 := by have := term_len tRu; omega
  have L4 := hid (FO1.out (some ⟨bl, ol, none⟩) ln lc2 (lh d.2 o) [] none 0 0 wg R0 (SG.out wg (Fz.refl _ _ _)).1 (fun k hk => by injection hk with hk; exact ⟨by simp only at hk; omega, fun e => by cases e⟩) hln6.2 (fun x hx _ => hx) (by simp))
  have k0 := (KC.out wg (Fz.refl _ _ _)).1
  have BD1 := hid (fun (t : List Int) (ht : t.length ≤ 60) (hd : ∀ x ∈ t, x < 0 → x ∈ lh d.2 o) => (show (fillL (Tl d.1 d.2 o u rt D 0) t).length ≤ 3660 from by
   have h1 := fill_len61 (L := Tl d.1 d.2 o u rt D 0) (t := t) fun x hx h0 => (hT1 (vr x) (by rw [at_vr h0]; exact hd x hx h0)).2.1
   omega))
  have BD2 := hid (fun (t : List Int) (ht : t.length ≤ 60) (hd : ∀ x ∈ t, x < 0 → x ∈ lh d.2 u) => (show (fillL (Tl d.1 d.2 o u rt D (lh d.2 o).length) t).length ≤ 3660 from by
   have h1 := fill_len61 (L := Tl d.1 d.2 o u rt D (lh d.2 o).length) (t := t) fun x hx h0 => (hT2 (vr x) (by rw [at_vr h0]; exact hd x hx h0)).2.1
   omega))
  have HR0 := hid R0
  clear hO hWh hA kA sLo kLo sRo kRo sLu sRu kRu ho hu ha tLo tRo vRo tLu tRu vRu bwg bag bbg bdg bwwg hOg c1 c2 ko1 ks1 ko2 ks2 rBg scO scU lO lU hars hN hroot hov hvO hvU LO1 LO2 hT1 hT2 c3 c4 R0 rowO rp4 rp5 rb0 lLo lRo lRu
  go_wp2_with fail
  refine L4.out.mono ?_
  rintro e w4 hans
  obtain ⟨O1, on1, oc1, S1, sn1, sc1, rfl, oT, R1, hs1, z4, keep1⟩ := rs_step HR0.out (Nat.le_refl _) hans
  have UB1 := hid (fun k (hk : blk O1 = some k) => (own_lt oT k hk).2)
  clear hans L4 k0
  have q1 := ordF_len [] (fillL (Tl d.1 d.2 o u rt D 0) (lh d.2 o))
  have q1b := BD1.out (lh d.2 o) (by have := HLL.out.1; omega) (fun x hx _ => hx)
  have L5 := hid (FO1.out RA rn rc (rh d.2 o) _ S1 sn1 sc1 w4 R1 (SG.out w4 R1.fz).2.1 (fun k hk => by have h1 := SB.out k hk (by omega); exact ⟨by omega, fun e => by have := (own_lt R1.own k e).1; omega⟩) hrn6.2 HV.out.1 (by simp only [List.length_nil] at q1; omega))
  have k1 := (KC.out w4 R1.fz).2.1
  have HT4 := hid (And.intro oT (And.intro R1 (And.intro hs1 q1)))
  have HQ1 := hid q1b
  clear oT R1 hs1 keep1 q1 q1b
  go_wp2_with fail
  refine L5.out.mono ?_
  rintro e w5 hans
  obtain ⟨oT, R1, hs1, q1⟩ := HT4.out
  obtain ⟨O2, on2, oc2, S2, sn2, sc2, rfl, oR, R2, hs2, z5, keep2⟩ := rs_step R1 (Nat.le_refl _) hans
  have UB2 := hid (fun k (hk : blk O2 = some k) => (own_lt oR k hk).2)
  obtain ⟨oT5, sT5⟩ := keep2 _ _ _ _ _ oT hs1
  have q2 := ordF_len (ordF [] (fillL (Tl d.1 d.2 o u rt D 0) (lh d.2 o))) (fillL (Tl d.1 d.2 o u rt D 0) (rh d.2 o))
  have q2b := BD1.out (rh d.2 o) (by have := HLL.out.2.1; omega) HV.out.1
  have R2d : Rs wg wg.heap.size wc.heap.size (ordF (ordF [] (fillL (Tl d.1 d.2 o u rt D 0) (lh d.2 o))) (fillL (Tl d.1 d.2 o u rt D 0) (rh d.2 o))) S2 sn2 sc2 w5.drew := R2.next (Nat.le_refl _) ((Below.refl _ _).drew)
  have L6 := hid (FO1.out (some ⟨bl, ol, none⟩) a lc2 ((lh d.2 o).take a) _ S2 sn2 sc2 w5.drew R2d (put.Seg.front (SG.out w5.drew R2d.fz).1 (by have := HLL.out.1; have := HLL.out.2.2.2; omega)) (fun k hk => by injection hk with hk; exact ⟨by simp only at hk; omega, fun e => by have := (own_lt R2.own k e).1; simp only at hk; omega⟩) (by have := HLL.out.1; have := HLL.out.2.2.2; omega) (fun x hx _ => List.mem_of_mem_take hx) (by simp only [List.length_nil] at q1; have := HQ1.out; omega))
  have k0 := (KC.out w5 R2.fz).1
  have k3 := (KC.out w5 R2.fz).2.2.2.2.2.1
  have k0d := (KC.out w5.drew R2d.fz).1
  have k3d := (KC.out w5.drew R2d.fz).2.2.2.2.2.1
  have zn : wg.heap.size ≤ w5.heap.size := by omega
  have HT5 := hid (And.intro oT5 (And.intro sT5 (And.intro oR (And.intro hs2 (And.intro R2d (And.intro q1 (And.intro q2 q2b)))))))
  have i1 : (0 : Int) ≤ (a : Int) := by omega
  have i2 : (a : Int) ≤ (lc2 : Int) := by have := HLL.out.1; have := HLL.out.2.2.2; have := HTT.out.2.2.1.1; omega
  clear oT R1 hs1 keep2 q1 hans L5 k1 R2 R2d oT5 sT5 oR hs2 q2 q2b
  go_wp2_with fail
  go_region_held3 (fun w' => w'.cell? ⟨p4, 0, none⟩ = some (.slice (some ⟨bl, ol, none⟩) ln lc2) ∧ w'.cell? ⟨p, 3, none⟩ = some (.int .i64 (a : Int)))
   (go_keep)
   (first
    | (go_at_call 104; refine L6.out.mono ?_; rintro e w6 hans; obtain ⟨O3, on3, oc3, S3, sn3, sc3, rfl, oF, R3, hs3, z6, keep3⟩ := rs_step HT5.out.2.2.2.2.1 (Nat.le_refl _) hans; have x0 := (KC.out w6 R3.fz).1; have x3 := (KC.out w6 R3.fz).2.2.2.2.2.1))
  obtain ⟨oT5, sT5, oR, hs2, -, q1, q2, q2b⟩ := HT5.out
  obtain ⟨oT6, sT6⟩ := keep3 _ _ _ _ _ (Own.drew oT5) sT5
  obtain ⟨oR6, sR6⟩ := keep3 _ _ _ _ _ (Own.drew oR) hs2
  have e3 := Own.len oF
  have hon3 : on3 = placeR d.1 d.2 o a u rt D := by rw [e3]; unfold renF placeR frontI; rw [List.length_map]
  have q3 := ordF_len (ordF (ordF [] (fillL (Tl d.1 d.2 o u rt D 0) (lh d.2 o))) (fillL (Tl d.1 d.2 o u rt D 0) (rh d.2 o))) (fillL (Tl d.1 d.2 o u rt D 0) ((lh d.2 o).take a))
  have q3b := BD1.out ((lh d.2 o).take a) (by rw [List.length_take]; have := HLL.out.1; omega) (fun x hx _ => List.mem_of_mem_take hx)
  have zw6 : w5.heap.size ≤ w6.heap.size := z6
  have R3d : Rs wg wg.heap.size wc.heap.size (ordF (ordF (ordF [] (fillL (Tl d.1 d.2 o u rt D 0) (lh d.2 o))) (fillL (Tl d.1 d.2 o u rt D 0) (rh d.2 o))) (fillL (Tl d.1 d.2 o u rt D 0) ((lh d.2 o).take a))) S3 sn3 sc3 w6.drew := R3.next (Nat.le_refl _) ((Below.refl _ _).drew)
  have L7 := hid (FO2.out NA nn nc' (rh d.2 u) _ S3 sn3 sc3 w6.drew R3d (SG.out w6.drew R3d.fz).2.2.1 (fun k hk => by have h1 := SB2.out k hk (by omega); exact ⟨by omega, fun e => by have := (own_lt R3.own k e).1; omega⟩) hnn6.2 HV.out.2 (by simp only [List.length_nil] at q1; have := HQ1.out; omega))
  have k0 := (KC.out w6 R3.fz).2.2.2.1
  have k1 := (KC.out w6 R3.fz).2.2.1
  have k0d := (KC.out w6.drew R3d.fz).2.2.2.1
  have k1d := (KC.out w6.drew R3d.fz).2.2.1
  have HR3 := hid R3d
  have HT6 := hid (And.intro oT6 (And.intro sT6 (And.intro oR6 sR6)))
  have HON := hid hon3
  have hon3b : on3 ≤ 3660 := by rw [e3]; unfold renF; rw [List.length_map]; exact q3b
  have LPF := hid (fun (w7 : World) (O4 : Option Addr) (on4 oc4 : Nat) (hF : Fz wg wg.heap.size wc.heap.size w7) (oT7 : Own w7 wg.heap.size (.slice O1 on1 oc1) (renF [] (fillL (Tl d.1 d.2 o u rt D 0) (lh d.2 o)))) (oU : Own w7 w6.heap.size (.slice O4 on4 oc4) (renF (ordF (ordF (ordF [] (fillL (Tl d.1 d.2 o u rt D 0) (lh d.2 o))) (fillL (Tl d.1 d.2 o u rt D 0) (rh d.2 o))) (fillL (Tl d.1 d.2 o u rt D 0) ((lh d.2 o).take a))) (fillL (Tl d.1 d.2 o u rt D (lh d.2 o).length) (rh d.2 u)))) =>
   (show Calls Tryz.prog 105 #[.agg #[.slice A n c], .slice O1 on1 oc1, .int .i64 (on3 : Int), .slice O4 on4 oc4] w7 (AnsPut w7 (leftR d.1 d.2 o a u rt D) (putB d.1 (topR d.1 d.2 o u rt D) (midR d.1 d.2 o a u rt D) (placeR d.1 d.2 o a u rt D : Nat))) from by
    have l1 := Own.len oT7
    have l4 := Own.len oU
    have b1 := HQ1.out
    have b4 := BD2.out (rh d.2 u) (by have := HLL.out.2.2.1; omega) HV.out.2
    have cT := own_cap oT7
    have l1' : on1 ≤ 1048576 := by rw [l1]; unfold renF; rw [List.length_map]; omega
    have l4' : on4 ≤ 1048576 := by rw [l4]; unfold renF; rw [List.length_map]; omega
    have hp := implPutAt A O1 O4 n c on1 oc1 on4 oc4 d.1 (topR d.1 d.2 o u rt D) (on3 : Int) (midR d.1 d.2 o a u rt D) w7 (SG.out w7 hF).2.2.2 (Own.seg oT7) (Own.seg oU) hn l1' l4' (by omega) (by omega) (own_cap oU) cT.1 cT.2.1
    have e9 : ((on3 : Nat) : Int) = ((placeR d.1 d.2 o a u rt D : Nat) : Int) := by rw [HON.out]
    unfold leftR
    rw [← e9]
    exact hp))
  have zwg6 : wg.heap.size ≤ w6.heap.size := by omega
  clear oT5 sT5 oR hs2 q1 q2 q2b oT6 sT6 oR6 sR6 e3 hon3 q3 q3b R3 R3d keep3 oF hs3 hans L6 k0d k3 k3d x0 x3
  go_wp2_with fail
  go_region_held3 (fun w' => w'.cell? ⟨p, 0, none⟩ = some (.slice A n c) ∧ w'.cell? ⟨p5, 1, none⟩ = some (.slice NA nn nc'))
   (go_keep)
   (first
    | (go_at_call 104; refine L7.out.mono ?_; rintro e w7 hans; obtain ⟨O4, on4, oc4, S4, sn4, sc4, rfl, oU, R4, hs4, z7, keep4⟩ := rs_step HR3.out (Nat.le_refl _) hans; have x0 := (KC.out w7 R4.fz).2.2.2.1; have x1 := (KC.out w7 R4.fz).2.2.1; have oT7 := (keep4 _ _ _ _ _ HT6.out.1 HT6.out.2.1).1; have oR7 := (keep4 _ _ _ _ _ HT6.out.2.2.1 HT6.out.2.2.2).1; have LP := LPF.out w7 O4 on4 oc4 R4.fz oT7 oU)
    | (go_at_call 105; refine LP.mono ?_; rintro e w8 ⟨O5, on5, oc5, rfl, oL, b8⟩; have R8 := R4.next (Nat.le_refl _) b8; have y0 := (KC.out w8 R8.fz).2.2.2.1; have y1 := (KC.out w8 R8.fz).2.2.1))
  have HFIN := hid (And.intro oT7 (And.intro oR7 (And.intro oL (And.intro b8 (And.intro R4 R8)))))
  have rb8 := (KC.out w8 R8.fz).2.2.2.2.2.2.2
  have bel8 : Below w.heap.size w w8 := fz_below HBW.out R8.fz (by omega) (by omega)
  obtain ⟨bp, hbp⟩ : ∃ b, putB d.1 (topR d.1 d.2 o u rt D) (midR d.1 d.2 o a u rt D) (placeR d.1 d.2 o a u rt D : Nat) = b := ⟨_, rfl⟩
  rw [hbp]
  have HBP := hid hbp
  clear hbp oT7 oR7 oL b8 R4 R8 LP hans keep4 oU hs4 x0 x1 L7 LPF y1 k0 k0d k1 k1d
  cases bp with
  | false =>
   clear y0
   have y0 : w8.cell? ⟨w.heap.size, 0, none⟩ = some (.slice none 0 0) := rb8.cell 0
   have g0 := rb8.free 0
   have rr0 := rb8.put 0 (.slice none 0 0)
   have y1 : (w8.setCell ⟨w.heap.size, 0, none⟩ (.slice none 0 0)).cell? ⟨w.heap.size, 1, none⟩ = some (.slice none 0 0) := rr0.cell 1
   have g1 := rr0.free 1
   have rr1 := rr0.put 1 (.slice none 0 0)
   have y2 : ((w8.setCell ⟨w.heap.size, 0, none⟩ (.slice none 0 0)).setCell ⟨w.heap.size, 1, none⟩ (.slice none 0 0)).cell? ⟨w.heap.size, 2, none⟩ = some (.slice none 0 0) := rr1.cell 2
   have g2 := rr1.free 2
   have rr2 := rr1.put 2 (.slice none 0 0)
   have y3 : (((w8.setCell ⟨w.heap.size, 0, none⟩ (.slice none 0 0)).setCell ⟨w.heap.size, 1, none⟩ (.slice none 0 0)).setCell ⟨w.heap.size, 2, none⟩ (.slice none 0 0)).cell? ⟨w.heap.size, 3, none⟩ = some (.int .i64 0) := rr2.cell 3
   have g3 := rr2.free 3
   have rr3 := rr2.put 3 (.int .i64 0)
   have y4 : ((((w8.setCell ⟨w.heap.size, 0, none⟩ (.slice none 0 0)).setCell ⟨w.heap.size, 1, none⟩ (.slice none 0 0)).setCell ⟨w.heap.size, 2, none⟩ (.slice none 0 0)).setCell ⟨w.heap.size, 3, none⟩ (.int .i64 0)).cell? ⟨w.heap.size, 4, none⟩ = some (.int .i64 0) := rr3.cell 4
   have g4 := rr3.free 4
   have rr4 := rr3.put 4 (.int .i64 0)
   have y5 : (((((w8.setCell ⟨w.heap.size, 0, none⟩ (.slice none 0 0)).setCell ⟨w.heap.size, 1, none⟩ (.slice none 0 0)).setCell ⟨w.heap.size, 2, none⟩ (.slice none 0 0)).setCell ⟨w.heap.size, 3, none⟩ (.int .i64 0)).setCell ⟨w.heap.size, 4, none⟩ (.int .i64 0)).cell? ⟨w.heap.size, 5, none⟩ = some (.int .i64 0) := rr4.cell 5
   have g5 := rr4.free 5
   have rr5 := rr4.put 5 (.int .i64 0)
   have u0 : ((((((w8.setCell ⟨w.heap.size, 0, none⟩ (.slice none 0 0)).setCell ⟨w.heap.size, 1, none⟩ (.slice none 0 0)).setCell ⟨w.heap.size, 2, none⟩ (.slice none 0 0)).setCell ⟨w.heap.size, 3, none⟩ (.int .i64 0)).setCell ⟨w.heap.size, 4, none⟩ (.int .i64 0)).setCell ⟨w.heap.size, 5, none⟩ (.int .i64 0)).cell? ⟨w.heap.size, 0, none⟩ = some (.slice none 0 0) := rr5.cell 0
   have u1 : ((((((w8.setCell ⟨w.heap.size, 0, none⟩ (.slice none 0 0)).setCell ⟨w.heap.size, 1, none⟩ (.slice none 0 0)).setCell ⟨w.heap.size, 2, none⟩ (.slice none 0 0)).setCell ⟨w.heap.size, 3, none⟩ (.int .i64 0)).setCell ⟨w.heap.size, 4, none⟩ (.int .i64 0)).setCell ⟨w.heap.size, 5, none⟩ (.int .i64 0)).cell? ⟨w.heap.size, 1, none⟩ = some (.slice none 0 0) := rr5.cell 1
   have u2 : ((((((w8.setCell ⟨w.heap.size, 0, none⟩ (.slice none 0 0)).setCell ⟨w.heap.size, 1, none⟩ (.slice none 0 0)).setCell ⟨w.heap.size, 2, none⟩ (.slice none 0 0)).setCell ⟨w.heap.size, 3, none⟩ (.int .i64 0)).setCell ⟨w.heap.size, 4, none⟩ (.int .i64 0)).setCell ⟨w.heap.size, 5, none⟩ (.int .i64 0)).cell? ⟨w.heap.size, 2, none⟩ = some (.slice none 0 0) := rr5.cell 2
   have u3 : ((((((w8.setCell ⟨w.heap.size, 0, none⟩ (.slice none 0 0)).setCell ⟨w.heap.size, 1, none⟩ (.slice none 0 0)).setCell ⟨w.heap.size, 2, none⟩ (.slice none 0 0)).setCell ⟨w.heap.size, 3, none⟩ (.int .i64 0)).setCell ⟨w.heap.size, 4, none⟩ (.int .i64 0)).setCell ⟨w.heap.size, 5, none⟩ (.int .i64 0)).cell? ⟨w.heap.size, 3, none⟩ = some (.int .i64 0) := rr5.cell 3
   have u4 : ((((((w8.setCell ⟨w.heap.size, 0, none⟩ (.slice none 0 0)).setCell ⟨w.heap.size, 1, none⟩ (.slice none 0 0)).setCell ⟨w.heap.size, 2, none⟩ (.slice none 0 0)).setCell ⟨w.heap.size, 3, none⟩ (.int .i64 0)).setCell ⟨w.heap.size, 4, none⟩ (.int .i64 0)).setCell ⟨w.heap.size, 5, none⟩ (.int .i64 0)).cell? ⟨w.heap.size, 4, none⟩ = some (.int .i64 0) := rr5.cell 4
   have u5 : ((((((w8.setCell ⟨w.heap.size, 0, none⟩ (.slice none 0 0)).setCell ⟨w.heap.size, 1, none⟩ (.slice none 0 0)).setCell ⟨w.heap.size, 2, none⟩ (.slice none 0 0)).setCell ⟨w.heap.size, 3, none⟩ (.int .i64 0)).setCell ⟨w.heap.size, 4, none⟩ (.int .i64 0)).setCell ⟨w.heap.size, 5, none⟩ (.int .i64 0)).cell? ⟨w.heap.size, 5, none⟩ = some (.int .i64 0) := rr5.cell 5
   have FZ : AnsPk w (pkI d.1 d.2 o a u rt D) (okI d.1 d.2 o a u rt D) (.returned (.tuple #[.agg #[.slice none 0 0, .slice none 0 0, .slice none 0 0, .int .i64 0, .int .i64 0, .int .i64 0], .bool false])) ((((((w8.setCell ⟨w.heap.size, 0, none⟩ (.slice none 0 0)).setCell ⟨w.heap.size, 1, none⟩ (.slice none 0 0)).setCell ⟨w.heap.size, 2, none⟩ (.slice none 0 0)).setCell ⟨w.heap.size, 3, none⟩ (.int .i64 0)).setCell ⟨w.heap.size, 4, none⟩ (.int .i64 0)).setCell ⟨w.heap.size, 5, none⟩ (.int .i64 0)) := ansPk_no (pk_off (by unfold okI; rw [HBP.out]; rfl)) (Below.setCell (Below.setCell (Below.setCell (Below.setCell (Below.setCell (Below.setCell bel8 (show w.heap.size ≤ w.heap.size from Nat.le_refl _) _) (show w.heap.size ≤ w.heap.size from Nat.le_refl _) _) (show w.heap.size ≤ w.heap.size from Nat.le_refl _) _) (show w.heap.size ≤ w.heap.size from Nat.le_refl _) _) (show w.heap.size ≤ w.heap.size from Nat.le_refl _) _) (show w.heap.size ≤ w.heap.size from Nat.le_refl _) _)
   have HFZ := hid FZ
   clear FZ rr0 rr1 rr2 rr3 rr4 rr5 rb8 bel8
   go_wp2
   exact bodyPost_ret (v := .tuple #[.agg #[.slice none 0 0, .slice none 0 0, .slice none 0 0, .int .i64 0, .int .i64 0, .int .i64 0], .bool false]) (by simp [results, Tryz.results71, go_sem, u0, u1, u2, u3, u4, u5]) rfl HFZ.out
  | true =>
   have zbb : w.heap.size < w8.heap.size := rb8.lt
   have LT := hid (show Calls Tryz.prog 63 #[.agg #[.slice A n c], .slice O2 on2 oc2] w8 (AnsTerm w8 d.1 (rightR d.1 d.2 o u rt D)) from by
    obtain ⟨oT7, oR7, oL, b8, R4, R8⟩ := HFIN.out
    have oR8 := oR7.next b8
    have l2 := Own.len oR8
    have b2 := BD1.out (rh d.2 o) (by have := HLL.out.2.1; omega) HV.out.1
    exact implTermOk A O2 n c on2 oc2 d.1 (rightR d.1 d.2 o u rt D) w8 (SG.out w8 R8.fz).2.2.2 (Own.seg oR8) hn (by rw [l2]; unfold renF; rw [List.length_map]; omega))
   go_wp2_with fail
   refine LT.out.mono ?_
   rintro e w9 ⟨rfl, b9⟩
   have rb9 := rb8.next b9
   have bel9 := next_trans bel8 b9
   obtain ⟨bt, hbt⟩ : ∃ b, termOkB d.1 (rightR d.1 d.2 o u rt D) = b := ⟨_, rfl⟩
   rw [hbt]
   have HBT := hid hbt
   have HB9 := hid b9
   have z9 := b9.size
   have zw8 := HFIN.out.2.2.2.1.size
   clear hbt LT rb8 bel8 b9 y0
   cases bt with
   | false =>
    have y0 : w9.cell? ⟨w.heap.size, 0, none⟩ = some (.slice none 0 0) := rb9.cell 0
    have g0 := rb9.free 0
    have rr0 := rb9.put 0 (.slice none 0 0)
    have y1 : (w9.setCell ⟨w.heap.size, 0, none⟩ (.slice none 0 0)).cell? ⟨w.heap.size, 1, none⟩ = some (.slice none 0 0) := rr0.cell 1
    have g1 := rr0.free 1
    have rr1 := rr0.put 1 (.slice none 0 0)
    have y2 : ((w9.setCell ⟨w.heap.size, 0, none⟩ (.slice none 0 0)).setCell ⟨w.heap.size, 1, none⟩ (.slice none 0 0)).cell? ⟨w.heap.size, 2, none⟩ = some (.slice none 0 0) := rr1.cell 2
    have g2 := rr1.free 2
    have rr2 := rr1.put 2 (.slice none 0 0)
    have y3 : (((w9.setCell ⟨w.heap.size, 0, none⟩ (.slice none 0 0)).setCell ⟨w.heap.size, 1, none⟩ (.slice none 0 0)).setCell ⟨w.heap.size, 2, none⟩ (.slice none 0 0)).cell? ⟨w.heap.size, 3, none⟩ = some (.int .i64 0) := rr2.cell 3
    have g3 := rr2.free 3
    have rr3 := rr2.put 3 (.int .i64 0)
    have y4 : ((((w9.setCell ⟨w.heap.size, 0, none⟩ (.slice none 0 0)).setCell ⟨w.heap.size, 1, none⟩ (.slice none 0 0)).setCell ⟨w.heap.size, 2, none⟩ (.slice none 0 0)).setCell ⟨w.heap.size, 3, none⟩ (.int .i64 0)).cell? ⟨w.heap.size, 4, none⟩ = some (.int .i64 0) := rr3.cell 4
    have g4 := rr3.free 4
    have rr4 := rr3.put 4 (.int .i64 0)
    have y5 : (((((w9.setCell ⟨w.heap.size, 0, none⟩ (.slice none 0 0)).setCell ⟨w.heap.size, 1, none⟩ (.slice none 0 0)).setCell ⟨w.heap.size, 2, none⟩ (.slice none 0 0)).setCell ⟨w.heap.size, 3, none⟩ (.int .i64 0)).setCell ⟨w.heap.size, 4, none⟩ (.int .i64 0)).cell? ⟨w.heap.size, 5, none⟩ = some (.int .i64 0) := rr4.cell 5
    have g5 := rr4.free 5
    have rr5 := rr4.put 5 (.int .i64 0)
    have u0 : ((((((w9.setCell ⟨w.heap.size, 0, none⟩ (.slice none 0 0)).setCell ⟨w.heap.size, 1, none⟩ (.slice none 0 0)).setCell ⟨w.heap.size, 2, none⟩ (.slice none 0 0)).setCell ⟨w.heap.size, 3, none⟩ (.int .i64 0)).setCell ⟨w.heap.size, 4, none⟩ (.int .i64 0)).setCell ⟨w.heap.size, 5, none⟩ (.int .i64 0)).cell? ⟨w.heap.size, 0, none⟩ = some (.slice none 0 0) := rr5.cell 0
    have u1 : ((((((w9.setCell ⟨w.heap.size, 0, none⟩ (.slice none 0 0)).setCell ⟨w.heap.size, 1, none⟩ (.slice none 0 0)).setCell ⟨w.heap.size, 2, none⟩ (.slice none 0 0)).setCell ⟨w.heap.size, 3, none⟩ (.int .i64 0)).setCell ⟨w.heap.size, 4, none⟩ (.int .i64 0)).setCell ⟨w.heap.size, 5, none⟩ (.int .i64 0)).cell? ⟨w.heap.size, 1, none⟩ = some (.slice none 0 0) := rr5.cell 1
    have u2 : ((((((w9.setCell ⟨w.heap.size, 0, none⟩ (.slice none 0 0)).setCell ⟨w.heap.size, 1, none⟩ (.slice none 0 0)).setCell ⟨w.heap.size, 2, none⟩ (.slice none 0 0)).setCell ⟨w.heap.size, 3, none⟩ (.int .i64 0)).setCell ⟨w.heap.size, 4, none⟩ (.int .i64 0)).setCell ⟨w.heap.size, 5, none⟩ (.int .i64 0)).cell? ⟨w.heap.size, 2, none⟩ = some (.slice none 0 0) := rr5.cell 2
    have u3 : ((((((w9.setCell ⟨w.heap.size, 0, none⟩ (.slice none 0 0)).setCell ⟨w.heap.size, 1, none⟩ (.slice none 0 0)).setCell ⟨w.heap.size, 2, none⟩ (.slice none 0 0)).setCell ⟨w.heap.size, 3, none⟩ (.int .i64 0)).setCell ⟨w.heap.size, 4, none⟩ (.int .i64 0)).setCell ⟨w.heap.size, 5, none⟩ (.int .i64 0)).cell? ⟨w.heap.size, 3, none⟩ = some (.int .i64 0) := rr5.cell 3
    have u4 : ((((((w9.setCell ⟨w.heap.size, 0, none⟩ (.slice none 0 0)).setCell ⟨w.heap.size, 1, none⟩ (.slice none 0 0)).setCell ⟨w.heap.size, 2, none⟩ (.slice none 0 0)).setCell ⟨w.heap.size, 3, none⟩ (.int .i64 0)).setCell ⟨w.heap.size, 4, none⟩ (.int .i64 0)).setCell ⟨w.heap.size, 5, none⟩ (.int .i64 0)).cell? ⟨w.heap.size, 4, none⟩ = some (.int .i64 0) := rr5.cell 4
    have u5 : ((((((w9.setCell ⟨w.heap.size, 0, none⟩ (.slice none 0 0)).setCell ⟨w.heap.size, 1, none⟩ (.slice none 0 0)).setCell ⟨w.heap.size, 2, none⟩ (.slice none 0 0)).setCell ⟨w.heap.size, 3, none⟩ (.int .i64 0)).setCell ⟨w.heap.size, 4, none⟩ (.int .i64 0)).setCell ⟨w.heap.size, 5, none⟩ (.int .i64 0)).cell? ⟨w.heap.size, 5, none⟩ = some (.int .i64 0) := rr5.cell 5
    have FZ : AnsPk w (pkI d.1 d.2 o a u rt D) (okI d.1 d.2 o a u rt D) (.returned (.tuple #[.agg #[.slice none 0 0, .slice none 0 0, .slice none 0 0, .int .i64 0, .int .i64 0, .int .i64 0], .bool false])) ((((((w9.setCell ⟨w.heap.size, 0, none⟩ (.slice none 0 0)).setCell ⟨w.heap.size, 1, none⟩ (.slice none 0 0)).setCell ⟨w.heap.size, 2, none⟩ (.slice none 0 0)).setCell ⟨w.heap.size, 3, none⟩ (.int .i64 0)).setCell ⟨w.heap.size, 4, none⟩ (.int .i64 0)).setCell ⟨w.heap.size, 5, none⟩ (.int .i64 0)) := ansPk_no (pk_off (by unfold okI; rw [HBP.out, HBT.out]; rfl)) (Below.setCell (Below.setCell (Below.setCell (Below.setCell (Below.setCell (Below.setCell bel9 (show w.heap.size ≤ w.heap.size from Nat.le_refl _) _) (show w.heap.size ≤ w.heap.size from Nat.le_refl _) _) (show w.heap.size ≤ w.heap.size from Nat.le_refl _) _) (show w.heap.size ≤ w.heap.size from Nat.le_refl _) _) (show w.heap.size ≤ w.heap.size from Nat.le_refl _) _) (show w.heap.size ≤ w.heap.size from Nat.le_refl _) _)
    have HFZ := hid FZ
    clear FZ rr0 rr1 rr2 rr3 rr4 rr5 rb9 bel9
    go_wp2
    exact bodyPost_ret (v := .tuple #[.agg #[.slice none 0 0, .slice none 0 0, .slice none 0 0, .int .i64 0, .int .i64 0, .int .i64 0], .bool false]) (by simp [results, Tryz.results71, go_sem, u0, u1, u2, u3, u4, u5]) rfl HFZ.out
   | true =>
    have R9 := HFIN.out.2.2.2.2.2.next (Nat.le_refl _) HB9.out
    have k2 := (KC.out w9 R9.fz).2.2.2.2.1
    have k3 := (KC.out w9 R9.fz).2.2.2.2.2.1
    have k4 := (KC.out w9 R9.fz).2.2.2.2.2.2.1
    have zz4 : wg.heap.size ≤ w4.heap.size := z4
    have zz7 : w6.heap.size ≤ w7.heap.size := z7
    have y0 : w9.cell? ⟨w.heap.size, 0, none⟩ = some (.slice none 0 0) := rb9.cell 0
    have g0 := rb9.free 0
    have rr0 := rb9.put 0 (.slice O1 on1 oc1)
    have y1 : (w9.setCell ⟨w.heap.size, 0, none⟩ (.slice O1 on1 oc1)).cell? ⟨w.heap.size, 1, none⟩ = some (.slice none 0 0) := rr0.cell 1
    have g1 := rr0.free 1
    have rr1 := rr0.put 1 (.slice O5 on5 oc5)
    have y2 : ((w9.setCell ⟨w.heap.size, 0, none⟩ (.slice O1 on1 oc1)).setCell ⟨w.heap.size, 1, none⟩ (.slice O5 on5 oc5)).cell? ⟨w.heap.size, 2, none⟩ = some (.slice none 0 0) := rr1.cell 2
    have g2 := rr1.free 2
    have rr2 := rr1.put 2 (.slice O2 on2 oc2)
    have y3 : (((w9.setCell ⟨w.heap.size, 0, none⟩ (.slice O1 on1 oc1)).setCell ⟨w.heap.size, 1, none⟩ (.slice O5 on5 oc5)).setCell ⟨w.heap.size, 2, none⟩ (.slice O2 on2 oc2)).cell? ⟨w.heap.size, 3, none⟩ = some (.int .i64 0) := rr2.cell 3
    have g3 := rr2.free 3
    have rr3 := rr2.put 3 (.int .i64 (a : Int))
    have y4 : ((((w9.setCell ⟨w.heap.size, 0, none⟩ (.slice O1 on1 oc1)).setCell ⟨w.heap.size, 1, none⟩ (.slice O5 on5 oc5)).setCell ⟨w.heap.size, 2, none⟩ (.slice O2 on2 oc2)).setCell ⟨w.heap.size, 3, none⟩ (.int .i64 (a : Int))).cell? ⟨w.heap.size, 4, none⟩ = some (.int .i64 0) := rr3.cell 4
    have g4 := rr3.free 4
    have rr4 := rr3.put 4 (.int .i64 (u : Int))
    have y5 : (((((w9.setCell ⟨w.heap.size, 0, none⟩ (.slice O1 on1 oc1)).setCell ⟨w.heap.size, 1, none⟩ (.slice O5 on5 oc5)).setCell ⟨w.heap.size, 2, none⟩ (.slice O2 on2 oc2)).setCell ⟨w.heap.size, 3, none⟩ (.int .i64 (a : Int))).setCell ⟨w.heap.size, 4, none⟩ (.int .i64 (u : Int))).cell? ⟨w.heap.size, 5, none⟩ = some (.int .i64 0) := rr4.cell 5
    have g5 := rr4.free 5
    have rr5 := rr4.put 5 (.int .i64 (o : Int))
    have u0 : ((((((w9.setCell ⟨w.heap.size, 0, none⟩ (.slice O1 on1 oc1)).setCell ⟨w.heap.size, 1, none⟩ (.slice O5 on5 oc5)).setCell ⟨w.heap.size, 2, none⟩ (.slice O2 on2 oc2)).setCell ⟨w.heap.size, 3, none⟩ (.int .i64 (a : Int))).setCell ⟨w.heap.size, 4, none⟩ (.int .i64 (u : Int))).setCell ⟨w.heap.size, 5, none⟩ (.int .i64 (o : Int))).cell? ⟨w.heap.size, 0, none⟩ = some (.slice O1 on1 oc1) := rr5.cell 0
    have u1 : ((((((w9.setCell ⟨w.heap.size, 0, none⟩ (.slice O1 on1 oc1)).setCell ⟨w.heap.size, 1, none⟩ (.slice O5 on5 oc5)).setCell ⟨w.heap.size, 2, none⟩ (.slice O2 on2 oc2)).setCell ⟨w.heap.size, 3, none⟩ (.int .i64 (a : Int))).setCell ⟨w.heap.size, 4, none⟩ (.int .i64 (u : Int))).setCell ⟨w.heap.size, 5, none⟩ (.int .i64 (o : Int))).cell? ⟨w.heap.size, 1, none⟩ = some (.slice O5 on5 oc5) := rr5.cell 1
    have u2 : ((((((w9.setCell ⟨w.heap.size, 0, none⟩ (.slice O1 on1 oc1)).setCell ⟨w.heap.size, 1, none⟩ (.slice O5 on5 oc5)).setCell ⟨w.heap.size, 2, none⟩ (.slice O2 on2 oc2)).setCell ⟨w.heap.size, 3, none⟩ (.int .i64 (a : Int))).setCell ⟨w.heap.size, 4, none⟩ (.int .i64 (u : Int))).setCell ⟨w.heap.size, 5, none⟩ (.int .i64 (o : Int))).cell? ⟨w.heap.size, 2, none⟩ = some (.slice O2 on2 oc2) := rr5.cell 2
    have u3 : ((((((w9.setCell ⟨w.heap.size, 0, none⟩ (.slice O1 on1 oc1)).setCell ⟨w.heap.size, 1, none⟩ (.slice O5 on5 oc5)).setCell ⟨w.heap.size, 2, none⟩ (.slice O2 on2 oc2)).setCell ⟨w.heap.size, 3, none⟩ (.int .i64 (a : Int))).setCell ⟨w.heap.size, 4, none⟩ (.int .i64 (u : Int))).setCell ⟨w.heap.size, 5, none⟩ (.int .i64 (o : Int))).cell? ⟨w.heap.size, 3, none⟩ = some (.int .i64 (a : Int)) := rr5.cell 3
    have u4 : ((((((w9.setCell ⟨w.heap.size, 0, none⟩ (.slice O1 on1 oc1)).setCell ⟨w.heap.size, 1, none⟩ (.slice O5 on5 oc5)).setCell ⟨w.heap.size, 2, none⟩ (.slice O2 on2 oc2)).setCell ⟨w.heap.size, 3, none⟩ (.int .i64 (a : Int))).setCell ⟨w.heap.size, 4, none⟩ (.int .i64 (u : Int))).setCell ⟨w.heap.size, 5, none⟩ (.int .i64 (o : Int))).cell? ⟨w.heap.size, 4, none⟩ = some (.int .i64 (u : Int)) := rr5.cell 4
    have u5 : ((((((w9.setCell ⟨w.heap.size, 0, none⟩ (.slice O1 on1 oc1)).setCell ⟨w.heap.size, 1, none⟩ (.slice O5 on5 oc5)).setCell ⟨w.heap.size, 2, none⟩ (.slice O2 on2 oc2)).setCell ⟨w.heap.size, 3, none⟩ (.int .i64 (a : Int))).setCell ⟨w.heap.size, 4, none⟩ (.int .i64 (u : Int))).setCell ⟨w.heap.size, 5, none⟩ (.int .i64 (o : Int))).cell? ⟨w.heap.size, 5, none⟩ = some (.int .i64 (o : Int)) := rr5.cell 5
    have oT9 : Owned w9 wg.heap.size w4.heap.size sI [.slice O1 on1 oc1] (topR d.1 d.2 o u rt D) := ow_ints.2 ⟨((HFIN.out.1.next HFIN.out.2.2.2.1).next HB9.out), UB1.out⟩
    have oR9 : Owned w9 w4.heap.size w5.heap.size sI [.slice O2 on2 oc2] (rightR d.1 d.2 o u rt D) := ow_ints.2 ⟨((HFIN.out.2.1.next HFIN.out.2.2.2.1).next HB9.out), UB2.out⟩
    have oL9 : Owned w9 w7.heap.size w9.heap.size sI [.slice O5 on5 oc5] (leftR d.1 d.2 o a u rt D) := ow_ints.2 ⟨(HFIN.out.2.2.1.next HB9.out), fun k hk => by have := (own_lt HFIN.out.2.2.1 k hk).2; omega⟩
    have poT9 := (Owned.put (g := w.heap.size) (i := 5) (u := .int .i64 (o : Int)) (Owned.put (g := w.heap.size) (i := 4) (u := .int .i64 (u : Int)) (Owned.put (g := w.heap.size) (i := 3) (u := .int .i64 (a : Int)) (Owned.put (g := w.heap.size) (i := 2) (u := .slice O2 on2 oc2) (Owned.put (g := w.heap.size) (i := 1) (u := .slice O5 on5 oc5) (Owned.put (g := w.heap.size) (i := 0) (u := .slice O1 on1 oc1) oT9 (by omega)) (by omega)) (by omega)) (by omega)) (by omega)) (by omega))
    have poR9 := (Owned.put (g := w.heap.size) (i := 5) (u := .int .i64 (o : Int)) (Owned.put (g := w.heap.size) (i := 4) (u := .int .i64 (u : Int)) (Owned.put (g := w.heap.size) (i := 3) (u := .int .i64 (a : Int)) (Owned.put (g := w.heap.size) (i := 2) (u := .slice O2 on2 oc2) (Owned.put (g := w.heap.size) (i := 1) (u := .slice O5 on5 oc5) (Owned.put (g := w.heap.size) (i := 0) (u := .slice O1 on1 oc1) oR9 (by omega)) (by omega)) (by omega)) (by omega)) (by omega)) (by omega))
    have poL9 := (Owned.put (g := w.heap.size) (i := 5) (u := .int .i64 (o : Int)) (Owned.put (g := w.heap.size) (i := 4) (u := .int .i64 (u : Int)) (Owned.put (g := w.heap.size) (i := 3) (u := .int .i64 (a : Int)) (Owned.put (g := w.heap.size) (i := 2) (u := .slice O2 on2 oc2) (Owned.put (g := w.heap.size) (i := 1) (u := .slice O5 on5 oc5) (Owned.put (g := w.heap.size) (i := 0) (u := .slice O1 on1 oc1) oL9 (by omega)) (by omega)) (by omega)) (by omega)) (by omega)) (by omega))
    have rest := Owned.cat poR9 (Owned.cat (Owned.num ((((((w9.setCell ⟨w.heap.size, 0, none⟩ (.slice O1 on1 oc1)).setCell ⟨w.heap.size, 1, none⟩ (.slice O5 on5 oc5)).setCell ⟨w.heap.size, 2, none⟩ (.slice O2 on2 oc2)).setCell ⟨w.heap.size, 3, none⟩ (.int .i64 (a : Int))).setCell ⟨w.heap.size, 4, none⟩ (.int .i64 (u : Int))).setCell ⟨w.heap.size, 5, none⟩ (.int .i64 (o : Int))) w5.heap.size w5.heap.size (a : Int)) (Owned.cat (Owned.num ((((((w9.setCell ⟨w.heap.size, 0, none⟩ (.slice O1 on1 oc1)).setCell ⟨w.heap.size, 1, none⟩ (.slice O5 on5 oc5)).setCell ⟨w.heap.size, 2, none⟩ (.slice O2 on2 oc2)).setCell ⟨w.heap.size, 3, none⟩ (.int .i64 (a : Int))).setCell ⟨w.heap.size, 4, none⟩ (.int .i64 (u : Int))).setCell ⟨w.heap.size, 5, none⟩ (.int .i64 (o : Int))) w5.heap.size w5.heap.size (u : Int)) (Owned.num ((((((w9.setCell ⟨w.heap.size, 0, none⟩ (.slice O1 on1 oc1)).setCell ⟨w.heap.size, 1, none⟩ (.slice O5 on5 oc5)).setCell ⟨w.heap.size, 2, none⟩ (.slice O2 on2 oc2)).setCell ⟨w.heap.size, 3, none⟩ (.int .i64 (a : Int))).setCell ⟨w.heap.size, 4, none⟩ (.int .i64 (u : Int))).setCell ⟨w.heap.size, 5, none⟩ (.int .i64 (o : Int))) w5.heap.size w5.heap.size (o : Int)) (Nat.le_refl _) (Nat.le_refl _) (Nat.le_refl _)) (Nat.le_refl _) (Nat.le_refl _) (Nat.le_refl _)) (Nat.le_refl _) (by omega) (Nat.le_refl _)
    have whole := Owned.cat poT9 (owned_catR poL9 rest (by omega) (by omega) (by omega)) (Nat.le_refl _) (by omega) (by omega)
    have HFZ := hid (show AnsPk w (pkI d.1 d.2 o a u rt D) (okI d.1 d.2 o a u rt D) (.returned (.tuple #[.agg #[.slice O1 on1 oc1, .slice O5 on5 oc5, .slice O2 on2 oc2, .int .i64 (a : Int), .int .i64 (u : Int), .int .i64 (o : Int)], .bool true])) (((((((w9.setCell ⟨w.heap.size, 0, none⟩ (.slice O1 on1 oc1)).setCell ⟨w.heap.size, 1, none⟩ (.slice O5 on5 oc5)).setCell ⟨w.heap.size, 2, none⟩ (.slice O2 on2 oc2)).setCell ⟨w.heap.size, 3, none⟩ (.int .i64 (a : Int))).setCell ⟨w.heap.size, 4, none⟩ (.int .i64 (u : Int))).setCell ⟨w.heap.size, 5, none⟩ (.int .i64 (o : Int)))).drew from by
     have e1 : okI d.1 d.2 o a u rt D = true := by unfold okI; rw [HBP.out, HBT.out]; rfl
     have e2 : pkI d.1 d.2 o a u rt D = (topR d.1 d.2 o u rt D, leftR d.1 d.2 o a u rt D, rightR d.1 d.2 o u rt D, (a : Int), (u : Int), (o : Int)) := by unfold pkI; rw [if_pos e1]
     rw [e1, e2]
     exact ⟨O1, on1, oc1, O5, on5, oc5, O2, on2, oc2, rfl, (whole.wider (by omega) (by simp)).drew, ((Below.setCell (Below.setCell (Below.setCell (Below.setCell (Below.setCell (Below.setCell bel9 (show w.heap.size ≤ w.heap.size from Nat.le_refl _) _) (show w.heap.size ≤ w.heap.size from Nat.le_refl _) _) (show w.heap.size ≤ w.heap.size from Nat.le_refl _) _) (show w.heap.size ≤ w.heap.size from Nat.le_refl _) _) (show w.heap.size ≤ w.heap.size from Nat.le_refl _) _) (show w.heap.size ≤ w.heap.size from Nat.le_refl _) _)).drew⟩)
    clear oT9 oR9 oL9 poT9 poR9 poL9 rest whole rr0 rr1 rr2 rr3 rr4 rr5 rb9 bel9 R9
    have hne9 : ¬ p = w.heap.size := by omega
    have hne8 : ¬ w.heap.size = p := by omega
    go_wp2_with fail
    go_region_held3 (fun w' => w'.cell? ⟨p, 2, none⟩ = some (.int .i64 (o : Int)) ∧ w'.cell? ⟨p, 3, none⟩ = some (.int .i64 (a : Int)) ∧ w'.cell? ⟨p, 4, none⟩ = some (.int .i64 (u : Int))) (go_keep) ((fail))
    go_wp2_with fail
    exact bodyPost_ret (v := .tuple #[.agg #[.slice O1 on1 oc1, .slice O5 on5 oc5, .slice O2 on2 oc2, .int .i64 (a : Int), .int .i64 (u : Int), .int .i64 (o : Int)], .bool true]) (by simp [results, Tryz.results71, go_sem, u0, u1, u2, u3, u4, u5]) rfl HFZ.out
end peakRun
end
end Go.Proofs.YtlmofkeemlfpgaaGreat
