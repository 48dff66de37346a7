/-
  MERGED: my texts RuleImplG, Big, WFnDefined, one behind the other, as they are. By an AI agent.
-/
import Derived.Test.YtdkjafjphgcbjaaMFnDefined6
import Derived.Deep.DeepCutAuto
import Derived.Deep.LoopGhost
section
/-
  CONTRACTS: impl.RenamedRule. Conditions: the arguments read as data ('Rd'), at most 1048576 numbers. By an AI agent.
-/
namespace Go.Proofs.Ytdkjafjphgcbjaa.ruleImpl
open Go.RowKit Go.Proofs.Ytdkjafjphgcbjaa.base Go.Proofs.Ytdkjafjphgcbjaa.ints Go.Proofs.Ytdkjafjphgcbjaa.sig Go.Proofs.Ytdkjafjphgcbjaa.term Go.Proofs.Ytdkjafjphgcbjaa.termOk Go.Proofs.Ytdkjafjphgcbjaa.marks Go.Proofs.Ytdkjafjphgcbjaa.app Go.Proofs.Ytdkjafjphgcbjaa.sym Go.Proofs.Ytdkjafjphgcbjaa.segs Go.Proofs.Ytdkjafjphgcbjaa.termFacts Go.Proofs.Ytdkjafjphgcbjaa.varsMath Go.Proofs.Ytdkjafjphgcbjaa.varsOf Go.Proofs.Ytdkjafjphgcbjaa.rename Go.Proofs.Ytdkjafjphgcbjaa.renMath Go.Proofs.Ytdkjafjphgcbjaa.renImpl Go.Proofs.Ytdkjafjphgcbjaa.same Go.Proofs.Ytdkjafjphgcbjaa.count Go.Proofs.Ytdkjafjphgcbjaa.linear Go.Proofs.Ytdkjafjphgcbjaa.shape Go.Proofs.Ytdkjafjphgcbjaa.kindsR Go.Proofs.Ytdkjafjphgcbjaa.ruleMath Go.Proofs.Ytdkjafjphgcbjaa.ruleSpec Go.Proofs.Ytdkjafjphgcbjaa.anyR
set_option maxRecDepth 100000

theorem renF_rule {d : Rl} (h : ∀ x, x ∈ d.2 → x < 0 → x ∈ d.1) : (renF [] d.1, renF (ordF [] d.1) d.2) = renR d := by
  unfold renR renF byL renL
  rw [ordF_same (o := ordF [] d.1) (fun x hx h0 => order_mem.2 ⟨h x hx h0, h0⟩)]
  rfl

set_option maxHeartbeats 8000000 in
theorem implRenamedRule (a l r : Value) (sg : List Int) (d : Dat sRule) (w : World) (h : Rd w w.heap.size sI [a] sg) (h' : Rd w w.heap.size sRule [l, r] d) (hz : sz sI sg ≤ 1048576) (hz' : sz sRule d ≤ 1048576) :
    Calls Try.prog 24 #[.agg #[a], .agg #[l, r]] w (AnsRule w (renRI sg d)) := by
  have S1 := fun (w1 : World) (bb : Below w.heap.size w w1) => implRuleOk a l r sg d w1 (h.next bb) (h'.next bb) hz hz'
  obtain ⟨A1, n1, c1, A2, n2, c2, rfl, rfl, s1, k1, s2, k2, hn1, hn2⟩ := rd_rule h' hz'
  obtain ⟨W, hW⟩ : ∃ W, W = ((w.alloc (.cells #[a] 26)).alloc (.cells #[.slice A1 n1 c1, .slice A2 n2 c2] 35)).alloc (.cells #[.slice none 0 0, .slice none 0 0] 35) := ⟨_, rfl⟩
  have zW : W.heap.size = w.heap.size + 1 + 1 + 1 := by rw [hW]; simp
  have rB : Row W (w.heap.size + 1) 35 #[.slice A1 n1 c1, .slice A2 n2 c2] := by rw [hW]; have := (Row.new (w.alloc (.cells #[a] 26)) 35 #[.slice A1 n1 c1, .slice A2 n2 c2]).alloc (.cells #[.slice none 0 0, .slice none 0 0] 35); simpa using this
  have rR : Row W (w.heap.size + 1 + 1) 35 #[.slice none 0 0, .slice none 0 0] := by rw [hW]; have := Row.new ((w.alloc (.cells #[a] 26)).alloc (.cells #[.slice A1 n1 c1, .slice A2 n2 c2] 35)) 35 #[.slice none 0 0, .slice none 0 0]; simpa using this
  have bel : Below w.heap.size w W := by rw [hW]; exact (((Below.refl _ _).alloc (Nat.le_refl _) _).alloc (by simp) _).alloc (by simp; omega) _
  have HW := Lib.hid hW
  have L1 := Lib.hid (S1 W bel)
  have HS1 := Lib.hid s1
  have HS2 := Lib.hid s2
  clear hW h h' hz hz' k1 k2 S1 s1 s2
  cases ok : ruleOkB sg d with
  | false =>
    have HS := Lib.hid ok
    clear ok
    go_enter Try.func24, Try.ntmps24
    go_wp2_with fail
    rw [← HW.out]
    refine L1.out.mono ?_
    rintro e w1 ⟨he, bb⟩
    rw [HS.out] at he
    subst he
    replace rR := rR.next bb
    replace bel := next_trans bel bb
    have y0 : w1.cell? ⟨w.heap.size + 1 + 1, 0, none⟩ = some (.slice none 0 0) := rR.cell 0
    have y1 : w1.cell? ⟨w.heap.size + 1 + 1, 1, none⟩ = some (.slice none 0 0) := rR.cell 1
    have f0 := rR.free 0
    have f1 := rR.free 1
    have r1 := rR.put 0 (.slice none 0 0)
    have y2 : (w1.setCell ⟨w.heap.size + 1 + 1, 0, none⟩ (.slice none 0 0)).cell? ⟨w.heap.size + 1 + 1, 1, none⟩ = some (.slice none 0 0) := r1.cell 1
    have f2 := r1.free 1
    have r2 := r1.put 1 (.slice none 0 0)
    have u0 : ((w1.setCell ⟨w.heap.size + 1 + 1, 0, none⟩ (.slice none 0 0)).setCell ⟨w.heap.size + 1 + 1, 1, none⟩ (.slice none 0 0)).cell? ⟨w.heap.size + 1 + 1, 0, none⟩ = some (.slice none 0 0) := r2.cell 0
    have u1 : ((w1.setCell ⟨w.heap.size + 1 + 1, 0, none⟩ (.slice none 0 0)).setCell ⟨w.heap.size + 1 + 1, 1, none⟩ (.slice none 0 0)).cell? ⟨w.heap.size + 1 + 1, 1, none⟩ = some (.slice none 0 0) := r2.cell 1
    have F : AnsRule w (renRI sg d) (.returned (.agg #[.slice none 0 0, .slice none 0 0])) ((w1.setCell ⟨w.heap.size + 1 + 1, 0, none⟩ (.slice none 0 0)).setCell ⟨w.heap.size + 1 + 1, 1, none⟩ (.slice none 0 0)) :=
      ⟨_, _, _, _, _, _, rfl, by unfold renRI; rw [if_neg (by rw [HS.out]; simp)]; exact rule_zero _ _ _, (bel.setCell (by simp; omega) _).setCell (by simp; omega) _⟩
    have HF := Lib.hid F
    clear F bel rB rR bb r1 r2
    go_wp2
    exact bodyPost_ret (v := .agg #[.slice none 0 0, .slice none 0 0]) (by simp [results, Try.results24, go_sem, u0, u1]) rfl HF.out
  | true =>
    have HS := Lib.hid ok
    have HP := Lib.hid (rule_parts ok)
    clear ok
    go_enter Try.func24, Try.ntmps24
    go_wp2_with fail
    rw [← HW.out]
    refine L1.out.mono ?_
    rintro e w1 ⟨he, bb⟩
    rw [HS.out] at he
    subst he
    have zb := bb.size
    replace rB := rB.next bb
    replace rR := rR.next bb
    replace bel := next_trans bel bb
    have LR := Lib.hid (renaming_ w1)
    clear bb L1
    go_wp2_with fail
    refine LR.out.mono ?_
    rintro e w2 ⟨rfl, hw2⟩
    have rN : Row w2 w1.heap.size 24 #[.slice none 0 0] := by rw [hw2]; exact Row.new _ _ _
    have bN : Below w1.heap.size w1 w2 := by rw [hw2]; exact (Below.refl _ _).alloc (Nat.le_refl _) _
    have z2 : w2.heap.size = w1.heap.size + 1 := by rw [hw2]; simp
    replace rB := rB.next bN
    replace rR := rR.next bN
    replace bel := next_trans bel bN
    have m1 : n1 ≤ 60 := by rw [← HS1.out.1]; exact (term_len HP.out.1).2
    have m2 : n2 ≤ 60 := by rw [← HS2.out.1]; exact (term_len HP.out.2.1).2
    have LF1 := Lib.hid (fillRen w1.heap.size A1 n1 c1 [] d.1 none 0 0 w2 rN (by simpa using Own.nil _ _) ((HS1.out.below bel).more (by omega)) m1 (by simp) (fun x hx => (term_mem HP.out.1 hx).1))
    have b0 : w2.cell? ⟨w.heap.size + 1, 0, none⟩ = some (.slice A1 n1 c1) := rB.cell 0
    clear LR hw2 rN bN
    go_wp2_with fail
    refine LF1.out.mono ?_
    rintro e w3 ⟨X, xn, xc, S, sn, sc, rfl, oX, rS, oS, hne, sd⟩
    have bd := sd.below (fun k hk => by cases hk) (by omega)
    have z3 := bd.size
    replace rB := rB.below bd (by omega)
    replace rR := rR.below bd (by omega)
    replace bel := bel.trans (bd.mono (by omega))
    have ho60 : (ordF [] d.1).length ≤ 60 := by have := ordF_len [] d.1; have := (term_len HP.out.1).2; simp at *; omega
    have LF2 := Lib.hid (fillRen w1.heap.size A2 n2 c2 (ordF [] d.1) d.2 S sn sc w3 rS oS ((HS2.out.below bel).more (by omega)) m2 ho60 (fun x hx => (term_mem HP.out.2.1 hx).1))
    have hX : ∀ k, blk X = some k → k < w3.heap.size := fun k hk => (World.ownsRow.lt oX k (by rw [Go.Proofs.Ytdkjafjphgcbjaa.appAt.blk_own]; exact hk)).2
    have hSg : ∀ k, blk S = some k → w1.heap.size ≤ k := fun k hk => by have := (blk_lt oS k hk).1; omega
    have c1' : w3.cell? ⟨w.heap.size + 1, 1, none⟩ = some (.slice A2 n2 c2) := rB.cell 1
    clear LF1 b0 bd sd oS
    go_wp2_with fail
    refine LF2.out.mono ?_
    rintro e w4 ⟨Y, yn, yc, S', sn', sc', rfl, oY, -, -, -, sd⟩
    have bd := sd.below hSg (by omega)
    have z4 := bd.size
    have oX4 := Own.side oX sd rS hne
    replace rR := rR.below bd (by omega)
    replace bel := bel.trans (bd.mono (by omega))
    have oo : Owned w4 (w.heap.size + 1 + 1 + 1) w4.heap.size sRule [.slice X xn xc, .slice Y yn yc] (renRI sg d) := by
      unfold renRI; rw [if_pos HS.out, ← renF_rule HP.out.2.2.2]
      exact (rule_own (lo := w2.heap.size) (mid := w3.heap.size) (mid' := w3.heap.size) oX4 hX oY (Nat.le_refl _) (by omega) (Nat.le_refl _) (by omega)).wider (by omega) (Nat.le_refl _)
    have y0 : w4.cell? ⟨w.heap.size + 1 + 1, 0, none⟩ = some (.slice none 0 0) := rR.cell 0
    have f0 := rR.free 0
    have r1 := rR.put 0 (.slice X xn xc)
    have y2 : (w4.setCell ⟨w.heap.size + 1 + 1, 0, none⟩ (.slice X xn xc)).cell? ⟨w.heap.size + 1 + 1, 1, none⟩ = some (.slice none 0 0) := r1.cell 1
    have f2 := r1.free 1
    have r2 := r1.put 1 (.slice Y yn yc)
    have u0 : ((w4.setCell ⟨w.heap.size + 1 + 1, 0, none⟩ (.slice X xn xc)).setCell ⟨w.heap.size + 1 + 1, 1, none⟩ (.slice Y yn yc)).cell? ⟨w.heap.size + 1 + 1, 0, none⟩ = some (.slice X xn xc) := r2.cell 0
    have u1 : ((w4.setCell ⟨w.heap.size + 1 + 1, 0, none⟩ (.slice X xn xc)).setCell ⟨w.heap.size + 1 + 1, 1, none⟩ (.slice Y yn yc)).cell? ⟨w.heap.size + 1 + 1, 1, none⟩ = some (.slice Y yn yc) := r2.cell 1
    have F : AnsRule w (renRI sg d) (.returned (.agg #[.slice X xn xc, .slice Y yn yc])) ((w4.setCell ⟨w.heap.size + 1 + 1, 0, none⟩ (.slice X xn xc)).setCell ⟨w.heap.size + 1 + 1, 1, none⟩ (.slice Y yn yc)) :=
      ⟨_, _, _, _, _, _, rfl, ((oo.put (g := w.heap.size + 1 + 1) (i := 0) (u := .slice X xn xc) (by omega)).put (g := w.heap.size + 1 + 1) (i := 1) (u := .slice Y yn yc) (by omega)).wider (by omega) (by simp), (bel.setCell (by simp; omega) _).setCell (by simp; omega) _⟩
    have HF := Lib.hid F
    clear F oo r1 r2 rR rB rS bel bd sd oX oX4 oY c1' LF2 hne
    go_wp2
    exact bodyPost_ret (v := .agg #[.slice X xn xc, .slice Y yn yc]) (by simp [results, Try.results24, go_sem, u0, u1]) rfl HF.out
end Go.Proofs.Ytdkjafjphgcbjaa.ruleImpl
end

section
/-
  CONTRACT: laws.big: more than 4096 bytes. Conditions: none. By an AI agent.
-/
namespace Go.Proofs.Ytdkjafjphgcbjaa.bigs
open Go.RowKit Go.Proofs.Ytdkjafjphgcbjaa.base Go.Proofs.Ytdkjafjphgcbjaa.ints

theorem bigAns (A : Option Addr) (n c : Nat) (b : Bool) (w : World) (hb : decide (4096 < n) = b) (hn : n ≤ 9223372036854775807) : Calls Try.prog 15 #[.slice A n c] w fun e w' => w = w' ∧ e = .returned (.bool b) := by
  cases b with
  | true =>
    have h : (4096 : Int) < (n : Int) := by have := of_decide_eq_true hb; omega
    clear hb
    go_enter Try.func15, Try.ntmps15
    go_wp2
    go_ret
    exact ⟨rfl, rfl⟩
  | false =>
    have h : ¬ (4096 : Int) < (n : Int) := by have := of_decide_eq_false hb; omega
    have h2 : decide (4096 < n) = false := hb
    clear hb
    go_enter Try.func15, Try.ntmps15
    go_wp2
    go_ret
    exact ⟨rfl, rfl⟩
end Go.Proofs.Ytdkjafjphgcbjaa.bigs
end

section
/-
  THE WALK of laws.FnDefined: it returns true, whatever the bytes, and writes nothing that was there. Conditions: the slice holds bytes. By an AI agent.
-/
namespace Go.Proofs.Ytdkjafjphgcbjaa.wFnDefined
open Go.RowKit Go.Proofs.Ytdkjafjphgcbjaa.base Go.Proofs.Ytdkjafjphgcbjaa.ints Go.Proofs.Ytdkjafjphgcbjaa.sig Go.Proofs.Ytdkjafjphgcbjaa.term Go.Proofs.Ytdkjafjphgcbjaa.cursor Go.Proofs.Ytdkjafjphgcbjaa.termOk Go.Proofs.Ytdkjafjphgcbjaa.marks Go.Proofs.Ytdkjafjphgcbjaa.app Go.Proofs.Ytdkjafjphgcbjaa.sym Go.Proofs.Ytdkjafjphgcbjaa.dice Go.Proofs.Ytdkjafjphgcbjaa.bigs Go.Proofs.Ytdkjafjphgcbjaa.drawSysD Go.Proofs.Ytdkjafjphgcbjaa.variant Go.Proofs.Ytdkjafjphgcbjaa.renRule Go.Proofs.Ytdkjafjphgcbjaa.shape Go.Proofs.Ytdkjafjphgcbjaa.kindsR Go.Proofs.Ytdkjafjphgcbjaa.ruleMath Go.Proofs.Ytdkjafjphgcbjaa.ruleSpec Go.Proofs.Ytdkjafjphgcbjaa.ruleImpl Go.Proofs.Ytdkjafjphgcbjaa.lawY
set_option maxRecDepth 100000

/-- the head of the loop over the rules -/
def Head (w : World) (o : Nat) (S : Option Addr) (sn sc : Nat) (R : Option Addr) (rn rc : Nat) (d : Dat sSystem) (g : Nat) (i : Value) (wr : World) : Prop :=
  ∃ k : Nat, i = .int .i64 k ∧ k + g = rn ∧ Ts w o S sn sc R rn rc d wr
/-- a rule in a variable of its own -/
def Kept (wr : World) (x : Rl) (s : Value) (wx : World) : Prop :=
  ∃ bo l ln lc r qn qc, s = .pointer (some ⟨bo, 0, none⟩) ∧ Row wx bo 35 #[.slice l ln lc, .slice r qn qc] ∧ Rd wx wx.heap.size sRule [.slice l ln lc, .slice r qn qc] x ∧ Below wr.heap.size wr wx
theorem kept_b {wr w2 w3 : World} {x : Rl} {l r : Option Addr} {ln lc qn qc : Nat} (h : Owned w3 w2.heap.size w3.heap.size sRule [.slice l ln lc, .slice r qn qc] x) (b : Below wr.heap.size wr w3) :
    Kept wr x (.pointer (some ⟨w3.heap.size, 0, none⟩)) (w3.alloc (.cells #[.slice l ln lc, .slice r qn qc] 35)) :=
  ⟨_, _, _, _, _, _, _, rfl, Row.new _ _ _, h.rd.next ((Below.refl _ _).alloc (Nat.le_refl _) _), b.alloc b.size _⟩
theorem kept_a {wr w2 w3 : World} {x : Rl} {g : Nat} {l r u v : Option Addr} {ln lc qn qc un uc vn vc : Nat} (h : Owned w3 w2.heap.size w3.heap.size sRule [.slice l ln lc, .slice r qn qc] x) (hg : Row w3 g 35 #[.slice u un uc, .slice v vn vc]) (h1 : wr.heap.size ≤ g) (h2 : g < w2.heap.size) (b : Below wr.heap.size wr w3) :
    Kept wr x (.pointer (some ⟨g, 0, none⟩)) ((w3.setCell ⟨g, 0, none⟩ (.slice l ln lc)).setCell ⟨g, 1, none⟩ (.slice r qn qc)) :=
  ⟨_, _, _, _, _, _, _, rfl, (hg.put 0 (.slice l ln lc)).put 1 (.slice r qn qc), ((h.put (i := 0) (u := .slice l ln lc) (.inl h2)).put (i := 1) (u := .slice r qn qc) (.inl h2)).rd, (b.setCell (p := ⟨g, 0, none⟩) h1 _).setCell (p := ⟨g, 1, none⟩) h1 _⟩

theorem likeB (A A' : Option Addr) (n c n' c' : Nat) (xs : List Int) (w : World) (h : Seg w w.heap.size A n xs) (h' : Seg w w.heap.size A' n' xs) (hn : n ≤ 1048576) :
    Calls Try.prog 19 #[.slice A n c, .slice A' n' c'] w fun e w' => e = .returned (.bool true) ∧ Below w.heap.size w w' := by
  obtain rfl : n = n' := by rw [← h.1, ← h'.1]
  exact (Go.Proofs.Ytdkjafjphgcbjaa.lawT.like A A' n c c' xs w h h' hn).mono fun e w' ⟨r1, q, r2⟩ => ⟨r1, by rw [r2]; exact Go.Proofs.Ytdkjafjphgcbjaa.lawT.below_drewN w q⟩
set_option maxHeartbeats 4000000 in
theorem law (A : Option Addr) (n c : Nat) (_ : List Int) (w : World) (h : SegB w w.heap.size A n) (hN : n ≤ 9223372036854775807) :
    Calls Try.prog 3 #[.slice A n c] w (Fine w) := by
  by_cases hbig : n ≤ 4096
  · have LB := Lib.hid (bigAns A n c false w (by simp; omega) hN)
    go_enter Try.func3, Try.ntmps3
    go_wp2_with fail
    refine LB.out.mono ?_
    rintro e w' ⟨rfl, rfl⟩
    clear LB
    go_wp2_with fail
    refine (drawDefinedIn A n c w h hbig).mono ?_
    rintro e w2 ⟨S, sn, sc, R, rn, rc, d, rfl, sd, hz0, b2⟩
    clear h
    have hz : sz sSystem d ≤ 1048576 := by omega
    obtain ⟨o, ho⟩ : ∃ o, w2.heap.size = o := ⟨_, rfl⟩
    obtain ⟨W, hW⟩ : ∃ W, W = w2.alloc (.cells #[.slice S sn sc, .slice R rn rc] 29) := ⟨_, rfl⟩
    have T : Ts w o S sn sc R rn rc d W := by
      have bb : Below w2.heap.size w2 W := by rw [hW]; exact (Below.refl _ _).alloc (Nat.le_refl _) _
      exact ⟨sd.next bb, by rw [hW, ← ho]; exact Row.new _ _ _, next_trans b2 bb⟩
    have HW := Lib.hid hW
    have HO := Lib.hid ho
    have hrn : rn ≤ 1048576 := by have := T.len; have := sz_len (sys_szs hz).2; omega
    have hsn : sn ≤ 1048576 := by have h1 := T.slen; have h2 := (sys_szs hz).1; rw [sz_ints] at h2; omega
    clear sd b2 hW ho
    have k0 : W.cell? ⟨o, 0, none⟩ = some (.slice S sn sc) := T.r.cell 0
    have k1 : W.cell? ⟨o, 1, none⟩ = some (.slice R rn rc) := T.r.cell 1
    obtain ⟨ds, hds⟩ : ∃ z, definedI d.1 d.2 = z := ⟨_, rfl⟩
    obtain ⟨cs, hcs⟩ : ∃ z, consI d.1 d.2 = z := ⟨_, rfl⟩
    obtain ⟨bo, hbo⟩ : ∃ z, sysOkB d.1 d.2 = z := ⟨_, rfl⟩
    have hdl : ds.length ≤ 1048576 := by rw [← hds]; exact defined_len hz
    have hcl : cs.length ≤ 1048576 := by rw [← hcs]; exact cons_len hz
    have HD := Lib.hid hds
    have HC := Lib.hid hcs
    have HB := Lib.hid hbo
    clear hds hcs hbo
    go_wp2_with fail
    rw [← HW.out, HO.out]
    refine (implDefinedIn _ _ d _ T.s hz).mono ?_
    rintro e w3 ⟨X, xn, xc, rfl, ox, bb⟩
    rw [HD.out] at ox
    replace T := T.next bb
    have sx := Own.seg ox
    have hxn := Lib.hid sx.1
    have hx1 : xn ≤ 1048576 := by rw [← hxn.out]; exact hdl
    clear bb k0 k1 HW HO ox
    have k0 : w3.cell? ⟨o, 0, none⟩ = some (.slice S sn sc) := T.r.cell 0
    have k1 : w3.cell? ⟨o, 1, none⟩ = some (.slice R rn rc) := T.r.cell 1
    go_wp2_with fail
    refine (implConstructorsIn _ _ d _ T.s hz).mono ?_
    rintro e w4 ⟨Y, yn, yc, rfl, oy, bb⟩
    rw [HC.out] at oy
    replace T := T.next bb
    replace sx := sx.next bb
    have sy := Own.seg oy
    have hyn := Lib.hid sy.1
    have hy1 : yn ≤ 1048576 := by rw [← hyn.out]; exact hcl
    clear bb k0 k1 oy
    have k0 : w4.cell? ⟨o, 0, none⟩ = some (.slice S sn sc) := T.r.cell 0
    have k1 : w4.cell? ⟨o, 1, none⟩ = some (.slice R rn rc) := T.r.cell 1
    have eb : (bo != bo) = false := by simp
    replace T := T.drew
    replace sx := sx.next (drew_below w4)
    replace sy := sy.next (drew_below w4)
    go_wp2_with fail
    go_region_held3 (fun w' => w'.cell? ⟨o, 0, none⟩ = some (.slice S sn sc) ∧ w'.cell? ⟨o, 1, none⟩ = some (.slice R rn rc))
      (go_keep)
      (first
        | (go_at_call 20; refine (specDefinedIn _ _ d _ T.s hz).mono ?_; rintro e u1 ⟨P, pn, pc, rfl, sp, bb⟩; replace T := T.next bb; replace sx := sx.next bb; replace sy := sy.next bb; rw [HD.out] at sp; have hp1 : pn ≤ 1048576 := (by rw [← sp.1]; exact hdl); have k0 : u1.cell? ⟨o, 0, none⟩ = some (.slice S sn sc) := T.r.cell 0; have k1 : u1.cell? ⟨o, 1, none⟩ = some (.slice R rn rc) := T.r.cell 1; clear bb)
        | (go_at_call 21; refine (specConstructorsIn _ _ d _ T.s hz).mono ?_; rintro e u3 ⟨Q, qn, qc, rfl, sq, bb⟩; replace T := T.next bb; replace sx := sx.next bb; replace sy := sy.next bb; rw [HC.out] at sq; have hq1 : qn ≤ 1048576 := (by rw [← sq.1]; exact hcl); have k0 : u3.cell? ⟨o, 0, none⟩ = some (.slice S sn sc) := T.r.cell 0; have k1 : u3.cell? ⟨o, 1, none⟩ = some (.slice R rn rc) := T.r.cell 1; clear bb)
        | (go_at_call 19; refine (likeB Y Q yn yc qn qc cs _ sy sq hy1).mono ?_; rintro e u4 ⟨rfl, bb⟩; replace T := T.next bb; replace sx := sx.next bb; replace sy := sy.next bb; clear bb; have k0 : u4.cell? ⟨o, 0, none⟩ = some (.slice S sn sc) := T.r.cell 0; have k1 : u4.cell? ⟨o, 1, none⟩ = some (.slice R rn rc) := T.r.cell 1)
        | (go_at_call 19; refine (likeB X P xn xc pn pc ds _ sx sp hx1).mono ?_; rintro e u2 ⟨rfl, bb⟩; replace T := T.next bb; replace sx := sx.next bb; replace sy := sy.next bb; clear bb; have k0 : u2.cell? ⟨o, 0, none⟩ = some (.slice S sn sc) := T.r.cell 0; have k1 : u2.cell? ⟨o, 1, none⟩ = some (.slice R rn rc) := T.r.cell 1)
        | (go_at_call 22; refine (implSystemOk _ _ d _ T.s hz).mono ?_; rintro e u5 ⟨he, bb⟩; replace T := T.next bb; replace sx := sx.next bb; replace sy := sy.next bb; rw [HB.out] at he; subst he; have k0 : u5.cell? ⟨o, 0, none⟩ = some (.slice S sn sc) := T.r.cell 0; have k1 : u5.cell? ⟨o, 1, none⟩ = some (.slice R rn rc) := T.r.cell 1; clear bb)
        | (go_at_call 23; refine (specSystemOk _ _ d _ T.s hz).mono ?_; rintro e u6 ⟨he, bb⟩; replace T := T.next bb; replace sx := sx.next bb; replace sy := sy.next bb; rw [HB.out] at he; subst he; have k0 : u6.cell? ⟨o, 0, none⟩ = some (.slice S sn sc) := T.r.cell 0; have k1 : u6.cell? ⟨o, 1, none⟩ = some (.slice R rn rc) := T.r.cell 1; clear bb))
    clear k0 k1 sx sy eb
    have k0 : u6.cell? ⟨o, 0, none⟩ = some (.slice S sn sc) := T.r.cell 0
    have k1 : u6.cell? ⟨o, 1, none⟩ = some (.slice R rn rc) := T.r.cell 1
    cases hok : sysOkB d.1 d.2 with
    | false =>
      obtain ⟨n1, n2⟩ := def_no hok
      obtain rfl : xn = 0 := by rw [← hxn.out, ← HD.out, n1]; rfl
      obtain rfl : yn = 0 := by rw [← hyn.out, ← HC.out, n2]; rfl
      have HOK := Lib.hid hok
      clear hok n1 n2
      go_wp2_with fail
      refine (specSystemOk _ _ d _ T.s hz).mono ?_
      rintro e w9 ⟨he, bb⟩
      rw [HOK.out] at he
      subst he
      have TB := Lib.hid (T.next bb).bel
      clear bb T
      go_wp2
      go_ret
      exact ⟨rfl, TB.out⟩
    | true =>
      have HOK := Lib.hid hok
      have HS := Lib.hid (show xn + yn = sn by have h1 := def_len_sum hok; rw [HD.out, HC.out] at h1; have h2 := hxn.out; have h3 := hyn.out; have h4 := T.slen; omega)
      clear hok
      go_wp2_with fail
      refine (specSystemOk _ _ d _ T.s hz).mono ?_
      rintro e w9 ⟨he, bb⟩
      rw [HOK.out] at he
      subst he
      replace T := T.next bb
      clear bb k0 k1
      have HH := Lib.hid (show Head w o S sn sc R rn rc d rn (.int .i64 0) w9 from ⟨0, rfl, by omega, T⟩)
      have hlen := Lib.hid T.len
      clear T
      go_wp2_with fail
      go_loopg [6] rn (fun g i wr => Head w o S sn sc R rn rc d g i wr)
      case atStart => exact HH.out
      case round =>
        clear HH
        obtain ⟨k, rfl, hkg, T⟩ := hrel
        have HK := Lib.hid hkg
        clear hkg
        have k0 : wr.cell? ⟨o, 0, none⟩ = some (.slice S sn sc) := T.r.cell 0
        have k1 : wr.cell? ⟨o, 1, none⟩ = some (.slice R rn rc) := T.r.cell 1
        by_cases hlt : k < rn
        · obtain ⟨b, off, l, ln, lc, r, qn, qc, rfl, hb, hl0, hr0, hx, hcap⟩ := T.rule hlt
          have i1 : (k : Int) < (rn : Int) := by omega
          have hkl : k < d.2.length := by rw [hlen.out]; exact hlt
          obtain ⟨x, hxe⟩ : ∃ x, d.2.getD k ([], []) = x := ⟨_, rfl⟩
          have hxok : ruleOkB d.1 x = true := by rw [← hxe]; exact (sys_parts HOK.out).2.2 _ (rl_mem hkl)
          have hz1 : sz sRule x ≤ 2000 := by rw [← hxe]; exact sz_each (e := 35) (s := sRule) (L := 2000) (d := d.2) (by have h1 : sz sI d.1 + sz (.row 35 sRule) d.2 ≤ 2000 := hz0; omega) hkl
          have hz2 : sz sI d.1 ≤ 1048576 := (sys_szs hz).1
          rw [hxe] at hx
          obtain ⟨M1, M2⟩ := ren_rule hxok
          obtain ⟨x', hx'⟩ : ∃ z, renRI d.1 x = z := ⟨_, rfl⟩
          have hz3 : sz sRule x' ≤ 1048576 := by rw [← hx']; exact renRI_len (by omega)
          rw [hx'] at M1 M2
          have HM1 := Lib.hid M1
          have HM2 := Lib.hid M2
          have LR := Lib.hid (fun (w2 : World) (B : Below wr.heap.size wr w2) => (implRenamedRule _ _ _ d.1 x w2 ((parts_System T.s).1.next B) (hx.next B) hz2 (by omega)).mono fun e w' (q : AnsRule w2 (renRI d.1 x) e w') => (show ∃ A n c A' n' c', e = .returned (.agg #[.slice A n c, .slice A' n' c']) ∧ Owned w' w2.heap.size w'.heap.size sRule [.slice A n c, .slice A' n' c'] x' ∧ Below w2.heap.size w2 w' ∧ Below wr.heap.size wr w' from by
            obtain ⟨A, n, c, A', n', c', q1, q2, q3⟩ := q
            rw [hx'] at q2
            exact ⟨A, n, c, A', n', c', q1, q2, q3, next_trans B q3⟩))
          have HX := Lib.hid hx
          clear hx hxe hxok hx' M1 M2
          have zo := T.r.lt
          go_upto_region 13 with fail
          go_cut [7] (fun s7 wx => Kept wr x' s7 wx)
          case first =>
            clear T HX HM1 HM2
            go_region_law (first
              | (go_simp; go_at_call 24; (with_reducible refine (LR.out _ ?_).mono ?_); (focus (repeat (first | (with_reducible exact Below.refl _ _) | (with_reducible refine Below.drew ?_) | (with_reducible refine Below.alloc ?_ (by first | omega | (simp only [Go.Proofs.Ytdkjafjphgcbjaa.compImpl.sz_alloc, Go.Proofs.Ytdkjafjphgcbjaa.compImpl.sz_drew]; omega)) _)))); rintro e w3 ⟨L1, ln1, lc1, R1, qn1, qc1, rfl, oo, b3, bw⟩; have s3 := b3.size; (try simp only [Go.Proofs.Ytdkjafjphgcbjaa.compImpl.sz_alloc, Go.Proofs.Ytdkjafjphgcbjaa.compImpl.sz_drew] at s3); (try (obtain ⟨q4, -⟩ : Row w3 wr.heap.size 35 #[.slice none 0 0, .slice none 0 0] ∧ True; (focus ((refine ⟨Go.Proofs.Ytdkjafjphgcbjaa.base.Row.next ?_ b3, trivial⟩); (repeat (first | ((with_reducible refine Go.Proofs.Ytdkjafjphgcbjaa.compImpl.row_top ?_); (simp only [Go.Proofs.Ytdkjafjphgcbjaa.compImpl.sz_alloc, Go.Proofs.Ytdkjafjphgcbjaa.compImpl.sz_drew]; done)) | (with_reducible refine Go.Proofs.Ytdkjafjphgcbjaa.compImpl.row_drew ?_) | (with_reducible refine Go.Proofs.Ytdkjafjphgcbjaa.compImpl.row_alloc ?_))); done)); have y0 : w3.cell? ⟨wr.heap.size, 0, none⟩ = some (.slice none 0 0) := q4.cell 0; have y1 : w3.cell? ⟨wr.heap.size, 1, none⟩ = some (.slice none 0 0) := q4.cell 1; have y2 : w3.frozen? ⟨wr.heap.size, 0, none⟩ = false := q4.free 0; have y3 : w3.frozen? ⟨wr.heap.size, 1, none⟩ = false := q4.free 1))))
            all_goals
              go_wp2_with fail
              go_meet
              first | (with_reducible exact kept_b oo bw) | (with_reducible exact kept_a oo q4 (Nat.le_refl _) (by simp only [Go.Proofs.Ytdkjafjphgcbjaa.compImpl.sz_alloc, Go.Proofs.Ytdkjafjphgcbjaa.compImpl.sz_drew]; omega) bw)
          case rest =>
            rename World => wc
            obtain ⟨bv, l1, ln1, lc1, r1, qn1, qc1, rfl, ro, rx, bx⟩ := hcut
            replace T := T.next bx
            have hx := HX.out.next bx
            have p0 : wc.cell? ⟨o, 0, none⟩ = some (.slice S sn sc) := T.r.cell 0
            have p1 : wc.cell? ⟨o, 1, none⟩ = some (.slice (some ⟨b, off, none⟩) rn rc) := T.r.cell 1
            have p2 : wc.cell? ⟨bv, 0, none⟩ = some (.slice l1 ln1 lc1) := ro.cell 0
            have p3 : wc.cell? ⟨bv, 1, none⟩ = some (.slice r1 qn1 qc1) := ro.cell 1
            have p4 : wc.cell? ⟨b, off + k * 2, none⟩ = some (.slice l ln lc) := (bx.cell (p := ⟨b, off + k * 2, none⟩) hb).trans hl0
            clear k0 k1 hl0 hr0 LR HX
            obtain ⟨A1, m1, c1, e1, s1, -⟩ := rd_ints.1 (parts_System T.s).1
            obtain ⟨A2, m2, c2, e2, s2, -⟩ := rd_ints.1 (parts_Rule rx).1
            obtain ⟨A3, m3, c3, e3, s3, -⟩ := rd_ints.1 (parts_Rule hx).1
            injection e1 with e11 e12 e13
            subst e11 e12 e13
            injection e2 with e21 e22 e23
            subst e21 e22 e23
            injection e3 with e31 e32 e33
            subst e31 e32 e33
            have y2 : ln1 ≤ 1048576 := len_ints s2.1 (rule_szs hz3).1
            have y3 : ln ≤ 1048576 := len_ints s3.1 (rule_szs (show sz sRule x ≤ 1048576 by omega)).1
            have B1 := drew_below wc
            have L1 := Lib.hid ((implRuleOk _ _ _ d.1 x' wc.drew ((parts_System T.s).1.next B1) (rx.next B1) hz2 hz3).mono fun e w' (q : _ ∧ Below wc.drew.heap.size wc.drew w') => (⟨q.1.trans (by rw [HM1.out]), next_trans B1 q.2⟩ : e = .returned (.bool true) ∧ Below wc.heap.size wc w'))
            have L2 := Lib.hid (fun (w2 : World) (B : Below wc.heap.size wc w2) => (specVariantIn S l1 l sn sc ln1 lc1 ln lc d.1 x'.1 x.1 w2 (s1.next B) (s2.next B) (s3.next B) hsn y2 y3).mono fun e w' (q : _ ∧ Below w2.heap.size w2 w') => (⟨q.1.trans (by rw [HM2.out]), next_trans B q.2⟩ : e = .returned (.bool true) ∧ Below wc.heap.size wc w'))
            have hbc : b < wc.heap.size := Nat.lt_of_lt_of_le hb bx.size
            clear rx hx s1 s2 s3 bx B1
            go_wp2_with fail
            go_region_held3 (fun w' => w'.cell? ⟨o, 0, none⟩ = some (.slice S sn sc) ∧ w'.cell? ⟨o, 1, none⟩ = some (.slice (some ⟨b, off, none⟩) rn rc) ∧ w'.cell? ⟨bv, 0, none⟩ = some (.slice l1 ln1 lc1) ∧ w'.cell? ⟨bv, 1, none⟩ = some (.slice r1 qn1 qc1) ∧ w'.cell? ⟨b, off + k * 2, none⟩ = some (.slice l ln lc))
              (go_keep)
              (first
                | (go_at_call 25; refine L1.out.mono ?_; rintro e u1 ⟨rfl, bu⟩; have v0 : u1.cell? ⟨o, 0, none⟩ = some (.slice S sn sc) := (T.next bu).r.cell 0; have v1 : u1.cell? ⟨o, 1, none⟩ = some (.slice (some ⟨b, off, none⟩) rn rc) := (T.next bu).r.cell 1; have v2 : u1.cell? ⟨bv, 0, none⟩ = some (.slice l1 ln1 lc1) := (ro.next bu).cell 0; have v3 : u1.cell? ⟨bv, 1, none⟩ = some (.slice r1 qn1 qc1) := (ro.next bu).cell 1; have v4 : u1.cell? ⟨b, off + k * 2, none⟩ = some (.slice l ln lc) := (bu.cell (p := ⟨b, off + k * 2, none⟩) hbc).trans p4)
                | (go_at_call 26; refine (L2.out _ bu).mono ?_; rintro e u2 ⟨rfl, bz⟩; have v0 : u2.cell? ⟨o, 0, none⟩ = some (.slice S sn sc) := (T.next bz).r.cell 0; have v1 : u2.cell? ⟨o, 1, none⟩ = some (.slice (some ⟨b, off, none⟩) rn rc) := (T.next bz).r.cell 1; have v2 : u2.cell? ⟨bv, 0, none⟩ = some (.slice l1 ln1 lc1) := (ro.next bz).cell 0; have v3 : u2.cell? ⟨bv, 1, none⟩ = some (.slice r1 qn1 qc1) := (ro.next bz).cell 1; have v4 : u2.cell? ⟨b, off + k * 2, none⟩ = some (.slice l ln lc) := (bz.cell (p := ⟨b, off + k * 2, none⟩) hbc).trans p4))
            have F := Lib.hid (show Head w o S sn sc (some ⟨b, off, none⟩) rn rc d (gk - 1) (.int .i64 ((k : Int) + 1)) u2 from ⟨k + 1, by simp, by have := HK.out; omega, T.next bz⟩)
            clear T ro L1 L2 v0 v1 v2 v3 v4 p0 p1 p2 p3 p4
            go_wp2
            go_roundg (gk - 1)
            case measure => have := HK.out; omega
            case rel => exact F.out
        · have ek : k = rn := by have := HK.out; omega
          subst ek
          have L := Lib.hid (implSameSystem _ _ _ _ d d wr T.s T.s hz hz)
          have HSS := Lib.hid (same_self HOK.out)
          have exy : (xn : Int) + (yn : Int) = (sn : Int) := by have := HS.out; omega
          have exb : ((xn : Int) + (yn : Int) == (sn : Int)) = true := by rw [exy]; simp
          go_wp2_with fail
          refine L.out.mono ?_
          rintro e w' ⟨he, bb⟩
          rw [HSS.out] at he
          subst he
          have TB := Lib.hid (T.next bb).bel
          clear T bb L
          go_wp2
          go_ret
          exact ⟨rfl, TB.out⟩
  · have LB := Lib.hid (bigAns A n c true w (by simp; omega) hN)
    clear h
    go_enter Try.func3, Try.ntmps3
    go_wp2_with fail
    refine LB.out.mono ?_
    rintro e w' ⟨rfl, rfl⟩
    go_wp2
    go_ret
    exact ⟨rfl, Below.refl _ _⟩
end Go.Proofs.Ytdkjafjphgcbjaa.wFnDefined
end
