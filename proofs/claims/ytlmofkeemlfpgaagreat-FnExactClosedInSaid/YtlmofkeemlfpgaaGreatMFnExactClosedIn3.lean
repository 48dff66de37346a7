/-
  MERGED: my texts DrawTerm, DrawAny, DrawX, KindsR, Vars, AnsB, VarsOf, CountL, Linear, RuleMath, Rename, Same, RuleSpec, Stk, PartsSpec, one behind the other, as they are. By an AI agent.
-/
import Derived.Test.YtlmofkeemlfpgaaGreatMFnExactClosedIn2
import Derived.Deep.RegionHeld3
import Derived.Deep.AppendLies
import Derived.Deep.QuietTactic
import Derived.BigQuiet
import Derived.Deep.Onto
namespace Go.Proofs.YtlmofkeemlfpgaaGreat
section
namespace drawTerm
open Go.RowKit base ints sig term cursor marks app sym dice drawSig
set_option maxRecDepth 100000
def Rd (w : World) (p B : Nat) (A : Option Addr) (n : Nat) (xs : List Int) : Prop :=
 xs.length = n ∧ (0 < n → ∃ b off, A = some ⟨b, off, none⟩ ∧ b < B ∧ b ≠ p ∧ ∀ j, j < n → w.cell? ⟨b, off + j, none⟩ = some (.int .i64 (xs.getD j 0)))
theorem Rd.more {w : World} {p B B' : Nat} {A : Option Addr} {n : Nat} {xs : List Int} (h : Rd w p B A n xs) (hB : B ≤ B') : Rd w p B' A n xs :=
 ⟨h.1, fun hn => by obtain ⟨b, off, e, hb, hne, hc⟩ := h.2 hn; exact ⟨b, off, e, by omega, hne, hc⟩⟩
theorem Rd.keep {w w' : World} {p B : Nat} {A : Option Addr} {n : Nat} {xs : List Int} (h : Rd w p B A n xs) (hk : ∀ q : Addr, q.block < B → q.block ≠ p → w'.cell? q = w.cell? q) : Rd w' p B A n xs :=
 ⟨h.1, fun hn => by obtain ⟨b, off, e, hb, hne, hc⟩ := h.2 hn; exact ⟨b, off, e, hb, hne, fun j hj => (hk ⟨b, off + j, none⟩ hb hne).trans (hc j hj)⟩⟩
theorem Rd.below {w w' : World} {p B B' : Nat} {A : Option Addr} {n : Nat} {xs : List Int} (h : Rd w p B A n xs) (hb : Below B' w w') (hB : B ≤ B') : Rd w' p B A n xs :=
 h.keep fun q hq _ => hb.cell (by omega)
theorem Rd.seg {w : World} {p B : Nat} {A : Option Addr} {n : Nat} {xs : List Int} (h : Rd w p B A n xs) : Seg w B A n xs :=
 ⟨h.1, fun hn => by obtain ⟨b, off, e, hb, _, hc⟩ := h.2 hn; exact ⟨b, off, e, hb, hc⟩⟩
section
variable {w : World} {p : Nat} {A : Option Addr} {n c : Nat} {S : Option Addr} {sn sc : Nat} {sg : List Int} {wr w' : World}
end
end drawTerm
end
section
namespace drawAny
open Go.RowKit base ints sig term cursor termOk marks app sym dice drawSig drawTerm
set_option maxRecDepth 100000
theorem Own.cap {w : World} {base : Nat} {O : Option Addr} {on oc : Nat} {xs : List Int} (h : Own w base (.slice O on oc) xs) : on ≤ oc ∧ oc ≤ 9223372036854775807 := by
 rcases h.2 with ⟨e, _⟩ | ⟨g, cap, cur, e, _, _, h1, h2, _⟩
 ·injection e with _ e1 e2; omega
 ·injection e with _ e1 e2
  have := Own.len h
  unfold maxLen at h2
  omega
theorem Own.some_ {w : World} {base : Nat} {O : Option Addr} {on oc : Nat} {xs : List Int} (h : Own w base (.slice O on oc) xs) (h1 : 1 ≤ on) : ∃ g, O = some ⟨g, 0, none⟩ := by
 rcases h.2 with ⟨e, _⟩ | ⟨g, cap, cur, e, _⟩
 ·injection e with _ e1 e2; omega
 ·injection e with e _ _; exact ⟨g, e⟩
end drawAny
end
section
namespace drawX
open Go.RowKit base ints sig cursor marks app appAt sym segs shape dice
def RdQ (w : World) (Q : Nat → Prop) : (s : Sh) → List Value → Dat s → Prop
 | .num, cs, (x : Int) => cs = [.int .i64 x]
 | .bit, cs, (x : Bool) => cs = [.bool x]
 | .row _ s, cs, (d : List (Dat s)) => ∃ A n c, cs = [.slice A n c] ∧ Cap A n c ∧ d.length = n ∧
   (0 < n → ∃ b off, A = some ⟨b, off, none⟩ ∧ Q b ∧ ∀ j, j < n → ∃ es, es.length = nc s ∧ Piece w b (off + j * nc s) es ∧ RdQ w Q s es (d.getD j (dft s)))
 | .cat a b, cs, d => ∃ ca cb, cs = ca ++ cb ∧ RdQ w Q a ca d.1 ∧ RdQ w Q b cb d.2
section
variable {w w' : World} {Q Q' : Nat → Prop} {B : Nat}
theorem RdQ.keep (hk : ∀ b, Q b → w'.heap[b]? = w.heap[b]?) : ∀ {s : Sh} {cs : List Value} {d : Dat s}, RdQ w Q s cs d → RdQ w' Q s cs d
 | .num, _, _, h => h
 | .bit, _, _, h => h
 | .row _ s, _, _, h => by
  obtain ⟨A, n, c, e, hc, hl, h1⟩ := h
  refine ⟨A, n, c, e, hc, hl, fun hn => ?_⟩
  obtain ⟨b, off, e2, hb, h2⟩ := h1 hn
  refine ⟨b, off, e2, hb, fun j hj => ?_⟩
  obtain ⟨es, he, hp, hr⟩ := h2 j hj
  exact ⟨es, he, hp.keep (fun p hp => World.cell?_of_block (by rw [hp]; exact hk b hb)), hr.keep hk⟩
 | .cat a b, _, _, h => by
  obtain ⟨ca, cb, e, h1, h2⟩ := h
  exact ⟨ca, cb, e, h1.keep hk, h2.keep hk⟩
theorem RdQ.mono (hk : ∀ b, Q b → Q' b) : ∀ {s : Sh} {cs : List Value} {d : Dat s}, RdQ w Q s cs d → RdQ w Q' s cs d
 | .num, _, _, h => h
 | .bit, _, _, h => h
 | .row _ s, _, _, h => by
  obtain ⟨A, n, c, e, hc, hl, h1⟩ := h
  refine ⟨A, n, c, e, hc, hl, fun hn => ?_⟩
  obtain ⟨b, off, e2, hb, h2⟩ := h1 hn
  refine ⟨b, off, e2, hk b hb, fun j hj => ?_⟩
  obtain ⟨es, he, hp, hr⟩ := h2 j hj
  exact ⟨es, he, hp, hr.mono hk⟩
 | .cat a b, _, _, h => by
  obtain ⟨ca, cb, e, h1, h2⟩ := h
  exact ⟨ca, cb, e, h1.mono hk, h2.mono hk⟩
theorem RdQ.rd (hk : ∀ b, Q b → b < B) : ∀ {s : Sh} {cs : List Value} {d : Dat s}, RdQ w Q s cs d → Rd w B s cs d
 | .num, _, _, h => h
 | .bit, _, _, h => h
 | .row _ s, _, _, h => by
  obtain ⟨A, n, c, e, hc, hl, h1⟩ := h
  refine ⟨A, n, c, e, hc, hl, fun hn => ?_⟩
  obtain ⟨b, off, e2, hb, h2⟩ := h1 hn
  refine ⟨b, off, e2, hk b hb, fun j hj => ?_⟩
  obtain ⟨es, he, hp, hr⟩ := h2 j hj
  exact ⟨es, he, hp, hr.rd hk⟩
 | .cat a b, _, _, h => by
  obtain ⟨ca, cb, e, h1, h2⟩ := h
  exact ⟨ca, cb, e, h1.rd hk, h2.rd hk⟩
theorem RdQ.len : ∀ {s : Sh} {cs : List Value} {d : Dat s}, RdQ w Q s cs d → cs.length = nc s
 | .num, _, _, h => by have h : _ = _ := h; rw [h]; rfl
 | .bit, _, _, h => by have h : _ = _ := h; rw [h]; rfl
 | .row _ _, _, _, h => by obtain ⟨A, n, c, e, _⟩ := h; rw [e]; rfl
 | .cat a b, _, _, h => by
  obtain ⟨ca, cb, e, h1, h2⟩ := h
  rw [e, List.length_append, h1.len, h2.len]; rfl
theorem RdQ.cat {a b : Sh} {ca cb : List Value} {x : Dat a} {y : Dat b} (h1 : RdQ w Q a ca x) (h2 : RdQ w Q b cb y) : RdQ w Q (.cat a b) (ca ++ cb) (x, y) := ⟨ca, cb, rfl, h1, h2⟩
theorem RdQ.one : ∀ {s : Sh} {cs : List Value} {d : Dat s}, RdQ w Q s cs d → ∀ u ∈ cs, u.oneCell' = true
 | .num, _, _, h, u, hu => by have h : _ = _ := h; rw [h] at hu; rw [List.mem_singleton.1 hu]; rfl
 | .bit, _, _, h, u, hu => by have h : _ = _ := h; rw [h] at hu; rw [List.mem_singleton.1 hu]; rfl
 | .row _ _, _, _, h, u, hu => by obtain ⟨A, n, c, e, _⟩ := h; rw [e] at hu; rw [List.mem_singleton.1 hu]; rfl
 | .cat a b, _, _, h, u, hu => by
  obtain ⟨ca, cb, e, h1, h2⟩ := h
  rw [e] at hu
  rcases List.mem_append.1 hu with hu | hu
  ·exact h1.one u hu
  ·exact h2.one u hu
theorem rdq_seg {A : Option Addr} {n c : Nat} {xs : List Int} (hl : xs.length = n) (hc : Cap A n c) (h : 0 < n → ∃ b off, A = some ⟨b, off, none⟩ ∧ Q b ∧ ∀ j, j < n → w.cell? ⟨b, off + j, none⟩ = some (.int .i64 (xs.getD j 0))) : RdQ w Q sI [.slice A n c] xs := by
 refine ⟨A, n, c, rfl, hc, hl, fun hn => ?_⟩
 obtain ⟨b, off, e2, hb, h2⟩ := h hn
 refine ⟨b, off, e2, hb, fun j hj => ⟨[.int .i64 (xs.getD j 0)], rfl, fun i hi => ?_, rfl⟩⟩
 have hi : i = 0 := by simpa using hi
 subst hi
 show w.cell? ⟨b, off + j * 1 + 0, none⟩ = some (.int .i64 (xs.getD j 0))
 rw [Nat.mul_one, Nat.add_zero]
 exact h2 j hj
theorem rdq_own {lo : Nat} {A : Option Addr} {n c : Nat} {xs : List Int} (h : Own w lo (.slice A n c) xs) (hQ : ∀ b, lo ≤ b → b < w.heap.size → blk A = some b → Q b) : RdQ w Q sI [.slice A n c] xs := by
 have hl := Own.len h
 refine rdq_seg hl.symm (Go.Proofs.YtlmofkeemlfpgaaGreat.kinds.Ownd.cap (Go.Proofs.YtlmofkeemlfpgaaGreat.kinds.Ownd.of_own h)) fun hn => ?_
 obtain ⟨b, off, e, hb, hc⟩ := (Own.seg h).2 hn
 have hk : blk A = some b := by rw [e]; rfl
 exact ⟨b, off, e, hQ b (World.ownsRow.lt h b (by rw [blk_own]; exact hk)).1 hb hk, hc⟩
end
def OutR (w : World) (p : Nat) (r : Option Nat) (b : Nat) : Prop := b < w.heap.size ∧ b ≠ p ∧ some b ≠ r
section
variable {w w' : World} {p : Nat} {r : Option Nat} {s : Sh} {cs : List Value} {d : Dat s}
end
def cellsOf (k : Nat) (vs : List Value) (j : Nat) : List Value := (vs.drop (j * k)).take k
def OwnQ (w : World) (p lo : Nat) (e : TypeId) (s : Sh) (A : Option Addr) (n c : Nat) (D : List (Dat s)) : Prop :=
 D.length = n ∧ ∃ vs : List Value, w.ownsRow lo e (nc s) (.slice A n c) n vs ∧ ∀ j, j < n → RdQ w (OutR w p (blk A)) s (cellsOf (nc s) vs j) (D.getD j (dft s))
section
variable {w w' : World} {p lo n c : Nat} {e : TypeId} {s : Sh} {A : Option Addr} {D : List (Dat s)}
theorem OwnQ.nil (w : World) (p lo : Nat) (e : TypeId) (s : Sh) : OwnQ w p lo e s none 0 0 [] := ⟨rfl, [], ⟨by simp, .inl ⟨rfl, rfl⟩⟩, fun j hj => absurd hj (Nat.not_lt_zero _)⟩
theorem OwnQ.ge (h : OwnQ w p lo e s A n c D) : ∀ k, blk A = some k → lo ≤ k ∧ k < w.heap.size := fun k hk => by
 obtain ⟨_, vs, ho, _⟩ := h
 exact World.ownsRow.lt ho k (by rw [blk_own]; exact hk)
end
end drawX
end
section
open Go.Lib (hid)
namespace kindsR
open Go.RowKit base ints sig cursor marks app sym appAt segs segsHelp segsMark kinds shape
set_option maxRecDepth 100000
abbrev sSig : Sh := sI
theorem cells_Sig {w : World} {B : Nat} {es : List Value} {d : Dat sSig} (h : Rd w B sSig es d) : ∃ (v0 : Value), es = [v0] := by
 obtain ⟨A0, n0, c0, z0, -⟩ := h
 exact ⟨.slice A0 n0 c0, by rw [z0] <;> rfl⟩
set_option maxHeartbeats 2000000 in
theorem szK_Sig (v0 : Value) (d : Dat sSig) (left : Int) (w : World) (h : Rd w w.heap.size sSig [v0] d) (h0 : 0 ≤ left) (h1 : left ≤ 1048576) :
  Calls Tryz.prog 25 #[.agg #[v0], .int .i64 left] w (AnsSzK w left (sz sSig d)) := by
 have g0 := h
 obtain ⟨t0, ht0⟩ : ∃ t, sz sI d = t := ⟨_, rfl⟩
 have HE : Hid (sz sSig d = t0) := hid (by rw [← ht0]; try rfl)
 have HT0 := hid ht0
 have G0 := hid g0
 obtain ⟨W, hW⟩ : ∃ W, W = w.alloc (.cells #[v0] 24) := ⟨_, rfl⟩
 have r : Row W w.heap.size 24 #[v0] := by rw [hW]; exact Row.new _ _ _
 have bel : Below w.heap.size w W := by rw [hW]; exact (Below.refl _ _).alloc (Nat.le_refl _) _
 have HW := hid hW
 clear hW h g0 ht0
 go_enter Tryz.func25, Tryz.ntmps25
 go_wp2_with fail
 rw [← HW.out]
 refine (szK_ints _ _ left W (G0.out.next bel) h0 h1).mono ?_
 rintro e w1 ⟨he, bb⟩
 rw [HT0.out] at he
 replace r := r.next bb
 replace bel := next_trans bel bb
 clear bb
 by_cases q0 : left - (t0 : Int) < 0
 ·rw [if_pos q0] at he
  subst he
  have F : AnsSzK w left (sz sSig d) (.returned (.int .i64 (-1))) w1 := ⟨by rw [HE.out, if_pos (by omega)], bel⟩
  have HF := hid F
  clear F bel r
  go_wp2
  go_ret
  exact HF.out
 rw [if_neg q0] at he
 obtain ⟨l0, hl0⟩ : ∃ l, left - (t0 : Int) = l := ⟨_, rfl⟩
 rw [hl0] at he
 have a0 : 0 ≤ l0 := by omega
 have b0 : l0 ≤ 1048576 := by omega
 have HL0 := hid hl0
 clear hl0 q0
 subst he
 have F : AnsSzK w left (sz sSig d) (.returned (.int .i64 l0)) w1 := ⟨by have := HL0.out; rw [HE.out, if_neg (by omega)]; exact congrArg (fun z => Ending.returned (.int .i64 z)) (by omega), bel⟩
 have HF := hid F
 clear F bel r
 go_wp2
 go_ret
 exact HF.out
def CopySig (w : World) (d : Dat sSig) (e : Ending) (w' : World) : Prop := ∃ A0 n0 c0, e = .returned (.agg #[.slice A0 n0 c0]) ∧ Owned w' w.heap.size w'.heap.size sSig [.slice A0 n0 c0] d ∧ Below w.heap.size w w'
set_option maxHeartbeats 2000000 in
theorem toK_Sig (v0 : Value) (d : Dat sSig) (w : World) (h : Rd w w.heap.size sSig [v0] d) (hz : sz sSig d ≤ 1048576) :
  Calls Tryz.prog 29 #[.agg #[v0]] w (CopySig w d) := by
 have g0 := h
 have cp0 := CpS.zero w 24 30 #[v0] #[.slice none 0 0]
 obtain ⟨W, hW⟩ : ∃ W, W = ((w.alloc (.cells #[v0] 24)).alloc (.cells #[.slice none 0 0] 30)).alloc (.cells #[.slice none 0 0] 30) := ⟨_, rfl⟩
 rw [← hW] at cp0
 have HW := hid hW
 have G0 := hid g0
 have Z0 : Hid (sz sI d ≤ 1048576) := hid (hz)
 clear hW hz h g0
 go_enter Tryz.func29, Tryz.ntmps29
 go_wp2_with fail
 rw [← HW.out]
 refine (toK_ints _ _ _ ((G0.out.below cp0.bel).more cp0.bel.size) Z0.out).mono ?_
 rintro e w1 ⟨x0A0, x0n0, x0c0, rfl, o0, bb⟩
 have zb0 := bb.size
 have zc0 := cp0.size
 replace cp0 := cp0.next bb
 clear bb
 have f0_0 : w1.frozen? ⟨w.heap.size + 1 + 1, 0, none⟩ = false := cp0.cur.free 0
 have k0_0 : w1.cell? ⟨w.heap.size + 1 + 1, 0, none⟩ = some (.slice none 0 0) := cp0.cur.cell 0
 obtain ⟨w2, hw0⟩ : ∃ x, x = (w1.setCell ⟨w.heap.size + 1 + 1, 0, none⟩ (.slice x0A0 x0n0 x0c0)) := ⟨_, rfl⟩
 replace o0 := o0.put (g := w.heap.size + 1 + 1) (i := 0) (u := .slice x0A0 x0n0 x0c0) (by omega)
 rw [← hw0] at o0
 replace cp0 : CpS w 24 30 #[v0] #[.slice none 0 0] #[.slice x0A0 x0n0 x0c0] w2 := by rw [hw0]; exact (CpS.put cp0 0 (.slice x0A0 x0n0 x0c0))
 have zw0 : w2.heap.size = w1.heap.size := by rw [hw0]; simp
 have HW0 := hid hw0
 clear hw0
 have y0 : w2.cell? ⟨w.heap.size + 1 + 1, 0, none⟩ = some (.slice x0A0 x0n0 x0c0) := cp0.cur.cell 0
 rw [HW0.out] at y0
 have s0 : (w2).cell? ⟨w.heap.size + 1, 0, none⟩ = some (.slice none 0 0) := cp0.res.cell 0
 rw [HW0.out] at s0
 have r0 : (w2).frozen? ⟨w.heap.size + 1, 0, none⟩ = false := cp0.res.free 0
 rw [HW0.out] at r0
 have oo : Owned w2 (w.heap.size + 1 + 1 + 1) w2.heap.size sSig [.slice x0A0 x0n0 x0c0] d := o0.wider (by omega) (by omega)
 have F : CopySig w d (.returned (.agg #[.slice x0A0 x0n0 x0c0])) (w2.setCell ⟨w.heap.size + 1, 0, none⟩ (.slice x0A0 x0n0 x0c0)) := ⟨x0A0, x0n0, x0c0, rfl, Owned.wider ((oo.put (g := w.heap.size + 1) (i := 0) (u := .slice x0A0 x0n0 x0c0) (by omega))) (by omega) (by simp), ((CpS.fin cp0 0 (.slice x0A0 x0n0 x0c0))).bel⟩
 have u0 : ((w2.setCell ⟨w.heap.size + 1, 0, none⟩ (.slice x0A0 x0n0 x0c0))).cell? ⟨w.heap.size + 1, 0, none⟩ = some (.slice x0A0 x0n0 x0c0) := (CpS.fin cp0 0 (.slice x0A0 x0n0 x0c0)).res.cell 0
 rw [HW0.out] at u0
 rw [HW0.out] at F
 have HF := hid F
 clear F oo cp0 o0
 go_wp2
 exact bodyPost_ret (v := .agg #[.slice x0A0 x0n0 x0c0]) (by simp [results, Tryz.results29, go_sem, u0]) rfl HF.out
set_option maxHeartbeats 2000000 in
theorem eqK_Sig (v0 u0 : Value) (d : Dat sSig) (w : World) (h : Rd w w.heap.size sSig [v0] d) (h' : Rd w w.heap.size sSig [u0] d) (hz : sz sSig d ≤ 1048576) :
  Calls Tryz.prog 33 #[.agg #[v0], .agg #[u0]] w (Yes w) := by
 have g0 := h
 have g0' := h'
 obtain ⟨W, hW⟩ : ∃ W, W = (w.alloc (.cells #[v0] 30)).alloc (.cells #[u0] 30) := ⟨_, rfl⟩
 have ra : Row W w.heap.size 30 #[v0] := by rw [hW]; exact (Row.new w 30 #[v0]).alloc _
 have rb : Row W (w.heap.size + 1) 30 #[u0] := by rw [hW]; have := Row.new (w.alloc (.cells #[v0] 30)) 30 #[u0]; simpa using this
 have bel : Below w.heap.size w W := by rw [hW]; exact ((Below.refl _ _).alloc (Nat.le_refl _) _).alloc (by simp) _
 have HW := hid hW
 have G0 := hid g0
 have G0' := hid g0'
 have Z0 : Hid (sz sI d ≤ 1048576) := hid (hz)
 clear hW hz h h' g0 g0'
 go_enter Tryz.func33, Tryz.ntmps33
 go_wp2_with fail
 rw [← HW.out]
 refine (eqK_ints _ _ _ W (G0.out.next bel) (G0'.out.next bel) Z0.out).mono ?_
 rintro e w1 ⟨rfl, bb⟩
 replace ra := ra.next bb
 replace rb := rb.next bb
 replace bel := next_trans bel bb
 clear bb
 have F : Yes w (.returned (.bool true)) w1 := ⟨rfl, bel⟩
 have HF := hid F
 clear F ra rb bel
 go_wp2
 go_ret
 exact HF.out
abbrev sRule : Sh := .cat sI sI
theorem parts_Rule {w : World} {B : Nat} {v0 v1 : Value} {d : Dat sRule} (h : Rd w B sRule [v0, v1] d) : Rd w B sI [v0] d.1 ∧ Rd w B sI [v1] d.2 := by
 obtain ⟨p0, q0⟩ := Rd.split (ca := [v0]) (cb := [v1]) h rfl
 exact ⟨p0, q0⟩
theorem join_Rule {w : World} {lo hi : Nat} {v0 v1 : Value} {d : Dat sRule} {m0 m1 m2 : Nat} (o0 : Owned w m0 m1 sI [v0] d.1) (o1 : Owned w m1 m2 sI [v1] d.2) (l0 : m0 ≤ m1) (l1 : m1 ≤ m2) (hl : lo ≤ m0) (hh : m2 ≤ hi) : Owned w lo hi sRule [v0, v1] d := by
 exact ((Owned.cat o0 o1 (Nat.le_refl _) (by omega) (by omega)) : Owned w m0 m2 sRule [v0, v1] d).wider hl hh
theorem cells_Rule {w : World} {B : Nat} {es : List Value} {d : Dat sRule} (h : Rd w B sRule es d) : ∃ (v0 : Value) (v1 : Value), es = [v0, v1] := by
 obtain ⟨ca0, cb0, e0, p0, q0⟩ := h
 obtain ⟨A0, n0, c0, z0, -⟩ := p0
 obtain ⟨A1, n1, c1, z1, -⟩ := q0
 exact ⟨.slice A0 n0 c0, .slice A1 n1 c1, by rw [e0, z0, z1] <;> rfl⟩
set_option maxHeartbeats 2000000 in
theorem szK_Rule (v0 v1 : Value) (d : Dat sRule) (left : Int) (w : World) (h : Rd w w.heap.size sRule [v0, v1] d) (h0 : 0 ≤ left) (h1 : left ≤ 1048576) :
  Calls Tryz.prog 48 #[.agg #[v0, v1], .int .i64 left] w (AnsSzK w left (sz sRule d)) := by
 obtain ⟨g0, g1⟩ := parts_Rule h
 obtain ⟨t0, ht0⟩ : ∃ t, sz sI d.1 = t := ⟨_, rfl⟩
 obtain ⟨t1, ht1⟩ : ∃ t, sz sI d.2 = t := ⟨_, rfl⟩
 have HE : Hid (sz sRule d = t0 + t1) := hid (by rw [← ht0, ← ht1]; simp only [sz]; try omega)
 have HT0 := hid ht0
 have G0 := hid g0
 have HT1 := hid ht1
 have G1 := hid g1
 obtain ⟨W, hW⟩ : ∃ W, W = w.alloc (.cells #[v0, v1] 67) := ⟨_, rfl⟩
 have r : Row W w.heap.size 67 #[v0, v1] := by rw [hW]; exact Row.new _ _ _
 have bel : Below w.heap.size w W := by rw [hW]; exact (Below.refl _ _).alloc (Nat.le_refl _) _
 have HW := hid hW
 clear hW h g0 g1 ht0 ht1
 go_enter Tryz.func48, Tryz.ntmps48
 go_wp2_with fail
 rw [← HW.out]
 refine (szK_ints _ _ left W (G0.out.next bel) h0 h1).mono ?_
 rintro e w1 ⟨he, bb⟩
 rw [HT0.out] at he
 replace r := r.next bb
 replace bel := next_trans bel bb
 clear bb
 by_cases q0 : left - (t0 : Int) < 0
 ·rw [if_pos q0] at he
  subst he
  have F : AnsSzK w left (sz sRule d) (.returned (.int .i64 (-1))) w1 := ⟨by rw [HE.out, if_pos (by omega)], bel⟩
  have HF := hid F
  clear F bel r
  go_wp2
  go_ret
  exact HF.out
 rw [if_neg q0] at he
 obtain ⟨l0, hl0⟩ : ∃ l, left - (t0 : Int) = l := ⟨_, rfl⟩
 rw [hl0] at he
 have a0 : 0 ≤ l0 := by omega
 have b0 : l0 ≤ 1048576 := by omega
 have HL0 := hid hl0
 clear hl0 q0
 subst he
 have c0_0 : w1.cell? ⟨w.heap.size, 1, none⟩ = some (v1) := r.cell 1
 go_wp2_with fail
 refine (szK_ints _ _ l0 w1 (G1.out.next bel) a0 b0).mono ?_
 rintro e w2 ⟨he, bb⟩
 rw [HT1.out] at he
 replace r := r.next bb
 replace bel := next_trans bel bb
 clear bb
 by_cases q1 : l0 - (t1 : Int) < 0
 ·rw [if_pos q1] at he
  subst he
  have F : AnsSzK w left (sz sRule d) (.returned (.int .i64 (-1))) w2 := ⟨by have := HL0.out; rw [HE.out, if_pos (by omega)], bel⟩
  have HF := hid F
  clear F bel r
  go_wp2
  go_ret
  exact HF.out
 rw [if_neg q1] at he
 obtain ⟨l1, hl1⟩ : ∃ l, l0 - (t1 : Int) = l := ⟨_, rfl⟩
 rw [hl1] at he
 have a1 : 0 ≤ l1 := by omega
 have b1 : l1 ≤ 1048576 := by omega
 have HL1 := hid hl1
 clear hl1 q1
 subst he
 have F : AnsSzK w left (sz sRule d) (.returned (.int .i64 l1)) w2 := ⟨by have := HL0.out; have := HL1.out; rw [HE.out, if_neg (by omega)]; exact congrArg (fun z => Ending.returned (.int .i64 z)) (by omega), bel⟩
 have HF := hid F
 clear F bel r
 go_wp2
 go_ret
 exact HF.out
def CopyRule (w : World) (d : Dat sRule) (e : Ending) (w' : World) : Prop := ∃ A0 n0 c0 A1 n1 c1, e = .returned (.agg #[.slice A0 n0 c0, .slice A1 n1 c1]) ∧ Owned w' w.heap.size w'.heap.size sRule [.slice A0 n0 c0, .slice A1 n1 c1] d ∧ Below w.heap.size w w'
set_option maxHeartbeats 2000000 in
theorem toK_Rule (v0 v1 : Value) (d : Dat sRule) (w : World) (h : Rd w w.heap.size sRule [v0, v1] d) (hz : sz sRule d ≤ 1048576) :
  Calls Tryz.prog 53 #[.agg #[v0, v1]] w (CopyRule w d) := by
 obtain ⟨g0, g1⟩ := parts_Rule h
 have cp0 := CpS.zero w 67 69 #[v0, v1] #[.slice none 0 0, .slice none 0 0]
 obtain ⟨W, hW⟩ : ∃ W, W = ((w.alloc (.cells #[v0, v1] 67)).alloc (.cells #[.slice none 0 0, .slice none 0 0] 69)).alloc (.cells #[.slice none 0 0, .slice none 0 0] 69) := ⟨_, rfl⟩
 rw [← hW] at cp0
 have HW := hid hW
 have G0 := hid g0
 have Z0 : Hid (sz sI d.1 ≤ 1048576) := hid (by have := hz; simp only [sz] at this ⊢; omega)
 have G1 := hid g1
 have Z1 : Hid (sz sI d.2 ≤ 1048576) := hid (by have := hz; simp only [sz] at this ⊢; omega)
 clear hW hz h g0 g1
 go_enter Tryz.func53, Tryz.ntmps53
 go_wp2_with fail
 rw [← HW.out]
 refine (toK_ints _ _ _ ((G0.out.below cp0.bel).more cp0.bel.size) Z0.out).mono ?_
 rintro e w1 ⟨x0A0, x0n0, x0c0, rfl, o0, bb⟩
 have zb0 := bb.size
 have zc0 := cp0.size
 replace cp0 := cp0.next bb
 clear bb
 have f0_0 : w1.frozen? ⟨w.heap.size + 1 + 1, 0, none⟩ = false := cp0.cur.free 0
 have k0_0 : w1.cell? ⟨w.heap.size + 1 + 1, 0, none⟩ = some (.slice none 0 0) := cp0.cur.cell 0
 obtain ⟨w2, hw0⟩ : ∃ x, x = (w1.setCell ⟨w.heap.size + 1 + 1, 0, none⟩ (.slice x0A0 x0n0 x0c0)) := ⟨_, rfl⟩
 replace o0 := o0.put (g := w.heap.size + 1 + 1) (i := 0) (u := .slice x0A0 x0n0 x0c0) (by omega)
 rw [← hw0] at o0
 replace cp0 : CpS w 67 69 #[v0, v1] #[.slice none 0 0, .slice none 0 0] #[.slice x0A0 x0n0 x0c0, .slice none 0 0] w2 := by rw [hw0]; exact (CpS.put cp0 0 (.slice x0A0 x0n0 x0c0))
 have zw0 : w2.heap.size = w1.heap.size := by rw [hw0]; simp
 have HW0 := hid hw0
 clear hw0
 have d1_0 : w2.cell? ⟨w.heap.size, 1, none⟩ = some (v1) := cp0.box.cell 1
 rw [HW0.out] at d1_0
 go_wp2_with fail
 rw [← HW0.out]
 clear d1_0
 refine (toK_ints _ _ _ ((G1.out.below cp0.bel).more cp0.bel.size) Z1.out).mono ?_
 rintro e w3 ⟨x1A0, x1n0, x1c0, rfl, o1, bb⟩
 replace o0 := o0.next bb
 have zb1 := bb.size
 have zc1 := cp0.size
 replace cp0 := cp0.next bb
 clear bb
 have f1_0 : w3.frozen? ⟨w.heap.size + 1 + 1, 1, none⟩ = false := cp0.cur.free 1
 have k1_0 : w3.cell? ⟨w.heap.size + 1 + 1, 1, none⟩ = some (.slice none 0 0) := cp0.cur.cell 1
 obtain ⟨w4, hw1⟩ : ∃ x, x = (w3.setCell ⟨w.heap.size + 1 + 1, 1, none⟩ (.slice x1A0 x1n0 x1c0)) := ⟨_, rfl⟩
 replace o0 := o0.put (g := w.heap.size + 1 + 1) (i := 1) (u := .slice x1A0 x1n0 x1c0) (by omega)
 rw [← hw1] at o0
 replace o1 := o1.put (g := w.heap.size + 1 + 1) (i := 1) (u := .slice x1A0 x1n0 x1c0) (by omega)
 rw [← hw1] at o1
 replace cp0 : CpS w 67 69 #[v0, v1] #[.slice none 0 0, .slice none 0 0] #[.slice x0A0 x0n0 x0c0, .slice x1A0 x1n0 x1c0] w4 := by rw [hw1]; exact (CpS.put cp0 1 (.slice x1A0 x1n0 x1c0))
 have zw1 : w4.heap.size = w3.heap.size := by rw [hw1]; simp
 have HW1 := hid hw1
 clear hw1
 have y0 : w4.cell? ⟨w.heap.size + 1 + 1, 0, none⟩ = some (.slice x0A0 x0n0 x0c0) := cp0.cur.cell 0
 rw [HW1.out] at y0
 have y1 : w4.cell? ⟨w.heap.size + 1 + 1, 1, none⟩ = some (.slice x1A0 x1n0 x1c0) := cp0.cur.cell 1
 rw [HW1.out] at y1
 have s0 : (w4).cell? ⟨w.heap.size + 1, 0, none⟩ = some (.slice none 0 0) := cp0.res.cell 0
 rw [HW1.out] at s0
 have r0 : (w4).frozen? ⟨w.heap.size + 1, 0, none⟩ = false := cp0.res.free 0
 rw [HW1.out] at r0
 have s1 : ((w4.setCell ⟨w.heap.size + 1, 0, none⟩ (.slice x0A0 x0n0 x0c0))).cell? ⟨w.heap.size + 1, 1, none⟩ = some (.slice none 0 0) := (CpS.fin cp0 0 (.slice x0A0 x0n0 x0c0)).res.cell 1
 rw [HW1.out] at s1
 have r1 : ((w4.setCell ⟨w.heap.size + 1, 0, none⟩ (.slice x0A0 x0n0 x0c0))).frozen? ⟨w.heap.size + 1, 1, none⟩ = false := (CpS.fin cp0 0 (.slice x0A0 x0n0 x0c0)).res.free 1
 rw [HW1.out] at r1
 have oo : Owned w4 (w.heap.size + 1 + 1 + 1) w4.heap.size sRule [.slice x0A0 x0n0 x0c0, .slice x1A0 x1n0 x1c0] d := join_Rule (m0 := W.heap.size) (m1 := w2.heap.size) (m2 := w4.heap.size) (o0.wider (Nat.le_refl _) (by omega)) (o1.wider (Nat.le_refl _) (by omega)) (by omega) (by omega) (by omega) (by omega)
 have F : CopyRule w d (.returned (.agg #[.slice x0A0 x0n0 x0c0, .slice x1A0 x1n0 x1c0])) ((w4.setCell ⟨w.heap.size + 1, 0, none⟩ (.slice x0A0 x0n0 x0c0)).setCell ⟨w.heap.size + 1, 1, none⟩ (.slice x1A0 x1n0 x1c0)) := ⟨x0A0, x0n0, x0c0, x1A0, x1n0, x1c0, rfl, Owned.wider (((oo.put (g := w.heap.size + 1) (i := 0) (u := .slice x0A0 x0n0 x0c0) (by omega)).put (g := w.heap.size + 1) (i := 1) (u := .slice x1A0 x1n0 x1c0) (by omega))) (by omega) (by simp), ((CpS.fin (CpS.fin cp0 0 (.slice x0A0 x0n0 x0c0)) 1 (.slice x1A0 x1n0 x1c0))).bel⟩
 have u0 : (((w4.setCell ⟨w.heap.size + 1, 0, none⟩ (.slice x0A0 x0n0 x0c0)).setCell ⟨w.heap.size + 1, 1, none⟩ (.slice x1A0 x1n0 x1c0))).cell? ⟨w.heap.size + 1, 0, none⟩ = some (.slice x0A0 x0n0 x0c0) := (CpS.fin (CpS.fin cp0 0 (.slice x0A0 x0n0 x0c0)) 1 (.slice x1A0 x1n0 x1c0)).res.cell 0
 rw [HW1.out] at u0
 have u1 : (((w4.setCell ⟨w.heap.size + 1, 0, none⟩ (.slice x0A0 x0n0 x0c0)).setCell ⟨w.heap.size + 1, 1, none⟩ (.slice x1A0 x1n0 x1c0))).cell? ⟨w.heap.size + 1, 1, none⟩ = some (.slice x1A0 x1n0 x1c0) := (CpS.fin (CpS.fin cp0 0 (.slice x0A0 x0n0 x0c0)) 1 (.slice x1A0 x1n0 x1c0)).res.cell 1
 rw [HW1.out] at u1
 rw [HW1.out] at F
 have HF := hid F
 clear F oo cp0 o0 o1
 go_wp2
 exact bodyPost_ret (v := .agg #[.slice x0A0 x0n0 x0c0, .slice x1A0 x1n0 x1c0]) (by simp [results, Tryz.results53, go_sem, u0, u1]) rfl HF.out
set_option maxHeartbeats 2000000 in
theorem eqK_Rule (v0 v1 u0 u1 : Value) (d : Dat sRule) (w : World) (h : Rd w w.heap.size sRule [v0, v1] d) (h' : Rd w w.heap.size sRule [u0, u1] d) (hz : sz sRule d ≤ 1048576) :
  Calls Tryz.prog 57 #[.agg #[v0, v1], .agg #[u0, u1]] w (Yes w) := by
 obtain ⟨g0, g1⟩ := parts_Rule h
 obtain ⟨g0', g1'⟩ := parts_Rule h'
 obtain ⟨W, hW⟩ : ∃ W, W = (w.alloc (.cells #[v0, v1] 69)).alloc (.cells #[u0, u1] 69) := ⟨_, rfl⟩
 have ra : Row W w.heap.size 69 #[v0, v1] := by rw [hW]; exact (Row.new w 69 #[v0, v1]).alloc _
 have rb : Row W (w.heap.size + 1) 69 #[u0, u1] := by rw [hW]; have := Row.new (w.alloc (.cells #[v0, v1] 69)) 69 #[u0, u1]; simpa using this
 have bel : Below w.heap.size w W := by rw [hW]; exact ((Below.refl _ _).alloc (Nat.le_refl _) _).alloc (by simp) _
 have HW := hid hW
 have G0 := hid g0
 have G0' := hid g0'
 have Z0 : Hid (sz sI d.1 ≤ 1048576) := hid (by have := hz; simp only [sz] at this ⊢; omega)
 have G1 := hid g1
 have G1' := hid g1'
 have Z1 : Hid (sz sI d.2 ≤ 1048576) := hid (by have := hz; simp only [sz] at this ⊢; omega)
 clear hW hz h h' g0 g0' g1 g1'
 go_enter Tryz.func57, Tryz.ntmps57
 go_wp2_with fail
 rw [← HW.out]
 refine (eqK_ints _ _ _ W (G0.out.next bel) (G0'.out.next bel) Z0.out).mono ?_
 rintro e w1 ⟨rfl, bb⟩
 replace ra := ra.next bb
 replace rb := rb.next bb
 replace bel := next_trans bel bb
 clear bb
 have a1_0 : w1.cell? ⟨w.heap.size, 1, none⟩ = some (v1) := ra.cell 1
 have b1_0 : w1.cell? ⟨w.heap.size + 1, 1, none⟩ = some (u1) := rb.cell 1
 go_wp2_with fail
 clear a1_0 b1_0
 refine (eqK_ints _ _ _ w1 (G1.out.next bel) (G1'.out.next bel) Z1.out).mono ?_
 rintro e w2 ⟨rfl, bb⟩
 replace ra := ra.next bb
 replace rb := rb.next bb
 replace bel := next_trans bel bb
 clear bb
 have F : Yes w (.returned (.bool true)) w2 := ⟨rfl, bel⟩
 have HF := hid F
 clear F ra rb bel
 go_wp2
 go_ret
 exact HF.out
abbrev sRuleS : Sh := .row 69 sRule
set_option maxHeartbeats 2000000 in
theorem szK_RuleS (v : Value) (D : List (Dat sRule)) (left : Int) (w : World) (h : Rd w w.heap.size sRuleS [v] D) (h0 : 0 ≤ left) (h1 : left ≤ 1048576) :
  Calls Tryz.prog 26 #[v, .int .i64 left] w (AnsSzK w left (sz sRuleS D)) := by
 obtain ⟨A, c, rfl, hcap⟩ := h.slice
 obtain ⟨n, hn⟩ : ∃ n, D.length = n := ⟨_, rfl⟩
 rw [hn] at h hcap ⊢
 have hmax : n ≤ 9223372036854775807 := Nat.le_trans hcap.1 hcap.2.1
 have HN := hid hn
 have H := hid h
 clear hcap hn h
 by_cases hs : left - n < 0
 ·have S : AnsSzK w left (sz sRuleS D) (.returned (.int .i64 (-1))) w := ⟨by rw [if_pos (by rw [sz_row, HN.out]; omega)], Below.refl _ _⟩
  have HS := hid S
  clear S
  go_enter Tryz.func26, Tryz.ntmps26
  go_wp2
  go_ret
  exact HS.out
 go_enter Tryz.func26, Tryz.ntmps26
 go_wp2
 go_loopw [1, 5] (fun l i wr => HeadSzK w n sRule D left l i wr) (fun _ i _ => n - (intOf i).toNat)
 case atStart => exact headSzK_zero (by omega)
 case round =>
  obtain ⟨k, hk, rfl, rfl, hge, hb⟩ := hrel
  by_cases hlt : k < n
  ·obtain ⟨b, off, n2, c2, es, ev, -, -, hbB, hel, hp, hr⟩ := H.out.elem (j := k) (by rw [HN.out]; exact hlt)
   injection ev with e1 e2 e3
   subst e1 e2 e3
   obtain ⟨v0, v1, rfl⟩ := cells_Rule hr
   have hpw := hp.keep (w' := wr) (fun p hp => hb.cell (p := p) (by rw [hp]; exact hbB))
   have c0 : wr.cell? ⟨b, off + k * 2, none⟩ = some (v0) := hpw 0 (by simp)
   have c1 : wr.cell? ⟨b, off + k * 2 + 1, none⟩ = some (v1) := hpw 1 (by simp)
   obtain ⟨t, ht⟩ : ∃ t, sz sRule (D.getD k (dft sRule)) = t := ⟨_, rfl⟩
   obtain ⟨l, hl⟩ : ∃ l, left - n - szs sRule D k = l := ⟨_, rfl⟩
   have hsum := szs_succ (s := sRule) (d := D) (k := k) (by rw [HN.out]; exact hlt)
   rw [ht] at hsum
   rw [hl] at hge ⊢
   have hle : l ≤ 1048576 := by omega
   have L := hid (szK_Rule _ _ (D.getD k (dft sRule)) l wr ((hr.below hb).more hb.size) hge hle)
   rw [ht] at L
   have BAD := hid (fun (q : l - (t : Int) < 0) => headSzK_bad (e := 69) (D := D) (left := left) HN.out hlt hsum (by rw [hl]; exact q))
   have GOOD := hid (fun (q : ¬ l - (t : Int) < 0) (w1 : World) (hb : Below w.heap.size w w1) => headSzK_step (D := D) (left := left) (l := l) hlt hsum hl q hb)
   have HB := hid hb
   clear hr hel hp hpw ht hl hsum hb
   go_wp2_with fail
   refine L.out.mono ?_
   rintro e w1 ⟨he, bb⟩
   by_cases q : l - (t : Int) < 0
   ·rw [if_pos q] at he
    subst he
    have F : AnsSzK w left (sz sRuleS D) (.returned (.int .i64 (-1))) w1 := ⟨BAD.out (by omega), next_trans HB.out bb⟩
    have HF := hid F
    clear F bb L GOOD BAD
    go_wp2
    go_ret
    exact HF.out
   ·rw [if_neg q] at he
    subst he
    have F := hid (GOOD.out (by omega) w1 (next_trans HB.out bb))
    clear bb L GOOD BAD
    go_wp2
    go_roundw
    case rel => exact F.out
    case measure => simp [intOf]; omega
  ·have F := hid (headSzK_end (e := 69) HN.out hlt hk hge hb)
   clear hge hb
   go_wp2
   go_ret
   exact F.out
theorem info_RuleS : (Tryz.prog.info? 69).map (fun i => (i.zero, i.size, i.bytes)) = some (some (.agg #[.slice none 0 0, .slice none 0 0]), 2, 48) := by kernel_rfl
theorem make_RuleS (n : Nat) (hn : n ≤ 1048576) (W : World) : (Instr.makeSlice 31 (.int .i64 (n : Int)) (.int .i64 (n : Int))).run Tryz.prog W =
  .ok (.slice (some ⟨W.heap.size, 0, none⟩) n n) (W.alloc (.cells (madeCells #[.slice none 0 0, .slice none 0 0] (n * 2)) 69)) := by
 obtain ⟨i0, hi, hz0, hz1, hz2⟩ := info_parts info_RuleS
 have hr := run_make (P := Tryz.prog) W 31 69 i0 _ Tryz.underlying31 hi hz0 .i64 .i64 n n (by omega) (by omega) (by rw [hz2]; omega) (by omega)
 simpa [hz1, Value.cells] using hr
set_option maxHeartbeats 2000000 in
theorem toK_RuleS (v : Value) (D : List (Dat sRule)) (w : World) (h : Rd w w.heap.size sRuleS [v] D) (hz : sz sRuleS D ≤ 1048576) :
  Calls Tryz.prog 30 #[v] w (Copy1 w sRuleS D) := by
 obtain ⟨A, c, rfl, hcap⟩ := h.slice
 obtain ⟨n, hn⟩ : ∃ n, D.length = n := ⟨_, rfl⟩
 have hn1 : n ≤ 1048576 := by rw [← hn]; exact sz_len hz
 rw [hn] at h hcap ⊢
 have HN := hid hn
 have H := hid h
 have HZ := hid hz
 clear hcap hn h hz
 have hmk := make_RuleS n hn1
 have S0 := hid (headCp_zero (s := sRule) (e := 69) (w := w) (n := n) (D := D) (cs := madeCells #[.slice none 0 0, .slice none 0 0] (n * 2)) (size_madeCells _ _))
 go_enter Tryz.func30, Tryz.ntmps30
 go_wp2
 clear hmk
 go_loopw [4] (fun i wr => HeadCp w 69 sRule n D i wr) (fun i _ => n - (intOf i).toNat)
 case atStart => exact S0.out
 case round =>
  obtain ⟨k, ks, E, G, hk, rfl, hr, hs, hnd, hi, hb⟩ := hrel
  clear S0
  by_cases hlt : k < n
  ·have hkD : k < D.length := by rw [HN.out]; exact hlt
   obtain ⟨b, off, n2, c2, es, ev, -, -, hbB, hel, hp, hrd⟩ := H.out.elem hkD
   injection ev with e1 e2 e3
   subst e1 e2 e3
   obtain ⟨v0, v1, rfl⟩ := cells_Rule hrd
   have hpw := hp.keep (w' := wr) (fun p hp => hb.cell (p := p) (by rw [hp]; exact hbB))
   have c0 : wr.cell? ⟨b, off + k * 2, none⟩ = some (v0) := hpw 0 (by simp)
   have c1 : wr.cell? ⟨b, off + k * 2 + 1, none⟩ = some (v1) := hpw 1 (by simp)
   have L := hid (toK_Rule _ _ (D.getD k (dft sRule)) wr ((hrd.below hb).more hb.size) (sz_each HZ.out hkD))
   have R := hid (fun w1 xA0 xn0 xc0 xA1 xn1 xc1 ho bb => headCp_step (w1 := w1) (es := [.slice xA0 xn0 xc0, .slice xA1 xn1 xc1]) hlt hr hs hnd hi hb ho bb)
   have rr := hr
   have hsz : ks.size = n * 2 := hs
   have HS := hid hsz
   clear hr hs hnd hi hb hrd hel hp hpw hsz
   go_wp2_with fail
   refine L.out.mono ?_
   rintro e w1 ⟨xA0, xn0, xc0, xA1, xn1, xc1, rfl, ho, bb⟩
   have S := hid (R.out w1 xA0 xn0 xc0 xA1 xn1 xc1 ho bb)
   have rr1 := rr.next bb
   obtain ⟨u0, hu0⟩ : ∃ u, w1.cell? ⟨w.heap.size, k * 2, none⟩ = some u := ⟨_, (rr1.cell _).trans (Array.getElem?_eq_getElem (by rw [HS.out]; omega))⟩
   have hf0 : w1.frozen? ⟨w.heap.size, k * 2, none⟩ = false := rr1.free _
   obtain ⟨u1, hu1⟩ : ∃ u, w1.cell? ⟨w.heap.size, k * 2 + 1, none⟩ = some u := ⟨_, (rr1.cell _).trans (Array.getElem?_eq_getElem (by rw [HS.out]; omega))⟩
   have hf1 : w1.frozen? ⟨w.heap.size, k * 2 + 1, none⟩ = false := rr1.free _
   clear ho bb rr rr1 L R
   go_wp2
   go_roundw
   case rel => exact S.out
   case measure => simp [intOf]; omega
  ·have e1 : k = n := by omega
   subst e1
   have F := hid (headCp_end HN.out hn1 hr hs hnd hi hb)
   clear hr hs hnd hi hb
   go_wp2
   go_ret
   exact F.out
set_option maxHeartbeats 2000000 in
theorem eqK_RuleS (v u : Value) (D : List (Dat sRule)) (w : World) (h : Rd w w.heap.size sRuleS [v] D) (h' : Rd w w.heap.size sRuleS [u] D) (hz : sz sRuleS D ≤ 1048576) :
  Calls Tryz.prog 34 #[v, u] w (Yes w) := by
 obtain ⟨A, c, rfl, hcap⟩ := h.slice
 obtain ⟨A', c', rfl, hcap'⟩ := h'.slice
 obtain ⟨n, hn⟩ : ∃ n, D.length = n := ⟨_, rfl⟩
 have hn1 : n ≤ 1048576 := by rw [← hn]; exact sz_len hz
 rw [hn] at h h' hcap hcap' ⊢
 have HN := hid hn
 have H := hid h
 have H' := hid h'
 have HZ := hid hz
 clear hcap hcap' hn h h' hz
 go_enter Tryz.func34, Tryz.ntmps34
 go_wp2
 go_loopw [5] (fun i wr => ∃ k : Nat, k ≤ n ∧ i = .int .i64 k ∧ Below w.heap.size w wr) (fun i _ => n - (intOf i).toNat)
 case atStart => exact ⟨0, Nat.zero_le _, rfl, Below.refl _ _⟩
 case round =>
  obtain ⟨k, hk, rfl, hb⟩ := hrel
  by_cases hlt : k < n
  ·have hkD : k < D.length := by rw [HN.out]; exact hlt
   obtain ⟨b, off, n2, c2, es, ev, -, -, hbB, hel, hp, hrd⟩ := H.out.elem hkD
   injection ev with e1 e2 e3
   subst e1 e2 e3
   obtain ⟨b', off', n2, c2, es', ev, -, -, hbB', hel', hp', hrd'⟩ := H'.out.elem hkD
   injection ev with e1 e2 e3
   subst e1 e2 e3
   obtain ⟨v0, v1, rfl⟩ := cells_Rule hrd
   obtain ⟨u0, u1, rfl⟩ := cells_Rule hrd'
   replace hb := hb.drew
   have hpw := hp.keep (w' := wr.drew) (fun p hp => hb.cell (p := p) (by rw [hp]; exact hbB))
   have hpw' := hp'.keep (w' := wr.drew) (fun p hp => hb.cell (p := p) (by rw [hp]; exact hbB'))
   have c0 : wr.drew.cell? ⟨b, off + k * 2, none⟩ = some (v0) := hpw 0 (by simp)
   have c0' : wr.drew.cell? ⟨b', off' + k * 2, none⟩ = some (u0) := hpw' 0 (by simp)
   have c1 : wr.drew.cell? ⟨b, off + k * 2 + 1, none⟩ = some (v1) := hpw 1 (by simp)
   have c1' : wr.drew.cell? ⟨b', off' + k * 2 + 1, none⟩ = some (u1) := hpw' 1 (by simp)
   have L := hid (eqK_Rule _ _ _ _ (D.getD k (dft sRule)) wr.drew ((hrd.below hb).more hb.size) ((hrd'.below hb).more hb.size) (sz_each HZ.out hkD))
   have HB := hid hb
   have hlb : b < wr.drew.heap.size := Nat.lt_of_lt_of_le hbB hb.size
   have hlb' : b' < wr.drew.heap.size := Nat.lt_of_lt_of_le hbB' hb.size
   clear hrd hrd' hel hel' hp hp' hpw hpw' hb
   go_wp2_with fail
   go_region_held3 (fun w' => w'.cell? ⟨b, off + k * 2, none⟩ = some (v0) ∧ w'.cell? ⟨b', off' + k * 2, none⟩ = some (u0) ∧ w'.cell? ⟨b, off + k * 2 + 1, none⟩ = some (v1) ∧ w'.cell? ⟨b', off' + k * 2 + 1, none⟩ = some (u1))
    (go_keep)
    (first | (go_at_call 57; refine L.out.mono ?_; rintro e w1 ⟨rfl, bb⟩; have m0 := (bb.cell (p := ⟨b, off + k * 2, none⟩) hlb).trans c0; have m1 := (bb.cell (p := ⟨b', off' + k * 2, none⟩) hlb').trans c0'; have m2 := (bb.cell (p := ⟨b, off + k * 2 + 1, none⟩) hlb).trans c1; have m3 := (bb.cell (p := ⟨b', off' + k * 2 + 1, none⟩) hlb').trans c1'))
   have HB1 := hid (next_trans HB.out bb)
   clear bb L c0 c0' c1 c1' m0 m1 m2 m3
   go_wp2
   go_roundw
   case rel => exact ⟨k + 1, hlt, by simp, HB1.out⟩
   case measure => simp [intOf]; omega
  ·have HB := hid hb
   clear hb
   go_wp2
   go_ret
   exact ⟨rfl, HB.out⟩
abbrev sSystem : Sh := .cat sSig sRuleS
theorem parts_System {w : World} {B : Nat} {v0 v1 : Value} {d : Dat sSystem} (h : Rd w B sSystem [v0, v1] d) : Rd w B sSig [v0] d.1 ∧ Rd w B sRuleS [v1] d.2 := by
 obtain ⟨p0, q0⟩ := Rd.split (ca := [v0]) (cb := [v1]) h rfl
 exact ⟨p0, q0⟩
theorem join_System {w : World} {lo hi : Nat} {v0 v1 : Value} {d : Dat sSystem} {m0 m1 m2 : Nat} (o0 : Owned w m0 m1 sSig [v0] d.1) (o1 : Owned w m1 m2 sRuleS [v1] d.2) (l0 : m0 ≤ m1) (l1 : m1 ≤ m2) (hl : lo ≤ m0) (hh : m2 ≤ hi) : Owned w lo hi sSystem [v0, v1] d := by
 exact ((Owned.cat o0 o1 (Nat.le_refl _) (by omega) (by omega)) : Owned w m0 m2 sSystem [v0, v1] d).wider hl hh
theorem cells_System {w : World} {B : Nat} {es : List Value} {d : Dat sSystem} (h : Rd w B sSystem es d) : ∃ (v0 : Value) (v1 : Value), es = [v0, v1] := by
 obtain ⟨ca0, cb0, e0, p0, q0⟩ := h
 obtain ⟨u0, z0⟩ := cells_Sig p0
 obtain ⟨A1, n1, c1, z1, -⟩ := q0
 exact ⟨u0, .slice A1 n1 c1, by rw [e0, z0, z1] <;> rfl⟩
set_option maxHeartbeats 2000000 in
theorem szK_System (v0 v1 : Value) (d : Dat sSystem) (left : Int) (w : World) (h : Rd w w.heap.size sSystem [v0, v1] d) (h0 : 0 ≤ left) (h1 : left ≤ 1048576) :
  Calls Tryz.prog 7 #[.agg #[v0, v1], .int .i64 left] w (AnsSzK w left (sz sSystem d)) := by
 obtain ⟨g0, g1⟩ := parts_System h
 obtain ⟨t0, ht0⟩ : ∃ t, sz sSig d.1 = t := ⟨_, rfl⟩
 obtain ⟨t1, ht1⟩ : ∃ t, sz sRuleS d.2 = t := ⟨_, rfl⟩
 have HE : Hid (sz sSystem d = t0 + t1) := hid (by rw [← ht0, ← ht1]; simp only [sz]; try omega)
 have HT0 := hid ht0
 have G0 := hid g0
 have HT1 := hid ht1
 have G1 := hid g1
 obtain ⟨W, hW⟩ : ∃ W, W = w.alloc (.cells #[v0, v1] 27) := ⟨_, rfl⟩
 have r : Row W w.heap.size 27 #[v0, v1] := by rw [hW]; exact Row.new _ _ _
 have bel : Below w.heap.size w W := by rw [hW]; exact (Below.refl _ _).alloc (Nat.le_refl _) _
 have HW := hid hW
 clear hW h g0 g1 ht0 ht1
 go_enter Tryz.func7, Tryz.ntmps7
 go_wp2_with fail
 rw [← HW.out]
 refine (szK_Sig _ _ left W (G0.out.next bel) h0 h1).mono ?_
 rintro e w1 ⟨he, bb⟩
 rw [HT0.out] at he
 replace r := r.next bb
 replace bel := next_trans bel bb
 clear bb
 by_cases q0 : left - (t0 : Int) < 0
 ·rw [if_pos q0] at he
  subst he
  have F : AnsSzK w left (sz sSystem d) (.returned (.int .i64 (-1))) w1 := ⟨by rw [HE.out, if_pos (by omega)], bel⟩
  have HF := hid F
  clear F bel r
  go_wp2
  go_ret
  exact HF.out
 rw [if_neg q0] at he
 obtain ⟨l0, hl0⟩ : ∃ l, left - (t0 : Int) = l := ⟨_, rfl⟩
 rw [hl0] at he
 have a0 : 0 ≤ l0 := by omega
 have b0 : l0 ≤ 1048576 := by omega
 have HL0 := hid hl0
 clear hl0 q0
 subst he
 have c0_0 : w1.cell? ⟨w.heap.size, 1, none⟩ = some (v1) := r.cell 1
 go_wp2_with fail
 refine (szK_RuleS _ _ l0 w1 (G1.out.next bel) a0 b0).mono ?_
 rintro e w2 ⟨he, bb⟩
 rw [HT1.out] at he
 replace r := r.next bb
 replace bel := next_trans bel bb
 clear bb
 by_cases q1 : l0 - (t1 : Int) < 0
 ·rw [if_pos q1] at he
  subst he
  have F : AnsSzK w left (sz sSystem d) (.returned (.int .i64 (-1))) w2 := ⟨by have := HL0.out; rw [HE.out, if_pos (by omega)], bel⟩
  have HF := hid F
  clear F bel r
  go_wp2
  go_ret
  exact HF.out
 rw [if_neg q1] at he
 obtain ⟨l1, hl1⟩ : ∃ l, l0 - (t1 : Int) = l := ⟨_, rfl⟩
 rw [hl1] at he
 have a1 : 0 ≤ l1 := by omega
 have b1 : l1 ≤ 1048576 := by omega
 have HL1 := hid hl1
 clear hl1 q1
 subst he
 have F : AnsSzK w left (sz sSystem d) (.returned (.int .i64 l1)) w2 := ⟨by have := HL0.out; have := HL1.out; rw [HE.out, if_neg (by omega)]; exact congrArg (fun z => Ending.returned (.int .i64 z)) (by omega), bel⟩
 have HF := hid F
 clear F bel r
 go_wp2
 go_ret
 exact HF.out
def CopySystem (w : World) (d : Dat sSystem) (e : Ending) (w' : World) : Prop := ∃ A0 n0 c0 A1 n1 c1, e = .returned (.agg #[.slice A0 n0 c0, .slice A1 n1 c1]) ∧ Owned w' w.heap.size w'.heap.size sSystem [.slice A0 n0 c0, .slice A1 n1 c1] d ∧ Below w.heap.size w w'
set_option maxHeartbeats 2000000 in
theorem toK_System (v0 v1 : Value) (d : Dat sSystem) (w : World) (h : Rd w w.heap.size sSystem [v0, v1] d) (hz : sz sSystem d ≤ 1048576) :
  Calls Tryz.prog 9 #[.agg #[v0, v1]] w (CopySystem w d) := by
 obtain ⟨g0, g1⟩ := parts_System h
 have cp0 := CpS.zero w 27 33 #[v0, v1] #[.slice none 0 0, .slice none 0 0]
 obtain ⟨W, hW⟩ : ∃ W, W = ((w.alloc (.cells #[v0, v1] 27)).alloc (.cells #[.slice none 0 0, .slice none 0 0] 33)).alloc (.cells #[.slice none 0 0, .slice none 0 0] 33) := ⟨_, rfl⟩
 rw [← hW] at cp0
 have HW := hid hW
 have G0 := hid g0
 have Z0 : Hid (sz sSig d.1 ≤ 1048576) := hid (by have := hz; simp only [sz] at this ⊢; omega)
 have G1 := hid g1
 have Z1 : Hid (sz sRuleS d.2 ≤ 1048576) := hid (by have := hz; simp only [sz] at this ⊢; omega)
 clear hW hz h g0 g1
 go_enter Tryz.func9, Tryz.ntmps9
 go_wp2_with fail
 rw [← HW.out]
 refine (toK_Sig _ _ _ ((G0.out.below cp0.bel).more cp0.bel.size) Z0.out).mono ?_
 rintro e w1 ⟨x0A0, x0n0, x0c0, rfl, o0, bb⟩
 have zb0 := bb.size
 have zc0 := cp0.size
 replace cp0 := cp0.next bb
 clear bb
 have f0_0 : w1.frozen? ⟨w.heap.size + 1 + 1, 0, none⟩ = false := cp0.cur.free 0
 have k0_0 : w1.cell? ⟨w.heap.size + 1 + 1, 0, none⟩ = some (.slice none 0 0) := cp0.cur.cell 0
 obtain ⟨w2, hw0⟩ : ∃ x, x = (w1.setCell ⟨w.heap.size + 1 + 1, 0, none⟩ (.slice x0A0 x0n0 x0c0)) := ⟨_, rfl⟩
 replace o0 := o0.put (g := w.heap.size + 1 + 1) (i := 0) (u := .slice x0A0 x0n0 x0c0) (by omega)
 rw [← hw0] at o0
 replace cp0 : CpS w 27 33 #[v0, v1] #[.slice none 0 0, .slice none 0 0] #[.slice x0A0 x0n0 x0c0, .slice none 0 0] w2 := by rw [hw0]; exact (CpS.put cp0 0 (.slice x0A0 x0n0 x0c0))
 have zw0 : w2.heap.size = w1.heap.size := by rw [hw0]; simp
 have HW0 := hid hw0
 clear hw0
 have d1_0 : w2.cell? ⟨w.heap.size, 1, none⟩ = some (v1) := cp0.box.cell 1
 rw [HW0.out] at d1_0
 go_wp2_with fail
 rw [← HW0.out]
 clear d1_0
 refine (toK_RuleS _ _ _ ((G1.out.below cp0.bel).more cp0.bel.size) Z1.out).mono ?_
 rintro e w3 ⟨x1A0, x1n0, x1c0, rfl, o1, bb⟩
 replace o0 := o0.next bb
 have zb1 := bb.size
 have zc1 := cp0.size
 replace cp0 := cp0.next bb
 clear bb
 have f1_0 : w3.frozen? ⟨w.heap.size + 1 + 1, 1, none⟩ = false := cp0.cur.free 1
 have k1_0 : w3.cell? ⟨w.heap.size + 1 + 1, 1, none⟩ = some (.slice none 0 0) := cp0.cur.cell 1
 obtain ⟨w4, hw1⟩ : ∃ x, x = (w3.setCell ⟨w.heap.size + 1 + 1, 1, none⟩ (.slice x1A0 x1n0 x1c0)) := ⟨_, rfl⟩
 replace o0 := o0.put (g := w.heap.size + 1 + 1) (i := 1) (u := .slice x1A0 x1n0 x1c0) (by omega)
 rw [← hw1] at o0
 replace o1 := o1.put (g := w.heap.size + 1 + 1) (i := 1) (u := .slice x1A0 x1n0 x1c0) (by omega)
 rw [← hw1] at o1
 replace cp0 : CpS w 27 33 #[v0, v1] #[.slice none 0 0, .slice none 0 0] #[.slice x0A0 x0n0 x0c0, .slice x1A0 x1n0 x1c0] w4 := by rw [hw1]; exact (CpS.put cp0 1 (.slice x1A0 x1n0 x1c0))
 have zw1 : w4.heap.size = w3.heap.size := by rw [hw1]; simp
 have HW1 := hid hw1
 clear hw1
 have y0 : w4.cell? ⟨w.heap.size + 1 + 1, 0, none⟩ = some (.slice x0A0 x0n0 x0c0) := cp0.cur.cell 0
 rw [HW1.out] at y0
 have y1 : w4.cell? ⟨w.heap.size + 1 + 1, 1, none⟩ = some (.slice x1A0 x1n0 x1c0) := cp0.cur.cell 1
 rw [HW1.out] at y1
 have s0 : (w4).cell? ⟨w.heap.size + 1, 0, none⟩ = some (.slice none 0 0) := cp0.res.cell 0
 rw [HW1.out] at s0
 have r0 : (w4).frozen? ⟨w.heap.size + 1, 0, none⟩ = false := cp0.res.free 0
 rw [HW1.out] at r0
 have s1 : ((w4.setCell ⟨w.heap.size + 1, 0, none⟩ (.slice x0A0 x0n0 x0c0))).cell? ⟨w.heap.size + 1, 1, none⟩ = some (.slice none 0 0) := (CpS.fin cp0 0 (.slice x0A0 x0n0 x0c0)).res.cell 1
 rw [HW1.out] at s1
 have r1 : ((w4.setCell ⟨w.heap.size + 1, 0, none⟩ (.slice x0A0 x0n0 x0c0))).frozen? ⟨w.heap.size + 1, 1, none⟩ = false := (CpS.fin cp0 0 (.slice x0A0 x0n0 x0c0)).res.free 1
 rw [HW1.out] at r1
 have oo : Owned w4 (w.heap.size + 1 + 1 + 1) w4.heap.size sSystem [.slice x0A0 x0n0 x0c0, .slice x1A0 x1n0 x1c0] d := join_System (m0 := W.heap.size) (m1 := w2.heap.size) (m2 := w4.heap.size) (o0.wider (Nat.le_refl _) (by omega)) (o1.wider (Nat.le_refl _) (by omega)) (by omega) (by omega) (by omega) (by omega)
 have F : CopySystem w d (.returned (.agg #[.slice x0A0 x0n0 x0c0, .slice x1A0 x1n0 x1c0])) ((w4.setCell ⟨w.heap.size + 1, 0, none⟩ (.slice x0A0 x0n0 x0c0)).setCell ⟨w.heap.size + 1, 1, none⟩ (.slice x1A0 x1n0 x1c0)) := ⟨x0A0, x0n0, x0c0, x1A0, x1n0, x1c0, rfl, Owned.wider (((oo.put (g := w.heap.size + 1) (i := 0) (u := .slice x0A0 x0n0 x0c0) (by omega)).put (g := w.heap.size + 1) (i := 1) (u := .slice x1A0 x1n0 x1c0) (by omega))) (by omega) (by simp), ((CpS.fin (CpS.fin cp0 0 (.slice x0A0 x0n0 x0c0)) 1 (.slice x1A0 x1n0 x1c0))).bel⟩
 have u0 : (((w4.setCell ⟨w.heap.size + 1, 0, none⟩ (.slice x0A0 x0n0 x0c0)).setCell ⟨w.heap.size + 1, 1, none⟩ (.slice x1A0 x1n0 x1c0))).cell? ⟨w.heap.size + 1, 0, none⟩ = some (.slice x0A0 x0n0 x0c0) := (CpS.fin (CpS.fin cp0 0 (.slice x0A0 x0n0 x0c0)) 1 (.slice x1A0 x1n0 x1c0)).res.cell 0
 rw [HW1.out] at u0
 have u1 : (((w4.setCell ⟨w.heap.size + 1, 0, none⟩ (.slice x0A0 x0n0 x0c0)).setCell ⟨w.heap.size + 1, 1, none⟩ (.slice x1A0 x1n0 x1c0))).cell? ⟨w.heap.size + 1, 1, none⟩ = some (.slice x1A0 x1n0 x1c0) := (CpS.fin (CpS.fin cp0 0 (.slice x0A0 x0n0 x0c0)) 1 (.slice x1A0 x1n0 x1c0)).res.cell 1
 rw [HW1.out] at u1
 rw [HW1.out] at F
 have HF := hid F
 clear F oo cp0 o0 o1
 go_wp2
 exact bodyPost_ret (v := .agg #[.slice x0A0 x0n0 x0c0, .slice x1A0 x1n0 x1c0]) (by simp [results, Tryz.results9, go_sem, u0, u1]) rfl HF.out
set_option maxHeartbeats 2000000 in
theorem eqK_System (v0 v1 u0 u1 : Value) (d : Dat sSystem) (w : World) (h : Rd w w.heap.size sSystem [v0, v1] d) (h' : Rd w w.heap.size sSystem [u0, u1] d) (hz : sz sSystem d ≤ 1048576) :
  Calls Tryz.prog 11 #[.agg #[v0, v1], .agg #[u0, u1]] w (Yes w) := by
 obtain ⟨g0, g1⟩ := parts_System h
 obtain ⟨g0', g1'⟩ := parts_System h'
 obtain ⟨W, hW⟩ : ∃ W, W = (w.alloc (.cells #[v0, v1] 33)).alloc (.cells #[u0, u1] 33) := ⟨_, rfl⟩
 have ra : Row W w.heap.size 33 #[v0, v1] := by rw [hW]; exact (Row.new w 33 #[v0, v1]).alloc _
 have rb : Row W (w.heap.size + 1) 33 #[u0, u1] := by rw [hW]; have := Row.new (w.alloc (.cells #[v0, v1] 33)) 33 #[u0, u1]; simpa using this
 have bel : Below w.heap.size w W := by rw [hW]; exact ((Below.refl _ _).alloc (Nat.le_refl _) _).alloc (by simp) _
 have HW := hid hW
 have G0 := hid g0
 have G0' := hid g0'
 have Z0 : Hid (sz sSig d.1 ≤ 1048576) := hid (by have := hz; simp only [sz] at this ⊢; omega)
 have G1 := hid g1
 have G1' := hid g1'
 have Z1 : Hid (sz sRuleS d.2 ≤ 1048576) := hid (by have := hz; simp only [sz] at this ⊢; omega)
 clear hW hz h h' g0 g0' g1 g1'
 go_enter Tryz.func11, Tryz.ntmps11
 go_wp2_with fail
 rw [← HW.out]
 refine (eqK_Sig _ _ _ W (G0.out.next bel) (G0'.out.next bel) Z0.out).mono ?_
 rintro e w1 ⟨rfl, bb⟩
 replace ra := ra.next bb
 replace rb := rb.next bb
 replace bel := next_trans bel bb
 clear bb
 have a1_0 : w1.cell? ⟨w.heap.size, 1, none⟩ = some (v1) := ra.cell 1
 have b1_0 : w1.cell? ⟨w.heap.size + 1, 1, none⟩ = some (u1) := rb.cell 1
 go_wp2_with fail
 clear a1_0 b1_0
 refine (eqK_RuleS _ _ _ w1 (G1.out.next bel) (G1'.out.next bel) Z1.out).mono ?_
 rintro e w2 ⟨rfl, bb⟩
 replace ra := ra.next bb
 replace rb := rb.next bb
 replace bel := next_trans bel bb
 clear bb
 have F : Yes w (.returned (.bool true)) w2 := ⟨rfl, bel⟩
 have HF := hid F
 clear F ra rb bel
 go_wp2
 go_ret
 exact HF.out
end kindsR
end
section
namespace varsOf
open Go.RowKit base ints sig term termOk marks app sym sub segs varsMath termFacts
set_option maxRecDepth 100000
theorem Seg.pre {w : World} {B n k : Nat} {A : Option Addr} {xs : List Int} (h : Seg w B A n xs) (hk : k ≤ n) : Seg w B A k (xs.take k) := by
 refine ⟨by have := h.1; simp; omega, fun h0 => ?_⟩
 obtain ⟨b, off, e, hb, hc⟩ := h.2 (by omega)
 refine ⟨b, off, e, hb, fun j hj => ?_⟩
 rw [hc j (by omega)]
 simp [List.getD, List.getElem?_take, hj]
end varsOf
end
section
namespace varsOf
open Go.RowKit base
def AnsB (w : World) (b : Bool) (e : Ending) (w' : World) : Prop := e = .returned (.bool b) ∧ Below w.heap.size w w'
theorem ansB {w w' : World} {a b : Bool} (h : a = b) (hb : Below w.heap.size w w') : AnsB w b (.returned (.bool a)) w' := ⟨by rw [h], hb⟩
end varsOf
end
section
namespace varsOf
open Go.RowKit base ints sig term termOk marks app sym sub segs varsMath termFacts
set_option maxRecDepth 100000
end varsOf
end
section
open Go.Lib (hid)
namespace count
open Go.RowKit base ints sig term termOk
def cnt (t : List Int) (x : Int) (k : Nat) : Nat := (t.take k).count x
def countI (sg t : List Int) (x : Int) : Int := if termOkB sg t = true then (cnt t x t.length : Int) else 0
theorem cnt_le (t : List Int) (x : Int) (k : Nat) : cnt t x k ≤ k := by
 unfold cnt
 exact Nat.le_trans List.count_le_length (List.length_take_le _ _)
theorem cnt_step {t : List Int} {x y : Int} {k : Nat} (hk : k < t.length) (hy : t.getD k 0 = y) : cnt t x (k + 1) = cnt t x k + if y = x then 1 else 0 := by
 unfold cnt
 have e : t.take (k + 1) = t.take k ++ [y] := by
  rw [List.take_succ_eq_append_getElem hk, ← hy]
  simp [List.getD, hk]
 rw [e, List.count_append]
 by_cases h : y = x
 ·simp [h]
 ·simp [h]
def HeadCnt (m : Nat) (t : List Int) (x : Int) (many i : Value) : Prop := ∃ k : Nat, k ≤ m ∧ i = .int .i64 k ∧ many = .int .i64 (cnt t x k)
theorem headCnt_yes {m k : Nat} {t : List Int} {x : Int} (hm : t.length = m) (hk : k < m) (ex : Hid (t.getD k 0 = x)) : HeadCnt m t x (.int .i64 ((cnt t x k : Int) + 1)) (.int .i64 ((k : Int) + 1)) :=
 ⟨k + 1, hk, by simp, by rw [cnt_step (by omega) ex.out]; simp⟩
theorem headCnt_no {m k : Nat} {t : List Int} {x y : Int} (hm : t.length = m) (hk : k < m) (ex : Hid (t.getD k 0 = y)) (h : ¬ y = x) : HeadCnt m t x (.int .i64 (cnt t x k)) (.int .i64 ((k : Int) + 1)) :=
 ⟨k + 1, hk, by simp, by rw [cnt_step (by omega) ex.out, if_neg h]; simp⟩
set_option maxHeartbeats 400000 in
theorem l1Count (A : Option Addr) (m c : Nat) (t : List Int) (x : Int) (w : World) (h : Seg w w.heap.size A m t) (hm : m ≤ 1048576) :
  Calls Tryz.prog 80 #[.slice A m c, .int .i64 x] w fun e w' => w = w' ∧ e = .returned (.int .i64 (cnt t x t.length)) := by
 have HL := hid h.1
 go_enter Tryz.func80, Tryz.ntmps80
 go_wp2
 go_loop [5, 6] (fun many i => HeadCnt m t x many i) (fun _ i => m - (intOf i).toNat)
 case atStart => exact ⟨0, Nat.zero_le _, rfl, rfl⟩
 case round =>
  obtain ⟨k, hk, rfl, rfl⟩ := hrel
  have hle := cnt_le t x k
  by_cases hlt : k < m
  ·obtain ⟨b, off, y, rfl, -, hy, ey⟩ := h.spot hlt
   by_cases he : y = x
   ·subst he
    have S := hid (headCnt_yes HL.out hlt ey)
    have e1 : (y == y) = true := by simp
    clear h ey
    generalize cnt t y k = z at *
    go_wp2
    go_round
    case rel => exact S.out
    case measure => simp [intOf]; omega
   ·have S := hid (headCnt_no HL.out hlt ey he)
    have e1 : (y == x) = false := by simp [he]
    clear h ey
    generalize cnt t x k = z at *
    go_wp2
    go_round
    case rel => exact S.out
    case measure => simp [intOf]; omega
  ·have e : cnt t x k = cnt t x t.length := by rw [HL.out, show k = m by omega]
   have E := hid e
   clear h e
   generalize cnt t x k = z at *
   go_wp2
   go_ret
   exact ⟨rfl, by rw [← E.out]; rfl⟩
def AnsCount (w : World) (sg t : List Int) (x : Int) (e : Ending) (w' : World) : Prop := e = .returned (.int .i64 (countI sg t x)) ∧ Below w.heap.size w w'
theorem count_no {w w' : World} {sg t : List Int} {x : Int} (h : termOkB sg t = false) (hb : Below w.heap.size w w') : AnsCount w sg t x (.returned (.int .i64 0)) w' := ⟨by unfold countI; rw [if_neg (by rw [h]; simp)], hb⟩
theorem count_yes {w w' : World} {sg t : List Int} {x : Int} {m : Nat} (hm : t.length = m) (h : termOkB sg t = true) (hb : Below w.heap.size w w') : AnsCount w sg t x (.returned (.int .i64 (cnt t x m))) w' := ⟨by unfold countI; rw [if_pos h, hm], hb⟩
set_option maxHeartbeats 1000000 in
theorem implCountOf (A A' : Option Addr) (n c m c' : Nat) (sg t : List Int) (x : Int) (w : World) (h : Seg w w.heap.size A n sg) (h' : Seg w w.heap.size A' m t) (hn : n ≤ 1048576) (hm : m ≤ 1048576) (_ : -9223372036854775808 ≤ x) (_ : x ≤ 9223372036854775807) :
  Calls Tryz.prog 150 #[.agg #[.slice A n c], .slice A' m c', .int .i64 x] w (AnsCount w sg t x) := by
 obtain ⟨W, hW⟩ : ∃ W, W = w.alloc (.cells #[.slice A n c] 30) := ⟨_, rfl⟩
 have rA : Row W w.heap.size 30 #[.slice A n c] := by rw [hW]; exact Row.new _ _ _
 have bel : Below w.heap.size w W := by rw [hW]; exact (Below.refl _ _).alloc (Nat.le_refl _) _
 replace h := (h.below bel).more bel.size
 replace h' := (h'.below bel).more bel.size
 have HW := hid hW
 have HL := hid h'.1
 clear hW
 have L := hid (implTermOk A A' n c m c' sg t W h h' hn hm)
 cases hok : termOkB sg t with
 | false =>
  have HS := hid hok
  clear hok h h'
  go_enter Tryz.func150, Tryz.ntmps150
  go_wp2_with fail
  rw [← HW.out]
  refine L.out.mono ?_
  rintro e w1 ⟨he, bb⟩
  rw [HS.out] at he
  subst he
  have F := hid (count_no (x := x) HS.out (next_trans bel bb))
  clear bb bel rA
  go_wp2
  go_ret
  exact F.out
 | true =>
  have HS := hid hok
  clear hok
  go_enter Tryz.func150, Tryz.ntmps150
  go_wp2_with fail
  rw [← HW.out]
  refine L.out.mono ?_
  rintro e w1 ⟨he, bb⟩
  rw [HS.out] at he
  subst he
  replace h' := h'.next bb
  have F := hid (count_yes (x := x) HL.out HS.out (next_trans bel bb))
  clear bb bel rA h
  go_wp2_with fail
  go_loop [7, 16] (fun many i => HeadCnt m t x many i) (fun _ i => m - (intOf i).toNat)
  case atStart => exact ⟨0, Nat.zero_le _, rfl, rfl⟩
  case round =>
   obtain ⟨k, hk, rfl, rfl⟩ := hrel
   have hle := cnt_le t x k
   by_cases hlt : k < m
   ·obtain ⟨b, off, y, rfl, -, hy, ey⟩ := h'.spot hlt
    by_cases he : y = x
    ·subst he
     have S := hid (headCnt_yes HL.out hlt ey)
     have e1 : (y == y) = true := by simp
     clear h' ey F
     generalize cnt t y k = z at *
     go_wp2
     go_round
     case rel => exact S.out
     case measure => simp [intOf]; omega
    ·have S := hid (headCnt_no HL.out hlt ey he)
     have e1 : (y == x) = false := by simp [he]
     clear h' ey F
     generalize cnt t x k = z at *
     go_wp2
     go_round
     case rel => exact S.out
     case measure => simp [intOf]; omega
   ·have e : k = m := by omega
    subst e
    clear h'
    generalize cnt t x k = z at *
    go_wp2
    go_ret
    exact F.out
end count
end
section
namespace linear
open Go.RowKit base ints sig term termOk marks sym count varsMath termFacts varsOf
set_option maxRecDepth 100000
def many (t : List Int) (x : Int) : Nat := cnt t x t.length
def linB (t : List Int) : Bool := t.all fun x => decide (¬ x < 0 ∨ many t x ≤ 1)
def linearB (sg t : List Int) : Bool := termOkB sg t && linB t
theorem lin_no {t : List Int} {x : Int} (hx : x ∈ t) (h0 : x < 0) (h : 1 < many t x) : linB t = false := by
 unfold linB
 rw [List.all_eq_false]
 exact ⟨x, hx, by simp; omega⟩
theorem lin_yes {t : List Int} (h : ∀ x ∈ t, x < 0 → many t x ≤ 1) : linB t = true := by
 unfold linB
 rw [List.all_eq_true]
 intro x hx
 by_cases h0 : x < 0
 ·simp [h x hx h0]
 ·simp; omega
def HeadLin (m : Nat) (t : List Int) (i : Value) : Prop := ∃ k : Nat, k ≤ m ∧ i = .int .i64 k ∧ ∀ j, j < k → t.getD j 0 < 0 → many t (t.getD j 0) ≤ 1
set_option maxHeartbeats 1000000 in
theorem l2Linear (A : Option Addr) (m c : Nat) (t : List Int) (w : World) (h : Seg w w.heap.size A m t) (hm : m ≤ 1048576) :
  Calls Tryz.prog 51 #[.slice A m c] w fun e w' => w = w' ∧ e = .returned (.bool (linB t)) := by
 have HL := Lib.hid h.1
 go_enter Tryz.func51, Tryz.ntmps51
 go_wp2
 go_loop [3] (fun i => HeadLin m t i) (fun i => m - (intOf i).toNat)
 case atStart => exact ⟨0, Nat.zero_le _, rfl, fun j hj => absurd hj (Nat.not_lt_zero _)⟩
 case round =>
  obtain ⟨k, hk, rfl, hlin⟩ := hrel
  have HLIN := Lib.hid hlin
  clear hlin
  by_cases hlt : k < m
  ·have L := fun x => l1Count A m c t x w h hm
   obtain ⟨b, off, x, rfl, -, hx, ex⟩ := h.spot hlt
   have hmem : x ∈ t := by
    have hkl : k < t.length := by rw [HL.out]; exact hlt
    have := ex.out
    rw [← this]
    simp [List.getD, hkl]
   by_cases hneg : x < 0
   ·have LX := Lib.hid (L x)
    obtain ⟨z, hz⟩ : ∃ z, cnt t x t.length = z := ⟨_, rfl⟩
    have hzl : z ≤ m := by rw [← hz]; have := cnt_le t x t.length; rw [HL.out] at this ⊢; exact this
    rw [hz] at LX
    by_cases h1 : 1 < z
    ·have F := Lib.hid (lin_no hmem hneg (by unfold many; rw [hz]; exact h1))
     clear L h ex hmem hz
     go_wp2_with fail
     refine LX.out.mono ?_
     rintro e w' ⟨rfl, rfl⟩
     clear LX
     go_wp2
     go_ret
     exact ⟨rfl, by rw [F.out]; rfl⟩
    ·have S : HeadLin m t (.int .i64 ((k : Int) + 1)) := ⟨k + 1, hlt, by simp, fun j hj h0 => by
      by_cases e : j = k
      ·subst e; rw [ex.out]; unfold many; rw [hz]; omega
      ·exact HLIN.out j (by omega) h0⟩
     replace S := Lib.hid S
     clear L h ex hmem hz
     go_wp2_with fail
     refine LX.out.mono ?_
     rintro e w' ⟨rfl, rfl⟩
     clear LX
     go_wp2
     go_round
     case rel => exact S.out
     case measure => simp [intOf]; omega
   ·have S : HeadLin m t (.int .i64 ((k : Int) + 1)) := ⟨k + 1, hlt, by simp, fun j hj h0 => by
     by_cases e : j = k
     ·subst e; rw [ex.out] at h0; omega
     ·exact HLIN.out j (by omega) h0⟩
    replace S := Lib.hid S
    have d1 : decide (x < 0) = false := by simp; omega
    clear L h ex hmem
    go_wp2
    go_round
    case rel => exact S.out
    case measure => simp [intOf]; omega
  ·have F : linB t = true := lin_yes (fun x hx h0 => by
    obtain ⟨j, hj, rfl⟩ := List.getElem_of_mem hx
    have e : t.getD j 0 = t[j] := by simp [List.getD, hj]
    rw [← e]
    exact HLIN.out j (by rw [HL.out] at hj; omega) (by rw [e]; exact h0))
   have HF := Lib.hid F
   clear F h
   go_wp2
   go_ret
   exact ⟨rfl, by rw [HF.out]; rfl⟩
end linear
end
section
namespace ruleMath
open sig term termOk termFacts varsMath count linear renMath
abbrev Rl := List Int × List Int
def hd (t : List Int) : Int := t.getD 0 0
def newB (l : List Int) (x : Int) : Bool := decide (x < 0 ∧ x ∉ l)
def ruleOkB (sg : List Int) (r : Rl) : Bool := termOkB sg r.1 && (termOkB sg r.2 && (!decide (hd r.1 < 0) && !r.2.any (newB r.1)))
def sysOkB (sg : List Int) (rs : List Rl) : Bool := sigOkB sg && (decide (rs.length ≤ 12) && rs.all (ruleOkB sg))
theorem rule_parts {sg : List Int} {r : Rl} (h : ruleOkB sg r = true) : termOkB sg r.1 = true ∧ termOkB sg r.2 = true ∧ 0 ≤ hd r.1 ∧ ∀ x, x ∈ r.2 → x < 0 → x ∈ r.1 := by
 unfold ruleOkB at h
 simp only [Bool.and_eq_true, Bool.not_eq_true', decide_eq_false_iff_not] at h
 refine ⟨h.1, h.2.1, by omega, fun x hx h0 => ?_⟩
 have h1 := h.2.2.2
 rw [List.any_eq_false] at h1
 have h2 := h1 x hx
 unfold newB at h2
 simp only [decide_eq_true_eq] at h2
 exact Classical.byContradiction fun hn => h2 ⟨h0, hn⟩
theorem sys_parts {sg : List Int} {rs : List Rl} (h : sysOkB sg rs = true) : sigOkB sg = true ∧ rs.length ≤ 12 ∧ ∀ r ∈ rs, ruleOkB sg r = true := by
 unfold sysOkB at h
 simp only [Bool.and_eq_true, decide_eq_true_eq, List.all_eq_true] at h
 exact ⟨h.1, h.2.1, h.2.2⟩
theorem sys_mk {sg : List Int} {rs : List Rl} (h1 : sigOkB sg = true) (h2 : rs.length ≤ 12) (h3 : ∀ r ∈ rs, ruleOkB sg r = true) : sysOkB sg rs = true := by
 unfold sysOkB
 simp only [Bool.and_eq_true, decide_eq_true_eq, List.all_eq_true]
 exact ⟨h1, h2, h3⟩
theorem sys_sig {sg : List Int} {rs : List Rl} (h : sigOkB sg = false) : sysOkB sg rs = false := by unfold sysOkB; rw [h]; rfl
theorem sys_long {sg : List Int} {rs : List Rl} {n : Nat} (hl : rs.length = n) (h : ¬ n ≤ 12) : sysOkB sg rs = false := by
 unfold sysOkB; rw [hl, decide_eq_false h]; simp
theorem rl_mem {rs : List Rl} {k : Nat} (hk : k < rs.length) : rs.getD k ([], []) ∈ rs := by
 have : rs.getD k ([], []) = rs[k] := by simp [List.getD, hk]
 rw [this]; exact List.getElem_mem hk
theorem sys_bad {sg : List Int} {rs : List Rl} {k : Nat} (hk : k < rs.length) (h : ruleOkB sg (rs.getD k ([], [])) = false) : sysOkB sg rs = false := by
 cases hs : sysOkB sg rs with
 | false => rfl
 | true => have := (sys_parts hs).2.2 _ (rl_mem hk); rw [h] at this; cases this
theorem all_rounds {rs : List Rl} {P : Rl → Prop} (h : ∀ j, j < rs.length → P (rs.getD j ([], []))) : ∀ r ∈ rs, P r := by
 intro r hr
 obtain ⟨i, hi, rfl⟩ := List.getElem_of_mem hr
 have := h i hi
 simpa [List.getD, hi] using this
theorem any_rounds {rs : List Rl} {f : Rl → Bool} (h : ∀ j, j < rs.length → f (rs.getD j ([], [])) = false) : rs.any f = false := by
 rw [List.any_eq_false]
 intro r hr
 rw [all_rounds (P := fun r => f r = false) h r hr]
 simp
theorem any_round {rs : List Rl} {f : Rl → Bool} {k : Nat} (hk : k < rs.length) (h : f (rs.getD k ([], [])) = true) : rs.any f = true := by
 rw [List.any_eq_true]; exact ⟨_, rl_mem hk, h⟩
theorem sys_good {sg : List Int} {rs : List Rl} (h1 : sigOkB sg = true) (h2 : rs.length ≤ 12) (h3 : ∀ j, j < rs.length → ruleOkB sg (rs.getD j ([], [])) = true) : sysOkB sg rs = true :=
 sys_mk h1 h2 (all_rounds h3)
theorem lists_eq {rs rs' : List Rl} (hl : rs.length = rs'.length) (h : ∀ j, j < rs.length → rs.getD j ([], []) = rs'.getD j ([], [])) : rs = rs' :=
 List.ext_getElem hl fun j h1 h2 => by
  have := h j h1
  simpa [List.getD, h1, h2] using this
def leftB (rs : List Rl) : Bool := !rs.any fun r => !linB r.1
def leftLinB (sg : List Int) (rs : List Rl) : Bool := sysOkB sg rs && leftB rs
def symL (p : Int → Bool) : Nat → List Int
 | 0 => []
 | n + 1 => symL p n ++ (if p (n : Int) = true then [(n : Int)] else [])
theorem sym_mem {p : Int → Bool} {x : Int} : ∀ {n : Nat}, x ∈ symL p n ↔ (0 ≤ x ∧ x < (n : Int)) ∧ p x = true
 | 0 => by simp [symL]; omega
 | n + 1 => by
  rw [symL, List.mem_append, sym_mem]
  constructor
  ·rintro (⟨⟨h1, h2⟩, h3⟩ | h)
   ·exact ⟨⟨h1, by omega⟩, h3⟩
   ·split at h
    ·rename_i hp
     simp only [List.mem_singleton] at h
     subst h
     exact ⟨⟨by omega, by omega⟩, hp⟩
    ·cases h
  ·rintro ⟨⟨h1, h2⟩, h3⟩
   by_cases e : x = (n : Int)
   ·subst e
    right
    rw [if_pos h3]
    simp
   ·left
    exact ⟨⟨h1, by omega⟩, h3⟩
def byL (o t : List Int) : List Int := t.map (ren o)
end ruleMath
end
section
open Go.Lib (hid)
namespace rename
open Go.RowKit base ints sig term termOk marks app sym segs termFacts varsMath varsOf renMath
set_option maxRecDepth 100000
theorem mem_of_get {t : List Int} {k : Nat} {x : Int} (hk : k < t.length) (hx : t.getD k 0 = x) : x ∈ t := by
 rw [← hx]
 simp [List.getD, hk]
theorem not_mem_of {t : List Int} {x : Int} (h : ∀ j, j < t.length → t.getD j 0 ≠ x) : x ∉ t := fun hx => by
 obtain ⟨j, hj, e⟩ := List.getElem_of_mem hx
 exact h j hj (by simp [List.getD, hj, e])
def HeadNo (n : Nat) (xs : List Int) (x : Int) (i : Value) : Prop := ∃ k : Nat, k ≤ n ∧ i = .int .i64 k ∧ ∀ j, j < k → xs.getD j 0 ≠ x
theorem headNo_step {n k : Nat} {xs : List Int} {x y : Int} (hk : k < n) (h : ∀ j, j < k → xs.getD j 0 ≠ x) (hy : Hid (xs.getD k 0 = y)) (hne : ¬ y = x) : HeadNo n xs x (.int .i64 ((k : Int) + 1)) :=
 ⟨k + 1, hk, by simp, fun j hj => by
  by_cases e : j = k
  ·subst e; rw [hy.out]; exact hne
  ·exact h j (by omega)⟩
set_option maxHeartbeats 1000000 in
theorem l1Has (A : Option Addr) (n c : Nat) (xs : List Int) (x : Int) (w : World) (h : Seg w w.heap.size A n xs) (hn : n ≤ 1048576) :
  Calls Tryz.prog 111 #[.slice A n c, .int .i64 x] w fun e w' => w = w' ∧ e = .returned (.bool (decide (x ∈ xs))) := by
 have HX := hid h.1
 go_enter Tryz.func111, Tryz.ntmps111
 go_wp2
 go_loop [5] (fun i => HeadNo n xs x i) (fun i => n - (intOf i).toNat)
 case atStart => exact ⟨0, Nat.zero_le _, rfl, fun j hj => absurd hj (Nat.not_lt_zero _)⟩
 case round =>
  obtain ⟨k, hk, rfl, hlow⟩ := hrel
  by_cases hlt : k < n
  ·obtain ⟨b, off, y, rfl, -, hy, ey⟩ := h.spot hlt
   by_cases he : y = x
   ·subst he
    have F := hid (show y ∈ xs from mem_of_get (by rw [HX.out]; exact hlt) ey.out)
    have e1 : (y == y) = true := by simp
    clear h ey hlow
    go_wp2
    go_ret
    exact ⟨rfl, by rw [decide_eq_true F.out]; rfl⟩
   ·have S := hid (headNo_step hlt hlow ey he)
    have e1 : (y == x) = false := by simp [he]
    clear h ey hlow
    go_wp2
    go_round
    case rel => exact S.out
    case measure => simp [intOf]; omega
  ·have F := hid (not_mem_of (t := xs) (x := x) (fun j hj => hlow j (by rw [HX.out] at hj; omega)))
   clear h hlow
   go_wp2
   go_ret
   exact ⟨rfl, by rw [decide_eq_false F.out]; rfl⟩
def indexI (xs : List Int) (x : Int) : Int := if x ∈ xs then (idx xs x : Int) else -1
set_option maxHeartbeats 1000000 in
theorem indexOf (A : Option Addr) (n c : Nat) (xs : List Int) (x : Int) (w : World) (h : Seg w w.heap.size A n xs) (hn : n ≤ 1048576) :
  Calls Tryz.prog 133 #[.slice A n c, .int .i64 x] w fun e w' => w = w' ∧ e = .returned (.int .i64 (indexI xs x)) := by
 have HX := hid h.1
 go_enter Tryz.func133, Tryz.ntmps133
 go_wp2
 go_loop [8] (fun i => HeadNo n xs x i) (fun i => n - (intOf i).toNat)
 case atStart => exact ⟨0, Nat.zero_le _, rfl, fun j hj => absurd hj (Nat.not_lt_zero _)⟩
 case round =>
  obtain ⟨k, hk, rfl, hlow⟩ := hrel
  by_cases hlt : k < n
  ·obtain ⟨b, off, y, rfl, -, hy, ey⟩ := h.spot hlt
   by_cases he : y = x
   ·subst he
    have F := hid (show indexI xs y = (k : Int) by
     have hkl : k < xs.length := by rw [HX.out]; exact hlt
     unfold indexI
     rw [if_pos (mem_of_get hkl ey.out), idx_first hkl hlow ey.out])
    have e1 : (y == y) = true := by simp
    clear h ey hlow
    go_wp2
    go_ret
    exact ⟨rfl, by rw [F.out]; rfl⟩
   ·have S := hid (headNo_step hlt hlow ey he)
    have e1 : (x == y) = false := by simp; exact fun e => he e.symm
    clear h ey hlow
    go_wp2
    go_round
    case rel => exact S.out
    case measure => simp [intOf]; omega
  ·have F := hid (show indexI xs x = -1 by unfold indexI; rw [if_neg (not_mem_of (fun j hj => hlow j (by rw [HX.out] at hj; omega)))])
   clear h hlow
   go_wp2
   go_ret
   exact ⟨rfl, by rw [F.out]; rfl⟩
def HeadOrd (w : World) (m : Nat) (t : List Int) (out i : Value) (wr : World) : Prop :=
 ∃ (k : Nat) (O : Option Addr) (on oc : Nat), k ≤ m ∧ i = .int .i64 k ∧ out = .slice O on oc ∧ Own wr w.heap.size (.slice O on oc) (orderL (t.take k)) ∧ Below w.heap.size w wr
set_option maxHeartbeats 2000000 in
theorem l2Order (A : Option Addr) (m c : Nat) (t : List Int) (w : World) (h : Seg w w.heap.size A m t) (hm : m ≤ 1048576) :
  Calls Tryz.prog 115 #[.slice A m c] w (AnsList w (orderL t)) := by
 have HL := hid h.1
 have S0 : HeadOrd w m t (.slice (some ⟨w.heap.size, 0, none⟩) 0 0) (.int .i64 0) (w.alloc (.cells #[] 2)) :=
  ⟨0, _, _, _, Nat.zero_le _, rfl, rfl, by simpa [orderL] using own_empty w w.heap.size (Nat.le_refl _), (Below.refl _ _).alloc (Nat.le_refl _) _⟩
 have HS0 := hid S0
 clear S0
 go_enter Tryz.func115, Tryz.ntmps115
 go_wp2_with fail
 go_loopw [3, 4] (fun out i wr => HeadOrd w m t out i wr) (fun _ i _ => m - (intOf i).toNat)
 case atStart => exact HS0.out
 case round =>
  obtain ⟨k, O, on, oc, hk, rfl, rfl, ho, hb⟩ := hrel
  clear HS0
  have hon : on ≤ m := by have h1 := Own.len ho; have h2 := order_len (t.take k); simp at h2; have h3 := HL.out; omega
  by_cases hlt : k < m
  ·obtain ⟨b, off, x, rfl, hbb, hx, ex⟩ := h.spot hlt
   have hx1 : wr.cell? ⟨b, off + k, none⟩ = some (.int .i64 x) := (hb.cell (p := ⟨b, off + k, none⟩) hbb).trans hx
   have E := hid (order_take (t := t) (k := k) (by rw [HL.out]; exact hlt) ex.out)
   have hsz := hb.size
   clear hx h ex
   by_cases hneg : x < 0
   ·have L := hid (l1Has O on oc _ x wr (Own.seg ho) (by omega))
    by_cases hin : x ∈ orderL (t.take k)
    ·have R := hid (show extV (orderL (t.take k)) x = orderL (t.take k) by unfold extV ext; rw [if_pos hneg, if_pos hin])
     rw [decide_eq_true hin] at L
     have S : HeadOrd w m t (.slice O on oc) (.int .i64 ((k : Int) + 1)) wr := ⟨k + 1, O, on, oc, hlt, by simp, rfl, by rw [E.out, R.out]; exact ho, hb⟩
     replace S := hid S
     clear ho hb hin R E
     go_wp2_with fail
     refine L.out.mono ?_
     rintro e w' ⟨rfl, rfl⟩
     clear L
     go_wp2
     go_roundw
     case rel => exact S.out
     case measure => simp [intOf]; omega
    ·have R := hid (show extV (orderL (t.take k)) x = orderL (t.take k) ++ [x] by unfold extV ext; rw [if_pos hneg, if_neg hin])
     rw [decide_eq_false hin] at L
     clear hin
     go_wp2_with fail
     refine L.out.mono ?_
     rintro e w' ⟨rfl, rfl⟩
     clear L
     go_wp2_with (at_builtin; refine app1 rfl _ _ rfl w.heap.size O on oc (orderL (t.take k)) rfl (Own.alloc ho _) wr.heap.size 1 x rfl ((Row.new _ _ _).cell 0) (by omega) (by simp; omega) ?_; intro O' oc' w2 ho2 b2)
     have S : HeadOrd w m t (.slice O' (on + 1) oc') (.int .i64 ((k : Int) + 1)) w2 := ⟨k + 1, O', on + 1, oc', hlt, by simp, rfl, by rw [E.out, R.out]; exact ho2, (hb.alloc hsz _).trans b2⟩
     replace S := hid S
     clear ho2 b2 ho hb R E
     go_wp2
     go_roundw
     case rel => exact S.out
     case measure => simp [intOf]; omega
   ·have R := hid (show extV (orderL (t.take k)) x = orderL (t.take k) by unfold extV; rw [if_neg hneg])
    have S : HeadOrd w m t (.slice O on oc) (.int .i64 ((k : Int) + 1)) wr := ⟨k + 1, O, on, oc, hlt, by simp, rfl, by rw [E.out, R.out]; exact ho, hb⟩
    replace S := hid S
    have d1 : decide (x < 0) = false := by simp; omega
    clear ho hb R E
    go_wp2
    go_roundw
    case rel => exact S.out
    case measure => simp [intOf]; omega
  ·have F : AnsList w (orderL t) (.returned (.slice O on oc)) wr := by
    rw [List.take_of_length_le (by rw [HL.out]; omega)] at ho
    exact ⟨O, on, oc, rfl, ho, hb⟩
   have HF := hid F
   clear F ho hb h
   go_wp2
   go_ret
   exact HF.out
def upTo (o : List Int) (x : Int) (q : Nat) : Int := if idx o x < q then -1 - (idx o x : Int) else x
def HeadIn (wr : World) (pn : Nat) (o : List Int) (x : Int) (n k : Value) (wi : World) : Prop := ∃ q d : Nat, q ≤ pn ∧ k = .int .i64 q ∧ n = .int .i64 (upTo o x q) ∧ wi = wr.drewN d
theorem upTo_yes {o : List Int} (hd : o.Nodup) {x : Int} {q : Nat} (hq : q < o.length) (h : o.getD q 0 = x) : upTo o x (q + 1) = -1 - (q : Int) := by
 unfold upTo
 rw [idx_nodup hd hq h, if_pos (by omega)]
theorem upTo_no {o : List Int} {x y : Int} {q : Nat} (hq : q < o.length) (h : o.getD q 0 = y) (hne : ¬ y = x) : upTo o x (q + 1) = upTo o x q := by
 unfold upTo
 have h1 : idx o x ≠ q := fun e => by
  by_cases hx : x ∈ o
  ·have := idx_get hx
   rw [e, h] at this
   exact hne this
  ·have := idx_not hx
   omega
 by_cases h2 : idx o x < q
 ·rw [if_pos h2, if_pos (by omega)]
 ·rw [if_neg h2, if_neg (by omega)]
def HeadBy (w : World) (m : Nat) (t o : List Int) (out i : Value) (wr : World) : Prop :=
 ∃ (k : Nat) (O : Option Addr) (on oc : Nat), k ≤ m ∧ i = .int .i64 k ∧ out = .slice O on oc ∧ Own wr w.heap.size (.slice O on oc) ((t.take k).map (ren o)) ∧ Below w.heap.size w wr
set_option maxHeartbeats 4000000 in
theorem l2By (P A : Option Addr) (pn pc m c : Nat) (o t : List Int) (w : World) (hp : Seg w w.heap.size P pn o) (h : Seg w w.heap.size A m t) (hpn : pn ≤ 1048576) (hm : m ≤ 1048576) (hd : o.Nodup) (ho : ∀ x ∈ t, x < 0 → x ∈ o) :
  Calls Tryz.prog 116 #[.slice P pn pc, .slice A m c] w (AnsList w (t.map (ren o))) := by
 have HL := hid h.1
 have HP := hid hp.1
 have HO := hid ho
 have HD := hid hd
 have S0 : HeadBy w m t o (.slice (some ⟨w.heap.size, 0, none⟩) 0 0) (.int .i64 0) (w.alloc (.cells #[] 2)) :=
  ⟨0, _, _, _, Nat.zero_le _, rfl, rfl, by simpa using own_empty w w.heap.size (Nat.le_refl _), (Below.refl _ _).alloc (Nat.le_refl _) _⟩
 have HS0 := hid S0
 clear S0 ho hd
 go_enter Tryz.func116, Tryz.ntmps116
 go_wp2_with fail
 go_loopw [5, 6] (fun out i wr => HeadBy w m t o out i wr) (fun _ i _ => m - (intOf i).toNat)
 case atStart => exact HS0.out
 case round =>
  obtain ⟨k, O, on, oc, hk, rfl, rfl, hown, hb⟩ := hrel
  clear HS0
  have hon : on ≤ m := by have h1 := Own.len hown; simp at h1; omega
  obtain ⟨wo, rfl⟩ : ∃ wo : World, wo = wr := ⟨_, rfl⟩
  by_cases hlt : k < m
  ·obtain ⟨b, off, x, rfl, hbb, hx, ex⟩ := h.spot hlt
   have hx1 : wo.cell? ⟨b, off + k, none⟩ = some (.int .i64 x) := (hb.cell (p := ⟨b, off + k, none⟩) hbb).trans hx
   have hmem := mem_of_get (by rw [HL.out]; exact hlt) ex.out
   have E := hid (show (t.take (k + 1)).map (ren o) = (t.take k).map (ren o) ++ [ren o x] by rw [take_snoc (by rw [HL.out]; exact hlt) ex.out, List.map_append]; rfl)
   have hsz := hb.size
   have hpo := hp.below hb
   clear hx h ex
   by_cases hneg : x < 0
   ·have hin := HO.out x hmem hneg
    have I0 : HeadIn wo pn o x (.int .i64 x) (.int .i64 0) wo := ⟨0, 0, Nat.zero_le _, rfl, by simp [upTo], rfl⟩
    have HI0 := hid I0
    have R := hid (show upTo o x pn = ren o x by unfold upTo ren; rw [if_pos hneg, if_pos (by rw [← HP.out]; exact idx_lt hin)])
    have REST := hid (fun (d : Nat) (O' : Option Addr) (oc' : Nat) (w2 : World) (ho2 : Own w2 w.heap.size (.slice O' (on + 1) oc') ((t.take k).map (ren o) ++ [ren o x])) (b2 : Below w.heap.size ((wo.drewN d).alloc (.cells #[.int .i64 (ren o x)] 2)) w2) =>
     (show HeadBy w m t o (.slice O' (on + 1) oc') (.int .i64 ((k : Int) + 1)) w2 from ⟨k + 1, O', on + 1, oc', hlt, by simp, rfl, by rw [E.out]; exact ho2, ((below_drewN hb d).alloc hsz _).trans b2⟩))
    clear I0 hin hmem hb
    go_wp2_with fail
    go_loopw [7, 8] (fun n q wi => HeadIn wo pn o x n q wi) (fun _ q _ => pn - (intOf q).toNat)
    case atStart => exact HI0.out
    case round =>
     obtain ⟨q, d, hq, rfl, rfl, hw⟩ := hrel
     clear HI0
     have hxr : wr.cell? ⟨b, off + k, none⟩ = some (.int .i64 x) := by rw [hw]; exact hx1
     have hpr : Seg wr w.heap.size P pn o := by rw [hw]; exact hpo
     have HW := hid hw
     clear hw
     by_cases hq2 : q < pn
     ·obtain ⟨b2, off2, y, rfl, -, hy, ey⟩ := hpr.spot hq2
      by_cases he : y = x
      ·have U := hid (upTo_yes HD.out (by rw [HP.out]; exact hq2) (ey.out.trans he))
       have S : ∀ nq : Nat, HeadIn wo pn o x (.int .i64 (-1 - (q : Int))) (.int .i64 ((q : Int) + 1)) (wr.drewN nq) := fun nq => ⟨q + 1, d + nq, hq2, by simp, by rw [U.out], by rw [HW.out, World.drewN_drewN]⟩
       replace S := hid S
       have e1 : (y == x) = true := by simp [he]
       clear hpr ey U hpo hp hx1 hown
       generalize upTo o x q = z at *
       go_wp2_with fail
       go_quiet (fail)
       go_wp2
       go_roundw
       case rel => exact S.out _
       case measure => simp [intOf]; omega
      ·have U := hid (upTo_no (x := x) (by rw [HP.out]; exact hq2) ey.out he)
       have S : ∀ nq : Nat, HeadIn wo pn o x (.int .i64 (upTo o x q)) (.int .i64 ((q : Int) + 1)) (wr.drewN nq) := fun nq => ⟨q + 1, d + nq, hq2, by simp, by rw [U.out], by rw [HW.out, World.drewN_drewN]⟩
       replace S := hid S
       have e1 : (y == x) = false := by simp [he]
       clear hpr ey U hpo hp hx1 hown
       generalize upTo o x q = z at *
       go_wp2_with fail
       go_quiet (fail)
       go_wp2
       go_roundw
       case rel => exact S.out _
       case measure => simp [intOf]; omega
     ·have hqp : q = pn := by omega
      subst hqp
      have hown2 : Own wr w.heap.size (.slice O on oc) ((t.take k).map (ren o)) := by rw [HW.out]; exact hown
      have hszr : w.heap.size ≤ wr.heap.size := by rw [HW.out]; exact hsz
      rw [R.out]
      clear hpr hpo hp hx1 hown
      generalize hz : ren o x = z at *
      go_wp2_with (at_builtin; refine app1 rfl _ _ rfl w.heap.size O on oc ((t.take k).map (ren o)) rfl (Own.alloc hown2 _) wr.heap.size 1 z rfl ((Row.new _ _ _).cell 0) (by omega) (by simp; omega) ?_; intro O' oc' w2 ho2 b2)
      have S := hid (REST.out d O' oc' w2 ho2 (by rw [← HW.out]; exact b2))
      clear ho2 b2 hown2 REST
      go_wp2
      go_roundw
      case rel => exact S.out
      case measure => simp [intOf]; omega
   ·have RH := hid (show ren o x = x by unfold ren; rw [if_neg hneg])
    have d1 : decide (x < 0) = false := by simp; omega
    have REST := hid (fun (O' : Option Addr) (oc' : Nat) (w2 : World) (ho2 : Own w2 w.heap.size (.slice O' (on + 1) oc') ((t.take k).map (ren o) ++ [x])) (b2 : Below w.heap.size (wo.alloc (.cells #[.int .i64 x] 2)) w2) =>
     (show HeadBy w m t o (.slice O' (on + 1) oc') (.int .i64 ((k : Int) + 1)) w2 from ⟨k + 1, O', on + 1, oc', hlt, by simp, rfl, by rw [E.out, RH.out]; exact ho2, (hb.alloc hsz _).trans b2⟩))
    clear hmem hpo hb
    by_cases hp0 : 0 < pn
    all_goals
     go_wp2_with fail
     go_loopw [7, 8] (fun n q wi => n = .int .i64 x ∧ q = .int .i64 0 ∧ wi = wo) (fun _ _ _ => 0)
     case atStart => exact ⟨rfl, rfl, rfl⟩
     case round =>
      obtain ⟨rfl, rfl, hw⟩ := hrel
      subst hw
      go_wp2_with (at_builtin; refine app1 rfl _ _ rfl w.heap.size O on oc ((t.take k).map (ren o)) rfl (Own.alloc hown _) wr.heap.size 1 x rfl ((Row.new _ _ _).cell 0) (by omega) (by simp; omega) ?_; intro O' oc' w2 ho2 b2)
      have S := hid (REST.out O' oc' w2 ho2 b2)
      clear ho2 b2 hown REST
      go_wp2
      go_roundw
      case rel => exact S.out
      case measure => simp [intOf]; omega
  ·have F : AnsList w (t.map (ren o)) (.returned (.slice O on oc)) wo := by
    rw [List.take_of_length_le (by rw [HL.out]; omega)] at hown
    exact ⟨O, on, oc, rfl, hown, hb⟩
   have HF := hid F
   clear F hown hb h hp
   go_wp2
   go_ret
   exact HF.out
end rename
end
section
open Go.Lib (hid)
namespace same
open Go.RowKit base ints
set_option maxHeartbeats 400000 in
theorem specSame (A A' : Option Addr) (n m c c' : Nat) (xs ys : List Int) (w : World) (h : Seg w w.heap.size A n xs) (h' : Seg w w.heap.size A' m ys) (hn : n ≤ 1048576) (hm : m ≤ 1048576) :
  Calls Tryz.prog 58 #[.slice A n c, .slice A' m c'] w (AnsSame w xs ys) := by
 by_cases hnm : n = m
 ·subst hnm
  go_enter Tryz.func58, Tryz.ntmps58
  go_wp2
  go_loopw [5] (fun i wr => HeadSame w n xs ys i wr) (fun i _ => n - (intOf i).toNat)
  case atStart => exact ⟨0, 0, Nat.zero_le _, rfl, rfl, fun j h => absurd h (Nat.not_lt_zero _)⟩
  case round =>
   obtain ⟨k, d, hk, rfl, rfl, hc⟩ := hrel
   by_cases hlt : k < n
   ·obtain ⟨b, off, x, rfl, -, hx, ex⟩ := h.spot hlt
    obtain ⟨b', off', y, rfl, -, hx', ey⟩ := h'.spot hlt
    by_cases he : x = y
    ·subst he
     have S := hid (alike_step (w := w) hlt hc ex ey)
     clear hc h h' ex ey
     go_wp2
     go_quiet (fail)
     go_wp2
     go_roundw
     case rel => exact S.out _
     case measure => simp [intOf]; omega
    ·have S := hid (same_not (w := w) ex ey he)
     have hne : (x != y) = true := by simp [he]
     clear hc h h' ex ey he
     go_wp2
     go_quiet (fail)
     go_wp2
     go_ret
     rw [World.drewN_drewN]
     exact S.out _
   ·have S := hid (same_yes (w := w) h.1 h'.1 hlt hc)
    clear hc h h'
    go_wp2
    go_ret
    exact S.out _
 ·have S := hid (same_len (w := w) h.1 h'.1 hnm)
  have hne : ((n : Int) != (m : Int)) = true := by simp; omega
  clear h h'
  go_enter Tryz.func58, Tryz.ntmps58
  go_wp2
  go_ret
  exact S.out
set_option maxHeartbeats 400000 in
theorem libEqual (A A' : Option Addr) (n m c c' : Nat) (xs ys : List Int) (w : World) (h : Seg w w.heap.size A n xs) (h' : Seg w w.heap.size A' m ys) (hn : n ≤ 1048576) (hm : m ≤ 1048576) :
  Calls Tryz.prog 84 #[.slice A n c, .slice A' m c'] w (AnsSame w xs ys) := by
 by_cases hnm : n = m
 ·subst hnm
  go_enter Tryz.func84, Tryz.ntmps84
  go_wp2
  go_loopw [13] (fun i wr => HeadSame w n xs ys i wr) (fun i _ => n - (intOf i).toNat)
  case atStart => exact ⟨0, 0, Nat.zero_le _, rfl, rfl, fun j h => absurd h (Nat.not_lt_zero _)⟩
  case round =>
   obtain ⟨k, d, hk, rfl, rfl, hc⟩ := hrel
   by_cases hlt : k < n
   ·obtain ⟨b, off, x, rfl, -, hx, ex⟩ := h.spot hlt
    obtain ⟨b', off', y, rfl, -, hx', ey⟩ := h'.spot hlt
    by_cases he : x = y
    ·subst he
     have S := hid (alike_step (w := w) hlt hc ex ey)
     clear hc h h' ex ey
     go_wp2
     go_quiet (fail)
     go_wp2
     go_roundw
     case rel => exact S.out _
     case measure => simp [intOf]; omega
    ·have S := hid (same_not (w := w) ex ey he)
     have hne : (x != y) = true := by simp [he]
     clear hc h h' ex ey he
     go_wp2
     go_quiet (fail)
     go_wp2
     go_ret
     rw [World.drewN_drewN]
     exact S.out _
   ·have S := hid (same_yes (w := w) h.1 h'.1 hlt hc)
    clear hc h h'
    go_wp2
    go_ret
    exact S.out _
 ·have S := hid (same_len (w := w) h.1 h'.1 hnm)
  have hne : ((n : Int) != (m : Int)) = true := by simp; omega
  clear h h'
  go_enter Tryz.func84, Tryz.ntmps84
  go_wp2
  go_ret
  exact S.out
theorem implSame (A A' : Option Addr) (n m c c' : Nat) (xs ys : List Int) (w : World) (h : Seg w w.heap.size A n xs) (h' : Seg w w.heap.size A' m ys) (hn : n ≤ 1048576) (hm : m ≤ 1048576) :
  Calls Tryz.prog 59 #[.slice A n c, .slice A' m c'] w (AnsSame w xs ys) := by
 have L := hid (libEqual A A' n m c c' xs ys w h h' hn hm)
 clear h h'
 go_enter Tryz.func59, Tryz.ntmps59
 go_wp2_with fail
 refine L.out.mono ?_
 rintro e w' ⟨rfl, d, rfl⟩
 go_wp2
 go_ret
 exact ⟨rfl, d, rfl⟩
end same
end
section
open Go.Lib (hid)
namespace ruleSpec
open Go.RowKit renMath base ints sig term termOk marks app sym segs termFacts varsMath varsOf rename same count linear shape kindsR ruleMath
set_option maxRecDepth 100000
theorem box1 (w : World) (t : TypeId) (cs : Array Value) : ∃ W, W = w.alloc (.cells cs t) ∧ Row W w.heap.size t cs ∧ Below w.heap.size w W :=
 ⟨_, rfl, Row.new _ _ _, (Below.refl _ _).alloc (Nat.le_refl _) _⟩
theorem box2 (w : World) (t t' : TypeId) (cs cs' : Array Value) : ∃ W, W = (w.alloc (.cells cs t)).alloc (.cells cs' t') ∧ Row W w.heap.size t cs ∧ Row W (w.heap.size + 1) t' cs' ∧ Below w.heap.size w W := by
 refine ⟨_, rfl, ?_, ?_, ?_⟩
 ·have := (Row.new w t cs).alloc (.cells cs' t'); simpa using this
 ·have := Row.new (w.alloc (.cells cs t)) t' cs'; simpa using this
 ·exact ((Below.refl _ _).alloc (Nat.le_refl _) _).alloc (by simp) _
theorem len_ints {xs : List Int} {n : Nat} (hl : xs.length = n) (h : sz sI xs ≤ 1048576) : n ≤ 1048576 := by rw [sz_ints, hl] at h; exact h
theorem rule_szs {d : Dat sRule} (h : sz sRule d ≤ 1048576) : sz sI d.1 ≤ 1048576 ∧ sz sI d.2 ≤ 1048576 := by
 simp only [sz] at h ⊢
 omega
theorem sys_szs {d : Dat sSystem} (h : sz sSystem d ≤ 1048576) : sz sI d.1 ≤ 1048576 ∧ sz sRuleS d.2 ≤ 1048576 := by
 have h : sz sI d.1 + sz sRuleS d.2 ≤ 1048576 := h
 omega
theorem rd_rule {w : World} {B : Nat} {l r : Value} {d : Dat sRule} (h : Rd w B sRule [l, r] d) (hz : sz sRule d ≤ 1048576) : ∃ A n c A' n' c', l = .slice A n c ∧ r = .slice A' n' c' ∧ Seg w B A n d.1 ∧ Cap A n c ∧ Seg w B A' n' d.2 ∧ Cap A' n' c' ∧ n ≤ 1048576 ∧ n' ≤ 1048576 := by
 obtain ⟨g0, g1⟩ := parts_Rule h
 obtain ⟨z0, z1⟩ := rule_szs hz
 obtain ⟨A, n, c, e, h1, h2⟩ := rd_ints.1 g0
 obtain ⟨A', n', c', e', h3, h4⟩ := rd_ints.1 g1
 exact ⟨A, n, c, A', n', c', e, e', h1, h2, h3, h4, len_ints h1.1 z0, len_ints h3.1 z1⟩
theorem rule_noL {sg : List Int} {d : Rl} (h : termOkB sg d.1 = false) : ruleOkB sg d = false := by unfold ruleOkB; rw [h]; rfl
theorem rule_noR {sg : List Int} {d : Rl} (h : termOkB sg d.2 = false) : ruleOkB sg d = false := by unfold ruleOkB; rw [h]; simp
theorem rule_var {sg : List Int} {d : Rl} (h : hd d.1 < 0) : ruleOkB sg d = false := by unfold ruleOkB; rw [decide_eq_true h]; simp
theorem rule_new {sg : List Int} {d : Rl} {x : Int} (hx : x ∈ d.2) (h0 : x < 0) (hn : x ∉ d.1) : ruleOkB sg d = false := by
 unfold ruleOkB
 have : d.2.any (newB d.1) = true := List.any_eq_true.2 ⟨x, hx, by unfold newB; exact decide_eq_true ⟨h0, hn⟩⟩
 rw [this]; simp
theorem rule_yes {sg : List Int} {d : Rl} {n : Nat} (h1 : termOkB sg d.1 = true) (h2 : termOkB sg d.2 = true) (h0 : ¬ hd d.1 < 0) (hl : d.2.length = n) (h : ∀ j, j < n → newB d.1 (d.2.getD j 0) = false) : ruleOkB sg d = true := by
 unfold ruleOkB
 have : d.2.any (newB d.1) = false := by
  rw [List.any_eq_false]
  intro x hx
  obtain ⟨i, hi, rfl⟩ := List.getElem_of_mem hx
  have := h i (by omega)
  have e : d.2.getD i 0 = d.2[i] := by simp [List.getD, hi]
  rw [e] at this; simp [this]
 rw [this, h1, h2, decide_eq_false h0]; rfl
def HeadRu (w : World) (T : TypeId) (cs : Array Value) (n : Nat) (d : Rl) (i : Value) (wr : World) : Prop :=
 ∃ k : Nat, k ≤ n ∧ i = .int .i64 k ∧ (∀ j, j < k → newB d.1 (d.2.getD j 0) = false) ∧ Row wr (w.heap.size + 1) T cs ∧ Below w.heap.size w wr
theorem headRu_step {w wr : World} {T : TypeId} {cs : Array Value} {n k : Nat} {d : Rl} {x : Int} (hk : k < n) (hlow : ∀ j, j < k → newB d.1 (d.2.getD j 0) = false) (ex : Hid (d.2.getD k 0 = x)) (h : ¬ x < 0 ∨ x ∈ d.1) (hr : Row wr (w.heap.size + 1) T cs) (hb : Below w.heap.size w wr) : HeadRu w T cs n d (.int .i64 ((k : Int) + 1)) wr :=
 ⟨k + 1, hk, by simp, fun j hj => by
  by_cases e : j = k
  ·subst e
   rw [ex.out]; unfold newB
   exact decide_eq_false fun hh => by rcases h with h | h; exact h hh.1; exact hh.2 h
  ·exact hlow j (by omega), hr, hb⟩
set_option maxHeartbeats 4000000 in
theorem specRuleOk (a l r : Value) (sg : List Int) (d : Dat sRule) (w : World) (h : Rd w w.heap.size sI [a] sg) (h' : Rd w w.heap.size sRule [l, r] d) (hz : sz sI sg ≤ 1048576) (hz' : sz sRule d ≤ 1048576) :
  Calls Tryz.prog 77 #[.agg #[a], .agg #[l, r]] w (AnsB w (ruleOkB sg d)) := by
 obtain ⟨A, n, c, rfl, hs, hc⟩ := rd_ints.1 h
 have hn := len_ints hs.1 hz
 obtain ⟨A1, n1, c1, A2, n2, c2, rfl, rfl, s1, k1, s2, k2, hn1, hn2⟩ := rd_rule h' hz'
 obtain ⟨W, hW, rA, rR, bel⟩ := box2 w 30 69 #[.slice A n c] #[.slice A1 n1 c1, .slice A2 n2 c2]
 have HW := hid hW
 have HL1 := hid s1.1
 have HL2 := hid s2.1
 have L1 := hid (specTermOk A A1 n c n1 c1 sg d.1 W (hs.next bel) (s1.next bel) hn hn1)
 have L2 := hid (fun (w1 : World) (bb : Below w.heap.size w w1) => specTermOk A A2 n c n2 c2 sg d.2 w1 (hs.next bb) (s2.next bb) hn hn2)
 clear hW h h' hz hz' hs hc k1 k2
 cases ok1 : termOkB sg d.1 with
 | false =>
  have HS := hid ok1
  clear ok1 s1 s2
  go_enter Tryz.func77, Tryz.ntmps77
  go_wp2_with fail
  rw [← HW.out]
  refine L1.out.mono ?_
  rintro e w1 ⟨he, bb⟩
  rw [HS.out] at he
  subst he
  have F := hid (ansB (b := ruleOkB sg d) (a := false) (by rw [rule_noL HS.out]) (next_trans bel bb))
  clear bb bel rA rR
  go_wp2
  go_ret
  exact F.out
 | true =>
  have hp1 := (term_len ok1).1
  rw [s1.1] at hp1
  obtain ⟨b, off, x, rfl, hbB, hx, ex⟩ := s1.spot (k := 0) (by omega)
  have HS := hid ok1
  have EX := hid (show hd d.1 = x from ex.out)
  have i0 : (0 : Int) < (n1 : Int) := by omega
  clear ok1 ex
  go_enter Tryz.func77, Tryz.ntmps77
  go_wp2_with fail
  rw [← HW.out]
  refine L1.out.mono ?_
  rintro e w1 ⟨he, bb⟩
  rw [HS.out] at he
  subst he
  replace rA := rA.next bb
  replace rR := rR.next bb
  replace bel := next_trans bel bb
  have cA : w1.cell? ⟨w.heap.size, 0, none⟩ = some (.slice A n c) := rA.cell 0
  have cR : w1.cell? ⟨w.heap.size + 1, 1, none⟩ = some (.slice A2 n2 c2) := rR.cell 1
  clear bb L1
  go_wp2_with fail
  refine (L2.out w1 bel).mono ?_
  cases ok2 : termOkB sg d.2 with
  | false =>
   have HS2 := hid ok2
   clear ok2
   rintro e w2 ⟨he, bb⟩
   rw [HS2.out] at he
   subst he
   have F := hid (ansB (b := ruleOkB sg d) (a := false) (by rw [rule_noR HS2.out]) (next_trans bel bb))
   clear bb bel rA rR cA cR s1 s2
   go_wp2
   go_ret
   exact F.out
  | true =>
   have HS2 := hid ok2
   clear ok2
   rintro e w2 ⟨he, bb⟩
   rw [HS2.out] at he
   subst he
   replace rR := rR.next bb
   replace bel := next_trans bel bb
   have cR0 : w2.cell? ⟨w.heap.size + 1, 0, none⟩ = some (.slice (some ⟨b, off, none⟩) n1 c1) := rR.cell 0
   have cX : w2.cell? ⟨b, off, none⟩ = some (.int .i64 x) := by have := (bel.cell (p := ⟨b, off + 0, none⟩) hbB).trans hx; simpa using this
   clear bb rA cA cR L2
   by_cases hneg : x < 0
   ·have F := hid (ansB (b := ruleOkB sg d) (a := false) (by rw [rule_var (by rw [EX.out]; exact hneg)]) bel)
    have hdx : decide (x < 0) = true := decide_eq_true hneg
    clear bel rR s1 s2
    go_wp2
    go_ret
    exact F.out
   ·have hdx : decide (x < 0) = false := decide_eq_false hneg
    have H0 : Hid (HeadRu w 69 #[.slice (some ⟨b, off, none⟩) n1 c1, .slice A2 n2 c2] n2 d (.int .i64 0) w2) := hid ⟨0, Nat.zero_le _, rfl, fun j hj => absurd hj (Nat.not_lt_zero _), rR, bel⟩
    clear bel rR
    go_wp2_with fail
    go_loopw [5] (fun i wr => HeadRu w 69 #[.slice (some ⟨b, off, none⟩) n1 c1, .slice A2 n2 c2] n2 d i wr) (fun i _ => n2 - (intOf i).toNat)
    case atStart => exact H0.out
    case round =>
     obtain ⟨k, hk, rfl, hlow, rr, hb⟩ := hrel
     have HLOW := hid hlow
     clear hlow H0
     have cR0 : wr.cell? ⟨w.heap.size + 1, 0, none⟩ = some (.slice (some ⟨b, off, none⟩) n1 c1) := rr.cell 0
     have cR1 : wr.cell? ⟨w.heap.size + 1, 1, none⟩ = some (.slice A2 n2 c2) := rr.cell 1
     by_cases hlt : k < n2
     ·obtain ⟨b2, off2, y, rfl, hbB2, hy, ey⟩ := s2.spot hlt
      have hy1 : wr.cell? ⟨b2, off2 + k, none⟩ = some (.int .i64 y) := (hb.cell (p := ⟨b2, off2 + k, none⟩) hbB2).trans hy
      have hmem := mem_of_get (by rw [HL2.out]; exact hlt) ey.out
      have j0 : (0 : Int) ≤ (k : Int) := by omega
      have j1 : (k : Int) < (n2 : Int) := by omega
      have LH := hid (fun d' : Nat => l1Has (some ⟨b, off, none⟩) n1 c1 d.1 y (wr.drewN d') (((s1.next hb).drewN d')) hn1)
      by_cases hyn : y < 0
      ·have hdy : decide (y < 0) = true := decide_eq_true hyn
       by_cases hin : y ∈ d.1
       ·have E := hid (decide_eq_true hin)
        have S := hid (fun d' : Nat => headRu_step (w := w) (wr := wr.drewN d') hlt HLOW.out ey (.inr hin) (rr.drewN d') (below_drewN hb d'))
        clear s1 s2 rr hb hmem hin hy ey
        go_wp2_with fail
        go_quiet ((go_at_call 111; exact Calls.quiet_of_same (v := .bool true) ((LH.out _).mono fun _ _ ⟨h1, h2⟩ => ⟨by rw [h2, E.out], h1.symm⟩)))
        go_wp2
        go_roundw
        case rel => exact S.out _
        case measure => simp [intOf]; omega
       ·have E := hid (decide_eq_false hin)
        have F := hid (fun d' : Nat => ansB (w' := wr.drewN d') (b := ruleOkB sg d) (a := false) (by rw [rule_new hmem hyn hin]) (below_drewN hb d'))
        clear s1 s2 rr hb hmem hin hy ey
        go_wp2_with fail
        go_quiet ((go_at_call 111; exact Calls.quiet_of_same (v := .bool false) ((LH.out _).mono fun _ _ ⟨h1, h2⟩ => ⟨by rw [h2, E.out], h1.symm⟩)))
        go_wp2
        go_ret
        exact F.out _
      ·have S := hid (fun d' : Nat => headRu_step (w := w) (wr := wr.drewN d') hlt HLOW.out ey (.inl hyn) (rr.drewN d') (below_drewN hb d'))
       have hdy : decide (y < 0) = false := decide_eq_false hyn
       clear s1 s2 rr hb hmem hy ey
       go_wp2_with fail
       go_quiet (fail)
       go_wp2
       go_roundw
       case rel => exact S.out _
       case measure => simp [intOf]; omega
     ·have F := hid (ansB (b := ruleOkB sg d) (a := true) (by rw [rule_yes HS.out HS2.out (by rw [EX.out]; omega) HL2.out (fun j hj => HLOW.out j (by omega))]) hb)
      clear s1 s2 rr hb
      go_wp2
      go_ret
      exact F.out
def HeadSy (w : World) (T : TypeId) (cs : Array Value) (n : Nat) (f : Rl → Bool) (rs : List Rl) (i : Value) (wr : World) : Prop :=
 ∃ k : Nat, k ≤ n ∧ i = .int .i64 k ∧ (∀ j, j < k → f (rs.getD j ([], [])) = true) ∧ Row wr w.heap.size T cs ∧ Below w.heap.size w wr
theorem headSy_step {w wr : World} {T : TypeId} {cs : Array Value} {n k : Nat} {f : Rl → Bool} {rs : List Rl} {x : Rl} (hk : k < n) (hlow : ∀ j, j < k → f (rs.getD j ([], [])) = true) (ex : Hid (rs.getD k ([], []) = x)) (h : f x = true) (hr : Row wr w.heap.size T cs) (hb : Below w.heap.size w wr) : HeadSy w T cs n f rs (.int .i64 ((k : Int) + 1)) wr :=
 ⟨k + 1, hk, by simp, fun j hj => by
  by_cases e : j = k
  ·subst e; rw [ex.out]; exact h
  ·exact hlow j (by omega), hr, hb⟩
theorem rd_sys {w : World} {B : Nat} {a v : Value} {d : Dat sSystem} (h : Rd w B sSystem [a, v] d) (hz : sz sSystem d ≤ 1048576) : ∃ A n c A' n' c', a = .slice A n c ∧ v = .slice A' n' c' ∧ Seg w B A n d.1 ∧ Cap A n c ∧ Cap A' n' c' ∧ d.2.length = n' ∧ n ≤ 1048576 ∧ n' ≤ 1048576 ∧ Rd w B sRuleS [.slice A' n' c'] d.2 ∧ Rd w B sI [.slice A n c] d.1 ∧ (∀ j, j < n' → sz sRule (d.2.getD j ([], [])) ≤ 1048576) := by
 obtain ⟨g0, g1⟩ := parts_System h
 obtain ⟨z0, z1⟩ := sys_szs hz
 obtain ⟨A, n, c, e, h1, h2⟩ := rd_ints.1 g0
 obtain ⟨A', c', e', h3⟩ := g1.slice
 subst e e'
 exact ⟨A, n, c, A', d.2.length, c', rfl, rfl, h1, h2, h3, rfl, len_ints h1.1 z0, sz_len z1, g1, g0, fun j hj => sz_each z1 hj⟩
theorem rd_at {w wr : World} {B : Nat} {A : Option Addr} {n c : Nat} {rs : List Rl} {k : Nat} (h : Rd w B sRuleS [.slice A n c] rs) (hb : Below B w wr) (hl : rs.length = n) (hk : k < n) : ∃ b off l r x, A = some ⟨b, off, none⟩ ∧ b < B ∧ Hid (rs.getD k ([], []) = x) ∧ wr.cell? ⟨b, off + k * 2, none⟩ = some l ∧ wr.cell? ⟨b, off + k * 2 + 1, none⟩ = some r ∧ Rd wr B sRule [l, r] x := by
 obtain ⟨b, off, n2, c2, es, ev, -, -, hbB, hel, hp, hr⟩ := h.elem (j := k) (by omega)
 injection ev with e1 e2 e3
 subst e1 e2 e3
 obtain ⟨v0, v1, rfl⟩ := cells_Rule hr
 have hpw := hp.keep (w' := wr) (fun p hp => hb.cell (p := p) (by rw [hp]; exact hbB))
 exact ⟨b, off, v0, v1, _, rfl, hbB, hid rfl, hpw 0 (by simp), hpw 1 (by simp), hr.below hb⟩
set_option maxHeartbeats 4000000 in
theorem specSystemOk (a v : Value) (d : Dat sSystem) (w : World) (h : Rd w w.heap.size sSystem [a, v] d) (hz : sz sSystem d ≤ 1048576) :
  Calls Tryz.prog 49 #[.agg #[a, v]] w (AnsB w (sysOkB d.1 d.2)) := by
 have hzs := hid (sys_szs hz)
 obtain ⟨A, n, c, A', m, c', rfl, rfl, hs, hc, hc', hm, hn, hm1, hrs, hsg, hE⟩ := rd_sys h hz
 obtain ⟨W, hW, rA, bel⟩ := box1 w 33 #[.slice A n c, .slice A' m c']
 have HW := hid hW
 have HM := hid hm
 have HE := hid hE
 have HR := hid hrs
 have L1 := hid (specSigOk A n c d.1 W (hs.next bel) hn)
 have LR := hid (fun (w1 : World) (l r : Value) (x : Dat sRule) (bb : Below w.heap.size w w1) (hx : Rd w1 w1.heap.size sRule [l, r] x) (hzx : sz sRule x ≤ 1048576) => specRuleOk (.slice A n c) l r d.1 x w1 (hsg.next bb) hx hzs.out.1 hzx)
 clear hW h hz hs hc hc' hm hE hrs hsg
 cases ok1 : sigOkB d.1 with
 | false =>
  have HS := hid ok1
  clear ok1
  go_enter Tryz.func49, Tryz.ntmps49
  go_wp2_with fail
  rw [← HW.out]
  refine L1.out.mono ?_
  rintro e w1 ⟨he, bb⟩
  rw [HS.out] at he
  subst he
  have F := hid (ansB (b := sysOkB d.1 d.2) (a := false) (by rw [sys_sig HS.out]) (next_trans bel bb))
  clear bb bel rA
  go_wp2
  go_ret
  exact F.out
 | true =>
  have HS := hid ok1
  clear ok1
  go_enter Tryz.func49, Tryz.ntmps49
  go_wp2_with fail
  rw [← HW.out]
  refine L1.out.mono ?_
  rintro e w1 ⟨he, bb⟩
  rw [HS.out] at he
  subst he
  replace rA := rA.next bb
  replace bel := next_trans bel bb
  have cR : w1.cell? ⟨w.heap.size, 1, none⟩ = some (.slice A' m c') := rA.cell 1
  clear bb L1
  by_cases h12 : m ≤ 12
  ·have H0 : Hid (HeadSy w 33 #[.slice A n c, .slice A' m c'] m (ruleOkB d.1) d.2 (.int .i64 0) w1) := hid ⟨0, Nat.zero_le _, rfl, fun j hj => absurd hj (Nat.not_lt_zero _), rA, bel⟩
   clear rA bel
   go_wp2_with fail
   go_loopw [3] (fun i wr => HeadSy w 33 #[.slice A n c, .slice A' m c'] m (ruleOkB d.1) d.2 i wr) (fun i _ => m - (intOf i).toNat)
   case atStart => exact H0.out
   case round =>
    obtain ⟨k, hk, rfl, hlow, rr, hb⟩ := hrel
    have HLOW := hid hlow
    clear hlow H0 cR
    by_cases hlt : k < m
    ·obtain ⟨b, off, l, r, x, rfl, hbB, ex, hc0, hc1, hx⟩ := rd_at HR.out hb HM.out hlt
     have cA : wr.cell? ⟨w.heap.size, 0, none⟩ = some (.slice A n c) := rr.cell 0
     have cR : wr.cell? ⟨w.heap.size, 1, none⟩ = some (.slice (some ⟨b, off, none⟩) m c') := rr.cell 1
     have hzx : sz sRule x ≤ 1048576 := by have := HE.out k hlt; rw [ex.out] at this; exact this
     have L := hid (LR.out wr.drew l r x hb.drew ((hx.more hb.size).keep (fun _ _ => rfl)) hzx)
     have i0 : (0 : Int) ≤ (k : Int) := by omega
     have i1 : (k : Int) < (m : Int) := by omega
     have hbr : b < wr.drew.heap.size := Nat.lt_of_lt_of_le hbB hb.size
     have rd := rr.drew
     have hbd := hb.drew
     clear hx rr hb hzx
     cases ok : ruleOkB d.1 x with
     | false =>
      have HO := hid ok
      clear ok
      have BAD := hid (show sysOkB d.1 d.2 = false from sys_bad (k := k) (by rw [HM.out]; exact hlt) (by rw [ex.out]; exact HO.out))
      have bA := rd.lt
      go_wp2_with fail
      go_region_held3 (fun w' => w'.cell? ⟨w.heap.size, 0, none⟩ = some (.slice A n c) ∧ w'.cell? ⟨w.heap.size, 1, none⟩ = some (.slice (some ⟨b, off, none⟩) m c') ∧ w'.cell? ⟨b, off + k * 2, none⟩ = some l ∧ w'.cell? ⟨b, off + k * 2 + 1, none⟩ = some r)
       (go_keep)
       (first
        | (go_at_call 77; refine L.out.mono ?_; rintro e w2 ⟨he, bb⟩; rw [HO.out] at he; subst he; have c1 : w2.cell? ⟨w.heap.size, 0, none⟩ = some (.slice A n c) := (rd.next bb).cell 0; have c2 : w2.cell? ⟨w.heap.size, 1, none⟩ = some (.slice (some ⟨b, off, none⟩) m c') := (rd.next bb).cell 1; have c3 := (bb.cell (p := ⟨b, off + k * 2, none⟩) hbr).trans hc0; have c4 := (bb.cell (p := ⟨b, off + k * 2 + 1, none⟩) hbr).trans hc1))
      have F := hid (ansB (b := sysOkB d.1 d.2) (a := false) BAD.out.symm (next_trans hbd bb))
      clear bb rd hbd L c1 c2 c3 c4 cA cR hc0 hc1
      go_wp2
      go_ret
      exact F.out
     | true =>
      have HO := hid ok
      clear ok
      have bA := rd.lt
      go_wp2_with fail
      go_region_held3 (fun w' => w'.cell? ⟨w.heap.size, 0, none⟩ = some (.slice A n c) ∧ w'.cell? ⟨w.heap.size, 1, none⟩ = some (.slice (some ⟨b, off, none⟩) m c') ∧ w'.cell? ⟨b, off + k * 2, none⟩ = some l ∧ w'.cell? ⟨b, off + k * 2 + 1, none⟩ = some r)
       (go_keep)
       (first
        | (go_at_call 77; refine L.out.mono ?_; rintro e w2 ⟨he, bb⟩; rw [HO.out] at he; subst he; have c1 : w2.cell? ⟨w.heap.size, 0, none⟩ = some (.slice A n c) := (rd.next bb).cell 0; have c2 : w2.cell? ⟨w.heap.size, 1, none⟩ = some (.slice (some ⟨b, off, none⟩) m c') := (rd.next bb).cell 1; have c3 := (bb.cell (p := ⟨b, off + k * 2, none⟩) hbr).trans hc0; have c4 := (bb.cell (p := ⟨b, off + k * 2 + 1, none⟩) hbr).trans hc1))
      have F := hid (headSy_step (f := ruleOkB d.1) (w := w) hlt HLOW.out ex HO.out (rd.next bb) (next_trans hbd bb))
      clear bb rd hbd L c1 c2 c3 c4 cA cR hc0 hc1
      go_wp2
      go_roundw
      case rel => exact F.out
      case measure => simp [intOf]; omega
    ·have cR : wr.cell? ⟨w.heap.size, 1, none⟩ = some (.slice A' m c') := rr.cell 1
     have F := hid (ansB (b := sysOkB d.1 d.2) (a := true) (by rw [sys_good HS.out (by rw [HM.out]; exact h12) (fun j hj => HLOW.out j (by rw [HM.out] at hj; omega))]) hb)
     clear rr hb
     go_wp2
     go_ret
     exact F.out
  ·have i1 : (12 : Int) < (m : Int) := by omega
   have F := hid (ansB (b := sysOkB d.1 d.2) (a := false) (by rw [sys_long HM.out h12]) bel)
   clear bel rA
   go_wp2
   go_ret
   exact F.out
end ruleSpec
end
section
namespace stk
open Go.RowKit base ints marks app sym appAt segs segsMark kinds shape drawX
set_option maxRecDepth 100000
def Stk (w : World) (Q : Nat → Prop) (lo : Nat) (A : Option Addr) (n c : Nat) (D : List (List Int)) : Prop :=
 D.length = n ∧ ∃ vs : List Value, w.ownsRow lo 22 1 (.slice A n c) n vs ∧ ∀ j, j < n → RdQ w Q sI [vs.getD j undef] (D.getD j [])
def Keep (Q : Nat → Prop) (w w' : World) : Prop := ∀ b, Q b → w'.heap[b]? = w.heap[b]?
section
variable {w w' : World} {Q Q' : Nat → Prop} {lo n c : Nat} {A : Option Addr} {D : List (List Int)}
theorem Keep.trans {w2 : World} (h : Keep Q w w') (k : Keep Q w' w2) : Keep Q w w2 := fun b hb => (k b hb).trans (h b hb)
theorem Keep.below {B : Nat} (h : Below B w w') (hQ : ∀ b, Q b → b < B) : Keep Q w w' := fun b hb => h.block b (hQ b hb)
theorem Keep.grown {r : Option Nat} (h : w.grownBy w' r) (hQ : ∀ b, Q b → b < w.heap.size ∧ some b ≠ r) : Keep Q w w' := by
 intro b hb
 obtain ⟨h1, h2⟩ := hQ b hb
 exact h.block b h1 (fun e => h2 e)
theorem Stk.nil (w : World) (Q : Nat → Prop) (lo : Nat) : Stk w Q lo none 0 0 [] := ⟨rfl, [], World.ownsRow_nil w lo _ _, fun j hj => absurd hj (Nat.not_lt_zero j)⟩
theorem Stk.empty (w : World) (Q : Nat → Prop) (lo : Nat) (h : lo ≤ w.heap.size) : Stk (w.alloc (.cells #[] 22)) Q lo (some ⟨w.heap.size, 0, none⟩) 0 0 [] :=
 ⟨rfl, [], rowsOf (cs := #[]) (Row.new w 22 #[]) rfl (Nat.le_refl _) (by decide) h, fun j hj => absurd hj (Nat.not_lt_zero j)⟩
theorem Stk.single {g : Nat} {v : Value} {x : List Int} (hr : Row w g 22 #[v]) (hlo : lo ≤ g) (hv : RdQ w Q sI [v] x) : Stk w Q lo (some ⟨g, 0, none⟩) 1 1 [x] := by
 refine ⟨rfl, [v], rowsOf (cs := #[v]) hr rfl (Nat.le_refl _) (by decide) hlo, fun j hj => ?_⟩
 have e : j = 0 := by omega
 subst e
 exact hv
theorem Stk.ge (h : Stk w Q lo A n c D) : ∀ k, blk A = some k → lo ≤ k ∧ k < w.heap.size := by
 obtain ⟨-, vs, h2, -⟩ := h
 intro k hk
 exact World.ownsRow.lt h2 k (by rw [blk_own]; exact hk)
theorem Stk.keep {r : Option Nat} (h : Stk w Q lo A n c D) (hg : w.grownBy w' r) (hne : blk A = none ∨ blk A ≠ r) (hk : Keep Q w w') : Stk w' Q lo A n c D := by
 obtain ⟨h1, vs, h2, h3⟩ := h
 exact ⟨h1, vs, World.ownsRow.kept h2 hg (by rw [blk_own]; exact hne), fun j hj => (h3 j hj).keep hk⟩
theorem Stk.next (h : Stk w Q lo A n c D) (hb : Below w.heap.size w w') (hQ : ∀ b, Q b → b < w.heap.size) : Stk w' Q lo A n c D :=
 h.keep (r := none) ⟨hb.os, hb.tape, hb.output, hb.size, fun k hk _ => hb.block k hk⟩ (by cases blk A <;> simp) (Keep.below hb hQ)
theorem Stk.drew (h : Stk w Q lo A n c D) : Stk w.drew Q lo A n c D := by
 obtain ⟨h1, vs, h2, h3⟩ := h
 exact ⟨h1, vs, h2, fun j hj => (h3 j hj).keep fun _ _ => rfl⟩
theorem Stk.drewN (h : Stk w Q lo A n c D) (k : Nat) : Stk (w.drewN k) Q lo A n c D := by
 obtain ⟨h1, vs, h2, h3⟩ := h
 exact ⟨h1, vs, h2, fun j hj => (h3 j hj).keep fun _ _ => rfl⟩
theorem Stk.lower {lo' : Nat} (h : Stk w Q lo A n c D) (hl : lo' ≤ lo) : Stk w Q lo' A n c D := by
 obtain ⟨h1, vs, h2, h3⟩ := h
 exact ⟨h1, vs, World.ownsRow.mono h2 hl, h3⟩
theorem Stk.form (h : Stk w Q lo A n c D) : (A = none ∧ n = 0 ∧ c = 0 ∧ D = []) ∨
  ∃ g cur, A = some ⟨g, 0, none⟩ ∧ lo ≤ g ∧ Row w g 22 cur ∧ n ≤ c ∧ cur.size = c ∧ c ≤ 9223372036854775807 ∧ ∀ j, j < n → ∃ X xn xc, cur[j]? = some (.slice X xn xc) ∧ RdQ w Q sI [.slice X xn xc] (D.getD j []) := by
 obtain ⟨h1, vs, h2, h3⟩ := h
 rcases own_form h2 with ⟨rfl, rfl, rfl, -⟩ | ⟨g, cur, rfl, hg, hr, hnc, hs, hc, hl, hj⟩
 ·exact .inl ⟨rfl, rfl, rfl, List.length_eq_zero_iff.1 h1⟩
 ·refine .inr ⟨g, cur, rfl, hg, hr, hnc, hs, hc, fun j hjn => ?_⟩
  have h4 := h3 j hjn
  obtain ⟨X, xn, xc, e, -⟩ := id h4
  injection e with e
  exact ⟨X, xn, xc, by rw [hj j hjn, e], by rw [← e]; exact h4⟩
theorem Stk.pop {x : List Int} (h : Stk w Q lo A (n + 1) c (D ++ [x])) : Stk w Q lo A n c D := by
 obtain ⟨h1, vs, h2, h3⟩ := h
 rcases own_form h2 with ⟨-, h0, -, -⟩ | ⟨g, cur, rfl, hg, hr, hnc, hs, hc, hl, hj⟩
 ·omega
 ·have hD : D.length = n := by simpa using h1
  refine ⟨hD, cur.toList.take n, rowsOf hr hs (by omega) hc hg, fun j hjn => ?_⟩
  have h4 := h3 j (by omega)
  have e1 : (cur.toList.take n).getD j undef = vs.getD j undef := by
   have h5 := hj j (by omega)
   simp [List.getD, List.getElem?_take, hjn, h5]
  have e2 : (D ++ [x]).getD j [] = D.getD j [] := by simp [List.getD, List.getElem?_append_left (hD ▸ hjn : j < D.length)]
  rw [e1, ← e2]
  exact h4
theorem rdq_one {v : Value} {x : List Int} (h : RdQ w Q sI [v] x) : v.oneCell' = true := h.one v (List.mem_cons_self ..)
end
theorem stk_app {w w' : World} {Q : Nat → Prop} {lo n m c' : Nat} {A A' : Option Addr} {D E : List (List Int)} {vs us : List Value} (h1 : D.length = n) (h2 : vs.length = n) (h3 : ∀ j, j < n → RdQ w Q sI [vs.getD j undef] (D.getD j []))
  (e1 : E.length = m) (e3 : ∀ j, j < m → RdQ w Q sI [us.getD j undef] (E.getD j [])) (ho' : w'.ownsRow lo 22 1 (.slice A' (n + m) c') (n + m) (vs ++ us)) (hg : w.grownBy w' (blk A)) (hlo : lo ≤ w.heap.size) (hQ : ∀ b, Q b → b < lo) (hA : ∀ k, blk A = some k → lo ≤ k) : Stk w' Q lo A' (n + m) c' (D ++ E) := by
 have hk : Keep Q w w' := Keep.grown hg fun b hb => ⟨Nat.lt_of_lt_of_le (hQ b hb) hlo, fun e => by have := hA b e.symm; have := hQ b hb; omega⟩
 refine ⟨by simp [h1, e1], vs ++ us, ho', fun j hj => ?_⟩
 by_cases hjn : j < n
 ·have q1 : (vs ++ us).getD j undef = vs.getD j undef := by simp [List.getD, List.getElem?_append_left (h2 ▸ hjn : j < vs.length)]
  have q2 : (D ++ E).getD j [] = D.getD j [] := by simp [List.getD, List.getElem?_append_left (h1 ▸ hjn : j < D.length)]
  rw [q1, q2]
  exact (h3 j hjn).keep hk
 ·have q1 : (vs ++ us).getD j undef = us.getD (j - n) undef := by simp [List.getD, List.getElem?_append_right (by omega : vs.length ≤ j), h2]
  have q2 : (D ++ E).getD j [] = E.getD (j - n) [] := by simp [List.getD, List.getElem?_append_right (by omega : D.length ≤ j), h1]
  rw [q1, q2]
  exact (e3 (j - n) (by omega)).keep hk
theorem vs_len {w : World} {lo n c : Nat} {A : Option Addr} {vs : List Value} (h : w.ownsRow lo 22 1 (.slice A n c) n vs) : vs.length = n := by
 rcases own_form h with ⟨-, h0, -, hv⟩ | ⟨g, cur, -, -, -, -, -, -, hl, -⟩
 ·rw [hv, h0]; rfl
 ·exact hl
theorem appStk {w : World} {ops : Array Oper} {rest : List Oper} {o : Oper} {a : Act} {K : Exit → Act → World → Prop} (hgd : o.guard = none) (sx x : Operand)
  (ho : o.op = .call { callee := .builtin .append, args := #[sx, x], argTypes := #[61, 61] })
  (Q : Nat → Prop) (lo lo2 : Nat) (A : Option Addr) (n c g m c2 : Nat) (D E : List (List Int)) (hs : a.eval sx = .slice A n c) (hown : Stk w Q lo A n c D)
  (hx : a.eval x = .slice (some ⟨g, 0, none⟩) m c2) (hE : Stk w Q lo2 (some ⟨g, 0, none⟩) m c2 E) (hn : n ≤ 1048576) (hm : m ≤ 1048576) (hlo : lo ≤ w.heap.size) (hQ : ∀ b, Q b → b < lo)
  (h : ∀ A' c' w', Stk w' Q lo A' (n + m) c' (D ++ E) → w.grownBy w' (blk A) → (blk A' = blk A ∨ blk A' = some w.heap.size) → wpList Tryz.prog ops K rest (a.put o.dst (.slice A' (n + m) c')) w') : wpList Tryz.prog ops K (o :: rest) a w := by
 have hge := hown.ge
 obtain ⟨h1, vs, h2, h3⟩ := hown
 obtain ⟨e1, us, e2, e3⟩ := hE
 have hul := vs_len e2
 obtain ⟨i0, hi, hz0, hz1, hz2⟩ := info_parts segsHelp.info_list
 refine wpList_append_own_at (P := Tryz.prog) w hgd sx x 61 ho lo 22 i0 (.slice none 0 0) 1 24 Tryz.underlying61 hi hz0 hz1 hz2 rfl (by decide) (.slice A n c) n vs hs h2 ⟨g, 0, none⟩ m c2 us hx (by rw [hul, Nat.mul_one]) ?_ ?_ (by unfold maxLen; omega) (by omega) hlo ?_
 ·intro j u hu
  exact World.ownsRow.cells e2 (g := g) (by rfl) j u hu
 ·intro u hu
  obtain ⟨j, hj, rfl⟩ := List.mem_iff_getElem.1 hu
  have := rdq_one (e3 j (by omega))
  simpa [List.getD, hj] using this
 ·intro v' w' ho' hg _ hat
  obtain ⟨A', c', rfl⟩ : ∃ A' c', v' = .slice A' (n + m) c' := by
   rcases ho'.2 with ⟨rfl, hz⟩ | ⟨g', cap, cur, rfl, -⟩
   ·exact ⟨none, 0, by rw [show n + m = 0 from hz]⟩
   ·exact ⟨_, _, rfl⟩
  rw [blk_own] at hg
  rw [blk_own, blk_own] at hat
  exact h A' c' w' (stk_app h1 (vs_len h2) h3 e1 e3 ho' hg hlo hQ fun k hk => (hge k hk).1) hg hat
theorem stepStk {w : World} {ops : Array Oper} {o : Oper} {a : Act} {K : Act → World → Prop} {X : Exit → Act → World → Prop} {E : Prop} (hgd : o.guard = none) (sx x : Operand)
  (ho : o.op = .call { callee := .builtin .append, args := #[sx, x], argTypes := #[61, 61] })
  (Q : Nat → Prop) (lo : Nat) (A : Option Addr) (n c : Nat) (D : List (List Int)) (hs : a.eval sx = .slice A n c) (hown : Stk w Q lo A n c D)
  (g c2 : Nat) (v : Value) (y : List Int) (hx : a.eval x = .slice (some ⟨g, 0, none⟩) 1 c2) (hy : w.cell? ⟨g, 0, none⟩ = some v) (hv : RdQ w Q sI [v] y) (hn : n ≤ 1048576) (hlo : lo ≤ w.heap.size) (hQ : ∀ b, Q b → b < lo)
  (h : ∀ g' c' w', Stk w' Q lo (some ⟨g', 0, none⟩) (n + 1) c' (D ++ [y]) → w.grownBy w' (blk A) → (blk A = some g' ∨ g' = w.heap.size) → g' < w'.heap.size → K (a.put o.dst (.slice (some ⟨g', 0, none⟩) (n + 1) c')) w') :
  if Region.wanted o (yielded ops a.tmps) = true then Oper.wp Tryz.prog o a w K X else E := by
 have hge := hown.ge
 obtain ⟨h1, vs, h2, h3⟩ := hown
 obtain ⟨i0, hi, hz0, hz1, hz2⟩ := info_parts segsHelp.info_list
 refine step_append_lies w hgd sx x 61 ho lo 22 i0 (.slice none 0 0) 1 24 Tryz.underlying61 hi hz0 hz1 hz2 rfl (by decide) (.slice A n c) n vs hs h2
  ⟨g, 0, none⟩ 1 c2 [v] hx rfl (fun j u hj => ?_) (fun u hu => by rw [List.mem_singleton.1 hu]; exact rdq_one hv) (by omega) (by unfold maxLen; omega) (by omega) hlo w.heap.size rfl ?_
 ·match j, hj with
  | 0, hj => simp at hj; subst hj; simpa [Addr.add] using hy
 ·intro g' c' w' hown' hg hat hlt
  rw [blk_own] at hg hat
  refine h g' c' w' (stk_app (us := [v]) (E := [y]) h1 (vs_len h2) h3 rfl ?_ hown' hg hlo hQ fun k hk => (hge k hk).1) hg hat hlt
  intro j hj
  have e : j = 0 := by omega
  subst e
  exact hv
end stk
end
section
open Go.Lib (hid)
namespace partsSpec
open Go.RowKit base ints sig term arity endOf marks app segs kinds shape drawX forest stk
set_option maxRecDepth 100000
theorem Fo.le {sg : List Int} {q : Nat} {l : List Int} (h : Fo sg q l) : q ≤ l.length := by
 induction h with
 | nil => exact Nat.zero_le _
 | var x r q h h1 ih => simp; exact ih
 | app x r q h h2 h1 ih => simp; omega
theorem ar_in {sg : List Int} {x : Int} (h : 0 ≤ x) (h2 : 0 ≤ ar sg x) : x < sg.length ∧ ar sg x = sg.getD x.toNat 0 := by
 by_cases h3 : x < sg.length
 ·exact ⟨h3, ar_sym h h3⟩
 ·rw [ar_no (by omega) (fun k => h3 k.2)] at h2
  exact absurd h2 (by decide)
def HeadE (w : World) (A : Option Addr) (n c m p : Nat) (sg a : List Int) (at_ need : Value) (wr : World) : Prop :=
 ∃ (q : Nat) (d rest : List Int), need = .int .i64 q ∧ at_ = .int .i64 ((p + d.length : Nat) : Int) ∧ d ++ rest = a ∧ Fo sg q rest ∧ Row wr w.heap.size 30 #[.slice A n c] ∧ Below w.heap.size w wr
set_option maxHeartbeats 1000000 in
theorem l13End (A A' : Option Addr) (n c m c' : Nat) (sg t : List Int) (p : Nat) (a r : List Int) (w : World) (h : Seg w w.heap.size A n sg) (h' : Seg w w.heap.size A' m t) (hn : n ≤ 1048576) (hm : m ≤ 1048576) (hs : Arities sg) (he : t.drop p = a ++ r) (hf : Fo sg 1 a) :
  Calls Tryz.prog 86 #[.agg #[.slice A n c], .slice A' m c', .int .i64 (p : Int)] w fun e w' => e = .returned (.int .i64 ((p + a.length : Nat) : Int)) ∧ Below w.heap.size w w' := by
 have H := hid h
 have H' := hid h'
 have HS := hid hs
 have HL := hid h'.1
 have HE := hid he
 have hal : p + a.length ≤ m := by
  have h1 := congrArg List.length he
  rw [List.length_drop, h'.1, List.length_append] at h1
  have := hf.pos
  omega
 have S0 := hid (show HeadE w A n c m p sg a (.int .i64 p) (.int .i64 1) (w.alloc (.cells #[.slice A n c] 30)) from ⟨1, [], a, rfl, rfl, rfl, hf, Row.new _ _ _, (Below.refl _ _).alloc (Nat.le_refl _) _⟩)
 clear h h' hs he hf
 go_enter Tryz.func86, Tryz.ntmps86
 go_wp2_with fail
 go_loopw [2, 7] (fun at_ need wr => HeadE w A n c m p sg a at_ need wr) (fun at_ _ _ => m - (intOf at_).toNat)
 case atStart => exact S0.out
 case round =>
  clear S0
  obtain ⟨q, d, rest, rfl, rfl, hd, hf, hr, hb⟩ := hrel
  have hq := Fo.le hf
  have hdl : d.length + rest.length = a.length := by rw [← hd, List.length_append]
  obtain ⟨k, hk⟩ : ∃ k, p + d.length = k := ⟨_, rfl⟩
  have hkm : k + rest.length ≤ m := by omega
  have hat : rest ≠ [] → H'.out.1 = H'.out.1 := fun _ => rfl
  rw [hk]
  cases rest with
  | nil =>
   have h0 := hf.none
   subst h0
   have i0 : ¬ ((0 : Nat) : Int) > 0 := by omega
   have F := hid (show Ending.returned (.int .i64 (k : Int)) = Ending.returned (.int .i64 ((p + a.length : Nat) : Int)) by rw [← hk, ← hd]; simp)
   have B := hid hb
   clear hf hr hb hd hdl hkm hal hk hat
   go_wp2
   go_ret
   exact ⟨F.out, B.out⟩
  | cons x r' =>
   obtain ⟨q', e, g⟩ := hf.inv
   subst e
   have hkl : k < m := by simp at hkm; omega
   have hx : t.getD k 0 = x := by
    have h1 : t.drop k = x :: r' ++ r := by
     rw [← hk, ← List.drop_drop, HE.out, ← hd, List.append_assoc, List.drop_left]
    have h2 := congrArg (fun l => l.getD 0 0) h1
    simpa [List.getD, List.getElem?_drop] using h2
   obtain ⟨b, off, rfl, hbb, hc⟩ := H'.out.round hkl
   rw [hx] at hc
   have cx : wr.cell? ⟨b, off + k, none⟩ = some (.int .i64 x) := (hb.cell (p := ⟨b, off + k, none⟩) hbb).trans hc
   have cA : wr.cell? ⟨w.heap.size, 0, none⟩ = some (.slice A n c) := hr.cell 0
   have i0 : (0 : Int) ≤ (k : Int) := by omega
   have i1 : (k : Int) < (m : Int) := by omega
   have i2 : (q' : Int) ≤ 1048576 := by omega
   have i3 : (0 : Int) < ((q' + 1 : Nat) : Int) := by omega
   have e1 : d ++ [x] ++ r' = a := by rw [← hd]; simp
   have e2 : p + (d ++ [x]).length = k + 1 := by simp; omega
   have HK := hid hk
   rcases g with ⟨h0, g⟩ | ⟨h0, h2, g⟩
   ·have n0 : ¬ (0 : Int) ≤ x := by omega
    have S := hid (show ∀ dd, HeadE w A n c m p sg a (.int .i64 ((k : Int) + 1)) (.int .i64 (q' : Int)) (wr.drewN dd) from fun dd => ⟨q', d ++ [x], r', rfl, by rw [e2]; simp, e1, g, hr.drewN dd, base.below_drewN hb dd⟩)
    clear g hd hdl hkm hal hq hx hc hr hb e1 e2 hk hat
    go_wp2
    go_roundw
    case rel => exact S.out 0
    case measure => simp [intOf]; omega
   ·obtain ⟨h3, h4⟩ := ar_in h0 h2
    obtain ⟨j, rfl⟩ := Int.eq_ofNat_of_zero_le h0
    have hjn : j < n := by have := H.out.1; omega
    obtain ⟨b2, off2, rfl, hbb2, hc2⟩ := H.out.round hjn
    rw [Int.toNat_natCast] at h4
    have cS : wr.cell? ⟨b2, off2 + j, none⟩ = some (.int .i64 (sg.getD j 0)) := (hb.cell (p := ⟨b2, off2 + j, none⟩) hbb2).trans hc2
    have hz := HS.out j (by have := H.out.1; omega)
    obtain ⟨z, ez⟩ : ∃ z, sg.getD j 0 = z := ⟨_, rfl⟩
    rw [ez] at cS hz h4
    have j1 : (0 : Int) ≤ (j : Int) := h0
    have j2 : (j : Int) < (n : Int) := by omega
    have S := hid (show ∀ dd, HeadE w (some ⟨b2, off2, none⟩) n c m p sg a (.int .i64 ((k : Int) + 1)) (.int .i64 ((q' : Int) + z)) (wr.drewN dd) from fun dd => ⟨z.toNat + q', d ++ [(j : Int)], r', by simp; omega, by rw [e2]; simp, e1, by rw [h4] at g; exact g, hr.drewN dd, base.below_drewN hb dd⟩)
    have z1 := hz.1
    have z2 := hz.2
    clear g hd hdl hkm hal hq hx hc hr hb e1 e2 hk hat hz ez h2 h3 h4 hc2 h0
    go_wp2_with fail
    go_quiet (fail)
    go_wp2
    go_roundw
    case rel => rw [show (q' : Int) + 1 + z - 1 = (q' : Int) + z by omega]; exact S.out _
    case measure => simp [intOf]; omega
def HeadP (w : World) (Q : Nat → Prop) (A : Option Addr) (n c : Nat) (ps : List (List Int)) (out at_ i : Value) (wr : World) : Prop :=
 ∃ (ds rs : List (List Int)) (g k oc : Nat), ds ++ rs = ps ∧ ds.length = k ∧ i = .int .i64 k ∧ at_ = .int .i64 ((1 + ds.flatten.length : Nat) : Int) ∧ out = .slice (some ⟨g, 0, none⟩) k oc ∧ Stk wr Q (w.heap.size + 1) (some ⟨g, 0, none⟩) k oc ds ∧ Row wr w.heap.size 30 #[.slice A n c] ∧ Below w.heap.size w wr
theorem flat_le : ∀ {ps : List (List Int)}, (∀ p ∈ ps, 1 ≤ p.length) → ps.length ≤ ps.flatten.length
 | [], _ => Nat.zero_le _
 | p :: ps, h => by
  have h1 := flat_le fun q hq => h q (List.mem_cons_of_mem _ hq)
  have h2 := h p (List.mem_cons_self ..)
  rw [List.flatten_cons, List.length_append, List.length_cons]
  omega
theorem rdq_cut {w : World} {Q : Nat → Prop} {b off m c at_ j : Nat} {u : List Int} (h : RdQ w Q sI [.slice (some ⟨b, off, none⟩) m c] u) (h1 : 1 ≤ j) (h2 : at_ + j ≤ m) : RdQ w Q sI [.slice (some ⟨b, off + at_, none⟩) j (c - at_)] ((u.drop at_).take j) := by
 obtain ⟨A, n, c', e, hc, hl, h3⟩ := h
 injection e with e
 injection e with e1 e2 e3
 subst e1 e2 e3
 obtain ⟨b', off', e4, hq, hp⟩ := h3 (by omega)
 injection e4 with e4
 injection e4 with e5 e6
 subst e5 e6
 have hlu : u.length = m := hl
 refine rdq_seg (by rw [List.length_take, List.length_drop, hlu]; omega) ⟨by have := hc.1; omega, by have := hc.2.1; omega, fun e => by cases e⟩ fun _ => ⟨b, off + at_, rfl, hq, fun j' hj' => ?_⟩
 obtain ⟨es, -, hp1, hp2⟩ := hp (at_ + j') (by omega)
 have hp2 : es = [.int .i64 (u.getD (at_ + j') 0)] := hp2
 subst hp2
 have h4 := hp1 0 (by simp)
 have e7 : off + at_ + j' = off + (at_ + j') * nc .num + 0 := by show _ = _ + _ * 1 + 0; omega
 have e8 : ((u.drop at_).take j).getD j' 0 = u.getD (at_ + j') 0 := by
  simp [List.getD, List.getElem?_take, hj', List.getElem?_drop]
 rw [e7, e8]
 exact h4
set_option maxHeartbeats 1000000 in
theorem l13Parts (Q : Nat → Prop) (A A' : Option Addr) (n c m c' : Nat) (sg u : List Int) (w : World) (h : Seg w w.heap.size A n sg) (hu : RdQ w Q sI [.slice A' m c'] u) (hQ : ∀ b, Q b → b < w.heap.size) (hn : n ≤ 1048576) (hm : m ≤ 1048576) (hs : Arities sg) (hf : Fo sg 1 u) (h0 : 0 ≤ u.getD 0 0) :
  Calls Tryz.prog 61 #[.agg #[.slice A n c], .slice A' m c'] w fun e w' => ∃ g k kc ps, e = .returned (.slice (some ⟨g, 0, none⟩) k kc) ∧ Stk w' Q w.heap.size (some ⟨g, 0, none⟩) k kc ps ∧ Prt sg u ps ∧ Below w.heap.size w w' := by
 have sU : Seg w w.heap.size A' m u := Rd.seg (hu.rd hQ)
 have hcap : Cap A' m c' := by obtain ⟨B, m', c2, e, hc, -⟩ := id hu; injection e with e; injection e with e1 e2 e3; subst e1 e2 e3; exact hc
 obtain ⟨ps, hP⟩ := prt_ex hf h0
 obtain ⟨⟨x, hx0, hx2, hux, hpl⟩, hpf⟩ := id hP
 obtain ⟨hxn, hxa⟩ := ar_in hx0 hx2
 obtain ⟨j, rfl⟩ := Int.eq_ofNat_of_zero_le hx0
 have hjn : j < n := by have := h.1; omega
 have hm1 : 0 < m := by have := sU.1; rw [hux] at this; simp at this; omega
 rw [Int.toNat_natCast] at hxa
 obtain ⟨b, off, rfl, hbb, hc⟩ := sU.round hm1
 rw [hux] at hc
 have hc : w.cell? ⟨b, off + 0, none⟩ = some (.int .i64 (j : Int)) := hc
 obtain ⟨b2, off2, rfl, hbb2, hc2⟩ := h.round hjn
 obtain ⟨z, ez⟩ : ∃ z, sg.getD j 0 = z := ⟨_, rfl⟩
 rw [ez] at hc2 hxa
 rw [hxa] at hpl
 have hz := hs j (by have := h.1; omega)
 rw [ez] at hz
 obtain ⟨W, hW⟩ : ∃ W, W = (w.alloc (.cells #[.slice (some ⟨b2, off2, none⟩) n c] 30)).alloc (.cells #[] 22) := ⟨_, rfl⟩
 have hw1 : (w.alloc (.cells #[.slice (some ⟨b2, off2, none⟩) n c] 30)).heap.size = w.heap.size + 1 := by simp
 have S0 := hid (show HeadP w Q (some ⟨b2, off2, none⟩) n c ps (.slice (some ⟨w.heap.size + 1, 0, none⟩) 0 0) (.int .i64 1) (.int .i64 0) W from ⟨[], ps, w.heap.size + 1, 0, 0, rfl, rfl, rfl, rfl, rfl, by
  have h1 := Stk.empty (w.alloc (.cells #[.slice (some ⟨b2, off2, none⟩) n c] 30)) Q (w.heap.size + 1) (by rw [hw1]; exact Nat.le_refl _)
  rw [hw1] at h1
  rw [hW]
  exact h1, by rw [hW]; exact (Row.new _ _ _).alloc _, by rw [hW]; exact ((Below.refl _ _).alloc (Nat.le_refl _) _).alloc (by simp) _⟩)
 have HW := hid hW
 have H := hid h
 have HU := hid hu
 have HSU := hid sU
 have HS := hid hs
 have HP := hid hP
 have HF := hid hpf
 have HQ := hid hQ
 have HPL := hid hpl
 have HUX := hid hux
 have hlu : m = 1 + ps.flatten.length := by have h9 := sU.1; rw [hux, List.length_cons] at h9; omega
 have HLU := hid hlu
 have z1 := hz.1
 have z2 := hz.2
 have hmc := hcap.1
 have hcc := hcap.2.1
 have x1 : (0 : Int) ≤ (j : Int) := hx0
 have x2 : (j : Int) < (n : Int) := by omega
 have x3 : ¬ (j : Int) < 0 := by omega
 have hc : w.cell? ⟨b, off, none⟩ = some (.int .i64 (j : Int)) := hc
 have cR : ((w.alloc (.cells #[.slice (some ⟨b2, off2, none⟩) n c] 30)).alloc (.cells #[] 22)).cell? ⟨b, off, none⟩ = some (.int .i64 (j : Int)) := (World.cell?_alloc_lt _ _ _ (by rw [hw1]; show b < _; omega)).trans ((World.cell?_alloc_lt _ _ _ hbb).trans hc)
 clear h hu sU hs hP hpf hQ hpl hux hlu hz hcap hW hxn hxa hx0 hx2 ez h0 hf
 go_enter Tryz.func61, Tryz.ntmps61
 go_wp2_with fail
 rw [← HW.out]
 clear cR
 go_loopw [5, 6, 7] (fun out at_ i wr => HeadP w Q (some ⟨b2, off2, none⟩) n c ps out at_ i wr) (fun _ _ i _ => z.toNat - (intOf i).toNat)
 case atStart => exact S0.out
 case round =>
  clear S0
  obtain ⟨ds, rs, g, k, oc, hds, hk, rfl, rfl, rfl, oS, hr, hb⟩ := hrel
  have cA : wr.cell? ⟨w.heap.size, 0, none⟩ = some (.slice (some ⟨b2, off2, none⟩) n c) := hr.cell 0
  have cx : wr.cell? ⟨b, off, none⟩ = some (.int .i64 (j : Int)) := (hb.cell (p := ⟨b, off, none⟩) hbb).trans hc
  have cz : wr.cell? ⟨b2, off2 + j, none⟩ = some (.int .i64 z) := (hb.cell (p := ⟨b2, off2 + j, none⟩) hbb2).trans hc2
  have hlen : k + rs.length = z.toNat := by rw [← HPL.out, ← hds, List.length_append, hk]
  cases rs with
  | nil =>
   have i0 : ¬ (k : Int) < z := by simp at hlen; omega
   rw [List.append_nil] at hds
   subst hds
   have F := hid (show ∃ g k kc ps, (Ending.returned (.slice (some ⟨g, 0, none⟩) k kc) : Ending) = .returned (.slice (some ⟨g, 0, none⟩) k kc) ∧ True from ⟨0, 0, 0, ds, rfl, trivial⟩)
   have O := hid oS
   have B := hid hb
   clear oS hb hr hlen
   go_wp2_with fail
   go_quiet (fail)
   go_wp2
   go_ret
   exact ⟨g, k, oc, ds, rfl, (O.out.drewN _).lower (Nat.le_succ _), HP.out, base.below_drewN B.out _⟩
  | cons p rs =>
   have i0 : (k : Int) < z := by simp at hlen; omega
   have hp1 : 1 ≤ p.length := (HF.out p (by rw [← hds]; simp)).pos
   have hfl : ps.flatten = ds.flatten ++ (p ++ rs.flatten) := by rw [← hds]; simp
   obtain ⟨q, hq⟩ : ∃ q, 1 + ds.flatten.length = q := ⟨_, rfl⟩
   have hql : q + p.length ≤ m := by rw [HLU.out, hfl, List.length_append, List.length_append, ← hq]; omega
   have hdr : u.drop q = p ++ rs.flatten := by rw [HUX.out, ← hq, Nat.add_comm, List.drop_succ_cons, hfl, List.drop_left]
   have hk9 : k ≤ 1048576 := by omega
   rw [hq]
   have LE := hid (fun d => l13End (some ⟨b2, off2, none⟩) (some ⟨b, off, none⟩) n c m c' sg u q p rs.flatten (wr.drewN d) ((H.out.next hb).drewN d) ((HSU.out.next hb).drewN d) hn hm HS.out hdr (HF.out p (by rw [← hds]; simp)))
   have hcut := rdq_cut (at_ := q) (j := p.length) HU.out hp1 hql
   have e9 : (u.drop q).take p.length = p := by rw [hdr, List.take_left]
   rw [e9] at hcut
   obtain ⟨pl, hpl⟩ : ∃ pl, p.length = pl := ⟨_, rfl⟩
   rw [hpl] at hcut LE hp1 hql
   have c0 : (0 : Int) ≤ (q : Int) := by omega
   have c1 : (q : Int) ≤ ((q + pl : Nat) : Int) := by omega
   have c2 : ((q + pl : Nat) : Int) ≤ (c' : Int) := by omega
   have c3 : ¬ c' = q := by omega
   have HCUT := hid hcut
   have HDS := hid hds
   have HQQ := hid hq
   have HKK := hid hk
   have HPP := hid hpl
   have hzw := hb.size
   clear hcut hds hq hk hfl hdr e9 hpl
   go_wp2_with fail
   go_quiet (fail)
   go_wp2_with fail
   refine (LE.out _).mono ?_
   rintro e w1 ⟨rfl, bb⟩
   have hQr : ∀ b, Q b → b < (wr.drewN nq).heap.size := fun b hb9 => Nat.lt_of_lt_of_le (HQ.out b hb9) hzw
   replace oS := (oS.drewN nq).next bb hQr
   replace hr := (hr.drewN nq).next bb
   replace hb := next_trans (base.below_drewN hb nq) bb
   have hz1 : w.heap.size < w1.heap.size := hr.lt
   have hcut1 := HCUT.out.keep (Keep.below (hb.mono (Nat.le_refl _)) HQ.out)
   clear bb LE cA cx cz
   have oS2 := oS.next (w' := w1.alloc (.cells #[.slice (some ⟨b, off + q, none⟩) pl (c' - q)] 22)) ((Below.refl _ _).alloc (Nat.le_refl _) _) (fun b hb9 => Nat.lt_trans (HQ.out b hb9) hz1)
   have oP : Stk (w1.alloc (.cells #[.slice (some ⟨b, off + q, none⟩) pl (c' - q)] 22)) Q w1.heap.size (some ⟨w1.heap.size, 0, none⟩) 1 1 [p] := Stk.single (Row.new _ _ _) (Nat.le_refl _) (hcut1.keep (Keep.below ((Below.refl w1.heap.size w1).alloc (Nat.le_refl _) _) (fun b hb9 => Nat.lt_trans (HQ.out b hb9) hz1)))
   have hr2 := hr.alloc (.cells #[.slice (some ⟨b, off + q, none⟩) pl (c' - q)] 22)
   have hb2 := hb.alloc (by have := hb.size; exact this) (.cells #[.slice (some ⟨b, off + q, none⟩) pl (c' - q)] 22)
   have hz3 : w.heap.size + 1 ≤ (w1.alloc (.cells #[.slice (some ⟨b, off + q, none⟩) pl (c' - q)] 22)).heap.size := by simp; omega
   clear oS hr hb hcut1
   go_wp2_with (at_builtin; refine appStk rfl _ _ rfl Q (w.heap.size + 1) w1.heap.size (some ⟨g, 0, none⟩) k oc w1.heap.size 1 1 ds [p] rfl oS2 rfl oP hk9 (by omega) hz3 (fun b hb9 => Nat.lt_succ_of_lt (HQ.out b hb9)) ?_; intro A' oc' w2 o2 g2 _; refine (?_ : Hid _).out)
   obtain ⟨ea, e0, -, -⟩ | ⟨g', cur, rfl, -, -⟩ := o2.form
   ·omega
   have hgg := (oS2.ge g rfl).1
   have S := hid (show HeadP w Q (some ⟨b2, off2, none⟩) n c ps (.slice (some ⟨g', 0, none⟩) (k + 1) oc') (.int .i64 ((q + pl : Nat) : Int)) (.int .i64 ((k : Int) + 1)) w2 from
    ⟨ds ++ [p], rs, g', k + 1, oc', by rw [← HDS.out]; simp, by simp [HKK.out], by simp, by rw [← HQQ.out, ← HPP.out]; simp; omega, rfl, o2, (g2.block w.heap.size hr2.lt (fun e => by have e : some w.heap.size = some g := e; injection e with e; omega)).trans hr2, hb2.grown g2 hb2.size (fun k hk => by have hk : some g = some k := hk; injection hk with hk; omega)⟩)
   clear o2 g2 oS2 oP hr2 hb2
   refine hid ?_
   go_wp2
   go_roundw
   case rel => exact S.out
   case measure => simp [intOf]; omega
end partsSpec
end
end Go.Proofs.YtlmofkeemlfpgaaGreat
