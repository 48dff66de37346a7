/-
  MERGED: my texts Rule9, AtOnceMath, DrawTermW, DrawNew, DrawPairL, DrawOne, DrawSub, DrawS, DrawRule, Max, CompSpec, Then, CompImpl, DrawKnown, DrawSys, Known9, Sys9, At9, StepSpecC, Big, WFnAtOnce, one behind the other, as they are. By an AI agent.
-/
import Derived.Test.YtjfpejohpjaahaaMFnAtOnce5
import Derived.Deep.AppendLies
import Derived.Deep.DeepCutAuto
import Derived.Deep.RegionHeld3
import Derived.Laws.NewBlocks
import Derived.Laws.EntriesVeiled
namespace Go.Proofs.Ytjfpejohpjaahaa
section
open Go.Lib (hid)
namespace rule9
open Go.RowKit base ints sig term termOk termFacts cursor marks app appAt segs sym sub varsMath vars9 dice drawSig drawTerm drawX forest ruleMath draw9
open drawAny (Own.put)
open shape (Sh Dat nc dft sI sz)
open kindsR (sRule)
set_option maxRecDepth 100000
theorem ok9 {xs : List Int} (h : Fo sg9 1 xs) (hl : xs.length ≤ 60) (hv : ∀ x ∈ xs, -24 ≤ x) : termOkB sg9 xs = true := term_mk sg9_ok hl (scan_fo h hv)
theorem fo_set : ∀ {r : List Int} {q k : Nat} {y : Int}, Fo sg9 q r → k < r.length → r.getD k 0 < 0 → (y < 0 ∨ y = 2) → Fo sg9 q (r.set k y)
 | [], _, _, _, _, hk, _, _ => absurd hk (Nat.not_lt_zero _)
 | x :: r, q, 0, y, h, _, hx, hy => by
  have hx : x < 0 := hx
  obtain ⟨q', rfl, h2⟩ := h.inv
  rcases h2 with ⟨-, h3⟩ | ⟨h4, -⟩
  ·show Fo sg9 (q' + 1) (y :: r)
   rcases hy with hy | rfl
   ·exact .var y r q' hy h3
   ·exact .app 2 r q' (by omega) (by rw [ar9_2]; omega) (by rw [ar9_2]; simpa using h3)
  ·omega
 | x :: r, q, k + 1, y, h, hk, hx, hy => by
  obtain ⟨q', rfl, h2⟩ := h.inv
  have hk : k < r.length := by simpa using hk
  have hx : r.getD k 0 < 0 := hx
  show Fo sg9 (q' + 1) (x :: r.set k y)
  rcases h2 with ⟨h0, h3⟩ | ⟨h0, h4, h3⟩
  ·exact .var x _ q' h0 (fo_set h3 hk hx hy)
  ·exact .app x _ q' h0 h4 (fo_set h3 hk hx hy)
theorem rule_mk {sg xs ys : List Int} (h1 : termOkB sg xs = true) (h2 : termOkB sg ys = true) (h3 : 0 ≤ hd xs) (h4 : ∀ x ∈ ys, x < 0 → x ∈ xs) : ruleOkB sg (xs, ys) = true := by
 unfold ruleOkB
 have e4 : ys.any (newB xs) = false := by
  rw [List.any_eq_false]
  intro x hx
  unfold newB
  simp only [decide_eq_true_eq]
  rintro ⟨h5, h6⟩
  exact h6 (h4 x hx h5)
 have e3 : decide (hd xs < 0) = false := decide_eq_false (by omega)
 show (termOkB sg xs && (termOkB sg ys && (!decide (hd xs < 0) && !ys.any (newB xs)))) = true
 rw [h1, h2, e3, e4]
 rfl
theorem of_vars {sg xs : List Int} {v : Int} (h : v ∈ varsI sg xs) : -1 - v ∈ xs ∧ -1 - v < 0 := by
 unfold varsI at h
 split at h
 ·have h1 := vars_mem.1 h
  unfold negs at h1
  obtain ⟨n, h2, e⟩ := List.mem_map.1 h1
  obtain ⟨h3, h4⟩ := List.mem_filter.1 h2
  rw [show -1 - v = n by omega]
  exact ⟨h3, by simpa using h4⟩
 ·cases h
def Right9 (r : List Int × List Int) : Prop := ruleOkB sg9 r = true ∧ r.2.length ≤ 7
def AnsR9 (w : World) (p : Nat) (A : Option Addr) (n c : Nat) (e : Ending) (w' : World) : Prop :=
 ∃ a1 n1 c1 a2 n2 c2 xs ys, e = .returned (.agg #[.slice a1 n1 c1, .slice a2 n2 c2]) ∧ RdQ w' (fun b => w.heap.size ≤ b ∧ b < w'.heap.size) sRule [.slice a1 n1 c1, .slice a2 n2 c2] ((xs, ys) : List Int × List Int) ∧ Right9 (xs, ys) ∧ xs.length ≤ 16 ∧ ys.length ≤ 16 ∧ D9 w' p A n c ∧ w.grownBy w' (some p)
structure Z9 (w : World) (p : Nat) (A : Option Addr) (n c : Nat) (wr : World) : Prop where
 d : D9 wr p A n c
 r : Row wr w.heap.size 75 #[.slice none 0 0, .slice none 0 0]
 g : w.grownBy wr (some p)
 hp : p < w.heap.size
structure L9 (w : World) (p : Nat) (A : Option Addr) (n c : Nat) (O : Option Addr) (on oc : Nat) (xs : List Int) (wr : World) : Prop where
 z : Z9 w p A n c wr
 l : Own wr (w.heap.size + 1) (.slice O on oc) xs
 f : Fo sg9 1 xs
 h : 0 ≤ hd xs
 n7 : xs.length ≤ 7
 v : ∀ x ∈ xs, -2 ≤ x
structure R9 (w : World) (p : Nat) (A : Option Addr) (n c : Nat) (O : Option Addr) (on oc : Nat) (xs : List Int) (vb vo vn : Nat) (vs : List Int) (gp pn pc : Nat) (ys : List Int) (wr : World) : Prop where
 z : L9 w p A n c O on oc xs wr
 r : ∃ B, Own wr B (.slice (some ⟨gp, 0, none⟩) pn pc) ys ∧ w.heap.size + 1 ≤ B ∧ (∀ k, blk O = some k → k < B) ∧ (0 < vn → vb < B)
 vp : p < vb
 c : ∀ j, j < vn → wr.cell? ⟨vb, vo + j, none⟩ = some (.int .i64 (vs.getD j 0))
 f : Fo sg9 1 ys
 n7 : ys.length ≤ 7
section
variable {w : World} {p : Nat} {A : Option Addr} {n c : Nat} {O : Option Addr} {on oc : Nat} {xs : List Int} {vb vo vn : Nat} {vs : List Int} {gp pn pc : Nat} {ys : List Int} {wr w' : World}
theorem Z9.dice (t : Z9 w p A n c wr) (d : D9 w' p A n c) (hg : wr.grownBy w' (some p)) : Z9 w p A n c w' :=
 ⟨d, marks.Row.away t.r hg (fun e => by injection e; have := t.hp; omega), grown_trans t.g hg, t.hp⟩
theorem Z9.over (t : Z9 w p A n c wr) (hb : Below (w.heap.size + 1) wr w') : Z9 w p A n c w' :=
 ⟨t.d.keep hb (by have := t.hp; omega), t.r.below hb (by omega), grow9 t.g (hb.mono (Nat.le_succ _)), t.hp⟩
theorem L9.dice (t : L9 w p A n c O on oc xs wr) (d : D9 w' p A n c) (hg : wr.grownBy w' (some p)) : L9 w p A n c O on oc xs w' :=
 ⟨t.z.dice d hg, Own.far t.l hg (fun k hk => by injection hk; have := t.z.hp; omega), t.f, t.h, t.n7, t.v⟩
theorem L9.next (t : L9 w p A n c O on oc xs wr) (hb : Below wr.heap.size wr w') : L9 w p A n c O on oc xs w' :=
 ⟨t.z.over (hb.mono (by have := t.z.r.lt; omega)), Own.next t.l hb, t.f, t.h, t.n7, t.v⟩
theorem R9.dice (t : R9 w p A n c O on oc xs vb vo vn vs gp pn pc ys wr) (d : D9 w' p A n c) (hg : wr.grownBy w' (some p)) : R9 w p A n c O on oc xs vb vo vn vs gp pn pc ys w' := by
 obtain ⟨B, h1, h2, h3, h4⟩ := t.r
 refine ⟨t.z.dice d hg, ⟨B, Own.far h1 hg (fun k hk => by injection hk; have := t.z.z.hp; omega), h2, h3, h4⟩, t.vp, fun j hj => ?_, t.f, t.n7⟩
 have h5 : vb < wr.heap.size := by have h6 := Own.ge h1 gp rfl; have h7 := (World.ownsRow.lt h1 gp rfl).2; have h8 := h4 (by omega); omega
 exact (World.cell?_of_block (a := ⟨vb, vo + j, none⟩) (hg.block vb h5 (fun e => by injection e with e; have := t.vp; omega))).trans (t.c j hj)
theorem R9.put (t : R9 w p A n c O on oc xs vb vo vn vs gp pn pc ys wr) (k : Nat) (y : Int) (hk : k < ys.length) (hx : ys.getD k 0 < 0) (hy : y < 0 ∨ y = 2) : R9 w p A n c O on oc xs vb vo vn vs gp pn pc (ys.set k y) (wr.setCell ⟨gp, k, none⟩ (.int .i64 y)) := by
 obtain ⟨B, h1, h2, h3, h4⟩ := t.r
 have hge := Own.ge h1 gp rfl
 have hb : Below (w.heap.size + 1) wr (wr.setCell ⟨gp, k, none⟩ (.int .i64 y)) := (Below.refl _ _).setCell (p := ⟨gp, k, none⟩) (by show w.heap.size + 1 ≤ gp; omega) _
 have hg : wr.grownBy (wr.setCell ⟨gp, k, none⟩ (.int .i64 y)) (some gp) := grown_put (World.grownBy.refl wr _) k _
 have hl : Own (wr.setCell ⟨gp, k, none⟩ (.int .i64 y)) (w.heap.size + 1) (.slice O on oc) xs := by
  refine World.ownsRow.kept t.z.l hg ?_
  cases e : (Value.slice O on oc).ownBlock with
  | none => exact .inl rfl
  | some q =>
   refine .inr (fun e2 => ?_)
   injection e2 with e2
   have := h3 q (by rw [← blk_own (n := on) (c := oc)]; exact e)
   omega
 refine ⟨⟨t.z.z.over hb, hl, t.z.f, t.z.h, t.z.n7, t.z.v⟩, ⟨B, Own.put h1 k y, h2, h3, h4⟩, t.vp, fun j hj => ?_, fo_set t.f hk hx hy, by rw [List.length_set]; exact t.n7⟩
 exact (World.cell?_setCell_other wr _ ⟨vb, vo + j, none⟩ _ (fun e => by injection e with e1; have h8 := h4 (by omega); omega)).trans (t.c j hj)
theorem result9 (t : R9 w p A n c O on oc xs vb vo vn vs gp pn pc ys wr) (hin : ∀ x ∈ ys, x < 0 → x ∈ xs) :
  AnsR9 w p A n c (.returned (.agg #[.slice O on oc, .slice (some ⟨gp, 0, none⟩) pn pc])) ((wr.setCell ⟨w.heap.size, 0, none⟩ (.slice O on oc)).setCell ⟨w.heap.size, 1, none⟩ (.slice (some ⟨gp, 0, none⟩) pn pc)) := by
 obtain ⟨B, h1, h2, h3, h4⟩ := t.r
 have hS : Below w.heap.size wr ((wr.setCell ⟨w.heap.size, 0, none⟩ (.slice O on oc)).setCell ⟨w.heap.size, 1, none⟩ (.slice (some ⟨gp, 0, none⟩) pn pc)) := ((Below.refl _ wr).setCell (p := ⟨w.heap.size, 0, none⟩) (Nat.le_refl _) _).setCell (p := ⟨w.heap.size, 1, none⟩) (Nat.le_refl _) _
 have hG : wr.grownBy ((wr.setCell ⟨w.heap.size, 0, none⟩ (.slice O on oc)).setCell ⟨w.heap.size, 1, none⟩ (.slice (some ⟨gp, 0, none⟩) pn pc)) (some w.heap.size) := grown_put (grown_put (World.grownBy.refl wr _) 0 _) 1 _
 have l' := Own.far t.z.l hG (fun k hk => by injection hk; omega)
 have r' := Own.far h1 hG (fun k hk => by injection hk; omega)
 have k1 := ok9 t.z.f (by have := t.z.n7; omega) (fun x hx => by have := t.z.v x hx; omega)
 have k2 := ok9 t.f (by have := t.n7; omega) (fun x hx => by
  by_cases h9 : x < 0
  ·have := t.z.v x (hin x hx h9); omega
  ·omega)
 exact ⟨_, _, _, _, _, _, xs, ys, rfl, RdQ.cat (ca := [_]) (cb := [_]) (rdq_own l' fun b h1 h2 _ => ⟨by omega, h2⟩) (rdq_own r' fun b h1 h2 _ => ⟨by omega, h2⟩), ⟨rule_mk k1 k2 t.z.h hin, t.n7⟩, by have := t.z.n7; omega, by have := t.n7; omega, t.z.z.d.keep hS t.z.z.hp, grow9 t.z.z.g hS⟩
end
theorem left1 {w wr u : World} {p : Nat} {A : Option Addr} {n c : Nat} {O : Option Addr} {on oc : Nat} {zs : List Int} (t : Z9 w p A n c u) (ho : Own u (w.heap.size + 1) (.slice O on oc) ([1] ++ zs)) (h : T9 2 3 zs) : L9 w p A n c O on oc ([1] ++ zs) u := by
 obtain ⟨h1, h2, h3⟩ := h
 refine ⟨t, ho, .app 1 zs 0 (by omega) (by rw [ar9_1]; omega) (by rw [ar9_1]; exact h1), (by show (0 : Int) ≤ 1; omega), by simp; omega, fun x hx => ?_⟩
 rcases List.mem_append.1 hx with e | e
 ·rw [List.mem_singleton.1 e]; omega
 ·exact h3 x e
theorem left0 {w wr u : World} {p : Nat} {A : Option Addr} {n c : Nat} {O : Option Addr} {on oc : Nat} {zs ys : List Int} (t : Z9 w p A n c u) (ho : Own u (w.heap.size + 1) (.slice O on oc) (([0] ++ zs) ++ ys)) (h : T9 2 3 zs) (h' : T9 2 1 ys) : L9 w p A n c O on oc (([0] ++ zs) ++ ys) u := by
 obtain ⟨h1, h2, h3⟩ := h
 obtain ⟨h4, h5, h6⟩ := h'
 refine ⟨t, ho, .app 0 (zs ++ ys) 0 (by omega) (by rw [ar9_0]; omega) (by rw [ar9_0]; exact h1.append h4), (by show (0 : Int) ≤ 0; omega), by simp; omega, fun x hx => ?_⟩
 rcases List.mem_append.1 hx with e | e
 ·rcases List.mem_append.1 e with e | e
  ·rw [List.mem_singleton.1 e]; omega
  ·exact h3 x e
 ·exact h6 x e
theorem own_row {w : World} {lo : Nat} {A : Option Addr} {n c : Nat} {xs : List Int} (h : Own w lo (.slice A n c) xs) (hn : 1 ≤ n) : ∃ g cur, A = some ⟨g, 0, none⟩ ∧ lo ≤ g ∧ Row w g 2 cur := by
 have hl := Own.len h
 rcases own_form (n := n) (vs := xs.map (Value.int .i64)) (by rw [hl]; rw [hl] at h; exact h) with ⟨_, e, _⟩ | ⟨g, cur, e, hg, hr, _⟩
 ·omega
 ·exact ⟨g, cur, e, hg, hr⟩
theorem done_set {xs ys : List Int} {k : Nat} {y : Int} (h : ∀ j, j < k → ys.getD j 0 < 0 → ys.getD j 0 ∈ xs) (hk : k < ys.length) (hy : y < 0 → y ∈ xs) : ∀ j, j < k + 1 → (ys.set k y).getD j 0 < 0 → (ys.set k y).getD j 0 ∈ xs := by
 intro j hj
 by_cases e : j = k
 ·subst e
  rw [List.getD, List.getElem?_set_self hk, Option.getD_some]
  exact hy
 ·rw [List.getD, List.getElem?_set_ne (fun h => e h.symm)]
  exact h j (by omega)
set_option maxHeartbeats 4000000 in
theorem w9Rule (p : Nat) (A : Option Addr) (n c : Nat) (w : World) (hd : D9 w p A n c) :
  Calls Try.prog 42 #[.pointer (some ⟨p, 0, none⟩)] w (AnsR9 w p A n c) := by
 have hp := hd.lt
 have T23 := hid (fun (u : World) (d : D9 u p A n c) => w9Term p A n c 2 (by omega) (by omega) 1 2 u d (by omega) (by omega) (by omega))
 have T12 := hid (fun (u : World) (d : D9 u p A n c) => w9Term p A n c 2 (by omega) (by omega) 0 1 u d (by omega) (by omega) (by omega))
 have T37 := hid (fun (u : World) (d : D9 u p A n c) => w9Term p A n c 2 (by omega) (by omega) 2 3 u d (by omega) (by omega) (by omega))
 obtain ⟨W, hW⟩ : ∃ W, W = (w.alloc (.cells #[.slice none 0 0, .slice none 0 0] 75)).alloc (.cells #[.int .i64 1] 2) := ⟨_, rfl⟩
 have z1 : (w.alloc (.cells #[.slice none 0 0, .slice none 0 0] 75)).heap.size = w.heap.size + 1 := by simp
 have t0 : Z9 w p A n c W := by rw [hW]; exact ⟨(hd.alloc _).alloc _, (Row.new _ _ _).alloc _, grown_trans (World.grownBy_alloc _ _ _) (World.grownBy_alloc _ _ _), hp⟩
 have o1 : Own W (w.heap.size + 1) (.slice (some ⟨w.heap.size + 1, 0, none⟩) 1 1) [1] := by
  have r1 := Row.new (w.alloc (.cells #[.slice none 0 0, .slice none 0 0] 75)) 2 #[.int .i64 1]
  rw [z1] at r1
  rw [hW]
  exact Own.of_row r1 rfl rfl (Nat.le_refl _) (by decide) (Nat.le_refl _) (fun j hj => by match j, hj with | 0, _ => rfl)
 have LT := hid (T23.out W t0.d)
 have HW := hid hW
 have H0 := hid t0
 have HO1 := hid o1
 have HP := hid hp
 clear hW t0 o1 hd z1
 go_enter Try.func42, Try.ntmps42
 go_wp2_with fail
 rw [← HW.out]
 refine LT.out.mono ?_
 rintro e u1 ⟨P, pn, pc, zs, rfl, oz, hz, d1, g1⟩
 have t1 := H0.out.dice d1 g1
 have o1 := Own.far HO1.out g1 (fun k e => by injection e with e; omega)
 have hpn : pn ≤ 1000 := by have := Own.len oz; have := hz.2.1; have : B9 1 = 3 := rfl; omega
 have hs1 : w.heap.size + 1 ≤ u1.heap.size := t1.r.lt
 clear LT H0 HO1 HW d1 g1
 go_wp2_with (at_builtin; refine appAll rfl _ _ rfl (w.heap.size + 1) _ 1 1 [1] rfl o1 P pn pc u1.heap.size zs rfl (Own.seg oz) (Own.none_cap oz) (by omega) (by omega) hs1 ?_; intro O2 oc2 u2 o2 b2)
 have t2 := t1.over b2
 have l2 := left1 (wr := u2) t2 o2 hz
 have LB := hid (below9 p A n c 2 u2 t2.d (by omega) (by omega))
 have HL := hid l2
 have HN2 := hid (Own.len o2)
 have hs2 : w.heap.size + 1 ≤ u2.heap.size := t2.r.lt
 clear o1 oz hz t1 b2 o2 l2 t2 hs1
 generalize 1 + pn = on2 at *
 go_wp2_with fail
 refine LB.out.mono ?_
 rintro e u3 ⟨x, rfl, x0, x1, d3, g3⟩
 have HL3 := hid (HL.out.dice d3 g3)
 clear LB HL d3 g3 hs2
 by_cases hx : x = 0
 ·subst hx
  obtain ⟨V, hV⟩ : ∃ V, V = u3.alloc (.cells #[.int .i64 0] 2) := ⟨_, rfl⟩
  have b4 : Below u3.heap.size u3 V := by rw [hV]; exact (Below.refl _ _).alloc (Nat.le_refl _) _
  have t4 := (HL3.out.next b4).z
  have o4 : Own V (w.heap.size + 1) (.slice (some ⟨u3.heap.size, 0, none⟩) 1 1) [0] := by
   rw [hV]
   exact Own.of_row (Row.new _ _ _) rfl rfl (Nat.le_refl _) (by decide) HL3.out.z.r.lt (fun j hj => by match j, hj with | 0, _ => rfl)
  have LT := hid (T23.out V t4.d)
  have HV := hid hV
  clear hV b4 HL3
  go_wp2_with fail
  rw [← HV.out]
  refine LT.out.mono ?_
  rintro e u5 ⟨Q, qn, qc, ws, rfl, oq, hq, d5, g5⟩
  have t5 := t4.dice d5 g5
  have o5 := Own.far o4 g5 (fun k e => by injection e with e; omega)
  have hqn : qn ≤ 1000 := by have := Own.len oq; have := hq.2.1; have : B9 1 = 3 := rfl; omega
  have hs5 : w.heap.size + 1 ≤ u5.heap.size := t5.r.lt
  clear LT HV d5 g5 t4 o4
  go_wp2_with (at_builtin; refine appAll rfl _ _ rfl (w.heap.size + 1) _ 1 1 [0] rfl o5 Q qn qc u5.heap.size ws rfl (Own.seg oq) (Own.none_cap oq) (by omega) (by omega) hs5 ?_; intro O6 oc6 u6 o6 b6; refine (?_ : Hid _).out)
  have t6 := t5.over b6
  have LT := hid (T12.out u6 t6.d)
  have hqn2 : 1 + qn ≤ 1001 := by omega
  generalize 1 + qn = on6 at *
  clear o5 oq t5 b6 hs5 hqn
  refine hid ?_
  go_wp2_with fail
  refine LT.out.mono ?_
  rintro e u7 ⟨S, sn, sc, ss, rfl, os, hss, d7, g7⟩
  have t7 := t6.dice d7 g7
  have o7 := Own.far o6 g7 (fun k e => by injection e with e; omega)
  have hsn : sn ≤ 1000 := by have := Own.len os; have := hss.2.1; have : B9 0 = 1 := rfl; omega
  have hs7 : w.heap.size + 1 ≤ u7.heap.size := t7.r.lt
  clear LT d7 g7 t6 o6
  go_wp2_with (at_builtin; refine appAll rfl _ _ rfl (w.heap.size + 1) O6 on6 oc6 _ rfl o7 S sn sc u7.heap.size ss rfl (Own.seg os) (Own.none_cap os) (by omega) (by omega) hs7 ?_; intro O8 oc8 u8 o8 b8; refine (?_ : Hid _).out)
  have HL8 := hid (left0 (wr := u8) (t7.over b8) o8 hq hss)
  generalize on6 + sn = on8 at *
  clear o7 os t7 b8 o8 hq hss hs7 hsn hqn2
  generalize ([0] ++ ws) ++ ss = xs at *
  refine hid ?_
  have LS := hid (w9Sig u8)
  go_wp2_with fail
  refine LS.out.mono ?_
  rintro e v1 ⟨G, gn, gc, rfl, og, b1⟩
  have L1 := HL8.out.next b1
  have hgn : gn = 3 := Own.len og
  have hon : on8 ≤ 1048576 := by have := Own.len L1.l; have := L1.n7; omega
  have LV := hid (specVarsOf9 G O8 gn gc on8 oc8 sg9 xs v1 (Own.seg og) (Own.seg L1.l) (by omega) hon)
  clear LS hon hgn og b1
  go_wp2_with fail
  refine LV.out.mono ?_
  rintro e v2 ⟨vb, vo, vn, vc, rfl, hvb, sv, hv1, hv2, b2⟩
  have L2 := L1.next b2
  have hvl := sv.1
  have hv1s : w.heap.size + 1 ≤ v1.heap.size := L1.z.r.lt
  have hvn : vn ≤ 7 := by
   have h9 : (varsI sg9 xs).length ≤ xs.length := by
    unfold varsI
    split
    ·exact vars_len _
    ·simp
   have := L1.n7
   omega
  have LT := hid (T37.out v2 L2.z.d)
  clear LV b2 L1
  go_wp2_with fail
  refine LT.out.mono ?_
  rintro e v3 ⟨P', rn, rc, ys, rfl, orr, hys, d3', g3'⟩
  have L3 := L2.dice d3' g3'
  have hrn : 1 ≤ rn := by have := Own.len orr; have := Fo.pos (q := 0) hys.1; omega
  obtain ⟨gp, rfl⟩ : ∃ gp, P' = some ⟨gp, 0, none⟩ := by
   obtain ⟨g, cur, e, -⟩ := own_row orr hrn
   exact ⟨g, e⟩
  have R3 := hid (show R9 w p A n c O8 on8 oc8 xs vb vo vn (varsI sg9 xs) gp rn rc ys v3 from ⟨L3, ⟨v2.heap.size, orr, Nat.le_of_lt_succ (Nat.lt_succ_of_le L2.z.r.lt), fun k hk => (World.ownsRow.lt L2.l k (by rw [blk_own]; exact hk)).2, fun h0 => by
    obtain ⟨b', off', e, hb', -⟩ := sv.2 h0
    injection e with e
    injection e with e1
    omega⟩, by omega, fun j hj => by
    obtain ⟨b', off', e, hb', hc'⟩ := sv.2 (by omega)
    injection e with e
    injection e with e1 e2
    subst e1 e2
    exact (World.cell?_of_block (a := ⟨vb, vo + j, none⟩) (g3'.block vb hb' (fun e => by injection e with e; omega))).trans (hc' j hj), hys.1, by have := hys.2.1; have : B9 2 = 7 := rfl; omega⟩)
  have HRN := hid (Own.len orr)
  have hrn7 : rn ≤ 7 := by have := Own.len orr; have := hys.2.1; have : B9 2 = 7 := rfl; omega
  have HVL := hid hvl
  clear LT L2 L3 orr hys d3' g3' sv hv1 hv2 hvb hv1s hvl hrn
  go_wp2_with fail
  go_loopw [6] (fun i wr => ∃ (k : Nat) (ys : List Int), i = .int .i64 k ∧ k ≤ rn ∧ ys.length = rn ∧ (∀ j, j < k → ys.getD j 0 < 0 → ys.getD j 0 ∈ xs) ∧ R9 w p A n c O8 on8 oc8 xs vb vo vn (varsI sg9 xs) gp rn rc ys wr) (fun i _ => rn - (intOf i).toNat)
  case atStart => exact ⟨0, ys, rfl, Nat.zero_le _, HRN.out.symm, fun j hj => absurd hj (Nat.not_lt_zero j), R3.out⟩
  case round =>
   obtain ⟨k, ys', rfl, hk, hyl, hdone, R⟩ := hrel
   clear R3 HRN
   by_cases hkr : k < rn
   ·obtain ⟨B, hO, hB, hl, hvB⟩ := R.r
    obtain ⟨b', off', e, -, hy⟩ := (Own.seg hO).round hkr
    injection e with e
    injection e with e1 e2
    subst e1 e2
    clear hO hB hl hvB
    have hy : wr.cell? ⟨gp, k, none⟩ = some (.int .i64 (ys'.getD k 0)) := by simpa using hy
    obtain ⟨y, ey⟩ : ∃ y, ys'.getD k 0 = y := ⟨_, rfl⟩
    rw [ey] at hy
    have EY := hid ey
    have fz : wr.frozen? ⟨gp, k, none⟩ = false := by
     obtain ⟨B, hO, -⟩ := R.r
     obtain ⟨g, cur, e, -, hr⟩ := own_row hO (by omega)
     injection e with e
     injection e with e
     subst e
     exact hr.free k
    have i0 : (0 : Int) ≤ (k : Int) := by omega
    have i1 : (k : Int) < (rn : Int) := by omega
    have HYL := hid hyl
    have HDN := hid hdone
    clear ey hyl hdone
    by_cases hy0 : y < 0
    ·by_cases hv0 : vn = 0
     ·subst hv0
      have F := hid (R.put k 2 (by rw [HYL.out]; exact hkr) (by rw [EY.out]; exact hy0) (.inr rfl))
      clear R
      go_wp2
      go_roundw
      case rel => exact ⟨k + 1, _, by simp, hkr, by rw [List.length_set]; exact HYL.out, done_set HDN.out (by rw [HYL.out]; exact hkr) (fun h => absurd h (by omega)), F.out⟩
      case measure => simp [intOf]; omega
     ·have d0 : ((vn : Int) == 0) = false := by simp; omega
      have LB := hid (below9 p A n c (vn : Int) wr R.z.z.d (by omega) (by omega))
      have HR := hid R
      clear R
      go_wp2_with fail
      refine LB.out.mono ?_
      rintro e w9 ⟨x, rfl, x0, x1, d9, g9⟩
      obtain ⟨j, rfl⟩ := Int.eq_ofNat_of_zero_le x0
      have R9' := HR.out.dice d9 g9
      have hj : j < vn := by omega
      have cv := R9'.c j hj
      have hvm : (varsI sg9 xs).getD j 0 ∈ varsI sg9 xs := by
       rw [List.getD, List.getElem?_eq_getElem (by rw [HVL.out]; exact hj), Option.getD_some]
       exact List.getElem_mem _
      obtain ⟨m1, m2⟩ := of_vars hvm
      obtain ⟨q, hq⟩ : ∃ q, (varsI sg9 xs).getD j 0 = q := ⟨_, rfl⟩
      rw [hq] at cv m1 m2
      have q1 : q < 24 := by have := R9'.z.v _ m1; omega
      have fz9 : w9.frozen? ⟨gp, k, none⟩ = false := by
       obtain ⟨B, hO, -⟩ := R9'.r
       obtain ⟨g, cur, e, -, hr⟩ := own_row hO (by omega)
       injection e with e
       injection e with e
       subst e
       exact hr.free k
      have hy9 : w9.cell? ⟨gp, k, none⟩ = some (.int .i64 y) := by
       obtain ⟨B, hO, -⟩ := R9'.r
       obtain ⟨b', off', e, -, hy⟩ := (Own.seg hO).round hkr
       injection e with e
       injection e with e1 e2
       subst e1 e2
       have hy : w9.cell? ⟨gp, k, none⟩ = some (.int .i64 (ys'.getD k 0)) := by simpa using hy
       rw [EY.out] at hy
       exact hy
      have F := hid (R9'.put k (-1 - q) (by rw [HYL.out]; exact hkr) (by rw [EY.out]; exact hy0) (.inl m2))
      have M1 := hid m1
      clear R9' HR LB hvm m1 hq d9 g9 hy fz
      go_wp2
      go_roundw
      case rel => exact ⟨k + 1, _, by simp, hkr, by rw [List.length_set]; exact HYL.out, done_set HDN.out (by rw [HYL.out]; exact hkr) (fun _ => M1.out), F.out⟩
      case measure => simp [intOf]; omega
    ·have d1 : decide (y < 0) = false := decide_eq_false hy0
     have HR := hid R
     clear R
     go_wp2
     go_roundw
     case rel => exact ⟨k + 1, ys', by simp, hkr, HYL.out, fun j hj h0 => by
      rcases Nat.lt_succ_iff_lt_or_eq.1 hj with h1 | h1
      ·exact HDN.out j h1 h0
      ·subst h1; rw [EY.out] at h0; exact absurd h0 hy0, HR.out⟩
     case measure => simp [intOf]; omega
   ·have HI := hid (show ∀ x ∈ ys', x < 0 → x ∈ xs from fun x hx h0 => by
     obtain ⟨j, hj, e⟩ := List.mem_iff_getElem.1 hx
     have h9 := hdone j (by omega)
     rw [List.getD, List.getElem?_eq_getElem hj, Option.getD_some, e] at h9
     exact h9 h0)
    have cR : wr.cell? ⟨w.heap.size, 0, none⟩ = some (.slice none 0 0) := R.z.z.r.cell 0
    have cR1 : wr.cell? ⟨w.heap.size, 1, none⟩ = some (.slice none 0 0) := R.z.z.r.cell 1
    have fR : wr.frozen? ⟨w.heap.size, 0, none⟩ = false := R.z.z.r.free 0
    have fR1 : wr.frozen? ⟨w.heap.size, 1, none⟩ = false := R.z.z.r.free 1
    have e1 : k = rn := by omega
    subst e1
    have F := hid (result9 R HI.out)
    clear R HI hdone hyl
    go_wp2
    exact bodyPost_ret (v := .agg #[.slice O8 on8 oc8, .slice (some ⟨gp, 0, none⟩) k rc]) (by simp [results, Try.results42, go_sem, cR, cR1]) rfl F.out
 ·have hx' : (x == 0) = false := by simp [hx]
  generalize [1] ++ zs = xs at *
  have LS := hid (w9Sig u3)
  go_wp2_with fail
  refine LS.out.mono ?_
  rintro e v1 ⟨G, gn, gc, rfl, og, b1⟩
  have L1 := HL3.out.next b1
  have hgn : gn = 3 := Own.len og
  have hon : on2 ≤ 1048576 := by have := Own.len L1.l; have := L1.n7; omega
  have LV := hid (specVarsOf9 G O2 gn gc on2 oc2 sg9 xs v1 (Own.seg og) (Own.seg L1.l) (by omega) hon)
  clear LS hon hgn og b1
  go_wp2_with fail
  refine LV.out.mono ?_
  rintro e v2 ⟨vb, vo, vn, vc, rfl, hvb, sv, hv1, hv2, b2⟩
  have L2 := L1.next b2
  have hvl := sv.1
  have hv1s : w.heap.size + 1 ≤ v1.heap.size := L1.z.r.lt
  have hvn : vn ≤ 7 := by
   have h9 : (varsI sg9 xs).length ≤ xs.length := by
    unfold varsI
    split
    ·exact vars_len _
    ·simp
   have := L1.n7
   omega
  have LT := hid (T37.out v2 L2.z.d)
  clear LV b2 L1
  go_wp2_with fail
  refine LT.out.mono ?_
  rintro e v3 ⟨P', rn, rc, ys, rfl, orr, hys, d3', g3'⟩
  have L3 := L2.dice d3' g3'
  have hrn : 1 ≤ rn := by have := Own.len orr; have := Fo.pos (q := 0) hys.1; omega
  obtain ⟨gp, rfl⟩ : ∃ gp, P' = some ⟨gp, 0, none⟩ := by
   obtain ⟨g, cur, e, -⟩ := own_row orr hrn
   exact ⟨g, e⟩
  have R3 := hid (show R9 w p A n c O2 on2 oc2 xs vb vo vn (varsI sg9 xs) gp rn rc ys v3 from ⟨L3, ⟨v2.heap.size, orr, Nat.le_of_lt_succ (Nat.lt_succ_of_le L2.z.r.lt), fun k hk => (World.ownsRow.lt L2.l k (by rw [blk_own]; exact hk)).2, fun h0 => by
    obtain ⟨b', off', e, hb', -⟩ := sv.2 h0
    injection e with e
    injection e with e1
    omega⟩, by omega, fun j hj => by
    obtain ⟨b', off', e, hb', hc'⟩ := sv.2 (by omega)
    injection e with e
    injection e with e1 e2
    subst e1 e2
    exact (World.cell?_of_block (a := ⟨vb, vo + j, none⟩) (g3'.block vb hb' (fun e => by injection e with e; omega))).trans (hc' j hj), hys.1, by have := hys.2.1; have : B9 2 = 7 := rfl; omega⟩)
  have HRN := hid (Own.len orr)
  have hrn7 : rn ≤ 7 := by have := Own.len orr; have := hys.2.1; have : B9 2 = 7 := rfl; omega
  have HVL := hid hvl
  clear LT L2 L3 orr hys d3' g3' sv hv1 hv2 hvb hv1s hvl hrn
  go_wp2_with fail
  go_loopw [6] (fun i wr => ∃ (k : Nat) (ys : List Int), i = .int .i64 k ∧ k ≤ rn ∧ ys.length = rn ∧ (∀ j, j < k → ys.getD j 0 < 0 → ys.getD j 0 ∈ xs) ∧ R9 w p A n c O2 on2 oc2 xs vb vo vn (varsI sg9 xs) gp rn rc ys wr) (fun i _ => rn - (intOf i).toNat)
  case atStart => exact ⟨0, ys, rfl, Nat.zero_le _, HRN.out.symm, fun j hj => absurd hj (Nat.not_lt_zero j), R3.out⟩
  case round =>
   obtain ⟨k, ys', rfl, hk, hyl, hdone, R⟩ := hrel
   clear R3 HRN
   by_cases hkr : k < rn
   ·obtain ⟨B, hO, hB, hl, hvB⟩ := R.r
    obtain ⟨b', off', e, -, hy⟩ := (Own.seg hO).round hkr
    injection e with e
    injection e with e1 e2
    subst e1 e2
    clear hO hB hl hvB
    have hy : wr.cell? ⟨gp, k, none⟩ = some (.int .i64 (ys'.getD k 0)) := by simpa using hy
    obtain ⟨y, ey⟩ : ∃ y, ys'.getD k 0 = y := ⟨_, rfl⟩
    rw [ey] at hy
    have EY := hid ey
    have fz : wr.frozen? ⟨gp, k, none⟩ = false := by
     obtain ⟨B, hO, -⟩ := R.r
     obtain ⟨g, cur, e, -, hr⟩ := own_row hO (by omega)
     injection e with e
     injection e with e
     subst e
     exact hr.free k
    have i0 : (0 : Int) ≤ (k : Int) := by omega
    have i1 : (k : Int) < (rn : Int) := by omega
    have HYL := hid hyl
    have HDN := hid hdone
    clear ey hyl hdone
    by_cases hy0 : y < 0
    ·by_cases hv0 : vn = 0
     ·subst hv0
      have F := hid (R.put k 2 (by rw [HYL.out]; exact hkr) (by rw [EY.out]; exact hy0) (.inr rfl))
      clear R
      go_wp2
      go_roundw
      case rel => exact ⟨k + 1, _, by simp, hkr, by rw [List.length_set]; exact HYL.out, done_set HDN.out (by rw [HYL.out]; exact hkr) (fun h => absurd h (by omega)), F.out⟩
      case measure => simp [intOf]; omega
     ·have d0 : ((vn : Int) == 0) = false := by simp; omega
      have LB := hid (below9 p A n c (vn : Int) wr R.z.z.d (by omega) (by omega))
      have HR := hid R
      clear R
      go_wp2_with fail
      refine LB.out.mono ?_
      rintro e w9 ⟨x, rfl, x0, x1, d9, g9⟩
      obtain ⟨j, rfl⟩ := Int.eq_ofNat_of_zero_le x0
      have R9' := HR.out.dice d9 g9
      have hj : j < vn := by omega
      have cv := R9'.c j hj
      have hvm : (varsI sg9 xs).getD j 0 ∈ varsI sg9 xs := by
       rw [List.getD, List.getElem?_eq_getElem (by rw [HVL.out]; exact hj), Option.getD_some]
       exact List.getElem_mem _
      obtain ⟨m1, m2⟩ := of_vars hvm
      obtain ⟨q, hq⟩ : ∃ q, (varsI sg9 xs).getD j 0 = q := ⟨_, rfl⟩
      rw [hq] at cv m1 m2
      have q1 : q < 24 := by have := R9'.z.v _ m1; omega
      have fz9 : w9.frozen? ⟨gp, k, none⟩ = false := by
       obtain ⟨B, hO, -⟩ := R9'.r
       obtain ⟨g, cur, e, -, hr⟩ := own_row hO (by omega)
       injection e with e
       injection e with e
       subst e
       exact hr.free k
      have hy9 : w9.cell? ⟨gp, k, none⟩ = some (.int .i64 y) := by
       obtain ⟨B, hO, -⟩ := R9'.r
       obtain ⟨b', off', e, -, hy⟩ := (Own.seg hO).round hkr
       injection e with e
       injection e with e1 e2
       subst e1 e2
       have hy : w9.cell? ⟨gp, k, none⟩ = some (.int .i64 (ys'.getD k 0)) := by simpa using hy
       rw [EY.out] at hy
       exact hy
      have F := hid (R9'.put k (-1 - q) (by rw [HYL.out]; exact hkr) (by rw [EY.out]; exact hy0) (.inl m2))
      have M1 := hid m1
      clear R9' HR LB hvm m1 hq d9 g9 hy fz
      go_wp2
      go_roundw
      case rel => exact ⟨k + 1, _, by simp, hkr, by rw [List.length_set]; exact HYL.out, done_set HDN.out (by rw [HYL.out]; exact hkr) (fun _ => M1.out), F.out⟩
      case measure => simp [intOf]; omega
    ·have d1 : decide (y < 0) = false := decide_eq_false hy0
     have HR := hid R
     clear R
     go_wp2
     go_roundw
     case rel => exact ⟨k + 1, ys', by simp, hkr, HYL.out, fun j hj h0 => by
      rcases Nat.lt_succ_iff_lt_or_eq.1 hj with h1 | h1
      ·exact HDN.out j h1 h0
      ·subst h1; rw [EY.out] at h0; exact absurd h0 hy0, HR.out⟩
     case measure => simp [intOf]; omega
   ·have HI := hid (show ∀ x ∈ ys', x < 0 → x ∈ xs from fun x hx h0 => by
     obtain ⟨j, hj, e⟩ := List.mem_iff_getElem.1 hx
     have h9 := hdone j (by omega)
     rw [List.getD, List.getElem?_eq_getElem hj, Option.getD_some, e] at h9
     exact h9 h0)
    have cR : wr.cell? ⟨w.heap.size, 0, none⟩ = some (.slice none 0 0) := R.z.z.r.cell 0
    have cR1 : wr.cell? ⟨w.heap.size, 1, none⟩ = some (.slice none 0 0) := R.z.z.r.cell 1
    have fR : wr.frozen? ⟨w.heap.size, 0, none⟩ = false := R.z.z.r.free 0
    have fR1 : wr.frozen? ⟨w.heap.size, 1, none⟩ = false := R.z.z.r.free 1
    have e1 : k = rn := by omega
    subst e1
    have F := hid (result9 R HI.out)
    clear R HI hdone hyl
    go_wp2
    exact bodyPost_ret (v := .agg #[.slice O2 on2 oc2, .slice (some ⟨gp, 0, none⟩) k rc]) (by simp [results, Try.results42, go_sem, cR, cR1]) rfl F.out
end rule9
end
section
namespace atOnceMath
open sig term termOk termFacts fillMath sub putMath matchMath gives ruleMath stepMath walkMath forest parMath parSpec parImpl parStep parX draw9 rule9
theorem fill_le {L : Nat → List Int} {K : Nat} (hK : 1 ≤ K) : ∀ {t : List Int}, (∀ x ∈ t, x < 0 → (L (vr x)).length ≤ K) → (fillL L t).length ≤ t.length * K
 | [], _ => Nat.zero_le _
 | x :: r, h => by
  have h1 := fill_le hK (t := r) fun y hy => h y (List.mem_cons_of_mem _ hy)
  have h2 : (r.length + 1) * K = r.length * K + K := Nat.succ_mul _ _
  rw [fill_cons, List.length_append, List.length_cons, h2]
  by_cases hx : x < 0
  ·rw [rep_var hx]
   have := h x (List.mem_cons_self ..) hx
   unfold vr at this
   omega
  ·rw [rep_sym (by omega)]
   simp
   omega
theorem var_le {L : Nat → List Int} : ∀ {t : List Int} {x : Int}, x ∈ t → x < 0 → (L (vr x)).length ≤ (fillL L t).length
 | [], x, h, _ => by cases h
 | y :: r, x, h, hx => by
  rw [fill_cons, List.length_append]
  rcases List.mem_cons.1 h with e | e
  ·subst e
   rw [rep_var hx]
   unfold vr
   omega
  ·have := var_le (L := L) e hx
   omega
theorem var_short {L : Nat → List Int} {t : List Int} (h0 : 0 ≤ hd t) {x : Int} (hx : x ∈ t) (hx0 : x < 0) : (L (vr x)).length + 1 ≤ (fillL L t).length := by
 cases t with
 | nil => cases hx
 | cons y r =>
  have h0 : 0 ≤ y := h0
  rw [fill_cons, rep_sym h0, List.length_append]
  rcases List.mem_cons.1 hx with e | e
  ·omega
  ·have := var_le (L := L) e hx0
   simp
   omega
theorem step_short {x : Rl} {t v : List Int} {a : Nat} (hx : Right9 x) (ht : termOkB sg9 t = true) (ha : a < t.length) (h7 : t.length ≤ 7) (h : stepO sg9 x t a = some v) : v.length ≤ 49 := by
 obtain ⟨L, hT, hv, -, -⟩ := (step_iff hx.1 ht ha).1 h
 obtain ⟨r1, r2, r3, r4⟩ := rule_parts hx.1
 have hs : (subL sg9 t a).length ≤ 7 := by
  unfold subL
  rw [List.length_take, List.length_drop]
  omega
 have hf : (fillL L x.2).length ≤ x.2.length * 6 := fill_le (by omega) fun y hy hy0 => by
  have h1 := var_short (L := L) r3 (r4 y hy hy0) hy0
  have h2 := congrArg List.length hT.1
  omega
 have h3 : x.2.length * 6 ≤ 42 := by have := hx.2; omega
 have h4 := put_len (u := fillL L x.2) ht ha
 have h5 := (Go.Proofs.Ytjfpejohpjaahaa.posMath.term_at ht ha).2.1
 rw [hv]
 unfold putAt
 omega
theorem steps_short {rs : List Rl} {t : List Int} {s : St} (hr : ∀ r ∈ rs, Right9 r) (h7 : t.length ≤ 7) (h : s ∈ stepsI sg9 rs t) : s.2.2.length ≤ 49 := by
 unfold stepsI at h
 split at h
 ·rename_i hok
  obtain ⟨oks, ht⟩ := Bool.and_eq_true_iff.1 hok
  unfold stepsL at h
  obtain ⟨a, ha, h⟩ := List.mem_flatMap.1 h
  obtain ⟨r, hr1, h⟩ := List.mem_filterMap.1 h
  obtain ⟨v, hv, rfl⟩ := Option.map_eq_some_iff.1 h
  have ha := List.mem_range.1 ha
  have hr1 := List.mem_range.1 hr1
  exact step_short (hr _ (by rw [List.getD, List.getElem?_eq_getElem hr1, Option.getD_some]; exact List.getElem_mem _)) ht ha h7 hv
 ·cases h
theorem steps_many {sg : List Int} {rs : List Rl} {t : List Int} (h7 : t.length ≤ 7) (h3 : rs.length ≤ 3) : (stepsI sg rs t).length ≤ 21 := by
 unfold stepsI
 split
 ·unfold stepsL
  have : ∀ l : List Nat, (l.flatMap fun a => (List.range rs.length).filterMap fun r => (stepO sg (rs.getD r ([], [])) t a).map fun v => ((a : Int), (r : Int), v)).length ≤ l.length * 3 := by
   intro l
   induction l with
   | nil => exact Nat.zero_le _
   | cons b l ih =>
    rw [List.flatMap_cons, List.length_append, List.length_cons]
    have h1 := List.length_filterMap_le (fun r => (stepO sg (rs.getD r ([], [])) t b).map fun v => ((b : Int), (r : Int), v)) (List.range rs.length)
    rw [List.length_range] at h1
    omega
  have h1 := this (List.range t.length)
  rw [List.length_range] at h1
  omega
 ·exact Nat.zero_le _
theorem prt_two {a b : List Int} (ha : Fo sg9 1 a) (hb : Fo sg9 1 b) : Prt sg9 (([0] ++ a) ++ b) [a, b] :=
 ⟨⟨0, by omega, by rw [ar9_0]; omega, by simp, by rw [ar9_0]; rfl⟩, fun p hp => by
  rcases List.mem_cons.1 hp with e | e
  ·rw [e]; exact ha
  ·rw [List.mem_singleton.1 e]; exact hb⟩
theorem two_ok {a b : List Int} (ha : termOkB sg9 a = true) (hb : termOkB sg9 b = true) (hl : a.length + b.length ≤ 59) : termOkB sg9 (([0] ++ a) ++ b) = true := by
 refine ok9 (prt_two (fo_term ha) (fo_term hb)).fo (by simp; omega) fun x hx => ?_
 rcases List.mem_append.1 hx with e | e
 ·rcases List.mem_append.1 e with e | e
  ·rw [List.mem_singleton.1 e]; omega
  ·exact (term_mem ha e).1
 ·exact (term_mem hb e).1
theorem par_two9 {rs : List Rl} {a b x y : List Int} (oks : sysOkB sg9 rs = true) (ha : termOkB sg9 a = true) (hb : termOkB sg9 b = true) (hx : termOkB sg9 x = true) (hy : termOkB sg9 y = true) (h1 : Par sg9 rs a x) (h2 : Par sg9 rs b y) (hl : a.length + b.length ≤ 59) (hl2 : x.length + y.length ≤ 59) : parToB sg9 rs (([0] ++ a) ++ b) (([0] ++ x) ++ y) = true := by
 rw [parX.par_ok oks (two_ok ha hb hl) (two_ok hx hy hl2)]
 refine par_yes (.args _ _ [a, b] [x, y] (prt_two (fo_term ha) (fo_term hb)) (prt_two (fo_term hx) (fo_term hy)) rfl fun i hi => ?_)
 have hi : i < 2 := hi
 have h3 : i = 0 ∨ i = 1 := by omega
 rcases h3 with rfl | rfl
 ·exact h1
 ·exact h2
end atOnceMath
end
section
namespace drawTermW
open Go.RowKit base ints sig term cursor marks app sym dice drawSig drawTerm fillMath
def PartT (sg xs : List Int) (q : Nat) : Prop := ∀ (ys : List Int) (j : Nat), scan sg q ys = some j → scan sg 1 (xs ++ ys) = some (xs.length + j)
theorem PartT.done {sg xs : List Int} (h : PartT sg xs 0) : scan sg 1 xs = some xs.length := by simpa using h [] 0 (scan_zero _ _)
end drawTermW
end
section
namespace drawTwo
open Go.RowKit base ints sig term cursor termOk marks app sym dice drawSig drawTerm drawAny
set_option maxRecDepth 100000
end drawTwo
end
section
namespace drawPair
open Go.RowKit base ints sig term cursor termOk marks app sym dice drawSig drawTerm drawAny drawTwo
set_option maxRecDepth 100000
end drawPair
end
section
namespace drawOne
open Go.RowKit base ints sig term cursor termOk marks app sym dice drawSig drawTerm drawAny drawPair
end drawOne
end
section
namespace drawSub
open Go.RowKit base ints sig cursor marks app appAt sym segs segsHelp dice drawSig drawTerm drawAny drawPair drawOne
def Elem (w : World) (p : Nat) (r : Option Nat) (v : Value) (ys : List Int) : Prop :=
 ∃ A' n' c', v = .slice A' n' c' ∧ Rd w p w.heap.size A' n' ys ∧ Cap A' n' c' ∧ (0 < n' → blk A' ≠ r)
def OwnR (w : World) (p lo : Nat) (A : Option Addr) (n c : Nat) (xss : List (List Int)) : Prop :=
 xss.length = n ∧ ∃ vs : List Value, w.ownsRow lo 27 1 (.slice A n c) n vs ∧ ∀ j, j < n → Elem w p (blk A) (vs.getD j undef) (xss.getD j [])
section
variable {w w' : World} {p lo n c : Nat} {A : Option Addr} {xss : List (List Int)} {r : Option Nat} {v : Value} {ys : List Int}
theorem OwnR.nil (w : World) (p lo : Nat) : OwnR w p lo none 0 0 [] := ⟨rfl, [], ⟨rfl, .inl ⟨rfl, rfl⟩⟩, fun j hj => absurd hj (Nat.not_lt_zero _)⟩
theorem OwnR.cap (h : OwnR w p lo A n c xss) : Cap A n c := by
 obtain ⟨_, vs, hr, _⟩ := h
 rcases own_form hr with ⟨rfl, h1, rfl, _⟩ | ⟨g, cur, rfl, _, _, h1, h2, h3, _⟩
 ·exact ⟨by omega, by omega, fun _ => rfl⟩
 ·exact ⟨h1, h3, fun e => by cases e⟩
end
def Small (M L m : Nat) (xss : List (List Int)) : Prop := m ≤ M ∧ ∀ j, (xss.getD j []).length ≤ L
theorem small_nil (M L : Nat) : Small M L 0 [] := ⟨Nat.zero_le _, fun j => by simp⟩
theorem small_app {M M' L m : Nat} {xss : List (List Int)} {ys : List Int} (h : Small M L m xss) (hl : xss.length = m) (hy : ys.length ≤ L) (hM : m + 1 ≤ M') : Small M' L (m + 1) (xss ++ [ys]) :=
 ⟨hM, fun j => by
  rcases Nat.lt_trichotomy j m with h1 | h1 | h1
  ·have := h.2 j
   simpa [List.getD, List.getElem?_append_left (show j < xss.length by omega)] using this
  ·subst h1
   simpa [List.getD, ← hl] using hy
  ·simp [List.getD, show xss.length + 1 ≤ j by omega]⟩
theorem small_wider {M L M' L' m : Nat} {xss : List (List Int)} (h : Small M L m xss) (h1 : M ≤ M') (h2 : L ≤ L') : Small M' L' m xss := ⟨Nat.le_trans h.1 h1, fun j => Nat.le_trans (h.2 j) h2⟩
end drawSub
end
section
namespace drawS
open Go.RowKit base ints sig term cursor termOk marks app appAt sym segs segsHelp dice drawSig drawTerm drawAny drawPair drawOne drawSub
set_option maxRecDepth 100000
section
variable {w : World} {p : Nat} {A : Option Addr} {n c : Nat} {S : Option Addr} {sn sc : Nat} {sg : List Int} {o : Nat} {B : Option Addr} {m cB : Nat} {xss : List (List Int)} {wr w' : World}
end
end drawS
end
section
namespace drawRule
open Go.RowKit base ints sig term cursor marks app appAt sym sub rename renMath dice drawSig drawTerm drawTermW drawAny drawPair drawOne drawSub drawS drawX
open shape (Sh Dat nc dft sI sz)
open kindsR (sRule)
set_option maxRecDepth 100000
section
variable {w : World} {p : Nat} {A : Option Addr} {n c : Nat} {S : Option Addr} {sn sc : Nat} {sg : List Int} {O : Option Addr} {on oc : Nat} {xs : List Int} {P : Option Addr} {pn pc : Nat} {ys : List Int} {wr w' : World}
end
end drawRule
end
section
namespace maxi
open Go.RowKit base
end maxi
end
section
namespace compSpec
open Go.RowKit base ints sig cursor marks app appAt sym segs segsHelp kinds termFacts fillMath substOk gives shifted filled plainMath plain plainOf compMath maxi
set_option maxRecDepth 100000
end compSpec
end
section
namespace thn
open Go.RowKit base ints cursor marks app sym segs fillMath Go.Proofs.Ytjfpejohpjaahaa.look
set_option maxRecDepth 100000
def LooksE (x : Option Nat) (g : Nat) (lb : Array Value) (w : World) (L : Nat → List Int) (N : Nat) : Prop :=
 ∀ (W : World) (i : Nat), w.grownBy W x → i < N → Calls Try.prog g (#[.int .i64 (i : Int)] ++ lb) W (AnsLook w.heap.size W (L i))
section
variable {x : Option Nat} {g : Nat} {lb : Array Value} {w w' : World} {L L' : Nat → List Int} {N : Nat}
theorem LooksE.next (h : LooksE x g lb w L N) (hg : w.grownBy w' x) : LooksE x g lb w' L N :=
 fun W i hW hi => (h W i (grown_trans hg hW) hi).mono fun _ _ ⟨A, n, c, he, h1, h2, h3, h4⟩ => ⟨A, n, c, he, h1, h2, fun k hk => by have := h3 k hk; have := hg.size; omega, h4⟩
end
end thn
end
section
namespace compImpl
open Go.RowKit base ints sig cursor marks app appAt sym segs segsHelp kinds termFacts fillMath Go.Proofs.Ytjfpejohpjaahaa.look substOk gives shifted filled plainMath plain plainOf compMath compSpec thn
set_option maxRecDepth 100000
theorem sz_alloc (w : World) (o : Obj) : (w.alloc o).heap.size = w.heap.size + 1 := by simp
theorem row_top {w : World} {t : TypeId} {cs : Array Value} {n : Nat} (hn : n = w.heap.size) : Row (w.alloc (.cells cs t)) n t cs := by subst hn; exact Row.new _ _ _
theorem row_alloc {w : World} {o : Obj} {t : TypeId} {cs : Array Value} {n : Nat} (h : Row w n t cs) : Row (w.alloc o) n t cs := h.alloc o
end compImpl
end
section
namespace drawKnown
open Go.RowKit base ints sig term cursor marks app appAt sym segs dice drawSig drawTerm drawAny drawSub drawS drawX drawRule compImpl
open shape (Sh Dat nc dft sI sz)
open kindsR (sRule)
set_option maxRecDepth 100000
def SmallD (M : Nat) (D : List (Dat sRule)) : Prop := D.length ≤ M ∧ ∀ j, ((D.getD j (dft sRule)).1 : List Int).length ≤ 65 ∧ ((D.getD j (dft sRule)).2 : List Int).length ≤ 65
abbrev Lit := (Nat × List Int) × (Nat × List Int)
def vsOf : List Lit → List Value
 | [] => []
 | r :: rs => .slice (some ⟨r.1.1, 0, none⟩) r.1.2.length r.1.2.length :: .slice (some ⟨r.2.1, 0, none⟩) r.2.2.length r.2.2.length :: vsOf rs
def dOf (RS : List Lit) : List (Dat sRule) := RS.map fun r => ((r.1.2, r.2.2) : List Int × List Int)
def nums (xs : List Int) : Array Value := (xs.map (Value.int .i64)).toArray
theorem vs_len : ∀ RS : List Lit, (vsOf RS).length = RS.length * 2
 | [] => rfl
 | _ :: rs => by simp only [vsOf, List.length_cons, vs_len rs]; omega
theorem cells_vs : ∀ {RS : List Lit} {j : Nat} {r : Lit}, RS[j]? = some r → cellsOf 2 (vsOf RS) j = [.slice (some ⟨r.1.1, 0, none⟩) r.1.2.length r.1.2.length, .slice (some ⟨r.2.1, 0, none⟩) r.2.2.length r.2.2.length]
 | [], j, _, h => by simp at h
 | _ :: _, 0, _, h => by simp at h; subst h; rfl
 | _ :: rs, j + 1, r, h => by
  have h1 : rs[j]? = some r := by simpa using h
  have h2 := cells_vs h1
  unfold cellsOf at h2 ⊢
  rw [show (j + 1) * 2 = (j * 2 + 1) + 1 by omega]
  exact h2
theorem lit_seg {w : World} {Q : Nat → Prop} {g : Nat} {xs : List Int} (h : Row w g 2 (nums xs)) (hl : xs.length ≤ 65) (hQ : Q g) : RdQ w Q sI [.slice (some ⟨g, 0, none⟩) xs.length xs.length] xs :=
 rdq_seg rfl ⟨Nat.le_refl _, by omega, fun e => by cases e⟩ fun _ => ⟨g, 0, rfl, hQ, fun j hj => by
  rw [Nat.zero_add, Row.cell (t := 2) (cs := nums xs) h]
  simp [nums, List.getD, hj]⟩
end drawKnown
end
section
namespace drawSys
open Go.RowKit base ints sig term cursor marks app appAt sym dice drawSig drawTerm drawAny drawSub drawS drawX drawRule drawKnown
open shape (Sh Dat nc dft sI sz)
open kindsR (sRule info_RuleS)
set_option maxRecDepth 100000
theorem ints_ne {w : World} {Q : Nat → Prop} {N : Nat} {t : TypeId} {cs : List Value} {xs : List Int} {a1 a2 : Option Addr} {l1 k1 l2 k2 : Nat} (h : RdQ w Q sI cs xs) (hN : Row w N t #[.slice a1 l1 k1, .slice a2 l2 k2]) : RdQ w (fun b => Q b ∧ b ≠ N) sI cs xs := by
 obtain ⟨A, n, c, e, hc, hl, h1⟩ := h
 refine ⟨A, n, c, e, hc, hl, fun hn => ?_⟩
 obtain ⟨b, off, e2, hb, h2⟩ := h1 hn
 refine ⟨b, off, e2, ⟨hb, fun e3 => ?_⟩, h2⟩
 subst e3
 obtain ⟨es, he, hp, hr⟩ := h2 0 hn
 have hr : es = [.int .i64 (xs.getD 0 0)] := hr
 subst hr
 have h3 := hp 0 (by simp)
 rw [show off + 0 * nc .num + 0 = off by simp] at h3
 rw [Row.cell (t := t) (cs := #[.slice a1 l1 k1, .slice a2 l2 k2]) hN] at h3
 match off, h3 with
 | 0, h3 => simp at h3
 | 1, h3 => simp at h3
 | off + 2, h3 => simp at h3
theorem rule_ne {w : World} {Q : Nat → Prop} {N : Nat} {t : TypeId} {cs : List Value} {d : Dat sRule} {a1 a2 : Option Addr} {l1 k1 l2 k2 : Nat} (h : RdQ w Q sRule cs d) (hN : Row w N t #[.slice a1 l1 k1, .slice a2 l2 k2]) : RdQ w (fun b => Q b ∧ b ≠ N) sRule cs d := by
 obtain ⟨ca, cb, e, h1, h2⟩ := h
 exact ⟨ca, cb, e, ints_ne h1 hN, ints_ne h2 hN⟩
theorem ints_put {w : World} {p : Nat} {r : Option Nat} {N : Nat} {t : TypeId} {cs : List Value} {xs : List Int} {a1 a2 : Option Addr} {l1 k1 l2 k2 : Nat} (h : RdQ w (OutR w p r) sI cs xs) (hN : Row w N t #[.slice a1 l1 k1, .slice a2 l2 k2]) (i : Nat) (u : Value) : RdQ (w.setCell ⟨N, i, none⟩ u) (OutR (w.setCell ⟨N, i, none⟩ u) p r) sI cs xs :=
 ((ints_ne h hN).keep fun b hb => Below.heap_setCell w _ u b hb.2).mono fun b hb => ⟨by simpa using hb.1.1, hb.1.2⟩
theorem ownQ_put {w : World} {p lo : Nat} {e : TypeId} {A : Option Addr} {n c : Nat} {D : List (Dat sRule)} {N : Nat} {t : TypeId} {a1 a2 : Option Addr} {l1 k1 l2 k2 : Nat} (h : OwnQ w p lo e sRule A n c D) (hN : Row w N t #[.slice a1 l1 k1, .slice a2 l2 k2]) (hA : blk A ≠ some N) (i : Nat) (u : Value) : OwnQ (w.setCell ⟨N, i, none⟩ u) p lo e sRule A n c D := by
 obtain ⟨h1, vs, h2, h3⟩ := h
 refine ⟨h1, vs, World.ownsRow.kept h2 (grown_put (World.grownBy.refl w _) i u) (.inr (by rw [blk_own]; exact hA)), fun j hj => ?_⟩
 exact ((rule_ne (h3 j hj) hN).keep fun b hb => Below.heap_setCell w _ u b hb.2).mono fun b hb => ⟨by simpa using hb.1.1, hb.1.2⟩
theorem rd_of {w : World} {p : Nat} {r : Option Nat} {S : Option Addr} {sn sc : Nat} {sg : List Int} (h : RdQ w (OutR w p r) sI [.slice S sn sc] sg) : Go.Proofs.Ytjfpejohpjaahaa.drawTerm.Rd w p w.heap.size S sn sg := by
 obtain ⟨A, n, c, e, hc, hl, h1⟩ := h
 injection e with e _
 injection e with e1 e2 e3
 subst e1 e2 e3
 refine ⟨hl, fun hn => ?_⟩
 obtain ⟨b, off, e2, hb, h2⟩ := h1 hn
 refine ⟨b, off, e2, hb.1, hb.2.1, fun j hj => ?_⟩
 obtain ⟨es, he, hp, hr⟩ := h2 j hj
 have hr : es = [.int .i64 (sg.getD j 0)] := hr
 subst hr
 have h3 := hp 0 (by simp)
 simpa [nc] using h3
section
variable {w : World} {p : Nat} {A : Option Addr} {n c : Nat} {o : Nat} {S : Option Addr} {sn sc : Nat} {sg : List Int} {R : Option Addr} {rn rc : Nat} {D : List (Dat sRule)} {wr w' : World}
end
theorem small_nil (M : Nat) : SmallD M [] := ⟨Nat.zero_le _, fun j => ⟨Nat.zero_le _, Nat.zero_le _⟩⟩
theorem small_app {M : Nat} {D : List (Dat sRule)} {xs ys : List Int} (h : SmallD M D) (h1 : xs.length ≤ 65) (h2 : ys.length ≤ 65) : SmallD (M + 1) (D ++ [((xs, ys) : List Int × List Int)]) := by
 refine ⟨by have := h.1; simpa using this, fun j => ?_⟩
 by_cases hj : j < D.length
 ·rw [show (D ++ [((xs, ys) : List Int × List Int)]).getD j (dft sRule) = D.getD j (dft sRule) by simp [List.getD, List.getElem?_append_left hj]]
  exact h.2 j
 ·by_cases ej : j = D.length
  ·subst ej
   rw [show (D ++ [((xs, ys) : List Int × List Int)]).getD D.length (dft sRule) = ((xs, ys) : List Int × List Int) by simp [List.getD]]
   exact ⟨h1, h2⟩
  ·rw [show (D ++ [((xs, ys) : List Int × List Int)]).getD j (dft sRule) = dft sRule by rw [List.getD_eq_getElem?_getD, List.getElem?_eq_none (by simp; omega)]; rfl]
   exact ⟨Nat.zero_le _, Nat.zero_le _⟩
theorem small_wider {M M' : Nat} {D : List (Dat sRule)} (h : SmallD M D) (hM : M ≤ M') : SmallD M' D := ⟨Nat.le_trans h.1 hM, h.2⟩
end drawSys
end
section
namespace known9
open Go.RowKit base ints sig term cursor marks app appAt sym segs dice drawX drawKnown compImpl ruleMath draw9
open shape (Sh Dat nc dft sI sz)
open kindsR (sRule)
set_option maxRecDepth 100000
def AnsKnown9 (w : World) (e : Ending) (w' : World) : Prop :=
 ∃ R rn rc D, e = .returned (.slice R rn rc) ∧ (∀ p, p < w.heap.size → OwnQ w' p w.heap.size 75 sRule R rn rc D) ∧ SmallD 3 D ∧ (∀ r ∈ D, rule9.Right9 r) ∧ Below w.heap.size w w'
theorem known9_of {w W : World} (gR : Nat) (RS : List drawKnown.Lit) (hR : Row W gR 75 (vsOf RS).toArray) (hg : w.heap.size ≤ gR) (hn : RS.length ≤ 3)
  (h : ∀ r ∈ RS, Row W r.1.1 2 (nums r.1.2) ∧ Row W r.2.1 2 (nums r.2.2) ∧ w.heap.size ≤ r.1.1 ∧ r.1.1 < gR ∧ w.heap.size ≤ r.2.1 ∧ r.2.1 < gR ∧ r.1.2.length ≤ 65 ∧ r.2.2.length ≤ 65) (hok : ∀ r ∈ dOf RS, rule9.Right9 r) (hb : Below w.heap.size w W) :
  AnsKnown9 w (.returned (.slice (some ⟨gR, 0, none⟩) RS.length RS.length)) W := by
 have hz := hR.lt
 refine ⟨_, _, _, dOf RS, rfl, fun p hp => ⟨by simp [dOf], vsOf RS, ?_, fun j hj => ?_⟩, ⟨by simpa [dOf] using hn, fun j => ?_⟩, hok, hb⟩
 ·refine ⟨by rw [vs_len]; rfl, .inr ⟨gR, RS.length, _, rfl, by omega, hR, Nat.le_refl _, by unfold maxLen; omega, by rw [List.size_toArray, vs_len]; rfl, ?_⟩⟩
  rw [List.take_of_length_le (by rw [vs_len]; exact Nat.le_refl _)]
 ·obtain ⟨r, hr⟩ : ∃ r, RS[j]? = some r := ⟨RS[j], by simp [hj]⟩
  obtain ⟨h1, h2, h3, h4, h5, h6, h7, h8⟩ := h r (List.mem_of_getElem? hr)
  rw [show nc sRule = 2 from rfl, cells_vs hr]
  have e : (dOf RS).getD j (dft sRule) = ((r.1.2, r.2.2) : List Int × List Int) := by simp [dOf, List.getD, hr]
  rw [e]
  have ne : ∀ g, g < gR → some g ≠ blk (some ⟨gR, 0, none⟩) := fun g hg e => by injection e with e; have e : g = gR := e; omega
  exact RdQ.cat (ca := [_]) (cb := [_]) (lit_seg h1 h7 ⟨by omega, by omega, ne _ h4⟩) (lit_seg h2 h8 ⟨by omega, by omega, ne _ h6⟩)
 ·cases hr : RS[j]? with
  | none =>
   have e : (dOf RS).getD j (dft sRule) = dft sRule := by simp [dOf, List.getD, hr]
   rw [e]
   exact ⟨Nat.zero_le _, Nat.zero_le _⟩
  | some r =>
   have e : (dOf RS).getD j (dft sRule) = ((r.1.2, r.2.2) : List Int × List Int) := by simp [dOf, List.getD, hr]
   obtain ⟨h1, h2, h3, h4, h5, h6, h7, h8⟩ := h r (List.mem_of_getElem? hr)
   rw [e]
   exact ⟨h7, h8⟩
theorem right0 : ∀ r ∈ ([([0, 2, -1], [-1]), ([0, 1, -1, -2], [1, 0, -1, -2])] : List (List Int × List Int)), rule9.Right9 r := by unfold rule9.Right9; decide
theorem right1 : ∀ r ∈ ([([0, 0, -1, -2, -3], [0, -1, 0, -2, -3])] : List (List Int × List Int)), rule9.Right9 r := by unfold rule9.Right9; decide
theorem right2 : ∀ r ∈ ([([1, 1, -1], [-1])] : List (List Int × List Int)), rule9.Right9 r := by unfold rule9.Right9; decide
theorem right3 : ∀ r ∈ ([([0, -1, 2], [-1]), ([0, 1, -1, 1, -2], [0, -1, -2])] : List (List Int × List Int)), rule9.Right9 r := by unfold rule9.Right9; decide
theorem right4 : ∀ r ∈ ([([1, 2], [2]), ([1, 0, -1, -2], [0, 1, -2, 1, -1])] : List (List Int × List Int)), rule9.Right9 r := by unfold rule9.Right9; decide
theorem right5 : ∀ r ∈ ([([0, 2, -1], [-1]), ([0, -1, 2], [-1]), ([0, 0, -1, -2, -3], [0, -1, 0, -2, -3])] : List (List Int × List Int)), rule9.Right9 r := by unfold rule9.Right9; decide
set_option maxHeartbeats 2000000 in
theorem known9 (k : Int) (w : World) :
  Calls Try.prog 41 #[.int .i64 k] w (AnsKnown9 w) := by
 by_cases h0 : k = 0
 ·subst h0
  go_enter Try.func41, Try.ntmps41
  go_wp2
  go_ret
  refine known9_of (w.heap.size + 4) [((w.heap.size, [0, 2, -1]), (w.heap.size + 1, [-1])), ((w.heap.size + 2, [0, 1, -1, -2]), (w.heap.size + 3, [1, 0, -1, -2]))] (by repeat (first | ((refine row_top ?_); ((try simp only [sz_alloc]) <;> omega); done) | (refine row_alloc ?_))) (by omega) (by simp) ?_ right0 (by repeat (first | (exact Below.refl _ _) | (refine Below.alloc ?_ (by simp; try omega) _)))
  intro r hr
  simp only [List.mem_cons, List.not_mem_nil, or_false] at hr
  rcases hr with rfl | rfl
  all_goals exact ⟨(by repeat (first | ((refine row_top ?_); ((try simp only [sz_alloc]) <;> omega); done) | (refine row_alloc ?_))), (by repeat (first | ((refine row_top ?_); ((try simp only [sz_alloc]) <;> omega); done) | (refine row_alloc ?_))), by simp, by simp, by simp, by simp, by simp, by simp⟩
 by_cases h1 : k = 1
 ·subst h1
  clear h0
  go_enter Try.func41, Try.ntmps41
  go_wp2
  go_ret
  refine known9_of (w.heap.size + 2) [((w.heap.size, [0, 0, -1, -2, -3]), (w.heap.size + 1, [0, -1, 0, -2, -3]))] (by repeat (first | ((refine row_top ?_); ((try simp only [sz_alloc]) <;> omega); done) | (refine row_alloc ?_))) (by omega) (by simp) ?_ right1 (by repeat (first | (exact Below.refl _ _) | (refine Below.alloc ?_ (by simp; try omega) _)))
  intro r hr
  simp only [List.mem_cons, List.not_mem_nil, or_false] at hr
  subst hr
  all_goals exact ⟨(by repeat (first | ((refine row_top ?_); ((try simp only [sz_alloc]) <;> omega); done) | (refine row_alloc ?_))), (by repeat (first | ((refine row_top ?_); ((try simp only [sz_alloc]) <;> omega); done) | (refine row_alloc ?_))), by simp, by simp, by simp, by simp, by simp, by simp⟩
 by_cases h2 : k = 2
 ·subst h2
  clear h0 h1
  go_enter Try.func41, Try.ntmps41
  go_wp2
  go_ret
  refine known9_of (w.heap.size + 2) [((w.heap.size, [1, 1, -1]), (w.heap.size + 1, [-1]))] (by repeat (first | ((refine row_top ?_); ((try simp only [sz_alloc]) <;> omega); done) | (refine row_alloc ?_))) (by omega) (by simp) ?_ right2 (by repeat (first | (exact Below.refl _ _) | (refine Below.alloc ?_ (by simp; try omega) _)))
  intro r hr
  simp only [List.mem_cons, List.not_mem_nil, or_false] at hr
  subst hr
  all_goals exact ⟨(by repeat (first | ((refine row_top ?_); ((try simp only [sz_alloc]) <;> omega); done) | (refine row_alloc ?_))), (by repeat (first | ((refine row_top ?_); ((try simp only [sz_alloc]) <;> omega); done) | (refine row_alloc ?_))), by simp, by simp, by simp, by simp, by simp, by simp⟩
 by_cases h3 : k = 3
 ·subst h3
  clear h0 h1 h2
  go_enter Try.func41, Try.ntmps41
  go_wp2
  go_ret
  refine known9_of (w.heap.size + 4) [((w.heap.size, [0, -1, 2]), (w.heap.size + 1, [-1])), ((w.heap.size + 2, [0, 1, -1, 1, -2]), (w.heap.size + 3, [0, -1, -2]))] (by repeat (first | ((refine row_top ?_); ((try simp only [sz_alloc]) <;> omega); done) | (refine row_alloc ?_))) (by omega) (by simp) ?_ right3 (by repeat (first | (exact Below.refl _ _) | (refine Below.alloc ?_ (by simp; try omega) _)))
  intro r hr
  simp only [List.mem_cons, List.not_mem_nil, or_false] at hr
  rcases hr with rfl | rfl
  all_goals exact ⟨(by repeat (first | ((refine row_top ?_); ((try simp only [sz_alloc]) <;> omega); done) | (refine row_alloc ?_))), (by repeat (first | ((refine row_top ?_); ((try simp only [sz_alloc]) <;> omega); done) | (refine row_alloc ?_))), by simp, by simp, by simp, by simp, by simp, by simp⟩
 by_cases h4 : k = 4
 ·subst h4
  clear h0 h1 h2 h3
  go_enter Try.func41, Try.ntmps41
  go_wp2
  go_ret
  refine known9_of (w.heap.size + 4) [((w.heap.size, [1, 2]), (w.heap.size + 1, [2])), ((w.heap.size + 2, [1, 0, -1, -2]), (w.heap.size + 3, [0, 1, -2, 1, -1]))] (by repeat (first | ((refine row_top ?_); ((try simp only [sz_alloc]) <;> omega); done) | (refine row_alloc ?_))) (by omega) (by simp) ?_ right4 (by repeat (first | (exact Below.refl _ _) | (refine Below.alloc ?_ (by simp; try omega) _)))
  intro r hr
  simp only [List.mem_cons, List.not_mem_nil, or_false] at hr
  rcases hr with rfl | rfl
  all_goals exact ⟨(by repeat (first | ((refine row_top ?_); ((try simp only [sz_alloc]) <;> omega); done) | (refine row_alloc ?_))), (by repeat (first | ((refine row_top ?_); ((try simp only [sz_alloc]) <;> omega); done) | (refine row_alloc ?_))), by simp, by simp, by simp, by simp, by simp, by simp⟩
 go_enter Try.func41, Try.ntmps41
 go_wp2
 go_ret
 refine known9_of (w.heap.size + 6) [((w.heap.size, [0, 2, -1]), (w.heap.size + 1, [-1])), ((w.heap.size + 2, [0, -1, 2]), (w.heap.size + 3, [-1])), ((w.heap.size + 4, [0, 0, -1, -2, -3]), (w.heap.size + 5, [0, -1, 0, -2, -3]))] (by repeat (first | ((refine row_top ?_); ((try simp only [sz_alloc]) <;> omega); done) | (refine row_alloc ?_))) (by omega) (by simp) ?_ right5 (by repeat (first | (exact Below.refl _ _) | (refine Below.alloc ?_ (by simp; try omega) _)))
 intro r hr
 simp only [List.mem_cons, List.not_mem_nil, or_false] at hr
 rcases hr with rfl | rfl | rfl
 all_goals exact ⟨(by repeat (first | ((refine row_top ?_); ((try simp only [sz_alloc]) <;> omega); done) | (refine row_alloc ?_))), (by repeat (first | ((refine row_top ?_); ((try simp only [sz_alloc]) <;> omega); done) | (refine row_alloc ?_))), by simp, by simp, by simp, by simp, by simp, by simp⟩
end known9
end
section
open Go.Lib (hid)
namespace sys9
open Go.RowKit base ints sig term cursor marks app appAt sym dice drawX drawKnown ruleMath draw9 rule9 known9
open drawSys (ints_ne rule_ne ints_put ownQ_put rd_of small_nil small_app small_wider)
open shape (Sh Dat nc dft sI sz)
open kindsR (sRule info_RuleS)
set_option maxRecDepth 100000
def AnsSys9 (w : World) (p : Nat) (A : Option Addr) (n c M : Nat) (e : Ending) (w' : World) : Prop :=
 ∃ S sn sc sg R rn rc D, e = .returned (.agg #[.slice S sn sc, .slice R rn rc]) ∧ RdQ w' (OutR w' p (blk R)) sI [.slice S sn sc] (sg : List Int) ∧ sg.length ≤ 9 ∧ OwnQ w' p w.heap.size 75 sRule R rn rc D ∧ SmallD M D ∧ sg = sg9 ∧ (∀ r ∈ D, Right9 r) ∧ D9 w' p A n c ∧ w.grownBy w' (some p)
structure S0 (w : World) (p : Nat) (A : Option Addr) (n c : Nat) (wr : World) : Prop where
 d : D9 wr p A n c
 rN : Row wr w.heap.size 32 #[.slice none 0 0, .slice none 0 0]
 g : w.grownBy wr (some p)
 hp : p < w.heap.size
structure SA (w : World) (p : Nat) (A : Option Addr) (n c : Nat) (o : Nat) (S : Option Addr) (sn sc : Nat) (sg : List Int) (R : Option Addr) (rn rc : Nat) (D : List (Dat sRule)) (wr : World) : Prop where
 z : S0 w p A n c wr
 rO : Row wr o 32 #[.slice S sn sc, .slice R rn rc]
 s : RdQ wr (OutR wr p (blk R)) sI [.slice S sn sc] sg
 own : OwnQ wr p (w.heap.size + 1) 75 sRule R rn rc D
 hR : blk R ≠ some o
 ho : w.heap.size < o
section
variable {w : World} {p : Nat} {A : Option Addr} {n c : Nat} {o : Nat} {S : Option Addr} {sn sc : Nat} {sg : List Int} {R : Option Addr} {rn rc : Nat} {D : List (Dat sRule)} {wr w' : World}
theorem S0.dice (t : S0 w p A n c wr) (d : D9 w' p A n c) (hg : wr.grownBy w' (some p)) : S0 w p A n c w' :=
 ⟨d, Row.away t.rN hg (fun e => by injection e; have := t.hp; omega), grown_trans t.g hg, t.hp⟩
theorem S0.over (t : S0 w p A n c wr) (hb : Below (w.heap.size + 1) wr w') : S0 w p A n c w' :=
 ⟨t.d.keep hb (by have := t.hp; omega), t.rN.below hb (by omega), grow9 t.g (hb.mono (by omega)), t.hp⟩
theorem SA.dice (t : SA w p A n c o S sn sc sg R rn rc D wr) (d : D9 w' p A n c) (hg : wr.grownBy w' (some p)) : SA w p A n c o S sn sc sg R rn rc D w' :=
 ⟨t.z.dice d hg, Row.away t.rO hg (fun e => by injection e; have := t.z.hp; have := t.ho; omega), outR_dice t.s hg, t.own.dice hg (by have := t.z.hp; omega), t.hR, t.ho⟩
theorem SA.next (t : SA w p A n c o S sn sc sg R rn rc D wr) (hb : Below wr.heap.size wr w') : SA w p A n c o S sn sc sg R rn rc D w' :=
 ⟨t.z.over (hb.mono (by have := t.z.rN.lt; omega)), t.rO.next hb, outR_below t.s hb, t.own.below hb, t.hR, t.ho⟩
theorem SA.alloc (t : SA w p A n c o S sn sc sg R rn rc D wr) (x : Obj) : SA w p A n c o S sn sc sg R rn rc D (wr.alloc x) := t.next ((Below.refl _ _).alloc (Nat.le_refl _) _)
theorem SA.drew (t : SA w p A n c o S sn sc sg R rn rc D wr) : SA w p A n c o S sn sc sg R rn rc D wr.drew := t.next ⟨rfl, rfl, rfl, Nat.le_refl _, fun _ _ => rfl⟩
theorem SA.put {g' rc' : Nat} {x : Dat sRule} (t : SA w p A n c o S sn sc sg R rn rc D wr) (hown : OwnQ w' p (w.heap.size + 1) 75 sRule (some ⟨g', 0, none⟩) (rn + 1) rc' (D ++ [x])) (hg : wr.grownBy w' (blk R)) (hat : blk R = some g' ∨ g' = wr.heap.size) :
  SA w p A n c o S sn sc sg (some ⟨g', 0, none⟩) (rn + 1) rc' (D ++ [x]) (w'.setCell ⟨o, 1, none⟩ (.slice (some ⟨g', 0, none⟩) (rn + 1) rc')) := by
 have h2 := t.ho
 have hz := t.rO.lt
 have hge := t.own.ge
 have hO := Row.away t.rO hg t.hR
 have hb : Below (w.heap.size + 1) wr w' := (Below.refl _ _).grown hg (by omega) (fun k hk => (hge k hk).1)
 have hb2 : Below (w.heap.size + 1) wr (w'.setCell ⟨o, 1, none⟩ (.slice (some ⟨g', 0, none⟩) (rn + 1) rc')) := hb.setCell (p := ⟨o, 1, none⟩) (by show w.heap.size + 1 ≤ o; omega) _
 have hne : blk (some (⟨g', 0, none⟩ : Addr)) ≠ some o := by
  intro e
  have e : g' = o := by injection e
  subst e
  rcases hat with e | e
  ·exact t.hR e
  ·omega
 have hs : RdQ w' (OutR w' p (blk (some ⟨g', 0, none⟩))) sI [.slice S sn sc] sg :=
  (t.s.keep fun b hb => hg.block b hb.1 (fun e => hb.2.2 e)).mono fun b hb => ⟨Nat.lt_of_lt_of_le hb.1 hg.size, hb.2.1, fun e => by
   have e : b = g' := by injection e
   subst e
   rcases hat with e | e
   ·exact hb.2.2 e.symm
   ·have := hb.1; omega⟩
 exact ⟨t.z.over hb2, hO.put 1 _, ints_put hs hO 1 _, ownQ_put hown hO hne 1 _, hne, h2⟩
theorem sys_result9 {M : Nat} (hok : ∀ r ∈ D, Right9 r) (hsg : sg = sg9) (z : S0 w p A n c wr) (s : RdQ wr (OutR wr p (blk R)) sI [.slice S sn sc] sg) (own : OwnQ wr p (w.heap.size + 1) 75 sRule R rn rc D) (h9 : sg.length ≤ 9) (hM : SmallD M D) :
  AnsSys9 w p A n c M (.returned (.agg #[.slice S sn sc, .slice R rn rc])) ((wr.setCell ⟨w.heap.size, 0, none⟩ (.slice S sn sc)).setCell ⟨w.heap.size, 1, none⟩ (.slice R rn rc)) := by
 have h1 := z.hp
 have hne : blk R ≠ some w.heap.size := fun e => by have := (own.ge _ e).1; omega
 have r1 := z.rN.put 0 (.slice S sn sc)
 have o1 := ownQ_put own z.rN hne 0 (.slice S sn sc)
 have s1 := ints_put s z.rN 0 (.slice S sn sc)
 have o2 := ownQ_put o1 r1 hne 1 (.slice R rn rc)
 have s2 := ints_put s1 r1 1 (.slice R rn rc)
 have hS : Below w.heap.size wr ((wr.setCell ⟨w.heap.size, 0, none⟩ (.slice S sn sc)).setCell ⟨w.heap.size, 1, none⟩ (.slice R rn rc)) := ((Below.refl _ wr).setCell (p := ⟨w.heap.size, 0, none⟩) (Nat.le_refl _) _).setCell (p := ⟨w.heap.size, 1, none⟩) (Nat.le_refl _) _
 exact ⟨S, sn, sc, sg, R, rn, rc, D, rfl, s2, h9, o2.lower (by omega), hM, hsg, hok, z.d.keep hS (by omega), grow9 z.g hS⟩
end
theorem SA.setR {w : World} {p : Nat} {A : Option Addr} {n c : Nat} {o : Nat} {S : Option Addr} {sn sc : Nat} {sg : List Int} {R : Option Addr} {rn rc : Nat} {D : List (Dat sRule)} {wr w' : World} (t : SA w p A n c o S sn sc sg none 0 0 [] wr) (hb : Below wr.heap.size wr w') (own : OwnQ w' p wr.heap.size 75 sRule R rn rc D) : SA w p A n c o S sn sc sg R rn rc D (w'.setCell ⟨o, 1, none⟩ (.slice R rn rc)) := by
 have h2 := t.ho
 have hz := t.rO.lt
 have hge := own.ge
 have t' := t.next hb
 have hO := t'.rO
 have hne : blk R ≠ some o := fun e => by have := (hge _ e).1; omega
 have hb2 : Below (w.heap.size + 1) w' (w'.setCell ⟨o, 1, none⟩ (.slice R rn rc)) := (Below.refl _ _).setCell (p := ⟨o, 1, none⟩) (by show w.heap.size + 1 ≤ o; omega) _
 have hs : RdQ w' (OutR w' p (blk R)) sI [.slice S sn sc] sg :=
  (t.s.keep fun b h => hb.block b h.1).mono fun b h => ⟨Nat.lt_of_lt_of_le h.1 hb.size, h.2.1, fun e => by have := (hge b e.symm).1; have := h.1; omega⟩
 exact ⟨t'.z.over hb2, hO.put 1 _, ints_put hs hO 1 _, ownQ_put (own.lower (by omega)) hO hne 1 _, hne, h2⟩
def HeadY9 (w : World) (p : Nat) (A : Option Addr) (n c : Nat) (o : Nat) (S : Option Addr) (sn sc : Nat) (k : Value) (wr : World) : Prop :=
 ∃ (q : Nat) (R : Option Addr) (rn rc : Nat) (D : List (Dat sRule)), k = .int .i64 q ∧ rn + q ≤ 3 ∧ SmallD rn D ∧ (∀ r ∈ D, Right9 r) ∧ SA w p A n c o S sn sc sg9 R rn rc D wr
set_option maxHeartbeats 2000000 in
theorem w9System (p : Nat) (A : Option Addr) (n c : Nat) (w : World) (hd : D9 w p A n c) :
  Calls Try.prog 11 #[.pointer (some ⟨p, 0, none⟩)] w (AnsSys9 w p A n c 3) := by
 obtain ⟨W, hW⟩ : ∃ W, W = w.alloc (.cells #[.slice none 0 0, .slice none 0 0] 32) := ⟨_, rfl⟩
 have T : S0 w p A n c W := by rw [hW]; exact ⟨hd.alloc _, Row.new _ _ _, World.grownBy_alloc _ _ _, hd.lt⟩
 have HW := hid hW
 have hp := hd.lt
 have z1 := T.rN.lt
 clear hW hd
 have L1 := hid (w9Sig W)
 go_enter Try.func11, Try.ntmps11
 go_wp2_with fail
 rw [← HW.out]
 refine L1.out.mono ?_
 rintro e u2 ⟨S, sn, sc, rfl, oS, bS⟩
 have T2 := T.over (bS.mono (by omega))
 have z2 := T2.rN.lt
 have z12 := bS.size
 obtain ⟨o, ho⟩ : ∃ o, u2.heap.size = o := ⟨_, rfl⟩
 obtain ⟨W3, hW3⟩ : ∃ W3, W3 = u2.alloc (.cells #[.slice S sn sc, .slice none 0 0] 32) := ⟨_, rfl⟩
 have T3 : SA w p A n c o S sn sc sg9 none 0 0 [] W3 := by
  have bb : Below u2.heap.size u2 W3 := by rw [hW3]; exact (Below.refl _ _).alloc (Nat.le_refl _) _
  have hSS : RdQ u2 (OutR u2 p (blk none)) sI [.slice S sn sc] sg9 := rdq_own oS fun b h1 h2 _ => ⟨h2, by omega, fun e => by cases e⟩
  exact ⟨T2.over (bb.mono (by omega)), by rw [hW3, ← ho]; exact Row.new _ _ _, outR_below hSS bb, OwnQ.nil _ _ _ _ _, (fun e => by cases e), by omega⟩
 have HW3 := hid hW3
 have HO := hid ho
 have L3 := hid (below9 p A n c 2 W3 T3.z.d (by omega) (by omega))
 clear L1 T T2 oS hW3 ho bS z1 z2 z12 HW
 go_wp2_with fail
 rw [← HW3.out, HO.out]
 refine L3.out.mono ?_
 rintro e u4 ⟨x, rfl, x0, x1, d4, g4⟩
 have T4 := T3.dice d4 g4
 clear T3 d4 g4 L3 HW3
 by_cases hx : x = 0
 ·subst hx
  have L5 := hid (below9 p A n c 6 u4 T4.z.d (by omega) (by omega))
  go_wp2_with fail
  refine L5.out.mono ?_
  rintro e u5 ⟨y, rfl, y0, y1, d5, g5⟩
  have T5 := T4.dice d5 g5
  have L6 := hid (known9 y u5)
  clear L5 T4 d5 g5
  go_wp2_with fail
  refine L6.out.mono ?_
  rintro e u6 ⟨R, rn, rc, D, rfl, hOQ, hM, hok, b6⟩
  have T6 := T5.next b6
  have T7 := T5.setR b6 (hOQ p T5.z.d.lt)
  have q0 : u6.cell? ⟨o, 0, none⟩ = some (.slice S sn sc) := T6.rO.cell 0
  have q1 : u6.cell? ⟨o, 1, none⟩ = some (.slice none 0 0) := T6.rO.cell 1
  have q2 : u6.frozen? ⟨o, 1, none⟩ = false := T6.rO.free 1
  have c0 : (u6.setCell ⟨o, 1, none⟩ (.slice R rn rc)).cell? ⟨o, 0, none⟩ = some (.slice S sn sc) := T7.rO.cell 0
  have c1 : (u6.setCell ⟨o, 1, none⟩ (.slice R rn rc)).cell? ⟨o, 1, none⟩ = some (.slice R rn rc) := T7.rO.cell 1
  have cN : (u6.setCell ⟨o, 1, none⟩ (.slice R rn rc)).cell? ⟨w.heap.size, 0, none⟩ = some (.slice none 0 0) := T7.z.rN.cell 0
  have cN1 : (u6.setCell ⟨o, 1, none⟩ (.slice R rn rc)).cell? ⟨w.heap.size, 1, none⟩ = some (.slice none 0 0) := T7.z.rN.cell 1
  have fN : (u6.setCell ⟨o, 1, none⟩ (.slice R rn rc)).frozen? ⟨w.heap.size, 0, none⟩ = false := T7.z.rN.free 0
  have fN1 : (u6.setCell ⟨o, 1, none⟩ (.slice R rn rc)).frozen? ⟨w.heap.size, 1, none⟩ = false := T7.z.rN.free 1
  have F := hid (sys_result9 hok rfl T7.z T7.s T7.own (by decide) hM)
  clear T7 T6 T5 hOQ hM hok b6 L6
  go_wp2
  exact bodyPost_ret (v := .agg #[.slice S sn sc, .slice R rn rc]) (by simp [results, Try.results11, go_sem, cN, cN1]) rfl F.out
 ·have hx' : (x == 0) = false := by simp [hx]
  have L5 := hid (below9 p A n c 3 u4 T4.z.d (by omega) (by omega))
  go_wp2_with fail
  refine L5.out.mono ?_
  rintro e u5 ⟨y, rfl, y0, y1, d5, g5⟩
  have T5 := T4.dice d5 g5
  obtain ⟨q, rfl⟩ := Int.eq_ofNat_of_zero_le y0
  have HH := hid (show HeadY9 w p A n c o S sn sc (.int .i64 (1 + (q : Int))) u5 from ⟨q + 1, none, 0, 0, [], by congr 1; omega, by omega, small_nil _, by simp, T5⟩)
  clear T4 T5 d5 g5 L5 HO
  go_wp2_with fail
  go_loopw [4] (fun k wr => HeadY9 w p A n c o S sn sc k wr) (fun k _ => (intOf k).toNat)
  case atStart => exact HH.out
  case round =>
   obtain ⟨q, R, rn, rc, D, rfl, hq, hD, hok, T⟩ := hrel
   clear HH
   have cV : wr.cell? ⟨o, 0, none⟩ = some (.slice S sn sc) := T.rO.cell 0
   have cR : wr.cell? ⟨o, 1, none⟩ = some (.slice R rn rc) := T.rO.cell 1
   cases q with
   | zero =>
    have cN : wr.cell? ⟨w.heap.size, 0, none⟩ = some (.slice none 0 0) := T.z.rN.cell 0
    have cN1 : wr.cell? ⟨w.heap.size, 1, none⟩ = some (.slice none 0 0) := T.z.rN.cell 1
    have fN : wr.frozen? ⟨w.heap.size, 0, none⟩ = false := T.z.rN.free 0
    have fN1 : wr.frozen? ⟨w.heap.size, 1, none⟩ = false := T.z.rN.free 1
    have F := hid (sys_result9 hok rfl T.z T.s T.own (by decide) (small_wider hD (show rn ≤ 3 by omega)))
    clear T hok hD
    go_wp2
    exact bodyPost_ret (v := .agg #[.slice S sn sc, .slice R rn rc]) (by simp [results, Try.results11, go_sem, cN, cN1]) rfl F.out
   | succ q =>
    have e0 : (0 : Int) < ((q + 1 : Nat) : Int) := by omega
    have T6 := T.drew
    have HOK := hid hok
    clear T hok
    go_wp2_with fail
    go_region_law (first
     | (refine stepQ1 rfl _ _ 30 75 sRule _ 48 Try.underlying30 info_RuleS rfl (by omega) rfl p (w.heap.size + 1) R rn rc D (by simp [Act.eval, Act.put]) (T7.alloc _).own w7.heap.size 1 [.slice a1 n1 c1, .slice a2 n2 c2] ((xs, ys) : List Int × List Int) (by simp [Act.eval, Act.put]) (fun i hi => by match i, hi with | 0, _ => exact (Row.new _ _ _).cell 0 | 1, _ => exact (Row.new _ _ _).cell 1) (outR_below RX ((Below.refl _ _).alloc (Nat.le_refl _) _)) (by omega) (by simp; omega) ?_; intro O' oc' w8 ho8 hg8 hat8 hlt8; have r8 := Row.away (T7.alloc _).rO hg8 T7.hR; have cV8 : w8.cell? ⟨o, 0, none⟩ = some (.slice S sn sc) := r8.cell 0; have cR8 : w8.cell? ⟨o, 1, none⟩ = some (.slice R rn rc) := r8.cell 1; have fV8 : w8.frozen? ⟨o, 1, none⟩ = false := r8.free 1)
     | (go_simp; go_at_call 42; refine (w9Rule p A n c _ T6.z.d).mono ?_; rintro e w7 ⟨a1, n1, c1, a2, n2, c2, xs, ys, rfl, rx, hok7, hx1, hx2, d7, g7⟩; have T7 := T6.dice d7 g7; have RX : RdQ w7 (OutR w7 p (blk R)) sRule [.slice a1 n1 c1, .slice a2 n2 c2] ((xs, ys) : List Int × List Int) := (rx.mono fun b hb => ⟨hb.2, (by have h5 := hb.1; have h6 := T6.z.rN.lt; omega), fun e => by have h5 := hb.1; have h6 := (T6.own.ge b e.symm).2; omega⟩); have cV7 : w7.cell? ⟨o, 0, none⟩ = some (.slice S sn sc) := T7.rO.cell 0; have cR7 : w7.cell? ⟨o, 1, none⟩ = some (.slice R rn rc) := T7.rO.cell 1; have zV7 : o < w7.heap.size := T7.rO.lt; have zW7 : w.heap.size < w7.heap.size := T7.z.rN.lt))
    all_goals
     have T8 := SA.put (T7.alloc _) ho8 hg8 hat8
     have F := hid (show HeadY9 w p A n c o S sn sc (.int .i64 (q : Int)) _ from ⟨q, _, _, _, _, rfl, by omega, small_app hD (by omega) (by omega), (fun r hr => by
      rcases List.mem_append.1 hr with h | h
      ·exact HOK.out r h
      ·rw [List.mem_singleton.1 h]; exact hok7), T8⟩)
     clear T8 T7 T6 ho8 hg8 hat8 hlt8 r8 d7 g7 cV7 cR7 RX rx
     go_wp2
     go_roundw
     case rel => first | exact F.out | simpa using F.out
     case measure => simp [intOf]
theorem sys9_data {w w' : World} {p : Nat} {A : Option Addr} {n c : Nat} {e : Ending} (hp : p < w.heap.size) (h : AnsSys9 w p A n c 3 e w') : ∃ S sn sc R rn rc D, e = .returned (.agg #[.slice S sn sc, .slice R rn rc]) ∧ RdQ w' (Out w' p) (.cat sI (.row 75 sRule)) [.slice S sn sc, .slice R rn rc] ((sg9, D) : List Int × List (Dat sRule)) ∧ SmallD 3 D ∧ sysOkB sg9 D = true ∧ (∀ r ∈ D, Right9 r) ∧ D9 w' p A n c ∧ w.grownBy w' (some p) := by
 obtain ⟨S, sn, sc, sg, R, rn, rc, D, e, s, h9, own, hM, rfl, hok, d, g⟩ := h
 exact ⟨S, sn, sc, R, rn, rc, D, e, RdQ.cat (ca := [_]) (cb := [_]) (s.mono fun b hb => ⟨hb.1, hb.2.1⟩) (own.rdq hp), hM, sys_mk sg9_ok (by have := hM.1; omega) (fun r hr => (hok r hr).1), hok, d, g⟩
end sys9
end
section
namespace at9
open Go.RowKit base ints sig cursor marks app appAt sym segs shape kindsR kindsW walkMath drawX drawKnown draw9
set_option maxRecDepth 100000
section
variable {w w' : World} {p lo : Nat} {A : Option Addr} {n c : Nat}
theorem ow_rdq : ∀ {s : Sh} {cs : List Value} {d : Dat s} {F : List Nat}, Ow w s cs d F → RdQ w (fun b => b ∈ F) s cs d
 | .num, _, _, _, h => h.1
 | .bit, _, _, _, h => h.1
 | .row e s, _, _, F, h => by
  obtain ⟨A, n, c, e1, hl, h1⟩ := h
  rcases h1 with ⟨rfl, rfl, rfl, _⟩ | ⟨g, cur, E, G, e2, hr, h2, h3, h4, h5, h6⟩
  ·exact ⟨none, 0, 0, e1, ⟨by omega, by omega, fun _ => rfl⟩, hl, fun h => absurd h (by omega)⟩
  ·refine ⟨A, n, c, e1, ⟨h2, h3, fun e => by rw [e] at e2; cases e2⟩, hl, fun hn => ⟨g, 0, e2, by rw [h5]; exact List.mem_cons_self .., fun j hj => ?_⟩⟩
   obtain ⟨q1, q2, q3⟩ := h6 j hj
   refine ⟨E j, q1, fun i hi => ?_, (ow_rdq q3).mono fun b hb => ?_⟩
   ·rw [Nat.zero_add, hr.cell, q2 i (by omega)]
   ·rw [h5]
    exact List.mem_cons_of_mem _ (List.mem_flatMap.2 ⟨j, List.mem_range.2 hj, hb⟩)
 | .cat a b, _, _, F, h => by
  obtain ⟨ca, cb, Fa, Fb, e, e2, h1, h2⟩ := h
  exact ⟨ca, cb, e, (ow_rdq h1).mono fun b hb => by rw [e2]; exact List.mem_append_left _ hb, (ow_rdq h2).mono fun b hb => by rw [e2]; exact List.mem_append_right _ hb⟩
theorem owned_rdq {hi : Nat} {s : Sh} {cs : List Value} {d : Dat s} (h : Owned w lo hi s cs d) : RdQ w (fun b => lo ≤ b ∧ b < hi) s cs d := by
 obtain ⟨F, h, _, h2⟩ := h
 exact (ow_rdq h).mono h2
theorem step_parts {Q : Nat → Prop} {es : List Value} {d : Dat sStep} (h : RdQ w Q sStep es d) : ∃ V vn vc, es = [.int .i64 d.1, .int .i64 d.2.1, .slice V vn vc] ∧ RdQ w Q sI [.slice V vn vc] d.2.2 := by
 obtain ⟨ca0, cb0, e0, p0, ca1, cb1, e1, p1, q⟩ := h
 have p0 : ca0 = [.int .i64 d.1] := p0
 have p1 : ca1 = [.int .i64 d.2.1] := p1
 have hq := q
 obtain ⟨V, vn, vc, e2, -⟩ := hq
 subst p0 p1 e2
 exact ⟨V, vn, vc, by rw [e0, e1]; rfl, q⟩
theorem step_el {Q : Nat → Prop} {b0 o0 xn xc : Nat} {L : List St} {j : Nat} (h : RdQ w Q sStepS [.slice (some ⟨b0, o0, none⟩) xn xc] L) (hj : j < xn) : ∃ V vn vc, w.cell? ⟨b0, o0 + j * 3 + 2, none⟩ = some (.slice V vn vc) ∧ RdQ w Q sI [.slice V vn vc] (L.getD j (0, 0, [])).2.2 := by
 obtain ⟨A, n, c, e, hc, hl, h1⟩ := h
 injection e with e
 injection e with e1 e2 e3
 subst e1 e2 e3
 obtain ⟨b, off, e, hq, h2⟩ := h1 (by omega)
 injection e with e
 injection e with e1 e2
 subst e1 e2
 obtain ⟨es, he, hp, hr⟩ := h2 j hj
 obtain ⟨V, vn, vc, e, hv⟩ := step_parts hr
 subst e
 exact ⟨V, vn, vc, hp 2 (by simp), hv⟩
theorem step_some {Q : Nat → Prop} {X : Option Addr} {xn xc : Nat} {L : List St} (h : RdQ w Q sStepS [.slice X xn xc] L) (hj : 0 < xn) : ∃ b off, X = some ⟨b, off, none⟩ ∧ xn ≤ xc ∧ xc ≤ 9223372036854775807 := by
 obtain ⟨A, n, c, e, hc, hl, h1⟩ := h
 injection e with e
 injection e with e1 e2 e3
 subst e1 e2 e3
 obtain ⟨b, off, e, -⟩ := h1 hj
 exact ⟨b, off, e, hc.1, hc.2.1⟩
end
theorem sz_small {M : Nat} {D : List (Dat sRule)} (h : SmallD M D) : sz sRuleS D ≤ M + M * 130 := by
 have h1 : ∀ x ∈ D, sz sRule x ≤ 130 := fun x hx => by
  obtain ⟨j, hj, rfl⟩ := List.mem_iff_getElem.1 hx
  obtain ⟨h2, h3⟩ := h.2 j
  rw [List.getD_eq_getElem?_getD, List.getElem?_eq_getElem hj] at h2 h3
  have h2 : ((D[j]).1 : List Int).length ≤ 65 := h2
  have h3 : ((D[j]).2 : List Int).length ≤ 65 := h3
  show sz sI (D[j]).1 + sz sI (D[j]).2 ≤ 130
  rw [Go.Proofs.Ytjfpejohpjaahaa.shape.sz_ints, Go.Proofs.Ytjfpejohpjaahaa.shape.sz_ints]
  omega
 have h2 : ∀ l : List (Dat sRule), (∀ x ∈ l, sz sRule x ≤ 130) → (l.map (sz sRule)).sum ≤ l.length * 130 := fun l => by
  induction l with
  | nil => intro _; exact Nat.le_refl _
  | cons x l ih =>
   intro hx
   have a := hx x (List.mem_cons_self ..)
   have b := ih fun y hy => hx y (List.mem_cons_of_mem _ hy)
   rw [List.map_cons, List.sum_cons, List.length_cons, Nat.add_mul]
   omega
 have h3 := h2 D h1
 have h4 := Nat.mul_le_mul_right 130 h.1
 show D.length + (D.map (sz sRule)).sum ≤ _
 have := h.1
 omega
theorem small_sz {D : List (Dat sRule)} (h : SmallD 3 D) : sz sSystem ((sg9, D) : List Int × List (Dat sRule)) ≤ 1048576 := by
 have h1 := sz_small h
 show sz sI sg9 + sz sRuleS D ≤ 1048576
 rw [Go.Proofs.Ytjfpejohpjaahaa.shape.sz_ints]
 have h2 : sg9.length = 3 := rfl
 omega
theorem stepAppAllG {w : World} {ops : Array Oper} {o : Oper} {a : Act} {K : Act → World → Prop} {Q : Exit → Act → World → Prop} {E : Prop} (hgd : Region.wanted o (yielded ops a.tmps) = true) (s x : Operand)
  (ho : o.op = .call { callee := .builtin .append, args := #[s, x], argTypes := #[27, 27] })
  (base : Nat) (A : Option Addr) (n c : Nat) (xs : List Int) (hs : a.eval s = .slice A n c) (hown : Own w base (.slice A n c) xs)
  (S : Option Addr) (m c2 B : Nat) (ys : List Int) (hx : a.eval x = .slice S m c2) (hseg : Seg w B S m ys) (hm1 : 1 ≤ m) (hn : n ≤ 2097152) (hm : m ≤ 2097152) (hbase : base ≤ w.heap.size)
  (h : ∀ g' c' w', Own w' base (.slice (some ⟨g', 0, none⟩) (n + m) c') (xs ++ ys) → w.grownBy w' (blk A) → (blk A = some g' ∨ g' = w.heap.size) → g' < w'.heap.size → K (a.put o.dst (.slice (some ⟨g', 0, none⟩) (n + m) c')) w') :
  if Region.wanted o (yielded ops a.tmps) = true then Oper.wp Try.prog o a w K Q else E := by
 obtain ⟨i0, hi, hz0, hz1, hz2⟩ := info_parts info_i64
 have hl : xs.length = n := by
  obtain ⟨A', c', e⟩ := hown.slice
  exact (Value.slice.inj e).2.1.symm
 have hob : (Value.slice A n c).ownBlock = blk A := by cases A <;> rfl
 obtain ⟨b, off, e, _, hc⟩ := hseg.2 (by omega)
 subst e
 rw [if_pos hgd]
 refine wp_append_lies w s x 27 ho base 2 i0 (.int .i64 0) 1 8 Try.underlying27 hi hz0 hz1 hz2 rfl (by decide) (.slice A n c) n (xs.map (Value.int .i64)) hs (by rw [← hl]; rw [← hl] at hown; exact hown)
  ⟨b, off, none⟩ m c2 (ys.map (Value.int .i64)) hx (by simp [hseg.1]) (fun j u hj => ?_) (fun u hu => ?_) (by omega) (by unfold maxLen; omega) (by omega) hbase w.heap.size rfl ?_
 ·have hjl : j < m := by
   have := (List.getElem?_eq_some_iff.1 hj).1
   simp at this
   have := hseg.1
   omega
  have hcj := hc j hjl
  have e2 : (⟨b, off, none⟩ : Addr).add j = ⟨b, off + j, none⟩ := by unfold Addr.add; split <;> simp_all
  rw [e2, hcj, ← hj]
  have := hseg.1
  simp [List.getD, show j < ys.length by omega]
 ·obtain ⟨y, _, rfl⟩ := List.mem_map.1 hu
  rfl
 ·intro g' c' w' hown' hg hat hlt
  rw [← List.map_append] at hown'
  rw [hob] at hg hat
  refine h g' c' w' ?_ hg hat hlt
  have hl2 : (xs ++ ys).length = n + m := by simp [hl, hseg.1]
  unfold Own
  rw [hl2]
  exact hown'
end at9
end
section
namespace stepSpec
open Go.RowKit base ints sig term termOk endAt endOf marks app sym sub segs segsHelp kinds termFacts shifted matchMath matchSpec shape kindsR kindsW ruleMath ruleSpec stepMath walkMath stepsMath ownL varsOf
set_option maxRecDepth 100000
end stepSpec
end
section
namespace bigs
open Go.RowKit base ints
theorem bigAns (A : Option Addr) (n c : Nat) (b : Bool) (w : World) (hb : decide (4096 < n) = b) (hn : n ≤ 9223372036854775807) : Calls Try.prog 9 #[.slice A n c] w fun e w' => w = w' ∧ e = .returned (.bool b) := by
 cases b with
 | true =>
  have h : (4096 : Int) < (n : Int) := by have := of_decide_eq_true hb; omega
  clear hb
  go_enter Try.func9, Try.ntmps9
  go_wp2
  go_ret
  exact ⟨rfl, rfl⟩
 | false =>
  have h : ¬ (4096 : Int) < (n : Int) := by have := of_decide_eq_false hb; omega
  have h2 : decide (4096 < n) = false := hb
  clear hb
  go_enter Try.func9, Try.ntmps9
  go_wp2
  go_ret
  exact ⟨rfl, rfl⟩
end bigs
end
section
open Go.Lib (hid)
namespace wFnAtOnce
open Go.RowKit base ints sig term termOk termFacts cursor marks app appAt sym segs dice rolls bigs shape kinds kindsR kindsW ruleMath ruleSpec stepMath walkMath stepSpec walkSpec varsOf ownL drawX at9 drawKnown forest parMath parStep parSpec parImpl parX draw9 rule9 sys9 atOnceMath
set_option maxRecDepth 100000
structure Q9 (w : World) (p : Nat) (A : Option Addr) (n c o : Nat) (S : Option Addr) (sn sc : Nat) (R : Option Addr) (rn rc : Nat) (D : List Rl) (P : Option Addr) (pn pc : Nat) (a : List Int) (P' : Option Addr) (pn' pc' : Nat) (b : List Int) (wr : World) : Prop where
 d : D9 wr p A n c
 s : RdQ wr (Out wr p) sSystem [.slice S sn sc, .slice R rn rc] ((sg9, D) : List Int × List Rl)
 r : Row wr o 32 #[.slice S sn sc, .slice R rn rc]
 a : RdQ wr (Out wr p) sI [.slice P pn pc] a
 b : RdQ wr (Out wr p) sI [.slice P' pn' pc'] b
 ne : o ≠ p
 hp : w.heap.size ≤ p
 bel : Below w.heap.size w wr
section
variable {w : World} {p : Nat} {A : Option Addr} {n c o : Nat} {S : Option Addr} {sn sc : Nat} {R : Option Addr} {rn rc : Nat} {D : List Rl} {P : Option Addr} {pn pc : Nat} {a : List Int} {P' : Option Addr} {pn' pc' : Nat} {b : List Int} {wr w' : World}
theorem Q9.next (h : Q9 w p A n c o S sn sc R rn rc D P pn pc a P' pn' pc' b wr) (hb : Below wr.heap.size wr w') : Q9 w p A n c o S sn sc R rn rc D P pn pc a P' pn' pc' b w' :=
 ⟨h.d.next hb, out_below h.s hb, h.r.next hb, out_below h.a hb, out_below h.b hb, h.ne, h.hp, next_trans h.bel hb⟩
theorem Q9.dice (h : Q9 w p A n c o S sn sc R rn rc D P pn pc a P' pn' pc' b wr) (d : D9 w' p A n c) (hg : wr.grownBy w' (some p)) : Q9 w p A n c o S sn sc R rn rc D P pn pc a P' pn' pc' b w' :=
 ⟨d, out_dice h.s hg, marks.Row.away h.r hg (fun e => by injection e with e; exact h.ne e.symm), out_dice h.a hg, out_dice h.b hg, h.ne, h.hp, h.bel.grown hg h.bel.size (fun k e => by injection e with e; have := h.hp; omega)⟩
end
set_option maxHeartbeats 8000000 in
theorem law (A : Option Addr) (n c : Nat) (_ : List Int) (w : World) (h : SegB w w.heap.size A n) (hN : n ≤ 9223372036854775807) :
  Calls Try.prog 3 #[.slice A n c] w (Fine w) := by
 by_cases hbig : n ≤ 4096
 ·have LB := hid (bigAns A n c false w (by simp; omega) hN)
  go_enter Try.func3, Try.ntmps3
  go_wp2_with fail
  refine LB.out.mono ?_
  rintro e w' ⟨rfl, rfl⟩
  clear LB
  go_wp2_with fail
  refine (rollS A n c 956 w h hbig).mono ?_
  rintro e w1 ⟨p, h0, rfl, hp, Rz, b1⟩
  have d1 : D9 w1 p A n c := ⟨0, h0, Rz⟩
  have hp1 := d1.lt
  have LS := hid (w9System p A n c w1 d1)
  clear h Rz
  go_wp2_with fail
  refine LS.out.mono ?_
  intro e w2 hsys
  obtain ⟨S, sn, sc, R, rn, rc, D, rfl, qs, hM, hok, hr9, d2, g2⟩ := sys9_data hp1 hsys
  have b2 : Below w.heap.size w w2 := b1.grown g2 b1.size (fun k e => by injection e with e; omega)
  obtain ⟨W, hW⟩ : ∃ W, W = w2.alloc (.cells #[.slice S sn sc, .slice R rn rc] 32) := ⟨_, rfl⟩
  have b3 : Below w2.heap.size w2 W := by rw [hW]; exact (Below.refl _ _).alloc (Nat.le_refl _) _
  have r3 : Row W w2.heap.size 32 #[.slice S sn sc, .slice R rn rc] := by rw [hW]; exact Row.new _ _ _
  have d3 := d2.next b3
  have qs3 := out_below qs b3
  have hp2 := d2.lt
  have hne : w2.heap.size ≠ p := by omega
  have hW2 : w2.heap.size < W.heap.size := r3.lt
  have bel3 := next_trans b2 b3
  have LA := hid (w9Term p A n c 1 (by omega) (by omega) 2 3 W d3 (by omega) (by omega) (by omega))
  have HW := hid hW
  obtain ⟨o, ho⟩ : ∃ o, w2.heap.size = o := ⟨_, rfl⟩
  have HO := hid ho
  rw [ho] at r3 hne hW2 hp2
  clear ho
  clear hsys LS d1 d2 g2 qs b1 b2 b3 hW
  go_wp2_with fail
  rw [← HW.out, HO.out]
  refine LA.out.mono ?_
  rintro e w4 ⟨P, pn, pc, a, rfl, oa, ha, d4, g4⟩
  have LC := hid (w9Term p A n c 1 (by omega) (by omega) 2 3 w4 d4 (by omega) (by omega) (by omega))
  have hs4 := g4.size
  clear LA HW
  go_wp2_with fail
  refine LC.out.mono ?_
  rintro e w5 ⟨P', pn', pc', b, rfl, ob, hb, d5, g5⟩
  have Q5 : Q9 w p A n c o S sn sc R rn rc D P pn pc a P' pn' pc' b w5 := by
   have qa4 : RdQ w4 (Out w4 p) sI [.slice P pn pc] a := rdq_own oa fun k h1 h2 _ => ⟨h2, by omega⟩
   have qb5 : RdQ w5 (Out w5 p) sI [.slice P' pn' pc'] b := rdq_own ob fun k h1 h2 _ => ⟨h2, by omega⟩
   have g35 := grown_trans g4 g5
   exact ⟨d5, out_dice qs3 g35, marks.Row.away r3 g35 (fun e => by injection e with e; exact hne e.symm), out_dice qa4 g5, qb5, hne, hp, bel3.grown g35 bel3.size (fun k e => by injection e with e; omega)⟩
  have HA := hid (show termOkB sg9 a = true ∧ a.length ≤ 7 from ⟨ok9 ha.1 (by have := ha.2.1; have : B9 2 = 7 := rfl; omega) (fun x hx => by have := ha.2.2 x hx; omega), ha.2.1⟩)
  have HB := hid (show termOkB sg9 b = true ∧ b.length ≤ 7 from ⟨ok9 hb.1 (by have := hb.2.1; have : B9 2 = 7 := rfl; omega) (fun x hx => by have := hb.2.2 x hx; omega), hb.2.1⟩)
  have HOK := hid hok
  have HR9 := hid hr9
  have HZ := hid (small_sz hM)
  have HM := hid hM
  have hpn : pn ≤ 7 := by have := rdq_len Q5.a; have := HA.out.2; omega
  have hpn' : pn' ≤ 7 := by have := rdq_len Q5.b; have := HB.out.2; omega
  clear LC oa ob ha hb d4 d5 g4 g5 qs3 r3 d3 bel3 hok hr9 hM hs4 hp1 hp2 hW2
  have K0 : w5.cell? ⟨o, 0, none⟩ = some (.slice S sn sc) := Q5.r.cell 0
  have K1 : w5.cell? ⟨o, 1, none⟩ = some (.slice R rn rc) := Q5.r.cell 1
  have L6 := hid (specStepsFrom _ _ _ (sg9, D) a w5 (out_rd Q5.s) (out_rd Q5.a) HZ.out (by rw [sz_ints]; have := HA.out.2; omega))
  go_wp2_with fail
  refine L6.out.mono ?_
  rintro e w6 ⟨X, xn, xc, rfl, oX, b6⟩
  have Q6 := Q5.next b6
  have qX : RdQ w6 (Out w6 p) sStepS [.slice X xn xc] (stepsI sg9 D a) := (owned_rdq oX.owned).mono fun k hk => ⟨hk.2, by have := Q5.d.lt; omega⟩
  have hxn := oX.1
  have K0 : w6.cell? ⟨o, 0, none⟩ = some (.slice S sn sc) := Q6.r.cell 0
  have K1 : w6.cell? ⟨o, 1, none⟩ = some (.slice R rn rc) := Q6.r.cell 1
  have L7 := hid (specStepsFrom _ _ _ (sg9, D) b w6 (out_rd Q6.s) (out_rd Q6.b) HZ.out (by rw [sz_ints]; have := HB.out.2; omega))
  clear L6 oX b6 Q5
  go_wp2_with fail
  refine L7.out.mono ?_
  rintro e w7 ⟨Y, yn, yc, rfl, oY, b7⟩
  have Q7 := Q6.next b7
  have qX7 := out_below qX b7
  have qY : RdQ w7 (Out w7 p) sStepS [.slice Y yn yc] (stepsI sg9 D b) := (owned_rdq oY.owned).mono fun k hk => ⟨hk.2, by have := Q6.d.lt; omega⟩
  have hyn := oY.1
  have K0 : w7.cell? ⟨o, 0, none⟩ = some (.slice S sn sc) := Q7.r.cell 0
  have K1 : w7.cell? ⟨o, 1, none⟩ = some (.slice R rn rc) := Q7.r.cell 1
  have L8 := hid (implParallelToX _ _ _ _ (sg9, D) a a w7 (out_rd Q7.s) (out_rd Q7.a) (out_rd Q7.a) HZ.out (by rw [sz_ints]; have := HA.out.2; omega) (by rw [sz_ints]; have := HA.out.2; omega))
  have HAA := hid (show parToB sg9 D a a = true by rw [parX.par_ok HOK.out HA.out.1 HA.out.1, par_same rfl])
  clear L7 oY b7 Q6 qX
  go_wp2_with fail
  refine L8.out.mono ?_
  rintro e w8 ⟨he, b8⟩
  rw [HAA.out] at he
  subst he
  have Q8 := Q7.next b8
  have qX8 := out_below qX7 b8
  have qY8 := out_below qY b8
  have hxl : (stepsI sg9 D a).length ≤ 21 := steps_many HA.out.2 HM.out.1
  have hyl : (stepsI sg9 D b).length ≤ 21 := steps_many HB.out.2 HM.out.1
  have HXL := hid hxn
  have HYL := hid hyn
  have hx21 : xn ≤ 21 := by omega
  have hy21 : yn ≤ 21 := by omega
  have K0 : w8.cell? ⟨o, 0, none⟩ = some (.slice S sn sc) := Q8.r.cell 0
  have K1 : w8.cell? ⟨o, 1, none⟩ = some (.slice R rn rc) := Q8.r.cell 1
  clear L8 b8 Q7 qX7 qY hxn hyn hxl hyl
  by_cases hx0 : xn = 0
  ·subst hx0
   have L9 := hid (implParallelToX _ _ _ _ (sg9, D) a a w8 (out_rd Q8.s) (out_rd Q8.a) (out_rd Q8.a) HZ.out (by rw [sz_ints]; have := HA.out.2; omega) (by rw [sz_ints]; have := HA.out.2; omega))
   have HBEL := hid Q8.bel
   clear Q8 qX8 qY8
   go_wp2_with fail
   refine L9.out.mono ?_
   rintro e w9 ⟨he, b9⟩
   rw [HAA.out] at he
   subst he
   have F := hid (next_trans HBEL.out b9)
   clear L9 HBEL b9
   go_wp2
   go_ret
   exact ⟨rfl, F.out⟩
  have ex0 : ((xn : Int) == 0) = false := by simp; omega
  by_cases hy0 : yn = 0
  ·subst hy0
   have L9 := hid (implParallelToX _ _ _ _ (sg9, D) a a w8 (out_rd Q8.s) (out_rd Q8.a) (out_rd Q8.a) HZ.out (by rw [sz_ints]; have := HA.out.2; omega) (by rw [sz_ints]; have := HA.out.2; omega))
   have HBEL := hid Q8.bel
   clear Q8 qX8 qY8
   go_wp2_with fail
   refine L9.out.mono ?_
   rintro e w9 ⟨he, b9⟩
   rw [HAA.out] at he
   subst he
   have F := hid (next_trans HBEL.out b9)
   clear L9 HBEL b9
   go_wp2
   go_ret
   exact ⟨rfl, F.out⟩
  have ey0 : ((yn : Int) == 0) = false := by simp; omega
  obtain ⟨bx, ox, rfl, cx1, cx2⟩ := step_some qX8 (by omega)
  obtain ⟨by_, oy, rfl, cy1, cy2⟩ := step_some qY8 (by omega)
  have LP := hid (below9 p A n c (xn : Int) w8 Q8.d (by omega) (by omega))
  go_wp2_with fail
  refine LP.out.mono ?_
  rintro e w9 ⟨z1, rfl, z0, z1, dd, gg⟩
  obtain ⟨j1, rfl⟩ := Int.eq_ofNat_of_zero_le z0
  have hj1 : j1 < xn := by omega
  have Q9a := Q8.dice dd gg
  have qX9 := out_dice qX8 gg
  have qY9 := out_dice qY8 gg
  obtain ⟨V, vn, vc, cV, qV⟩ := step_el qX9 hj1
  have hvx : (stepsI sg9 D a).getD j1 (0, 0, []) ∈ stepsI sg9 D a := by
   rw [List.getD, List.getElem?_eq_getElem (by rw [HXL.out]; exact hj1), Option.getD_some]
   exact List.getElem_mem _
  obtain ⟨xx, hxx⟩ : ∃ u, ((stepsI sg9 D a).getD j1 (0, 0, [])).2.2 = u := ⟨_, rfl⟩
  have HPX := hid (show Par sg9 D a xx ∧ termOkB sg9 xx = true ∧ xx.length ≤ 49 from by rw [← hxx]; exact ⟨(par_steps hvx).1, (par_steps hvx).2, steps_short HR9.out HA.out.2 hvx⟩)
  rw [hxx] at qV
  have hvn : vn ≤ 49 := by have := rdq_len qV; have := HPX.out.2.2; omega
  clear LP Q8 qX8 qY8 dd gg hvx hxx qX9 K0 K1
  have LP := hid (below9 p A n c (yn : Int) w9 Q9a.d (by omega) (by omega))
  go_wp2_with fail
  refine LP.out.mono ?_
  rintro e w10 ⟨z2, rfl, z20, z21, dd, gg⟩
  obtain ⟨j2, rfl⟩ := Int.eq_ofNat_of_zero_le z20
  have hj2 : j2 < yn := by omega
  have Q10 := Q9a.dice dd gg
  have qY10 := out_dice qY9 gg
  have qV10 := out_dice qV gg
  obtain ⟨U, un, uc, cU, qU⟩ := step_el qY10 hj2
  have hvx : (stepsI sg9 D b).getD j2 (0, 0, []) ∈ stepsI sg9 D b := by
   rw [List.getD, List.getElem?_eq_getElem (by rw [HYL.out]; exact hj2), Option.getD_some]
   exact List.getElem_mem _
  obtain ⟨yy, hyy⟩ : ∃ u, ((stepsI sg9 D b).getD j2 (0, 0, [])).2.2 = u := ⟨_, rfl⟩
  have HPY := hid (show Par sg9 D b yy ∧ termOkB sg9 yy = true ∧ yy.length ≤ 49 from by rw [← hyy]; exact ⟨(par_steps hvx).1, (par_steps hvx).2, steps_short HR9.out HB.out.2 hvx⟩)
  rw [hyy] at qU
  have hun : un ≤ 49 := by have := rdq_len qU; have := HPY.out.2.2; omega
  clear LP Q9a qY9 dd gg hvx hyy qY10 cV qV
  have ba : Below w10.heap.size w10 (w10.alloc (.cells #[.int .i64 0] 2)) := (Below.refl _ _).alloc (Nat.le_refl _) _
  have oa : Own (w10.alloc (.cells #[.int .i64 0] 2)) w10.heap.size (.slice (some ⟨w10.heap.size, 0, none⟩) 1 1) [0] := Own.of_row (Row.new _ _ _) rfl rfl (Nat.le_refl _) (by decide) (Nat.le_refl _) (fun j hj => by match j, hj with | 0, _ => rfl)
  have sa := shape.Rd.seg (out_rd (out_below Q10.a ba))
  have na := (rdq_cap Q10.a).2.2
  have za : w10.heap.size ≤ (w10.alloc (.cells #[.int .i64 0] 2)).heap.size := ba.size
  go_wp2_with (at_builtin; refine appAll rfl _ _ rfl w10.heap.size _ 1 1 [0] rfl oa P pn pc _ a rfl sa na (by omega) (by omega) za ?_; intro O1 oc1 w12 ob bb; refine (?_ : Hid _).out)
  have ba2 := ba.trans bb
  have sb := shape.Rd.seg (out_rd (out_below Q10.b ba2))
  have nb := (rdq_cap Q10.b).2.2
  have zb : w10.heap.size ≤ w12.heap.size := ba2.size
  clear oa sa na za
  refine hid ?_
  go_wp2_with (at_builtin; refine appAll rfl _ _ rfl w10.heap.size O1 (1 + pn) oc1 _ rfl ob P' pn' pc' _ b rfl sb nb (by omega) (by omega) zb ?_; intro O2 oc2 w13 oc_ bc; refine (?_ : Hid _).out)
  have bd := ba2.trans bc
  have Q13 := Q10.next bd
  have qV13 := out_below qV10 bd
  have qU13 := out_below qU bd
  have qW13 : RdQ w13 (Out w13 p) sI [.slice O2 (1 + pn + pn') oc2] (([0] ++ a) ++ b) := rdq_own oc_ fun k h1 h2 _ => ⟨h2, by have := Q10.d.lt; omega⟩
  have hwn : 1 + pn + pn' ≤ 15 := by omega
  obtain ⟨wn, hwn_⟩ : ∃ u, 1 + pn + pn' = u := ⟨_, rfl⟩
  rw [hwn_] at qW13 hwn
  have HWN := hid hwn_
  clear ba ba2 bb bc bd ob oc_ sb nb zb Q10 qV10 qU cU hwn_
  refine hid ?_
  rw [HWN.out]
  have ba : Below w13.heap.size w13 (w13.alloc (.cells #[.int .i64 0] 2)) := (Below.refl _ _).alloc (Nat.le_refl _) _
  have oa : Own (w13.alloc (.cells #[.int .i64 0] 2)) w13.heap.size (.slice (some ⟨w13.heap.size, 0, none⟩) 1 1) [0] := Own.of_row (Row.new _ _ _) rfl rfl (Nat.le_refl _) (by decide) (Nat.le_refl _) (fun j hj => by match j, hj with | 0, _ => rfl)
  have sa := shape.Rd.seg (out_rd (out_below qV13 ba))
  have na := (rdq_cap qV13).2.2
  have za : w13.heap.size ≤ (w13.alloc (.cells #[.int .i64 0] 2)).heap.size := ba.size
  go_wp2_with (at_builtin; refine appAll rfl _ _ rfl w13.heap.size _ 1 1 [0] rfl oa V vn vc _ xx rfl sa na (by omega) (by omega) za ?_; intro O3 oc3 w15 ob bb; refine (?_ : Hid _).out)
  have ba2 := ba.trans bb
  have sb := shape.Rd.seg (out_rd (out_below qU13 ba2))
  have nb := (rdq_cap qU13).2.2
  have zb : w13.heap.size ≤ w15.heap.size := ba2.size
  clear oa sa na za
  refine hid ?_
  go_wp2_with (at_builtin; refine appAll rfl _ _ rfl w13.heap.size O3 (1 + vn) oc3 _ rfl ob U un uc _ yy rfl sb nb (by omega) (by omega) zb ?_; intro O4 oc4 w16 oc_ bc; refine (?_ : Hid _).out)
  have bd := ba2.trans bc
  have Q16 := Q13.next bd
  have qV16 := out_below qV13 bd
  have qU16 := out_below qU13 bd
  have qW16 := out_below qW13 bd
  have qT16 : RdQ w16 (Out w16 p) sI [.slice O4 (1 + vn + un) oc4] (([0] ++ xx) ++ yy) := rdq_own oc_ fun k h1 h2 _ => ⟨h2, by have := Q13.d.lt; omega⟩
  have htn : 1 + vn + un ≤ 99 := by omega
  obtain ⟨tn, htn_⟩ : ∃ u, 1 + vn + un = u := ⟨_, rfl⟩
  rw [htn_] at qT16 htn
  have HTN := hid htn_
  clear ba ba2 bb bc bd ob oc_ sb nb zb Q13 qV13 qU13 qW13 htn_
  have hsS : Seg w16 w16.heap.size S sn sg9 ∧ sn ≤ 1048576 := by
   obtain ⟨A0, n0, c0, V0, q0, cv0, e1, e2, hs, hc, hcv, hq, hn, -⟩ := rd_sys (out_rd Q16.s) HZ.out
   injection e1 with e1 e2 e3
   subst e1 e2 e3
   exact ⟨hs, hn⟩
  have LT := hid (specTermOk S O4 sn sc tn oc4 sg9 (([0] ++ xx) ++ yy) w16 hsS.1 (shape.Rd.seg (out_rd qT16)) hsS.2 (by omega))
  have K0 : w16.cell? ⟨o, 0, none⟩ = some (.slice S sn sc) := Q16.r.cell 0
  clear hsS
  refine hid ?_
  rw [HTN.out]
  go_wp2_with fail
  refine LT.out.mono ?_
  rintro e w17 ⟨he, b17⟩
  obtain ⟨bt, hbt⟩ : ∃ u, termOkB sg9 (([0] ++ xx) ++ yy) = u := ⟨_, rfl⟩
  rw [hbt] at he
  subst he
  have Q17 := Q16.next b17
  cases bt with
  | false =>
   have F := hid Q17.bel
   clear Q17 Q16 LT qV16 qU16 qW16 qT16 b17 hbt
   go_wp2
   go_ret
   exact ⟨rfl, F.out⟩
  | true =>
   have hT60 := (term_len hbt).2
   have hl60 : xx.length + yy.length ≤ 59 := by simp at hT60; omega
   have P1 := hid (show parToB sg9 D a xx = true by rw [parX.par_ok HOK.out HA.out.1 HPX.out.2.1]; exact par_yes HPX.out.1)
   have P2 := hid (par_two9 HOK.out HA.out.1 HB.out.1 HPX.out.2.1 HPY.out.2.1 HPX.out.1 HPY.out.1 (by have := HA.out.2; have := HB.out.2; omega) hl60)
   have P3 := hid (par_two9 HOK.out HA.out.1 HB.out.1 HA.out.1 HPY.out.2.1 (Par.same a) HPY.out.1 (by have := HA.out.2; have := HB.out.2; omega) (by have := HA.out.2; have := HPY.out.2.2; omega))
   have sz1 : ∀ l : List Int, l.length ≤ 1048576 → sz sI l ≤ 1048576 := fun l h => by rw [sz_ints]; exact h
   have za : a.length ≤ 1048576 := by have := HA.out.2; omega
   have zx : xx.length ≤ 1048576 := by have := HPX.out.2.2; omega
   have zy : yy.length ≤ 1048576 := by have := HPY.out.2.2; omega
   have zw : (([0] ++ a) ++ b).length ≤ 1048576 := by have := HA.out.2; have := HB.out.2; simp; omega
   have zt : (([0] ++ xx) ++ yy).length ≤ 1048576 := by have := HPX.out.2.2; have := HPY.out.2.2; simp; omega
   have zv : (([0] ++ a) ++ yy).length ≤ 1048576 := by have := HA.out.2; have := HPY.out.2.2; simp; omega
   have hpn1 : 1 ≤ pn := by have := rdq_len Q17.a; have := (term_len HA.out.1).1; omega
   have hun1 : 1 ≤ un := by have := rdq_len qU16; have := (term_len HPY.out.2.1).1; omega
   have qV17 := out_below qV16 b17
   have qU17 := out_below qU16 b17
   have qW17 := out_below qW16 b17
   have qT17 := out_below qT16 b17
   have L1 := hid (fun dd => (implParallelToX _ _ _ _ (sg9, D) a xx (w17.drewN dd) ((out_rd Q17.s).next (below_drewN (Below.refl _ _) dd)) ((out_rd Q17.a).next (below_drewN (Below.refl _ _) dd)) ((out_rd qV17).next (below_drewN (Below.refl _ _) dd)) HZ.out (sz1 _ za) (sz1 _ zx)).mono fun e w' (r : AnsB _ _ e w') => (⟨r.1.trans (by rw [P1.out]), next_trans (below_drewN (Below.refl _ _) dd) r.2⟩ : e = .returned (.bool true) ∧ Below w17.heap.size w17 w'))
   have L2 := hid (fun (wx : World) (bb : Below w17.heap.size w17 wx) => (implParallelToX _ _ _ _ (sg9, D) _ _ wx ((out_rd Q17.s).next bb) ((out_rd qW17).next bb) ((out_rd qT17).next bb) HZ.out (sz1 _ zw) (sz1 _ zt)).mono fun e w' (r : AnsB _ _ e w') => (⟨r.1.trans (by rw [P2.out]), next_trans bb r.2⟩ : e = .returned (.bool true) ∧ Below w17.heap.size w17 w'))
   have L3 := hid (fun (wx : World) (bb : Below w17.heap.size w17 wx) (lo : Nat) (O : Option Addr) (oc : Nat) (h : Own wx lo (.slice O (1 + pn + un) oc) (([0] ++ a) ++ yy)) => (implParallelToX _ _ _ _ (sg9, D) _ _ wx ((out_rd Q17.s).next bb) ((out_rd qW17).next bb) (RdQ.rd (fun b hb => hb) (rdq_own (Q := fun b => b < wx.heap.size) h fun k _ h2 _ => h2)) HZ.out (sz1 _ zw) (sz1 _ zv)).mono fun e w' (r : AnsB _ _ e w') => (⟨r.1.trans (by rw [P3.out]), next_trans bb r.2⟩ : e = .returned (.bool true) ∧ Below w17.heap.size w17 w'))
   have SA := hid (fun (wx : World) (bb : Below w17.heap.size w17 wx) => (shape.Rd.seg (out_rd (out_below Q17.a bb)) : Seg wx wx.heap.size P pn a))
   have SU := hid (fun (wx : World) (bb : Below w17.heap.size w17 wx) => (shape.Rd.seg (out_rd (out_below qU17 bb)) : Seg wx wx.heap.size U un yy))
   have K0 : w17.cell? ⟨o, 0, none⟩ = some (.slice S sn sc) := Q17.r.cell 0
   have K1 : w17.cell? ⟨o, 1, none⟩ = some (.slice R rn rc) := Q17.r.cell 1
   have KR := hid (fun (wx : World) (bb : Below w17.heap.size w17 wx) => (Q17.r.next bb : Row wx o 32 #[.slice S sn sc, .slice R rn rc]))
   have HBEL := hid Q17.bel
   clear Q17 Q16 LT qV16 qU16 qW16 qT16 qV17 qU17 qW17 qT17 b17 hbt hT60 hl60 za zx zy zw zt zv sz1
   go_wp2_with fail
   go_region_held3 (fun w' => w'.cell? ⟨o, 0, none⟩ = some (.slice S sn sc) ∧ w'.cell? ⟨o, 1, none⟩ = some (.slice R rn rc))
    (go_keep)
    (first
     | (refine stepAppAllG (by rfl) _ _ rfl u2.heap.size (some ⟨g3, 0, none⟩) (1 + pn) c3 ([0] ++ a) (by rfl) o3 U un uc _ yy (by rfl) (SU.out u3 t3) hun1 (by omega) (by omega) (by have := t3s; omega) ?_; intro g4 c4 u4 o4 hg4 hat4 hlt4; have t4 : Below w17.heap.size w17 u4 := t3.grown hg4 t3.size (fun k e => by injection e with e; have e : g3 = k := e; have := Own.ge o3 g3 rfl; have := t2.size; omega); have k0 : u4.cell? ⟨o, 0, none⟩ = some (.slice S sn sc) := (KR.out u4 t4).cell 0; have k1 : u4.cell? ⟨o, 1, none⟩ = some (.slice R rn rc) := (KR.out u4 t4).cell 1)
     | (refine stepAppAllG (by rfl) _ _ rfl u2.heap.size (some ⟨u2.heap.size, 0, none⟩) 1 1 [0] (by rfl) (Own.of_row (Row.new _ _ _) rfl rfl (Nat.le_refl _) (by decide) (Nat.le_refl _) (fun j hj => by match j, hj with | 0, _ => rfl)) P pn pc _ a (by rfl) (SA.out _ (t2.alloc t2.size _)) hpn1 (by omega) (by omega) (by simp) ?_; intro g3 c3 u3 o3 hg3 hat3 hlt3; have t3 : Below w17.heap.size w17 u3 := (t2.alloc t2.size _).grown hg3 (t2.alloc t2.size _).size (fun k e => by injection e with e; have e : u2.heap.size = k := e; have := t2.size; omega); have t3s : u2.heap.size ≤ u3.heap.size := Nat.le_trans (by simp) hg3.size; have k0 : u3.cell? ⟨o, 0, none⟩ = some (.slice S sn sc) := (KR.out u3 t3).cell 0; have k1 : u3.cell? ⟨o, 1, none⟩ = some (.slice R rn rc) := (KR.out u3 t3).cell 1)
     | (go_at_call 14; refine (L3.out u4 t4 _ _ _ o4).mono ?_; rintro e u5 ⟨rfl, t5⟩; have k0 : u5.cell? ⟨o, 0, none⟩ = some (.slice S sn sc) := (KR.out u5 t5).cell 0; have k1 : u5.cell? ⟨o, 1, none⟩ = some (.slice R rn rc) := (KR.out u5 t5).cell 1)
     | (go_at_call 14; refine (L2.out u1 t1).mono ?_; rintro e u2 ⟨rfl, t2⟩; have k0 : u2.cell? ⟨o, 0, none⟩ = some (.slice S sn sc) := (KR.out u2 t2).cell 0; have k1 : u2.cell? ⟨o, 1, none⟩ = some (.slice R rn rc) := (KR.out u2 t2).cell 1)
     | (go_at_call 14; refine (L1.out _).mono ?_; rintro e u1 ⟨rfl, t1⟩; have k0 : u1.cell? ⟨o, 0, none⟩ = some (.slice S sn sc) := (KR.out u1 t1).cell 0; have k1 : u1.cell? ⟨o, 1, none⟩ = some (.slice R rn rc) := (KR.out u1 t1).cell 1))
   have F := hid (next_trans HBEL.out t5)
   clear L1 L2 L3 SA SU KR HBEL o3 o4 hg3 hg4 t1 t2 t3 t4 t5 k0 k1 K0 K1
   go_wp2
   go_ret
   exact ⟨rfl, F.out⟩
 ·have LB := hid (bigAns A n c true w (by simp; omega) hN)
  clear h
  go_enter Try.func3, Try.ntmps3
  go_wp2_with fail
  refine LB.out.mono ?_
  rintro e w' ⟨rfl, rfl⟩
  go_wp2
  go_ret
  exact ⟨rfl, Below.refl _ _⟩
end wFnAtOnce
end
end Go.Proofs.Ytjfpejohpjaahaa
