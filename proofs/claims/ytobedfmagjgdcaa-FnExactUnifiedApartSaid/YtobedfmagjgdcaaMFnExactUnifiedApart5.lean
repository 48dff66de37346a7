/-
  MERGED: my texts GenMath, SameSubst, PlainFacts, RenPure, UnifLaw, RenImpl, GenPos, AppZ, GenTab, GenSpec, GenRec, GenMain, General, Met, MetX, WUnifiedApart, one behind the other, as they are. By an AI agent.
-/
import Derived.Test.YtobedfmagjgdcaaMFnExactUnifiedApart4
import Derived.Deep.RegionHeld3
import Derived.Deep.QuietTactic
import Derived.BigQuiet
namespace Go.Proofs.Ytobedfmagjgdcaa
section
namespace genMath
open sig term termOk termFacts endAt sub termMath fillMath posMath renMath matchMath unifMath
abbrev Tb := List (List Int × List Int)
def Apt (s t : List Int) : Prop := ¬ (0 ≤ s.getD 0 0 ∧ s.getD 0 0 = t.getD 0 0)
inductive Gs (sg : List Int) : Tb → Nat → List Int → List Int → List Int → Tb → Prop
 | nil (T : Tb) : Gs sg T 0 [] [] [] T
 | sym {T T' : Tb} {n : Nat} {u w g : List Int} {x : Int} : 0 ≤ x → ¬ ar sg x < 0 → Gs sg T (n + (ar sg x).toNat) u w g T' → Gs sg T (n + 1) (x :: u) (x :: w) (x :: g) T'
 | old {T T' : Tb} {n i : Nat} {s t u w g : List Int} : Trm sg s → Trm sg t → Apt s t → T[i]? = some (s, t) → Gs sg T n u w g T' → Gs sg T (n + 1) (s ++ u) (t ++ w) ((-1 - (i : Int)) :: g) T'
 | new {T T' : Tb} {n : Nat} {s t u w g : List Int} : Trm sg s → Trm sg t → Apt s t → (s, t) ∉ T → Gs sg (T ++ [(s, t)]) n u w g T' → Gs sg T (n + 1) (s ++ u) (t ++ w) ((-1 - (T.length : Int)) :: g) T'
section
variable {sg : List Int} {T T' : Tb} {n : Nat} {u w g : List Int}
end
theorem gs_comp {sg : List Int} {T T1 T2 : Tb} {p q : Nat} {u w g U W G : List Int} (h : Gs sg T p u w g T1) : Gs sg T1 q U W G T2 → Gs sg T (p + q) (u ++ U) (w ++ W) (g ++ G) T2 := by
 induction h with
 | nil T => intro k; simpa using k
 | @sym T T' n u w g x h0 ha _ ih =>
  intro k
  have := ih k
  rw [show n + 1 + q = (n + q) + 1 by omega]
  exact .sym h0 ha (by rw [show n + q + (ar sg x).toNat = n + (ar sg x).toNat + q by omega]; exact this)
 | @old T T' n i s t u w g h1 h2 h3 h4 _ ih =>
  intro k
  rw [show n + 1 + q = (n + q) + 1 by omega, List.append_assoc, List.append_assoc]
  exact .old h1 h2 h3 h4 (ih k)
 | @new T T' n s t u w g h1 h2 h3 h4 _ ih =>
  intro k
  rw [show n + 1 + q = (n + q) + 1 by omega, List.append_assoc, List.append_assoc]
  exact .new h1 h2 h3 h4 (ih k)
def f1 (T : Tb) (i : Nat) : List Int := (T.getD i ([], [])).1
def f2 (T : Tb) (i : Nat) : List Int := (T.getD i ([], [])).2
end genMath
end
section
namespace sameSubst
open Go.RowKit base ints sig same marks sym segs segsHelp kinds varsOf fillMath Go.Proofs.Ytobedfmagjgdcaa.look substOk gives
set_option maxRecDepth 100000
end sameSubst
end
section
namespace plainFacts
open Go.RowKit base ints sig term termOk termFacts fillMath plainMath plainOf substOk gives sameSubst compMath filled
end plainFacts
end
section
namespace renPure
open sig term termOk termFacts varsMath fillMath renMath
end renPure
end
section
namespace unifLaw
open sig term termOk termFacts endAt sub termMath fillMath posMath renMath renPure segsHelp substOk gives plainMath plainOf plainFacts filled sameSubst compMath matchMath unifMath genMath
theorem isU_each {sg a b : List Int} {v : Bool} {F : List (List Int)} (h : IsU sg a b v F) : tot F ≤ 1048576 := by
 rcases h with ⟨_, _, _, L, m, s, rfl⟩ | ⟨_, rfl, _⟩
 ·have h3 := tot_le (plain_each (L := L) (m := 24) s.each)
  have h4 := plain_len L 24
  have h5 : (plainL L 24).length * 60 ≤ 24 * 60 := Nat.mul_le_mul_right _ h4
  omega
 ·simp [tot, sumL]
end unifLaw
end
section
namespace renImpl
open Go.RowKit base ints sig cursor term termOk marks app appAt sym segs termFacts varsMath fillMath Go.Proofs.Ytobedfmagjgdcaa.look renMath rename
set_option maxRecDepth 100000
structure Side (p : Nat) (r : Option Nat) (a b : World) : Prop where
 os : b.os = a.os
 tape : b.tape = a.tape
 output : b.output = a.output
 size : a.heap.size ≤ b.heap.size
 block : ∀ k, k < a.heap.size → k ≠ p → some k ≠ r → b.heap[k]? = a.heap[k]?
section
variable {p : Nat} {r : Option Nat} {a b c : World}
end
theorem Side.on {B : Nat} {r r' : Option Nat} {a b c : World} (h : Side B r a b) (hr : r' = r ∨ ∃ k, r' = some k ∧ a.heap.size ≤ k) (k : Side B r' b c) : Side B r a c :=
 ⟨k.os.trans h.os, k.tape.trans h.tape, k.output.trans h.output, Nat.le_trans h.size k.size, fun i hi hp hne => (k.block i (Nat.lt_of_lt_of_le hi h.size) hp (fun e => by
  rcases hr with e2 | ⟨q, e2, hq⟩
  ·exact hne (by rw [e, e2])
  ·rw [e2] at e; injection e with e; omega)).trans (h.block i hi hp hne)⟩
theorem Side.grow {B : Nat} {r q : Option Nat} {a b c : World} (h : Side B r a b) (hg : b.grownBy c q) (hq : ∀ k, q = some k → a.heap.size ≤ k) : Side B r a c :=
 ⟨hg.os.trans h.os, hg.tape.trans h.tape, hg.output.trans h.output, Nat.le_trans h.size hg.size, fun i hi hp hne => (hg.block i (Nat.lt_of_lt_of_le hi h.size) (fun e => by have := hq i e.symm; omega)).trans (h.block i hi hp hne)⟩
end renImpl
end
section
namespace genPos
open sig term termOk termFacts endAt sub termMath fillMath posMath renMath matchMath unifMath genMath
def upto (sg t : List Int) (p k : Nat) : List Int := (t.drop (p + 1)).take (argP sg t k (p + 1) - (p + 1))
theorem argP_ge {sg t : List Int} (k p : Nat) : p ≤ argP sg t k p := argP_mono (k := 0) (Nat.zero_le k)
theorem upto_succ {sg t : List Int} {p k : Nat} : upto sg t p (k + 1) = upto sg t p k ++ subL sg t (argP sg t k (p + 1)) := by
 have h1 := argP_ge (sg := sg) (t := t) k (p + 1)
 have h2 := argP_succ (sg := sg) (t := t) k (p + 1)
 unfold upto subL
 rw [h2, show argP sg t k (p + 1) + len1 sg t (argP sg t k (p + 1)) - (p + 1) = (argP sg t k (p + 1) - (p + 1)) + len1 sg t (argP sg t k (p + 1)) by omega, List.take_add, List.drop_drop, show p + 1 + (argP sg t k (p + 1) - (p + 1)) = argP sg t k (p + 1) by omega]
theorem sub_trm {sg t : List Int} {p j : Nat} (h : scan sg 1 (t.drop p) = some j) : Trm sg (subL sg t p) := by
 unfold Trm subL
 have h1 := scan_take h
 have h2 := scan_le h
 rw [len1_eq h, h1, List.length_take]
 congr 1
 omega
def Ga (sg a b : List Int) (p q : Nat) (T : Tb) (k : Nat) (g : List Int) (T' : Tb) : Prop := Gs sg T k (upto sg a p k) (upto sg b q k) g T'
theorem ga_succ {sg a b : List Int} {p q k : Nat} {T T1 T2 : Tb} {g g' : List Int} (h : Ga sg a b p q T k g T1) (h' : Gs sg T1 1 (subL sg a (argP sg a k (p + 1))) (subL sg b (argP sg b k (q + 1))) g' T2) : Ga sg a b p q T (k + 1) (g ++ g') T2 := by
 unfold Ga; rw [upto_succ, upto_succ]; exact gs_comp h h'
end genPos
end
section
namespace appZ
open Go.RowKit base ints cursor same marks app appAt sym sub segs segsHelp kinds Go.Proofs.Ytobedfmagjgdcaa.look plain
set_option maxRecDepth 100000
def Avoid (Z : Nat → Prop) (w : World) (A : Option Addr) (n : Nat) : Prop := ∀ j b v, j < n → A = some ⟨b, 0, none⟩ → w.cell? ⟨b, j, none⟩ = some v → ∀ z, Z z → v.ownBlock ≠ some z
section
variable {Z : Nat → Prop} {w w' : World} {lo hi n c : Nat} {A : Option Addr} {xss : List (List Int)}
theorem Avoid.nil : Avoid Z w none 0 := fun j b v hj _ _ => absurd hj (Nat.not_lt_zero _)
theorem Avoid.keep (h : Avoid Z w A n) (hb : ∀ b j, A = some ⟨b, 0, none⟩ → w'.cell? ⟨b, j, none⟩ = w.cell? ⟨b, j, none⟩) : Avoid Z w' A n := fun j b v hj e hc => h j b v hj e (by rw [← hb b j e]; exact hc)
theorem Avoid.fresh (h : Owns w lo hi A n c xss) (hZ : ∀ z, Z z → hi ≤ z) : Avoid Z w A n := fun j b v hj e hc z hz e2 => by
 obtain ⟨_, ⟨vs, hr, hin, _⟩, _⟩ := h
 rcases own_form hr with ⟨_, h0, _⟩ | ⟨g, cur, e3, _, hrow, _, _, _, _, hcell⟩
 ·omega
 ·rw [e3] at e
  injection e with e
  injection e with e
  subst e
  rw [hrow.cell j, hcell j hj] at hc
  injection hc with hc
  rw [← hc] at e2
  have := ((hin j hj).blk z e2).2.1
  have := hZ z hz
  omega
theorem Avoid.owns {r : Option Nat} (h : Owns w lo hi A n c xss) (ha : Avoid (fun z => r = some z) w A n) (hne : ∀ k, blk A = some k → r ≠ some k) (hg : w.grownBy w' r) : Owns w' lo hi A n c xss := by
 obtain ⟨hl, ⟨vs, hr, hin, hap⟩, top⟩ := h
 refine ⟨hl, ⟨vs, World.ownsRow.kept hr hg ?_, fun j hj => (hin j hj).kept hg ?_, hap⟩, top⟩
 ·rw [blk_own]
  cases e : blk A with
  | none => exact .inl rfl
  | some k => exact .inr (fun h => hne k e h.symm)
 ·rcases own_form hr with ⟨_, h0, _⟩ | ⟨g, cur, e3, _, hrow, _, _, _, _, hcell⟩
  ·omega
  ·cases e : (vs.getD j undef).ownBlock with
   | none => exact .inl rfl
   | some k => exact .inr (fun h => ha j g (vs.getD j undef) hj e3 (by rw [hrow.cell j, hcell j hj]) k h.symm e)
end
end appZ
end
section
namespace genTab
open Go.RowKit base ints sig cursor marks app appAt sym segs segsHelp term sub unifMath genMath genPos appZ
section
variable {w w' : World} {lo hi n c : Nat} {A L R : Option Addr} {xss : List (List Int)}
theorem topRow (h : Owns w lo hi L n c xss) : ∀ k, blk L = some k → (∃ cs, Row w k 22 cs) ∧ lo ≤ k ∧ k < w.heap.size := fun k hk => by
 obtain ⟨_, ⟨vs, hr, _, _⟩, _⟩ := h
 rcases own_form hr with ⟨rfl, _⟩ | ⟨g, cur, rfl, hb, hg, _⟩
 ·cases hk
 ·injection hk with hk
  subst hk
  exact ⟨⟨cur, hg⟩, hb, hg.lt⟩
structure Two (w w' : World) (L R : Option Addr) : Prop where
 os : w'.os = w.os
 tape : w'.tape = w.tape
 output : w'.output = w.output
 size : w.heap.size ≤ w'.heap.size
 block : ∀ k, k < w.heap.size → blk L ≠ some k → blk R ≠ some k → w'.heap[k]? = w.heap[k]?
theorem Two.left (h : w.grownBy w' (blk L)) : Two w w' L R := ⟨h.os, h.tape, h.output, h.size, fun k hk h1 _ => h.block k hk (fun e => h1 e.symm)⟩
theorem Two.right (h : w.grownBy w' (blk R)) : Two w w' L R := ⟨h.os, h.tape, h.output, h.size, fun k hk _ h2 => h.block k hk (fun e => h2 e.symm)⟩
theorem Two.trans {w1 w2 : World} {L1 R1 : Option Addr} (h : Two w w1 L R) (h' : Two w1 w2 L1 R1) (hL : ∀ k, blk L1 = some k → k < w.heap.size → blk L = some k) (hR : ∀ k, blk R1 = some k → k < w.heap.size → blk R = some k) : Two w w2 L R :=
 ⟨h'.os.trans h.os, h'.tape.trans h.tape, h'.output.trans h.output, Nat.le_trans h.size h'.size, fun k hk h1 h2 => (h'.block k (Nat.lt_of_lt_of_le hk h.size) (fun e => h1 (hL k e hk)) (fun e => h2 (hR k e hk))).trans (h.block k hk h1 h2)⟩
theorem Two.below {B : Nat} (h : Two w w' L R) (hL : ∀ k, blk L = some k → B ≤ k) (hR : ∀ k, blk R = some k → B ≤ k) (hB : B ≤ w.heap.size) : Below B w w' :=
 ⟨h.os, h.tape, h.output, h.size, fun k hk => h.block k (by omega) (fun e => by have := hL k e; omega) (fun e => by have := hR k e; omega)⟩
theorem Two.row {g : Nat} {t : TypeId} {cs : Array Value} (h : Two w w' L R) (hr : Row w g t cs) (h1 : blk L ≠ some g) (h2 : blk R ≠ some g) : Row w' g t cs := (h.block g hr.lt h1 h2).trans hr
theorem Two.own {base : Nat} {v : Value} {xs : List Int} (h : Two w w' L R) (ho : Own w base v xs) (hL : ∀ k, blk L = some k → ∃ cs, Row w k 22 cs) (hR : ∀ k, blk R = some k → ∃ cs, Row w k 22 cs) : Own w' base v xs := by
 obtain ⟨h1, h2⟩ := ho
 refine ⟨h1, ?_⟩
 rcases h2 with h2 | ⟨g, cap, cur, e, hb, hg, hn, hm, hs, ht⟩
 ·exact .inl h2
 ·refine .inr ⟨g, cap, cur, e, hb, Two.row h hg (fun e => ?_) (fun e => ?_), hn, hm, hs, ht⟩
  ·obtain ⟨cs, hc⟩ := hL g e
   exact Row.ne_ hg hc (by decide) rfl
  ·obtain ⟨cs, hc⟩ := hR g e
   exact Row.ne_ hg hc (by decide) rfl
structure Tabs (w : World) (lo : Nat) (L : Option Addr) (n lc : Nat) (R : Option Addr) (rc : Nat) (T : Tb) : Prop where
 l : Owns w lo w.heap.size L n lc (T.map Prod.fst)
 r : Owns w lo w.heap.size R n rc (T.map Prod.snd)
 ne : ∀ k, blk L = some k → blk R ≠ some k
variable {lc rc : Nat} {T : Tb}
theorem Tabs.len (h : Tabs w lo L n lc R rc T) : T.length = n := by have := h.l.len; simpa using this
theorem Tabs.next (h : Tabs w lo L n lc R rc T) (hb : Below w.heap.size w w') : Tabs w' lo L n lc R rc T := ⟨(h.l.next hb).wider (Nat.le_refl _) hb.size, (h.r.next hb).wider (Nat.le_refl _) hb.size, h.ne⟩
theorem Tabs.rowL (h : Tabs w lo L n lc R rc T) : ∀ k, blk L = some k → ∃ cs, Row w k 22 cs := fun k hk => (topRow h.l k hk).1
theorem Tabs.rowR (h : Tabs w lo L n lc R rc T) : ∀ k, blk R = some k → ∃ cs, Row w k 22 cs := fun k hk => (topRow h.r k hk).1
theorem Tabs.loL (h : Tabs w lo L n lc R rc T) : ∀ k, blk L = some k → lo ≤ k := fun k hk => (topRow h.l k hk).2.1
theorem Tabs.loR (h : Tabs w lo L n lc R rc T) : ∀ k, blk R = some k → lo ≤ k := fun k hk => (topRow h.r k hk).2.1
end
end genTab
end
section
namespace genSpec
open Go.RowKit base ints sig cursor marks app appAt sym segs segsHelp term sub Go.Proofs.Ytobedfmagjgdcaa.look plain same posMath unifMath genMath genPos genTab appZ
set_option maxRecDepth 100000
theorem drewN_below (w : World) (d : Nat) : Below w.heap.size w (w.drewN d) := ⟨rfl, rfl, rfl, Nat.le_refl _, fun _ _ => rfl⟩
structure Gw (w wr : World) (lo : Nat) (A : Option Addr) (n c : Nat) (sg : List Int) (P : Option Addr) (m : Nat) (a : List Int) (Q : Option Addr) (k : Nat) (b : List Int) (L : Option Addr) (ln lc : Nat) (R : Option Addr) (rc : Nat) (T : Tb) : Prop where
 r0 : Row wr w.heap.size 29 #[.slice A n c]
 s : Seg wr lo A n sg
 pa : Seg wr lo P m a
 qb : Seg wr lo Q k b
 t : Tabs wr lo L ln lc R rc T
 le : lo ≤ w.heap.size
 bel : Below w.heap.size w wr
section
variable {w wr w' : World} {lo : Nat} {A : Option Addr} {n c : Nat} {sg : List Int} {P : Option Addr} {m : Nat} {a : List Int} {Q : Option Addr} {k : Nat} {b : List Int} {L : Option Addr} {ln lc : Nat} {R : Option Addr} {rc : Nat} {T : Tb}
theorem Gw.next (h : Gw w wr lo A n c sg P m a Q k b L ln lc R rc T) (hb : Below wr.heap.size wr w') : Gw w w' lo A n c sg P m a Q k b L ln lc R rc T :=
 have hw : Below w.heap.size wr w' := hb.mono h.bel.size
 have hl : Below lo wr w' := hw.mono h.le
 ⟨h.r0.next hb, h.s.below hl, h.pa.below hl, h.qb.below hl, h.t.next hb, h.le, h.bel.trans hw⟩
theorem Gw.c0 (h : Gw w wr lo A n c sg P m a Q k b L ln lc R rc T) : wr.cell? ⟨w.heap.size, 0, none⟩ = some (.slice A n c) := h.r0.cell 0
theorem Gw.low (h : Gw w wr lo A n c sg P m a Q k b L ln lc R rc T) : lo ≤ wr.heap.size := Nat.le_trans h.le h.bel.size
end
section
variable {w wr w' w6 w7 : World} {lo : Nat} {A : Option Addr} {n c : Nat} {sg : List Int} {P : Option Addr} {m : Nat} {a : List Int} {Q : Option Addr} {k : Nat} {b : List Int} {L : Option Addr} {ln lc : Nat} {R : Option Addr} {rc : Nat} {T : Tb} {u v : List Int}
end
end genSpec
end
section
namespace genRec
open Go.RowKit base ints sig cursor marks app appAt sym segs segsHelp term args sub Go.Proofs.Ytobedfmagjgdcaa.look plain same posMath unifMath genMath genPos genTab appZ genSpec
theorem ownRow {w : World} {base n c : Nat} {A : Option Addr} {xs : List Int} (h : Own w base (.slice A n c) xs) : ∀ k, blk A = some k → (∃ cs, Row w k 2 cs) ∧ base ≤ k ∧ k < w.heap.size := fun k hk => by
 have hl := Own.len h
 subst hl
 rcases own_form (n := xs.length) (vs := xs.map (Value.int .i64)) h with ⟨rfl, _⟩ | ⟨g, cur, rfl, hb, hg, _⟩
 ·cases hk
 ·injection hk with hk
  subst hk
  exact ⟨⟨cur, hg⟩, hb, hg.lt⟩
structure Hr (w wr : World) (lo : Nat) (A : Option Addr) (n c : Nat) (sg : List Int) (P : Option Addr) (m : Nat) (a : List Int) (Q : Option Addr) (k : Nat) (b : List Int) (L R : Option Addr) (ln p q : Nat) (T : Tb) (x : Int) (X : Option Addr) (xn xc : Nat) (Y : Option Addr) (yn yc i : Nat) (L' R' : Option Addr) (ln' lc' rc' : Nat) (O : Option Addr) (on oc : Nat) (g : List Int) (T' : Tb) : Prop where
 r0 : Row wr w.heap.size 29 #[.slice A n c]
 s : Seg wr lo A n sg
 pa : Seg wr lo P m a
 qb : Seg wr lo Q k b
 t : Tabs wr lo L' ln' lc' R' rc' T'
 le : lo ≤ w.heap.size
 two : Two w wr L R
 hl : ∀ k, blk L' = some k → k < w.heap.size → blk L = some k
 hr : ∀ k, blk R' = some k → k < w.heap.size → blk R = some k
 ox : Own wr w.heap.size (.slice X xn xc) (argsL sg a p)
 oy : Own wr w.heap.size (.slice Y yn yc) (argsL sg b q)
 oo : Own wr w.heap.size (.slice O on oc) (x :: g)
 nx : ∀ z, blk O = some z → blk X ≠ some z
 ny : ∀ z, blk O = some z → blk Y ≠ some z
 ga : Ga sg a b p q T i g T'
 av : ∀ Z : Nat → Prop, (∀ z, Z z → z < w.heap.size) → Avoid Z w L ln → Avoid Z w R ln → Avoid Z wr L' ln' ∧ Avoid Z wr R' ln'
 ao : Avoid (fun z => blk O = some z) wr L' ln' ∧ Avoid (fun z => blk O = some z) wr R' ln'
section
variable {w wr wd w5 w6 : World} {lo : Nat} {A : Option Addr} {n c : Nat} {sg : List Int} {P : Option Addr} {m : Nat} {a : List Int} {Q : Option Addr} {k : Nat} {b : List Int} {L R : Option Addr} {ln p q : Nat} {T : Tb} {x : Int} {X : Option Addr} {xn xc : Nat} {Y : Option Addr} {yn yc i : Nat} {L' R' : Option Addr} {ln' lc' rc' : Nat} {O : Option Addr} {on oc : Nat} {g : List Int} {T' : Tb}
theorem own_away {base r0 : Nat} {r : Option Nat} {A : Option Addr} {n c : Nat} {xs : List Int} (h : Own w5 base (.slice A n c) xs) (hg : w5.grownBy w6 r) (hne : ∀ z, r = some z → blk A ≠ some z) (_ : r0 = 0) : Own w6 base (.slice A n c) xs := by
 refine World.ownsRow.kept h hg ?_
 rw [blk_own]
 cases e : blk A with
 | none => exact .inl rfl
 | some z => exact .inr (fun e2 => hne z e2.symm e)
theorem Hr.step (h : Hr w wr lo A n c sg P m a Q k b L R ln p q T x X xn xc Y yn yc i L' R' ln' lc' rc' O on oc g T') {L2 R2 : Option Addr} {n2 lc2 rc2 : Nat} {g' : List Int} {T2 : Tb}
  (hgs : Gs sg T' 1 (subL sg a (argP sg a i (p + 1))) (subL sg b (argP sg b i (q + 1))) g' T2) (ht2 : Tabs w5 lo L2 n2 lc2 R2 rc2 T2) (htwo : Two wr w5 L' R') (hl2 : ∀ k, blk L2 = some k → k < wr.heap.size → blk L' = some k) (hr2 : ∀ k, blk R2 = some k → k < wr.heap.size → blk R' = some k)
  (hav : ∀ Z : Nat → Prop, (∀ z, Z z → z < wr.heap.size) → Avoid Z wr L' ln' → Avoid Z wr R' ln' → Avoid Z w5 L2 n2 ∧ Avoid Z w5 R2 n2)
  {O' : Option Addr} {on' oc' : Nat} (ho6 : Own w6 w.heap.size (.slice O' on' oc') ((x :: g) ++ g')) (hg6 : w5.grownBy w6 (blk O)) (hat6 : blk O' = blk O ∨ blk O' = some w5.heap.size) :
  Hr w w6 lo A n c sg P m a Q k b L R ln p q T x X xn xc Y yn yc (i + 1) L2 R2 n2 lc2 rc2 O' on' oc' (g ++ g') T2 := by
 have tO := ownRow h.oo
 have hzw := h.two.size
 have hz5 := htwo.size
 have hz6 := hg6.size
 have oo5 := htwo.own h.oo h.t.rowL h.t.rowR
 have tO5 := ownRow oo5
 have ox5 := htwo.own h.ox h.t.rowL h.t.rowR
 have oy5 := htwo.own h.oy h.t.rowL h.t.rowR
 have b5 : Below lo wr w5 := htwo.below h.t.loL h.t.loR (Nat.le_trans h.le hzw)
 have hOlo : ∀ z, blk O = some z → w.heap.size ≤ z := fun z hz => (tO z hz).2.1
 have hOL : ∀ z, blk L2 = some z → blk O ≠ some z := fun z hz e => by
  obtain ⟨cs, h1⟩ := ht2.rowL z hz
  obtain ⟨⟨cs2, h2⟩, _⟩ := tO5 z e
  exact Row.ne_ h2 h1 (by decide) rfl
 have hOR : ∀ z, blk R2 = some z → blk O ≠ some z := fun z hz e => by
  obtain ⟨cs, h1⟩ := ht2.rowR z hz
  obtain ⟨⟨cs2, h2⟩, _⟩ := tO5 z e
  exact Row.ne_ h2 h1 (by decide) rfl
 have r5 : Row w5 w.heap.size 29 #[.slice A n c] := htwo.row h.r0 (fun e => by obtain ⟨cs, h1⟩ := h.t.rowL _ e; exact Row.ne_ h.r0 h1 (by decide) rfl) (fun e => by obtain ⟨cs, h1⟩ := h.t.rowR _ e; exact Row.ne_ h.r0 h1 (by decide) rfl)
 have hOs : blk O ≠ some w.heap.size := fun e => by
  obtain ⟨⟨cs, h1⟩, _⟩ := tO5 _ e
  exact Row.ne_ r5 h1 (by decide) rfl
 have hfar : ∀ z, blk O = some z → lo ≤ z := fun z hz => Nat.le_trans h.le (hOlo z hz)
 have hlo5 : lo ≤ w5.heap.size := by have := h.le; omega
 obtain ⟨avO1, avO2⟩ := hav (fun z => blk O = some z) (fun z hz => (tO z hz).2.2) h.ao.1 h.ao.2
 have kL : ∀ b j, L2 = some ⟨b, 0, none⟩ → w6.cell? ⟨b, j, none⟩ = w5.cell? ⟨b, j, none⟩ := fun b j e => World.cell?_of_block (hg6.block b (ht2.l.top b (by rw [e]; rfl)) (fun e2 => hOL b (by rw [e]; rfl) e2.symm))
 have kR : ∀ b j, R2 = some ⟨b, 0, none⟩ → w6.cell? ⟨b, j, none⟩ = w5.cell? ⟨b, j, none⟩ := fun b j e => World.cell?_of_block (hg6.block b (ht2.r.top b (by rw [e]; rfl)) (fun e2 => hOR b (by rw [e]; rfl) e2.symm))
 have two5 : Two w w5 L R := h.two.trans htwo h.hl h.hr
 refine ⟨?_, Seg.far (h.s.below b5) hg6 hlo5 hfar, Seg.far (h.pa.below b5) hg6 hlo5 hfar, Seg.far (h.qb.below b5) hg6 hlo5 hfar, ⟨(Avoid.owns ht2.l avO1 hOL hg6).wider (Nat.le_refl _) hz6, (Avoid.owns ht2.r avO2 hOR hg6).wider (Nat.le_refl _) hz6, ht2.ne⟩, h.le, ?_, fun z hz hlt => h.hl z (hl2 z hz (by omega)) hlt, fun z hz hlt => h.hr z (hr2 z hz (by omega)) hlt, own_away (r0 := 0) ox5 hg6 h.nx rfl, own_away (r0 := 0) oy5 hg6 h.ny rfl, ho6, fun z hz => ?_, fun z hz => ?_, ga_succ h.ga hgs, fun Z hZ a1 a2 => ?_, ?_⟩
 ·exact (hg6.block _ r5.lt (fun e => hOs e.symm)).trans r5
 ·exact ⟨hg6.os.trans two5.os, hg6.tape.trans two5.tape, hg6.output.trans two5.output, Nat.le_trans two5.size hz6, fun z hz h1 h2 => (hg6.block z (by omega) (fun e => by have := hOlo z e.symm; omega)).trans (two5.block z hz h1 h2)⟩
 ·rcases hat6 with e | e
  ·exact h.nx z (by rw [← e]; exact hz)
  ·intro e2
   rw [e] at hz
   injection hz with hz
   have := (ownRow ox5 z e2).2.2
   omega
 ·rcases hat6 with e | e
  ·exact h.ny z (by rw [← e]; exact hz)
  ·intro e2
   rw [e] at hz
   injection hz with hz
   have := (ownRow oy5 z e2).2.2
   omega
 ·obtain ⟨c1, c2⟩ := h.av Z hZ a1 a2
  obtain ⟨d1, d2⟩ := hav Z (fun z hz => by have := hZ z hz; omega) c1 c2
  exact ⟨d1.keep kL, d2.keep kR⟩
 ·rcases hat6 with e | e
  ·rw [e]; exact ⟨avO1.keep kL, avO2.keep kR⟩
  ·refine ⟨(Avoid.fresh ht2.l (fun z hz => ?_)).keep kL, (Avoid.fresh ht2.r (fun z hz => ?_)).keep kR⟩
   ·rw [e] at hz; injection hz with hz; omega
   ·rw [e] at hz; injection hz with hz; omega
end
end genRec
end
section
namespace genMain
open Go.RowKit base ints sig cursor marks app appAt sym segs segsHelp term args sub Go.Proofs.Ytobedfmagjgdcaa.look plain same posMath unifMath genMath genPos genTab appZ genSpec genRec
set_option maxRecDepth 100000
section
variable {w wr w5 : World} {lo : Nat} {A : Option Addr} {n c : Nat} {sg : List Int} {P : Option Addr} {m : Nat} {a : List Int} {Q : Option Addr} {k : Nat} {b : List Int} {L R : Option Addr} {ln p q : Nat} {T : Tb} {x : Int} {X : Option Addr} {xn xc : Nat} {Y : Option Addr} {yn yc i : Nat} {L' R' : Option Addr} {ln' lc' rc' : Nat} {O : Option Addr} {on oc : Nat} {g : List Int} {T' : Tb}
end
def HeadR (w : World) (lo : Nat) (A : Option Addr) (n c : Nat) (sg : List Int) (P : Option Addr) (m : Nat) (a : List Int) (Q : Option Addr) (k : Nat) (b : List Int) (L R : Option Addr) (ln p q : Nat) (T : Tb) (x : Int) (X : Option Addr) (xn xc : Nat) (Y : Option Addr) (yn yc : Nat) (l r o iv : Value) (wr : World) : Prop :=
 ∃ (i : Nat) (L' R' : Option Addr) (ln' lc' rc' : Nat) (O : Option Addr) (on oc : Nat) (g : List Int) (T' : Tb), i ≤ xn ∧ l = .slice L' ln' lc' ∧ r = .slice R' ln' rc' ∧ o = .slice O on oc ∧ iv = .int .i64 i ∧ Hr w wr lo A n c sg P m a Q k b L R ln p q T x X xn xc Y yn yc i L' R' ln' lc' rc' O on oc g T'
end genMain
end
section
namespace general
open Go.RowKit base ints sig cursor marks app appAt sym segs segsHelp term args sub Go.Proofs.Ytobedfmagjgdcaa.look plain unifMath genMath genPos genTab genSpec genMain termOk termFacts termMath endAt unifLaw
set_option maxRecDepth 100000
structure Gr (w wr : World) (A : Option Addr) (n c : Nat) (sg : List Int) (P : Option Addr) (m : Nat) (a : List Int) (Q : Option Addr) (k : Nat) (b : List Int) : Prop where
 r0 : Row wr w.heap.size 29 #[.slice A n c]
 s : Seg wr wr.heap.size A n sg
 pa : Seg wr wr.heap.size P m a
 qb : Seg wr wr.heap.size Q k b
 b : Below w.heap.size w wr
theorem Gr.next {w wr w' : World} {A : Option Addr} {n c : Nat} {sg : List Int} {P : Option Addr} {m : Nat} {a : List Int} {Q : Option Addr} {k : Nat} {b : List Int} (h : Gr w wr A n c sg P m a Q k b) (hb : Below wr.heap.size wr w') : Gr w w' A n c sg P m a Q k b :=
 ⟨h.r0.next hb, h.s.next hb, h.pa.next hb, h.qb.next hb, next_trans h.b hb⟩
end general
end
section
namespace met
open Go.RowKit base ints sig term termOk termFacts endAt cursor marks app sym segs segsHelp kinds fillMath Go.Proofs.Ytobedfmagjgdcaa.look shifted substOk gives filled plainMath plain renMath renPure rename renImpl genSpec unifMath unifLaw unified unifImpl behind apart5
set_option maxRecDepth 100000
theorem isA_each {sg a b : List Int} {v : Bool} {F : List (List Int)} (h : IsA sg a b v F) : tot F ≤ 1048576 := by
 rcases h with ⟨_, h⟩ | ⟨_, _, rfl⟩
 ·exact isU_each h
 ·simp [tot, sumL]
end met
end
section
namespace metX
open Go.RowKit base sig segs shifted unifMath unified apart5 met
set_option linter.unusedSectionVars false
section
variable (A P Q : Option Addr) (n c pn pc m mc : Nat) (sg p t : List Int) (w : World) (h : Seg w w.heap.size A n sg) (hp : Seg w w.heap.size P pn p) (ht : Seg w w.heap.size Q m t) (hn : n ≤ 1048576) (hpn : pn ≤ 1048576) (hm : m ≤ 1048576) (kp : Cap P pn pc) {v : Bool} {F : List (List Int)} (hU : IsA sg p t v F)
include h hp ht hn hpn hm kp hU
theorem specUnifiedApartX : Calls Try.prog 30 #[.agg #[.slice A n c], .slice P pn pc, .slice Q m mc] w (AnsUB w F v) :=
 specUnifiedApart A P Q n c pn pc m mc sg p t w v F hU h hp ht hn hpn hm
theorem implUnifiedApartX : Calls Try.prog 31 #[.agg #[.slice A n c], .slice P pn pc, .slice Q m mc] w (AnsUB w F v) :=
 implUnifiedApart A P Q n c pn pc m mc sg p t w v F hU h hp ht hn hpn hm kp
end
end metX
end
section
open Go.Lib (hid)
namespace wUnifiedApart
open Go.RowKit base ints sig cursor marks app sym appAt segs segsHelp segsMark kinds inside unifMath unified unifImpl unifLaw apart5 met metX
set_option maxRecDepth 100000
set_option maxHeartbeats 8000000 in
theorem law (a0 : Option Addr) (n0 c0 : Nat) (xs0 : List Int) (a1 : Option Addr) (n1 c1 : Nat) (xs1 : List Int) (a2 : Option Addr) (n2 c2 : Nat) (xs2 : List Int) (w : World) (s0 : Seg w w.heap.size a0 n0 xs0) (hN0 : n0 ≤ 9223372036854775807) (s1 : Seg w w.heap.size a1 n1 xs1) (hN1 : n1 ≤ 9223372036854775807) (s2 : Seg w w.heap.size a2 n2 xs2) (hN2 : n2 ≤ 9223372036854775807) :
  Calls Try.prog 6 #[.agg #[.slice a0 n0 c0], .slice a1 n1 c1, .slice a2 n2 c2] w (Fine w) := by
 obtain ⟨vv, FF, hU⟩ := isA_ex xs0 xs1 xs2
 obtain ⟨W, hW⟩ : ∃ W, W = w.alloc (.cells #[.slice a0 n0 c0] 24) := ⟨_, rfl⟩
 have rA0 : Row W (w.heap.size) 24 #[.slice a0 n0 c0] := by rw [hW]; have := Row.new (w) 24 #[.slice a0 n0 c0]; simpa using this
 have bW : Below w.heap.size w W := by rw [hW]; exact (Below.refl w.heap.size w).alloc (by simp) (.cells #[.slice a0 n0 c0] 24)
 have zA0 := rA0.lt
 replace s0 := s0.next bW
 have Hl0 := hid s0.1
 replace s1 := s1.next bW
 have Hl1 := hid s1.1
 replace s2 := s2.next bW
 have Hl2 := hid s2.1
 have HW := hid hW
 clear hW
 obtain ⟨v, hv⟩ : ∃ v, vv = v := ⟨_, rfl⟩
 have HV := hid hv
 clear hv
 have ev : (v != v) = false := by simp
 by_cases h1 : n1 ≤ 1048576
 case neg =>
  go_enter Try.func6, Try.ntmps6
  go_wp2_with fail
  rw [← HW.out]
  go_ret
  exact ⟨rfl, bW⟩
 by_cases h2 : n2 ≤ 1048576
 case neg =>
  go_enter Try.func6, Try.ntmps6
  go_wp2_with fail
  rw [← HW.out]
  go_ret
  exact ⟨rfl, bW⟩
 go_enter Try.func6, Try.ntmps6
 go_wp2_with fail
 rw [← HW.out]
 clear HW
 have bel := Below.refl W.heap.size W
 have cA0 : W.cell? ⟨w.heap.size, 0, none⟩ = some (.slice a0 n0 c0) := (rA0.next bel).cell 0
 refine (szSig _ _ _ (1048576) _ hN0 (by omega) (by omega)).mono ?_
 rintro e w1 ⟨he, bb⟩
 replace bel := next_trans bel bb
 have zw1 := bb.size
 clear bb
 by_cases q0 : n0 ≤ 1048576
 case neg =>
  rw [if_pos (by omega)] at he
  subst he
  have F := hid (bW.trans (bel.mono bW.size))
  clear bel bW cA0
  go_wp2
  go_ret
  exact ⟨rfl, F.out⟩
 rw [if_neg (by omega)] at he
 subst he
 have h0 : n0 ≤ 1048576 := by omega
 clear cA0
 have cA0 : w1.cell? ⟨w.heap.size, 0, none⟩ = some (.slice a0 n0 c0) := (rA0.next bel).cell 0
 have hlen : tot (FF) ≤ 1048576 := isA_each hU
 obtain ⟨ys, hys⟩ : ∃ ys, FF = ys := ⟨_, rfl⟩
 rw [hys] at hlen
 have HY := hid hys
 clear hys
 replace hlen := hid hlen
 go_wp2_with fail
 refine (sigTo _ _ _ xs0 _ (s0.next bel) h0).mono ?_
 rintro e w2 ⟨gp0, rfl, op0, yp0, bb⟩
 replace bel := next_trans bel bb
 have zw2 := bb.size
 clear bb
 clear cA0
 have cA0 : w2.cell? ⟨w.heap.size, 0, none⟩ = some (.slice a0 n0 c0) := (rA0.next bel).cell 0
 go_wp2_with fail
 refine (intsTo _ _ _ xs1 _ (s1.next bel) h1).mono ?_
 rintro e w3 ⟨gp1, rfl, op1, yp1, bb⟩
 replace op0 := op0.next bb
 replace bel := next_trans bel bb
 have zw3 := bb.size
 clear bb
 clear cA0
 have cA0 : w3.cell? ⟨w.heap.size, 0, none⟩ = some (.slice a0 n0 c0) := (rA0.next bel).cell 0
 go_wp2_with fail
 refine (intsTo _ _ _ xs2 _ (s2.next bel) h2).mono ?_
 rintro e w4 ⟨gp2, rfl, op2, yp2, bb⟩
 replace op0 := op0.next bb
 replace op1 := op1.next bb
 replace bel := next_trans bel bb
 have zw4 := bb.size
 clear bb
 clear cA0
 have cA0 : w4.cell? ⟨w.heap.size, 0, none⟩ = some (.slice a0 n0 c0) := (rA0.next bel).cell 0
 go_wp2_with fail
 refine (specUnifiedApartX _ _ _ _ _ _ _ _ _ xs0 xs1 xs2 _ op0.rd op1.rd op2.rd h0 h1 h2 ⟨Nat.le_refl _, by omega, fun e => by cases e⟩ hU).mono ?_
 rintro e w5 ⟨A0, m0, d0, he, o0, bb⟩
 rw [HV.out] at he
 subst he
 replace op0 := op0.next bb
 replace op1 := op1.next bb
 replace op2 := op2.next bb
 replace bel := next_trans bel bb
 have zw5 := bb.size
 clear bb
 rw [HY.out] at o0
 have sw := o0.rd
 clear o0
 clear op0 op1 op2
 clear cA0
 have cA0 : w5.cell? ⟨w.heap.size, 0, none⟩ = some (.slice a0 n0 c0) := (rA0.next bel).cell 0
 have dA0 : (w5.alloc (.cells #[.slice A0 m0 d0] 39)).cell? ⟨w.heap.size, 0, none⟩ = some (.slice a0 n0 c0) := ((rA0.next bel).alloc _).cell 0
 go_wp2_with fail
 obtain ⟨w6, hw⟩ : ∃ W, W = w5.alloc (.cells #[.slice A0 m0 d0] 39) := ⟨_, rfl⟩
 rw [← hw]
 have rw : Row w6 w5.heap.size 39 #[.slice A0 m0 d0] := by rw [hw]; exact Row.new _ _ _
 have bb : Below w5.heap.size w5 w6 := by rw [hw]; exact (Below.refl _ _).alloc (Nat.le_refl _) _
 have yrw : w5.heap.size < w6.heap.size := by rw [hw]; simp
 clear hw
 replace sw := sw.next bb
 replace bel := next_trans bel bb
 have zw6 := bb.size
 clear bb
 clear dA0
 obtain ⟨Aw, mw, dw, eA, em, ed⟩ : ∃ A m d, A = A0 ∧ m = m0 ∧ d = d0 := ⟨_, _, _, rfl, rfl, rfl⟩
 subst eA em ed
 have belw := Below.refl w6.heap.size w6
 clear cA0
 have cA0 : w6.cell? ⟨w.heap.size, 0, none⟩ = some (.slice a0 n0 c0) := (rA0.next bel).cell 0
 have cw : w6.cell? ⟨w5.heap.size, 0, none⟩ = some (.slice Aw mw dw) := (rw.next belw).cell 0
 refine (sigTo _ _ _ xs0 _ (s0.next bel) h0).mono ?_
 rintro e w7 ⟨gx0, rfl, ox0, yx0, bb⟩
 replace bel := next_trans bel bb
 replace belw := next_trans belw bb
 have zw7 := bb.size
 clear bb
 clear cA0 cw
 have cA0 : w7.cell? ⟨w.heap.size, 0, none⟩ = some (.slice a0 n0 c0) := (rA0.next bel).cell 0
 have cw : w7.cell? ⟨w5.heap.size, 0, none⟩ = some (.slice Aw mw dw) := (rw.next belw).cell 0
 have dA0 : (w7.alloc (.cells #[.slice (some ⟨gx0, 0, none⟩) n0 n0] 29)).cell? ⟨w.heap.size, 0, none⟩ = some (.slice a0 n0 c0) := ((rA0.next bel).alloc _).cell 0
 have dw : (w7.alloc (.cells #[.slice (some ⟨gx0, 0, none⟩) n0 n0] 29)).cell? ⟨w5.heap.size, 0, none⟩ = some (.slice Aw mw dw) := ((rw.next belw).alloc _).cell 0
 go_wp2_with fail
 obtain ⟨w8, hw⟩ : ∃ W, W = w7.alloc (.cells #[.slice (some ⟨gx0, 0, none⟩) n0 n0] 29) := ⟨_, rfl⟩
 rw [← hw]
 have rx0 : Row w8 w7.heap.size 29 #[.slice (some ⟨gx0, 0, none⟩) n0 n0] := by rw [hw]; exact Row.new _ _ _
 have bb : Below w7.heap.size w7 w8 := by rw [hw]; exact (Below.refl _ _).alloc (Nat.le_refl _) _
 have yrx0 : w7.heap.size < w8.heap.size := by rw [hw]; simp
 clear hw
 replace ox0 := ox0.next bb
 replace bel := next_trans bel bb
 replace belw := next_trans belw bb
 have zw8 := bb.size
 clear bb
 clear dA0 dw
 clear cA0 cw
 have cA0 : w8.cell? ⟨w.heap.size, 0, none⟩ = some (.slice a0 n0 c0) := (rA0.next bel).cell 0
 have cw : w8.cell? ⟨w5.heap.size, 0, none⟩ = some (.slice Aw mw dw) := (rw.next belw).cell 0
 have cx0 : w8.cell? ⟨w7.heap.size, 0, none⟩ = some (.slice (some ⟨gx0, 0, none⟩) n0 n0) := (rx0).cell 0
 refine (intsTo _ _ _ xs1 _ (s1.next bel) h1).mono ?_
 rintro e w9 ⟨gx1, rfl, ox1, yx1, bb⟩
 replace ox0 := ox0.next bb
 replace rx0 := rx0.next bb
 replace bel := next_trans bel bb
 replace belw := next_trans belw bb
 have zw9 := bb.size
 clear bb
 clear cA0 cw cx0
 have cA0 : w9.cell? ⟨w.heap.size, 0, none⟩ = some (.slice a0 n0 c0) := (rA0.next bel).cell 0
 have cw : w9.cell? ⟨w5.heap.size, 0, none⟩ = some (.slice Aw mw dw) := (rw.next belw).cell 0
 have cx0 : w9.cell? ⟨w7.heap.size, 0, none⟩ = some (.slice (some ⟨gx0, 0, none⟩) n0 n0) := (rx0).cell 0
 go_wp2_with fail
 refine (intsTo _ _ _ xs2 _ (s2.next bel) h2).mono ?_
 rintro e w10 ⟨gx2, rfl, ox2, yx2, bb⟩
 replace ox0 := ox0.next bb
 replace rx0 := rx0.next bb
 replace ox1 := ox1.next bb
 replace bel := next_trans bel bb
 replace belw := next_trans belw bb
 have zw10 := bb.size
 clear bb
 clear cA0 cw cx0
 have cA0 : w10.cell? ⟨w.heap.size, 0, none⟩ = some (.slice a0 n0 c0) := (rA0.next bel).cell 0
 have cw : w10.cell? ⟨w5.heap.size, 0, none⟩ = some (.slice Aw mw dw) := (rw.next belw).cell 0
 have cx0 : w10.cell? ⟨w7.heap.size, 0, none⟩ = some (.slice (some ⟨gx0, 0, none⟩) n0 n0) := (rx0).cell 0
 go_wp2_with fail
 refine (implUnifiedApartX _ _ _ _ _ _ _ _ _ xs0 xs1 xs2 _ ox0.rd ox1.rd ox2.rd h0 h1 h2 ⟨Nat.le_refl _, by omega, fun e => by cases e⟩ hU).mono ?_
 rintro e w11 ⟨A0, m0, d0, he, o0, bb⟩
 rw [HV.out] at he
 subst he
 replace ox0 := ox0.next bb
 replace rx0 := rx0.next bb
 replace ox1 := ox1.next bb
 replace ox2 := ox2.next bb
 replace bel := next_trans bel bb
 replace belw := next_trans belw bb
 have zw11 := bb.size
 clear bb
 rw [HY.out] at o0
 have og := o0
 clear o0
 obtain ⟨Ag, mg, dg, eA, em, ed⟩ : ∃ A m d, A = A0 ∧ m = m0 ∧ d = d0 := ⟨_, _, _, rfl, rfl, rfl⟩
 subst eA em ed
 clear cA0 cw cx0
 have cA0 : w11.cell? ⟨w.heap.size, 0, none⟩ = some (.slice a0 n0 c0) := (rA0.next bel).cell 0
 have cw : w11.cell? ⟨w5.heap.size, 0, none⟩ = some (.slice Aw mw dw) := (rw.next belw).cell 0
 have cx0 : w11.cell? ⟨w7.heap.size, 0, none⟩ = some (.slice (some ⟨gx0, 0, none⟩) n0 n0) := (rx0).cell 0
 have dA0 : (w11.alloc (.cells #[.slice Ag mg dg] 39)).cell? ⟨w.heap.size, 0, none⟩ = some (.slice a0 n0 c0) := ((rA0.next bel).alloc _).cell 0
 have dw : (w11.alloc (.cells #[.slice Ag mg dg] 39)).cell? ⟨w5.heap.size, 0, none⟩ = some (.slice Aw mw dw) := ((rw.next belw).alloc _).cell 0
 have dx0 : (w11.alloc (.cells #[.slice Ag mg dg] 39)).cell? ⟨w7.heap.size, 0, none⟩ = some (.slice (some ⟨gx0, 0, none⟩) n0 n0) := ((rx0).alloc _).cell 0
 go_wp2_with fail
 obtain ⟨w12, hw⟩ : ∃ W, W = w11.alloc (.cells #[.slice Ag mg dg] 39) := ⟨_, rfl⟩
 rw [← hw]
 have rg : Row w12 w11.heap.size 39 #[.slice Ag mg dg] := by rw [hw]; exact Row.new _ _ _
 have bb : Below w11.heap.size w11 w12 := by rw [hw]; exact (Below.refl _ _).alloc (Nat.le_refl _) _
 have yrg : w11.heap.size < w12.heap.size := by rw [hw]; simp
 clear hw
 replace ox0 := ox0.next bb
 replace rx0 := rx0.next bb
 replace ox1 := ox1.next bb
 replace ox2 := ox2.next bb
 replace og := og.next bb
 replace bel := next_trans bel bb
 replace belw := next_trans belw bb
 have zw12 := bb.size
 clear bb
 clear dA0 dw dx0
 clear cA0 cw cx0
 have cA0 : w12.cell? ⟨w.heap.size, 0, none⟩ = some (.slice a0 n0 c0) := (rA0.next bel).cell 0
 have cw : w12.cell? ⟨w5.heap.size, 0, none⟩ = some (.slice Aw mw dw) := (rw.next belw).cell 0
 have cx0 : w12.cell? ⟨w7.heap.size, 0, none⟩ = some (.slice (some ⟨gx0, 0, none⟩) n0 n0) := (rx0).cell 0
 have cg : w12.cell? ⟨w11.heap.size, 0, none⟩ = some (.slice Ag mg dg) := (rg).cell 0
 have hlenn : mg ≤ 1048576 := tot_len og.len hlen.out
 have hmg : sumL ys mg ≤ 1048576 := by have q := hlen.out; unfold tot at q; rw [og.len] at q; omega
 obtain ⟨zg, hzg⟩ : ∃ z, sumL ys mg = z := ⟨_, rfl⟩
 rw [hzg] at hmg
 have HZg := hid hzg
 clear hzg
 refine (substEq _ _ _ _ _ _ ys _ og.rd (sw.next belw) hlen.out).mono ?_
 rintro e w13 ⟨rfl, bb⟩
 replace ox0 := ox0.next bb
 replace rx0 := rx0.next bb
 replace ox1 := ox1.next bb
 replace ox2 := ox2.next bb
 replace og := og.next bb
 replace rg := rg.next bb
 replace bel := next_trans bel bb
 replace belw := next_trans belw bb
 have zw13 := bb.size
 clear bb
 clear cA0 cw cx0 cg
 have cA0 : w13.cell? ⟨w.heap.size, 0, none⟩ = some (.slice a0 n0 c0) := (rA0.next bel).cell 0
 have cw : w13.cell? ⟨w5.heap.size, 0, none⟩ = some (.slice Aw mw dw) := (rw.next belw).cell 0
 have cx0 : w13.cell? ⟨w7.heap.size, 0, none⟩ = some (.slice (some ⟨gx0, 0, none⟩) n0 n0) := (rx0).cell 0
 have cg : w13.cell? ⟨w11.heap.size, 0, none⟩ = some (.slice Ag mg dg) := (rg).cell 0
 go_wp2_with fail
 replace ox0 := ox0.drew
 replace rx0 := rx0.drew
 replace ox1 := ox1.drew
 replace ox2 := ox2.drew
 replace og := og.drew
 replace rg := rg.drew
 replace bel := bel.drew
 replace belw := belw.drew
 have zdw13 := (drew_below w13).size
 go_region_held3 (fun w' => w'.cell? ⟨w7.heap.size, 0, none⟩ = some (.slice (some ⟨gx0, 0, none⟩) n0 n0) ∧ w'.cell? ⟨w.heap.size, 0, none⟩ = some (.slice a0 n0 c0))
  (go_keep)
  (first
   | (go_at_call 12; refine (sigTo _ _ _ xs0 _ (s0.next bel) h0).mono ?_; rintro e w14 ⟨gt0, rfl, ot, yt0, bb⟩; replace ox0 := ox0.next bb; replace rx0 := rx0.next bb; replace ox1 := ox1.next bb; replace ox2 := ox2.next bb; replace og := og.next bb; replace rg := rg.next bb; replace bel := next_trans bel bb; replace belw := next_trans belw bb; have k0w14 : w14.cell? ⟨w.heap.size, 0, none⟩ = some (.slice a0 n0 c0) := (rA0.next bel).cell 0; have l0w14 : w14.cell? ⟨w7.heap.size, 0, none⟩ = some (.slice (some ⟨gx0, 0, none⟩) n0 n0) := rx0.cell 0; have zqw14 := bb.size; clear bb)
   | (go_at_call 16; refine (sigEq _ _ _ _ _ _ xs0 _ ox0.rd ot.rd h0).mono ?_; rintro e w15 ⟨rfl, bb⟩; replace ox0 := ox0.next bb; replace rx0 := rx0.next bb; replace ox1 := ox1.next bb; replace ox2 := ox2.next bb; replace og := og.next bb; replace rg := rg.next bb; replace bel := next_trans bel bb; replace belw := next_trans belw bb; have k0w15 : w15.cell? ⟨w.heap.size, 0, none⟩ = some (.slice a0 n0 c0) := (rA0.next bel).cell 0; have l0w15 : w15.cell? ⟨w7.heap.size, 0, none⟩ = some (.slice (some ⟨gx0, 0, none⟩) n0 n0) := rx0.cell 0; have zqw15 := bb.size; clear bb ot))
 clear k0w14 l0w14 k0w15 l0w15
 clear cA0 cw cx0 cg
 have cA0 : w15.cell? ⟨w.heap.size, 0, none⟩ = some (.slice a0 n0 c0) := (rA0.next bel).cell 0
 have cw : w15.cell? ⟨w5.heap.size, 0, none⟩ = some (.slice Aw mw dw) := (rw.next belw).cell 0
 have cx0 : w15.cell? ⟨w7.heap.size, 0, none⟩ = some (.slice (some ⟨gx0, 0, none⟩) n0 n0) := (rx0).cell 0
 have cg : w15.cell? ⟨w11.heap.size, 0, none⟩ = some (.slice Ag mg dg) := (rg).cell 0
 go_wp2_with fail
 refine (intsTo _ _ _ xs1 _ (s1.next bel) h1).mono ?_
 rintro e w16 ⟨gt1, rfl, ot1, yt1, bb⟩
 replace ox0 := ox0.next bb
 replace rx0 := rx0.next bb
 replace ox1 := ox1.next bb
 replace ox2 := ox2.next bb
 replace og := og.next bb
 replace rg := rg.next bb
 replace bel := next_trans bel bb
 replace belw := next_trans belw bb
 have zw16 := bb.size
 clear bb
 clear cA0 cw cx0 cg
 have cA0 : w16.cell? ⟨w.heap.size, 0, none⟩ = some (.slice a0 n0 c0) := (rA0.next bel).cell 0
 have cw : w16.cell? ⟨w5.heap.size, 0, none⟩ = some (.slice Aw mw dw) := (rw.next belw).cell 0
 have cx0 : w16.cell? ⟨w7.heap.size, 0, none⟩ = some (.slice (some ⟨gx0, 0, none⟩) n0 n0) := (rx0).cell 0
 have cg : w16.cell? ⟨w11.heap.size, 0, none⟩ = some (.slice Ag mg dg) := (rg).cell 0
 go_wp2_with fail
 refine (intsEq _ _ _ _ _ _ xs1 _ ox1.rd ot1.rd h1).mono ?_
 rintro e w17 ⟨rfl, bb⟩
 replace ox0 := ox0.next bb
 replace rx0 := rx0.next bb
 replace ox1 := ox1.next bb
 replace ox2 := ox2.next bb
 replace og := og.next bb
 replace rg := rg.next bb
 replace ot1 := ot1.next bb
 replace bel := next_trans bel bb
 replace belw := next_trans belw bb
 have zw17 := bb.size
 clear bb
 clear ot1
 clear cA0 cw cx0 cg
 have cA0 : w17.cell? ⟨w.heap.size, 0, none⟩ = some (.slice a0 n0 c0) := (rA0.next bel).cell 0
 have cw : w17.cell? ⟨w5.heap.size, 0, none⟩ = some (.slice Aw mw dw) := (rw.next belw).cell 0
 have cx0 : w17.cell? ⟨w7.heap.size, 0, none⟩ = some (.slice (some ⟨gx0, 0, none⟩) n0 n0) := (rx0).cell 0
 have cg : w17.cell? ⟨w11.heap.size, 0, none⟩ = some (.slice Ag mg dg) := (rg).cell 0
 go_wp2_with fail
 refine (intsTo _ _ _ xs2 _ (s2.next bel) h2).mono ?_
 rintro e w18 ⟨gt2, rfl, ot2, yt2, bb⟩
 replace ox0 := ox0.next bb
 replace rx0 := rx0.next bb
 replace ox1 := ox1.next bb
 replace ox2 := ox2.next bb
 replace og := og.next bb
 replace rg := rg.next bb
 replace bel := next_trans bel bb
 replace belw := next_trans belw bb
 have zw18 := bb.size
 clear bb
 clear cA0 cw cx0 cg
 have cA0 : w18.cell? ⟨w.heap.size, 0, none⟩ = some (.slice a0 n0 c0) := (rA0.next bel).cell 0
 have cw : w18.cell? ⟨w5.heap.size, 0, none⟩ = some (.slice Aw mw dw) := (rw.next belw).cell 0
 have cx0 : w18.cell? ⟨w7.heap.size, 0, none⟩ = some (.slice (some ⟨gx0, 0, none⟩) n0 n0) := (rx0).cell 0
 have cg : w18.cell? ⟨w11.heap.size, 0, none⟩ = some (.slice Ag mg dg) := (rg).cell 0
 go_wp2_with fail
 refine (intsEq _ _ _ _ _ _ xs2 _ ox2.rd ot2.rd h2).mono ?_
 rintro e w19 ⟨rfl, bb⟩
 replace ox0 := ox0.next bb
 replace rx0 := rx0.next bb
 replace ox1 := ox1.next bb
 replace ox2 := ox2.next bb
 replace og := og.next bb
 replace rg := rg.next bb
 replace ot2 := ot2.next bb
 replace bel := next_trans bel bb
 replace belw := next_trans belw bb
 have zw19 := bb.size
 clear bb
 clear ot2
 clear cA0 cw cx0 cg
 have cA0 : w19.cell? ⟨w.heap.size, 0, none⟩ = some (.slice a0 n0 c0) := (rA0.next bel).cell 0
 have cw : w19.cell? ⟨w5.heap.size, 0, none⟩ = some (.slice Aw mw dw) := (rw.next belw).cell 0
 have cx0 : w19.cell? ⟨w7.heap.size, 0, none⟩ = some (.slice (some ⟨gx0, 0, none⟩) n0 n0) := (rx0).cell 0
 have cg : w19.cell? ⟨w11.heap.size, 0, none⟩ = some (.slice Ag mg dg) := (rg).cell 0
 go_wp2_with fail
 refine (sigMark (w6.heap.size) (w7.heap.size) _ _ _ xs0 (1) _ ox0 h0 (by omega) (by omega)).mono ?_
 rintro e w20 ⟨he, -, bt⟩
 subst he
 clear ox0
 replace rx0 := Row.btw rx0 bt (by omega)
 replace ox1 := ox1.btw bt (by omega)
 replace ox2 := ox2.btw bt (by omega)
 replace og := og.btw bt (by omega)
 replace rg := Row.btw rg bt (by omega)
 replace bel := Below.btw bel bt (by omega) bel.size
 replace belw := Below.btw belw bt (by omega) belw.size
 have zw20 := bt.size
 clear bt
 clear cA0 cw cx0 cg
 have cA0 : w20.cell? ⟨w.heap.size, 0, none⟩ = some (.slice a0 n0 c0) := (rA0.next bel).cell 0
 have cw : w20.cell? ⟨w5.heap.size, 0, none⟩ = some (.slice Aw mw dw) := (rw.next belw).cell 0
 have cx0 : w20.cell? ⟨w7.heap.size, 0, none⟩ = some (.slice (some ⟨gx0, 0, none⟩) n0 n0) := (rx0).cell 0
 have cg : w20.cell? ⟨w11.heap.size, 0, none⟩ = some (.slice Ag mg dg) := (rg).cell 0
 go_wp2_with fail
 refine (intsMark (w8.heap.size) (w9.heap.size) _ _ _ xs1 (1 + (n0 : Int)) _ ox1 h1 (by omega) (by omega)).mono ?_
 rintro e w21 ⟨he, -, bt⟩
 subst he
 clear ox1
 replace rx0 := Row.btw rx0 bt (by omega)
 replace ox2 := ox2.btw bt (by omega)
 replace og := og.btw bt (by omega)
 replace rg := Row.btw rg bt (by omega)
 replace bel := Below.btw bel bt (by omega) bel.size
 replace belw := Below.btw belw bt (by omega) belw.size
 have zw21 := bt.size
 clear bt
 clear cA0 cw cx0 cg
 have cA0 : w21.cell? ⟨w.heap.size, 0, none⟩ = some (.slice a0 n0 c0) := (rA0.next bel).cell 0
 have cw : w21.cell? ⟨w5.heap.size, 0, none⟩ = some (.slice Aw mw dw) := (rw.next belw).cell 0
 have cx0 : w21.cell? ⟨w7.heap.size, 0, none⟩ = some (.slice (some ⟨gx0, 0, none⟩) n0 n0) := (rx0).cell 0
 have cg : w21.cell? ⟨w11.heap.size, 0, none⟩ = some (.slice Ag mg dg) := (rg).cell 0
 go_wp2_with fail
 refine (intsMark (w9.heap.size) (w10.heap.size) _ _ _ xs2 (1 + (n0 : Int) + (n1 : Int)) _ ox2 h2 (by omega) (by omega)).mono ?_
 rintro e w22 ⟨he, -, bt⟩
 subst he
 clear ox2
 replace rx0 := Row.btw rx0 bt (by omega)
 replace og := og.btw bt (by omega)
 replace rg := Row.btw rg bt (by omega)
 replace bel := Below.btw bel bt (by omega) bel.size
 replace belw := Below.btw belw bt (by omega) belw.size
 have zw22 := bt.size
 clear bt
 clear cA0 cw cx0 cg
 have cA0 : w22.cell? ⟨w.heap.size, 0, none⟩ = some (.slice a0 n0 c0) := (rA0.next bel).cell 0
 have cw : w22.cell? ⟨w5.heap.size, 0, none⟩ = some (.slice Aw mw dw) := (rw.next belw).cell 0
 have cx0 : w22.cell? ⟨w7.heap.size, 0, none⟩ = some (.slice (some ⟨gx0, 0, none⟩) n0 n0) := (rx0).cell 0
 have cg : w22.cell? ⟨w11.heap.size, 0, none⟩ = some (.slice Ag mg dg) := (rg).cell 0
 clear rx0
 clear cA0 cw cx0 cg
 have cA0 : w22.cell? ⟨w.heap.size, 0, none⟩ = some (.slice a0 n0 c0) := (rA0.next bel).cell 0
 have cw : w22.cell? ⟨w5.heap.size, 0, none⟩ = some (.slice Aw mw dw) := (rw.next belw).cell 0
 have cg : w22.cell? ⟨w11.heap.size, 0, none⟩ = some (.slice Ag mg dg) := (rg).cell 0
 go_wp2_with fail
 refine (substEq _ _ _ _ _ _ ys _ og.rd (sw.next belw) hlen.out).mono ?_
 rintro e w23 ⟨rfl, bb⟩
 replace og := og.next bb
 replace rg := rg.next bb
 replace bel := next_trans bel bb
 replace belw := next_trans belw bb
 have zw23 := bb.size
 clear bb
 clear cA0 cw cg
 have cA0 : w23.cell? ⟨w.heap.size, 0, none⟩ = some (.slice a0 n0 c0) := (rA0.next bel).cell 0
 have cw : w23.cell? ⟨w5.heap.size, 0, none⟩ = some (.slice Aw mw dw) := (rw.next belw).cell 0
 have cg : w23.cell? ⟨w11.heap.size, 0, none⟩ = some (.slice Ag mg dg) := (rg).cell 0
 go_wp2_with fail
 refine (substMark (w10.heap.size) (w11.heap.size) _ _ _ ys 1 _ og (by omega) hlen.out (by omega) (by omega)).mono ?_
 rintro e w24 ⟨he, om, bt⟩
 rw [HZg.out] at he
 subst he
 clear og
 replace rg := Row.btw rg bt (by omega)
 replace bel := Below.btw bel bt (by omega) bel.size
 replace belw := Below.btw belw bt (by omega) belw.size
 have zw24 := bt.size
 clear bt
 clear cA0 cw cg
 have cA0 : w24.cell? ⟨w.heap.size, 0, none⟩ = some (.slice a0 n0 c0) := (rA0.next bel).cell 0
 have cw : w24.cell? ⟨w5.heap.size, 0, none⟩ = some (.slice Aw mw dw) := (rw.next belw).cell 0
 have cg : w24.cell? ⟨w11.heap.size, 0, none⟩ = some (.slice Ag mg dg) := (rg).cell 0
 go_wp2_with fail
 refine (substHeld _ _ _ ys 1 _ om.rd hlen.out (by omega) (by omega)).mono ?_
 rintro e w25 ⟨he, bb⟩
 rw [HZg.out] at he
 subst he
 replace rg := rg.next bb
 replace om := om.next bb
 replace bel := next_trans bel bb
 replace belw := next_trans belw bb
 have zw25 := bb.size
 clear bb
 clear cA0 cw cg
 have cA0 : w25.cell? ⟨w.heap.size, 0, none⟩ = some (.slice a0 n0 c0) := (rA0.next bel).cell 0
 have cw : w25.cell? ⟨w5.heap.size, 0, none⟩ = some (.slice Aw mw dw) := (rw.next belw).cell 0
 have cg : w25.cell? ⟨w11.heap.size, 0, none⟩ = some (.slice Ag mg dg) := (rg).cell 0
 go_wp2_with fail
 refine (sigTo _ _ _ xs0 _ (s0.next bel) h0).mono ?_
 rintro e w26 ⟨gp0, rfl, op0, yp0, bb⟩
 replace rg := rg.next bb
 replace om := om.next bb
 replace bel := next_trans bel bb
 replace belw := next_trans belw bb
 have zw26 := bb.size
 clear bb
 clear cA0 cw cg
 have cA0 : w26.cell? ⟨w.heap.size, 0, none⟩ = some (.slice a0 n0 c0) := (rA0.next bel).cell 0
 have cw : w26.cell? ⟨w5.heap.size, 0, none⟩ = some (.slice Aw mw dw) := (rw.next belw).cell 0
 have cg : w26.cell? ⟨w11.heap.size, 0, none⟩ = some (.slice Ag mg dg) := (rg).cell 0
 go_wp2_with fail
 refine (intsTo _ _ _ xs1 _ (s1.next bel) h1).mono ?_
 rintro e w27 ⟨gp1, rfl, op1, yp1, bb⟩
 replace rg := rg.next bb
 replace om := om.next bb
 replace op0 := op0.next bb
 replace bel := next_trans bel bb
 replace belw := next_trans belw bb
 have zw27 := bb.size
 clear bb
 clear cA0 cw cg
 have cA0 : w27.cell? ⟨w.heap.size, 0, none⟩ = some (.slice a0 n0 c0) := (rA0.next bel).cell 0
 have cw : w27.cell? ⟨w5.heap.size, 0, none⟩ = some (.slice Aw mw dw) := (rw.next belw).cell 0
 have cg : w27.cell? ⟨w11.heap.size, 0, none⟩ = some (.slice Ag mg dg) := (rg).cell 0
 go_wp2_with fail
 refine (intsTo _ _ _ xs2 _ (s2.next bel) h2).mono ?_
 rintro e w28 ⟨gp2, rfl, op2, yp2, bb⟩
 replace rg := rg.next bb
 replace om := om.next bb
 replace op0 := op0.next bb
 replace op1 := op1.next bb
 replace bel := next_trans bel bb
 replace belw := next_trans belw bb
 have zw28 := bb.size
 clear bb
 clear cA0 cw cg
 have cA0 : w28.cell? ⟨w.heap.size, 0, none⟩ = some (.slice a0 n0 c0) := (rA0.next bel).cell 0
 have cw : w28.cell? ⟨w5.heap.size, 0, none⟩ = some (.slice Aw mw dw) := (rw.next belw).cell 0
 have cg : w28.cell? ⟨w11.heap.size, 0, none⟩ = some (.slice Ag mg dg) := (rg).cell 0
 go_wp2_with fail
 refine (implUnifiedApartX _ _ _ _ _ _ _ _ _ xs0 xs1 xs2 _ op0.rd op1.rd op2.rd h0 h1 h2 ⟨Nat.le_refl _, by omega, fun e => by cases e⟩ hU).mono ?_
 rintro e w29 ⟨A0, m0, d0, he, o0, bb⟩
 rw [HV.out] at he
 subst he
 replace rg := rg.next bb
 replace om := om.next bb
 replace op0 := op0.next bb
 replace op1 := op1.next bb
 replace op2 := op2.next bb
 replace bel := next_trans bel bb
 replace belw := next_trans belw bb
 have zw29 := bb.size
 clear bb
 rw [HY.out] at o0
 have sh := o0.rd
 clear o0
 clear op0 op1 op2
 clear cA0 cw cg
 have cA0 : w29.cell? ⟨w.heap.size, 0, none⟩ = some (.slice a0 n0 c0) := (rA0.next bel).cell 0
 have cw : w29.cell? ⟨w5.heap.size, 0, none⟩ = some (.slice Aw mw dw) := (rw.next belw).cell 0
 have cg : w29.cell? ⟨w11.heap.size, 0, none⟩ = some (.slice Ag mg dg) := (rg).cell 0
 have dA0 : (w29.alloc (.cells #[.slice A0 m0 d0] 39)).cell? ⟨w.heap.size, 0, none⟩ = some (.slice a0 n0 c0) := ((rA0.next bel).alloc _).cell 0
 have dw : (w29.alloc (.cells #[.slice A0 m0 d0] 39)).cell? ⟨w5.heap.size, 0, none⟩ = some (.slice Aw mw dw) := ((rw.next belw).alloc _).cell 0
 have dg : (w29.alloc (.cells #[.slice A0 m0 d0] 39)).cell? ⟨w11.heap.size, 0, none⟩ = some (.slice Ag mg dg) := ((rg).alloc _).cell 0
 go_wp2_with fail
 obtain ⟨w30, hw⟩ : ∃ W, W = w29.alloc (.cells #[.slice A0 m0 d0] 39) := ⟨_, rfl⟩
 rw [← hw]
 have rh : Row w30 w29.heap.size 39 #[.slice A0 m0 d0] := by rw [hw]; exact Row.new _ _ _
 have bb : Below w29.heap.size w29 w30 := by rw [hw]; exact (Below.refl _ _).alloc (Nat.le_refl _) _
 have yrh : w29.heap.size < w30.heap.size := by rw [hw]; simp
 clear hw
 replace rg := rg.next bb
 replace om := om.next bb
 replace sh := sh.next bb
 replace bel := next_trans bel bb
 replace belw := next_trans belw bb
 have zw30 := bb.size
 clear bb
 clear dA0 dw dg
 obtain ⟨Ah, mh, dh, eA, em, ed⟩ : ∃ A m d, A = A0 ∧ m = m0 ∧ d = d0 := ⟨_, _, _, rfl, rfl, rfl⟩
 subst eA em ed
 have belh := Below.refl w30.heap.size w30
 clear cA0 cw cg
 have cA0 : w30.cell? ⟨w.heap.size, 0, none⟩ = some (.slice a0 n0 c0) := (rA0.next bel).cell 0
 have cw : w30.cell? ⟨w5.heap.size, 0, none⟩ = some (.slice Aw mw dw) := (rw.next belw).cell 0
 have cg : w30.cell? ⟨w11.heap.size, 0, none⟩ = some (.slice Ag mg dg) := (rg).cell 0
 have ch : w30.cell? ⟨w29.heap.size, 0, none⟩ = some (.slice Ah mh dh) := (rh.next belh).cell 0
 refine (substEq _ _ _ _ _ _ ys _ (sh.next belh) (sw.next belw) hlen.out).mono ?_
 rintro e w31 ⟨rfl, bb⟩
 replace rg := rg.next bb
 replace om := om.next bb
 replace bel := next_trans bel bb
 replace belw := next_trans belw bb
 replace belh := next_trans belh bb
 have zw31 := bb.size
 clear bb
 clear cA0 cw cg ch
 have cA0 : w31.cell? ⟨w.heap.size, 0, none⟩ = some (.slice a0 n0 c0) := (rA0.next bel).cell 0
 have cw : w31.cell? ⟨w5.heap.size, 0, none⟩ = some (.slice Aw mw dw) := (rw.next belw).cell 0
 have cg : w31.cell? ⟨w11.heap.size, 0, none⟩ = some (.slice Ag mg dg) := (rg).cell 0
 have ch : w31.cell? ⟨w29.heap.size, 0, none⟩ = some (.slice Ah mh dh) := (rh.next belh).cell 0
 go_wp2_with fail
 refine (substHeld _ _ _ ys 1 _ om.rd hlen.out (by omega) (by omega)).mono ?_
 rintro e w32 ⟨he, bb⟩
 rw [HZg.out] at he
 subst he
 replace rg := rg.next bb
 replace om := om.next bb
 replace bel := next_trans bel bb
 replace belw := next_trans belw bb
 replace belh := next_trans belh bb
 have zw32 := bb.size
 clear bb
 clear cA0 cw cg ch
 have cA0 : w32.cell? ⟨w.heap.size, 0, none⟩ = some (.slice a0 n0 c0) := (rA0.next bel).cell 0
 have cw : w32.cell? ⟨w5.heap.size, 0, none⟩ = some (.slice Aw mw dw) := (rw.next belw).cell 0
 have cg : w32.cell? ⟨w11.heap.size, 0, none⟩ = some (.slice Ag mg dg) := (rg).cell 0
 have ch : w32.cell? ⟨w29.heap.size, 0, none⟩ = some (.slice Ah mh dh) := (rh.next belh).cell 0
 have F := hid (bW.trans (bel.mono bW.size))
 clear bel belw belh rg om bW cA0 cw cg ch
 go_wp2
 go_ret
 exact ⟨rfl, F.out⟩
end wUnifiedApart
end
end Go.Proofs.Ytobedfmagjgdcaa
