/-
  MERGED: my texts FillMath, PlainMath, AppAt, Segs, SegsHelp, SegsMark, Kinds, Look, Same, Copy, Plain, DrawSub, DrawS, DrawSA, Shifted, DrawVar, AnsB, SubstOk, Gives, PlainOf, DrawSS, DrawL4, DrawGeneral, EndOf, Sym, CurO, Sub, Args, Depth, one behind the other, as they are. By an AI agent.
-/
import Derived.Test.YtgfgaeagbipobaaMFnGeneral1
import Derived.Maps.AppendAt
import Derived.Deep.QuietTactic
import Derived.BigQuiet
import Derived.Shelf.Abstract
import Derived.WalkSpells
import Derived.Deep.AppendLies
import Derived.Deep.RegionHeld3
import Derived.Deep.DeepMust
import Derived.Deep.LoopGhost
namespace Go.Proofs.Ytgfgaeagbipobaa
section
namespace fillMath
open sig term termOk termFacts varsMath
def vt (i : Nat) : List Int := [-1 - (i : Int)]
def rep (L : Nat → List Int) (n : Int) : List Int := if 0 ≤ n then [n] else L (-1 - n).toNat
def fillL (L : Nat → List Int) (t : List Int) : List Int := t.flatMap (rep L)
theorem rep_sym {L : Nat → List Int} {n : Int} (h : 0 ≤ n) : rep L n = [n] := by unfold rep; rw [if_pos h]
theorem rep_var {L : Nat → List Int} {n : Int} (h : n < 0) : rep L n = L (-1 - n).toNat := by unfold rep; rw [if_neg (by omega)]
theorem fill_nil (L : Nat → List Int) : fillL L [] = [] := rfl
theorem fill_cons (L : Nat → List Int) (x : Int) (r : List Int) : fillL L (x :: r) = rep L x ++ fillL L r := by simp [fillL]
theorem fill_append (L : Nat → List Int) (a b : List Int) : fillL L (a ++ b) = fillL L a ++ fillL L b := by simp [fillL]
theorem rep_len {L : Nat → List Int} {M : Nat} (h1 : 1 ≤ M) (hM : ∀ i, (L i).length ≤ M) (n : Int) : (rep L n).length ≤ M := by
 unfold rep
 split
 ·simpa using h1
 ·exact hM _
theorem fill_len {L : Nat → List Int} {M : Nat} (h1 : 1 ≤ M) (hM : ∀ i, (L i).length ≤ M) : ∀ t : List Int, (fillL L t).length ≤ t.length * M
 | [] => by simp [fill_nil]
 | x :: r => by
  have h2 := rep_len h1 hM x
  have h3 := fill_len h1 hM r
  rw [fill_cons, List.length_append, List.length_cons, Nat.add_mul]
  omega
theorem fill_fill {L U : Nat → List Int} : ∀ t : List Int, fillL U (fillL L t) = fillL (fun i => fillL U (L i)) t
 | [] => rfl
 | x :: r => by
  rw [fill_cons, fill_append, fill_cons, fill_fill r]
  congr 1
  unfold rep
  by_cases h : 0 ≤ x
  ·rw [if_pos h, if_pos h, fill_cons, fill_nil, List.append_nil, rep_sym h]
  ·rw [if_neg h, if_neg h]
theorem scan_join {sg : List Int} : ∀ {l l' : List Int} {q q' j : Nat}, scan sg q l = some l.length → scan sg q' l' = some j → scan sg (q + q') (l ++ l') = some (l.length + j)
 | [], l', q, q', j, h, h' => by
  cases q with
  | zero => simpa using h'
  | succ q => rw [scan_nil] at h; cases h
 | x :: r, l', q, q', j, h, h' => by
  cases q with
  | zero => rw [scan_zero] at h; simp at h
  | succ q =>
   by_cases ha : ar sg x < 0
   ·rw [scan_bad ha] at h; cases h
   ·rw [scan_step ha] at h
    obtain ⟨i, hi, e⟩ := Option.map_eq_some_iff.1 h
    have e2 : i = r.length := by simp at e; omega
    subst e2
    have h2 := scan_join hi h'
    rw [show q + 1 + q' = (q + q') + 1 by omega, List.cons_append, scan_step ha, show q + q' + (ar sg x).toNat = q + (ar sg x).toNat + q' by omega, h2]
    simp
    omega
theorem scan_fill {sg : List Int} {L : Nat → List Int} : ∀ {t : List Int} {q : Nat}, scan sg q t = some t.length → (∀ x ∈ t, x < 0 → scan sg 1 (L (-1 - x).toNat) = some (L (-1 - x).toNat).length) → scan sg q (fillL L t) = some (fillL L t).length
 | [], q, h, _ => h
 | x :: r, q, h, hL => by
  cases q with
  | zero => rw [scan_zero] at h; simp at h
  | succ q =>
   by_cases ha : ar sg x < 0
   ·rw [scan_bad ha] at h; cases h
   ·rw [scan_step ha] at h
    obtain ⟨i, hi, e⟩ := Option.map_eq_some_iff.1 h
    have e2 : i = r.length := by simp at e; omega
    subst e2
    have h2 := scan_fill hi (fun y hy => hL y (List.mem_cons_of_mem _ hy))
    rw [fill_cons]
    by_cases hx : 0 ≤ x
    ·rw [rep_sym hx, List.singleton_append, scan_step ha, h2]
     simp
    ·have h3 := hL x (List.mem_cons_self ..) (by omega)
     have h0 : ar sg x = 0 := by
      unfold ar at ha ⊢
      split
      ·rfl
      ·rename_i h4
       rw [if_neg h4] at ha
       split at ha
       ·omega
       ·omega
     rw [h0] at h2
     rw [rep_var (by omega), Nat.add_comm q 1]
     have h4 := scan_join h3 (by simpa using h2)
     rw [h4, List.length_append]
def sh (k x : Int) : Int := if x < 0 then x - k else x
end fillMath
end
section
namespace plainMath
open fillMath
def strip : List (List Int) → List (List Int)
 | [] => []
 | x :: r => if strip r = [] then (if x = [] then [] else [x]) else x :: strip r
theorem strip_snoc : ∀ (l : List (List Int)) (x : List Int), strip (l ++ [x]) = if x = [] then strip l else l ++ [x]
 | [], x => by
  show strip [x] = _
  by_cases h : x = [] <;> simp [strip, h]
 | y :: r, x => by
  rw [List.cons_append, strip, strip_snoc r x]
  by_cases h : x = []
  ·simp [h, strip]
  ·simp [h]
theorem strip_len : ∀ l : List (List Int), (strip l).length ≤ l.length
 | [] => by simp [strip]
 | x :: r => by
  have h := strip_len r
  rw [strip]
  split
  ·split <;> simp
  ·simp; omega
theorem strip_pad : ∀ l : List (List Int), strip l ++ List.replicate (l.length - (strip l).length) [] = l
 | [] => by simp [strip]
 | x :: r => by
  have h := strip_pad r
  rw [strip]
  by_cases h1 : strip r = []
  ·rw [h1] at h
   rw [if_pos h1]
   have h2 : List.replicate r.length ([] : List Int) = r := by simpa using h
   by_cases h3 : x = []
   ·rw [if_pos h3]
    subst h3
    simp only [List.length_cons, List.length_nil, Nat.sub_zero, List.nil_append]
    rw [List.replicate_succ, h2]
   ·rw [if_neg h3]
    simp only [List.length_cons, List.length_nil]
    rw [show r.length + 1 - (0 + 1) = r.length by omega, h2]
    rfl
  ·rw [if_neg h1]
   simp only [List.length_cons, List.cons_append]
   rw [show r.length + 1 - ((strip r).length + 1) = r.length - (strip r).length by omega, h]
theorem strip_last {l : List (List Int)} {q : Nat} (hq : q < l.length) (h : l.getD q [] ≠ []) : strip (l.take (q + 1)) = l.take (q + 1) := by
 have e : l.take (q + 1) = l.take q ++ [l.getD q []] := by
  rw [List.take_succ_eq_append_getElem hq]
  simp [List.getD, hq]
 rw [e, strip_snoc, if_neg h]
theorem strip_drop {l : List (List Int)} {q : Nat} (hq : q < l.length) (h : l.getD q [] = []) : strip (l.take (q + 1)) = strip (l.take q) := by
 have e : l.take (q + 1) = l.take q ++ [l.getD q []] := by
  rw [List.take_succ_eq_append_getElem hq]
  simp [List.getD, hq]
 rw [e, strip_snoc, if_pos h]
def bare (L : Nat → List Int) (i : Nat) : List Int := if L i = vt i then [] else L i
def rowsL (L : Nat → List Int) (m : Nat) : List (List Int) := (List.range m).map (bare L)
def plainL (L : Nat → List Int) (m : Nat) : List (List Int) := strip (rowsL L m)
theorem rows_len (L : Nat → List Int) (m : Nat) : (rowsL L m).length = m := by simp [rowsL]
theorem rows_succ (L : Nat → List Int) (m : Nat) : rowsL L (m + 1) = rowsL L m ++ [bare L m] := by simp [rowsL, List.range_succ]
theorem plain_same {L : Nat → List Int} {m : Nat} (h : L m = vt m) : plainL L (m + 1) = plainL L m := by
 unfold plainL
 rw [rows_succ, strip_snoc, if_pos (by unfold bare; rw [if_pos h])]
theorem plain_new {L : Nat → List Int} {m : Nat} (h : L m ≠ vt m) (hne : 1 ≤ (L m).length) : plainL L (m + 1) = rowsL L m ++ [L m] := by
 unfold plainL
 have hb : bare L m = L m := by unfold bare; rw [if_neg h]
 rw [rows_succ, strip_snoc, hb, if_neg (fun e => by rw [e] at hne; simp at hne)]
theorem plain_pad (L : Nat → List Int) (m : Nat) : plainL L m ++ List.replicate (m - (plainL L m).length) [] = rowsL L m := by
 have := strip_pad (rowsL L m)
 rw [rows_len] at this
 exact this
theorem plain_more {L : Nat → List Int} {m : Nat} : ∀ {k : Nat}, (∀ i, m ≤ i → L i = vt i) → plainL L (m + k) = plainL L m
 | 0, _ => rfl
 | k + 1, h => by rw [← Nat.add_assoc, plain_same (h _ (by omega)), plain_more h]
theorem plain_24 {L : Nat → List Int} {m : Nat} (hm : m ≤ 24) (h : ∀ i, m ≤ i → L i = vt i) : plainL L 24 = plainL L m := by
 have := plain_more (k := 24 - m) h
 rwa [show m + (24 - m) = 24 by omega] at this
end plainMath
end
section
namespace appAt
open Go.RowKit base ints marks app
set_option maxRecDepth 100000
theorem blk_own (A : Option Addr) (n c : Nat) : (Value.slice A n c).ownBlock = blk A := by cases A <;> rfl
theorem appAllAt {w : World} {ops : Array Oper} {rest : List Oper} {o : Oper} {a : Act} {Q : Exit → Act → World → Prop} (hgd : o.guard = none) (s x : Operand)
  (ho : o.op = .call { callee := .builtin .append, args := #[s, x], argTypes := #[24, 24] })
  (base : Nat) (A : Option Addr) (n c : Nat) (xs : List Int) (hs : a.eval s = .slice A n c) (hown : Own w base (.slice A n c) xs)
  (S : Option Addr) (m c2 B : Nat) (ys : List Int) (hx : a.eval x = .slice S m c2) (hseg : Seg w B S m ys) (hm1 : 1 ≤ m) (hn : n ≤ 2097152) (hm : m ≤ 2097152) (hbase : base ≤ w.heap.size)
  (h : ∀ A' c' w', Own w' base (.slice A' (n + m) c') (xs ++ ys) → w.grownBy w' (blk A) → (blk A' = blk A ∨ blk A' = some w.heap.size) → wpList Try.prog ops Q rest (a.put o.dst (.slice A' (n + m) c')) w') : wpList Try.prog ops Q (o :: rest) a w := by
 obtain ⟨i0, hi, hz0, hz1, hz2⟩ := info_parts info_i64
 have hl : xs.length = n := by
  obtain ⟨A', c', e⟩ := hown.slice
  injection e with _ e _
  exact e.symm
 have ho1 : w.ownsRow base 2 1 (.slice A n c) n (xs.map (Value.int .i64)) := by rw [← hl]; rw [← hl] at hown; exact hown
 obtain ⟨b, off, e, _, hc⟩ := hseg.2 (by omega)
 subst e
 refine wpList_append_own_at w hgd s x 24 ho base 2 i0 (.int .i64 0) 1 8 Try.underlying24 hi hz0 hz1 hz2 rfl (by decide) (.slice A n c) n (xs.map (Value.int .i64)) hs ho1
  ⟨b, off, none⟩ m c2 (ys.map (Value.int .i64)) hx (by simp [hseg.1]) (fun j u hj => ?_) (fun u hu => ?_) (by unfold maxLen; omega) (by omega) hbase ?_
 ·have hjl : j < m := by
   have := (List.getElem?_eq_some_iff.1 hj).1
   simp at this
   have := hseg.1
   omega
  have hcj := hc j hjl
  have e2 : (⟨b, off, none⟩ : Addr).add j = ⟨b, off + j, none⟩ := by unfold Addr.add; split <;> simp_all
  rw [e2, hcj, ← hj]
  have := hseg.1
  simp [List.getD, show j < ys.length by omega]
 ·obtain ⟨y, _, rfl⟩ := List.mem_map.1 hu
  rfl
 ·intro v' w' hown' hg _ hat
  rw [← List.map_append] at hown'
  obtain ⟨A', c', rfl, ho'⟩ := own_of hown'
  rw [blk_own] at hg
  rw [blk_own, blk_own] at hat
  exact h A' c' w' ho' hg hat
theorem Own.kept {w w' : World} {base : Nat} {A : Option Addr} {n c : Nat} {xs : List Int} {r : Option Nat} (h : Own w base (.slice A n c) xs) (hg : w.grownBy w' r) (hne : blk A = none ∨ blk A ≠ r) : Own w' base (.slice A n c) xs :=
 World.ownsRow.kept h hg (by rw [blk_own]; exact hne)
end appAt
end
section
namespace segs
open Go.RowKit base ints marks app sym appAt
set_option maxRecDepth 100000
def Cap (A : Option Addr) (n c : Nat) : Prop := n ≤ c ∧ c ≤ 9223372036854775807 ∧ (A = none → c = 0)
def Segs (w : World) (B : Nat) (A : Option Addr) (n : Nat) (xss : List (List Int)) : Prop :=
 xss.length = n ∧ (0 < n → ∃ b off, A = some ⟨b, off, none⟩ ∧ b < B ∧ ∀ j, j < n → ∃ A' n' c', w.cell? ⟨b, off + j, none⟩ = some (.slice A' n' c') ∧ Seg w B A' n' (xss.getD j []) ∧ Cap A' n' c')
section
variable {w w' : World} {B B' n : Nat} {A : Option Addr} {xss : List (List Int)}
theorem Segs.spot (h : Segs w B A n xss) {k : Nat} (hk : k < n) : ∃ b off A' n' c', A = some ⟨b, off, none⟩ ∧ b < B ∧ w.cell? ⟨b, off + k, none⟩ = some (.slice A' n' c') ∧ Seg w B A' n' (xss.getD k []) ∧ Cap A' n' c' := by
 obtain ⟨b, off, e, hb, hc⟩ := h.2 (by omega)
 obtain ⟨A', n', c', h1, h2, h3⟩ := hc k hk
 exact ⟨b, off, A', n', c', e, hb, h1, h2, h3⟩
theorem Segs.keep (h : Segs w B A n xss) (hk : ∀ p : Addr, p.block < B → w'.cell? p = w.cell? p) : Segs w' B A n xss :=
 ⟨h.1, fun hn => by
  obtain ⟨b, off, e, hb, hc⟩ := h.2 hn
  refine ⟨b, off, e, hb, fun j hj => ?_⟩
  obtain ⟨A', n', c', h1, h2, h3⟩ := hc j hj
  exact ⟨A', n', c', (hk ⟨b, off + j, none⟩ hb).trans h1, h2.keep hk, h3⟩⟩
theorem Segs.more (h : Segs w B A n xss) (hB : B ≤ B') : Segs w B' A n xss :=
 ⟨h.1, fun hn => by
  obtain ⟨b, off, e, hb, hc⟩ := h.2 hn
  refine ⟨b, off, e, by omega, fun j hj => ?_⟩
  obtain ⟨A', n', c', h1, h2, h3⟩ := hc j hj
  exact ⟨A', n', c', h1, h2.more hB, h3⟩⟩
theorem Segs.below (h : Segs w B A n xss) (hb : Below B w w') : Segs w' B A n xss := h.keep fun _ hp => hb.cell hp
theorem Segs.next (h : Segs w w.heap.size A n xss) (hb : Below w.heap.size w w') : Segs w' w'.heap.size A n xss := (h.below hb).more hb.size
structure Btw (lo hi : Nat) (w w' : World) : Prop where
 os : w'.os = w.os
 tape : w'.tape = w.tape
 output : w'.output = w.output
 size : w.heap.size ≤ w'.heap.size
 block : ∀ k, k < w.heap.size → (k < lo ∨ hi ≤ k) → w'.heap[k]? = w.heap[k]?
theorem Btw.trans {lo hi : Nat} {a b c : World} (h : Btw lo hi a b) (k : Btw lo hi b c) : Btw lo hi a c :=
 ⟨k.os.trans h.os, k.tape.trans h.tape, k.output.trans h.output, Nat.le_trans h.size k.size, fun i hi' ho => (k.block i (Nat.lt_of_lt_of_le hi' h.size) ho).trans (h.block i hi' ho)⟩
theorem Btw.of_grown {lo hi : Nat} {r : Option Nat} (h : w.grownBy w' r) (hr : ∀ k, r = some k → lo ≤ k ∧ k < hi) : Btw lo hi w w' :=
 ⟨h.os, h.tape, h.output, h.size, fun k hk ho => h.block k hk (fun e => by have := hr k e.symm; omega)⟩
theorem Btw.below {lo hi : Nat} (h : Btw lo hi w w') (hB : B ≤ lo) (hs : B ≤ w.heap.size) : Below B w w' := ⟨h.os, h.tape, h.output, h.size, fun k hk => h.block k (by omega) (.inl (by omega))⟩
theorem Below.btw {a : World} {lo hi : Nat} (h : Below B a w) (k : Btw lo hi w w') (hB : B ≤ lo) (hs : B ≤ w.heap.size) : Below B a w' := h.trans (k.below hB hs)
theorem Row.btw {g : Nat} {t : TypeId} {cs : Array Value} {lo hi : Nat} (h : Row w g t cs) (hb : Btw lo hi w w') (hg : g < lo ∨ hi ≤ g) : Row w' g t cs := (hb.block g h.lt hg).trans h
theorem Row.ne_ {g g' : Nat} {t t' : TypeId} {cs cs' : Array Value} (h : Row w g t cs) (h' : Row w g' t' cs') (hne : t ≠ t') : g ≠ g' := by
 rintro rfl
 unfold Row at h h'
 rw [h] at h'
 injection h' with h'
 injection h' with _ ht
 exact hne ht
end
def Inn (w : World) (lo hi : Nat) (v : Value) (xs : List Int) : Prop := ∃ A c, v = .slice A xs.length c ∧ Own w lo v xs ∧ ∀ k, blk A = some k → k < hi
def Apart (n : Nat) (vs : List Value) : Prop := ∀ i j k, i < j → j < n → (vs.getD i undef).ownBlock = some k → (vs.getD j undef).ownBlock ≠ some k
structure Owns (w : World) (lo hi : Nat) (A : Option Addr) (n c : Nat) (xss : List (List Int)) : Prop where
 len : xss.length = n
 row : ∃ vs : List Value, w.ownsRow lo 24 1 (.slice A n c) n vs ∧ (∀ j, j < n → Inn w lo hi (vs.getD j undef) (xss.getD j [])) ∧ Apart n vs
 top : ∀ k, blk A = some k → k < hi
section
variable {w w' : World} {lo hi n c : Nat} {A : Option Addr} {xss : List (List Int)}
theorem own_form {base n c : Nat} {A : Option Addr} {vs : List Value} {t : TypeId} (h : w.ownsRow base t 1 (.slice A n c) n vs) : (A = none ∧ n = 0 ∧ c = 0 ∧ vs = []) ∨
  ∃ g cur, A = some ⟨g, 0, none⟩ ∧ base ≤ g ∧ Row w g t cur ∧ n ≤ c ∧ cur.size = c ∧ c ≤ 9223372036854775807 ∧ vs.length = n ∧ ∀ j, j < n → cur[j]? = some (vs.getD j undef) := by
 have hl : vs.length = n := by have := h.1; omega
 obtain ⟨h1, h2⟩ := h
 rcases h2 with ⟨e, h0⟩ | ⟨g, cap, cur, e, hb, hg, hn, hm, hs, ht⟩
 ·have e1 := (Value.slice.inj e)
  obtain ⟨rfl, rfl, rfl⟩ := e1
  exact .inl ⟨rfl, rfl, rfl, List.eq_nil_of_length_eq_zero hl⟩
 ·have e1 := (Value.slice.inj e)
  obtain ⟨rfl, -, rfl⟩ := e1
  refine .inr ⟨g, cur, rfl, hb, hg, hn, by omega, by unfold maxLen at hm; omega, hl, fun j hj => ?_⟩
  have h3 : (cur.toList.take (n * 1))[j]? = vs[j]? := by rw [ht]
  rw [List.getElem?_take, if_pos (by omega)] at h3
  rw [← Array.getElem?_toList, h3]
  simp [List.getD, show j < vs.length by omega]
theorem Inn.blk {v : Value} {xs : List Int} (h : Inn w lo hi v xs) : ∀ k, v.ownBlock = some k → lo ≤ k ∧ k < hi ∧ k < w.heap.size := fun k hk => by
 obtain ⟨A, c, rfl, ho, ht⟩ := h
 have h1 := World.ownsRow.lt ho k hk
 rw [blk_own] at hk
 exact ⟨h1.1, ht k hk, h1.2⟩
theorem Inn.kept {v : Value} {xs : List Int} {r : Option Nat} (h : Inn w lo hi v xs) (hg : w.grownBy w' r) (hne : v.ownBlock = none ∨ v.ownBlock ≠ r) : Inn w' lo hi v xs := by
 obtain ⟨A, c, rfl, ho, ht⟩ := h
 exact ⟨A, c, rfl, World.ownsRow.kept ho hg hne, ht⟩
theorem Inn.next {v : Value} {xs : List Int} (h : Inn w lo hi v xs) (hb : Below w.heap.size w w') : Inn w' lo hi v xs := by
 obtain ⟨A, c, rfl, ho, ht⟩ := h
 exact ⟨A, c, rfl, ho.next hb, ht⟩
theorem Inn.cap {v : Value} {xs : List Int} (h : Inn w lo hi v xs) : ∃ A c, v = .slice A xs.length c ∧ Own w lo v xs ∧ Cap A xs.length c := by
 obtain ⟨A, c, rfl, ho, ht⟩ := h
 refine ⟨A, c, rfl, ho, ?_⟩
 rcases own_form (n := xs.length) (vs := xs.map (Value.int .i64)) ho with ⟨rfl, h1, rfl, _⟩ | ⟨g, cur, rfl, _, _, h1, h2, h3, _⟩
 ·exact ⟨by omega, by omega, fun _ => rfl⟩
 ·exact ⟨h1, h3, fun e => by cases e⟩
theorem Owns.segs (h : Owns w lo hi A n c xss) : Segs w w.heap.size A n xss := by
 obtain ⟨vs, hr, hi', _⟩ := h.row
 refine ⟨h.len, fun hn => ?_⟩
 rcases own_form hr with ⟨_, e, _⟩ | ⟨g, cur, rfl, _, hrow, _, _, _, _, hc⟩
 ·omega
 ·refine ⟨g, 0, rfl, hrow.lt, fun j hj => ?_⟩
  obtain ⟨A', c', e, ho, hcap⟩ := (hi' j hj).cap
  refine ⟨A', _, c', ?_, Own.seg (by rw [← e]; exact ho), hcap⟩
  rw [Nat.zero_add, hrow.cell j, hc j hj, e]
theorem Owns.cap (h : Owns w lo hi A n c xss) : Cap A n c := by
 obtain ⟨vs, hr, _⟩ := h.row
 rcases own_form hr with ⟨rfl, h1, rfl, _⟩ | ⟨g, cur, rfl, _, _, h1, h2, h3, _⟩
 ·exact ⟨by omega, by omega, fun _ => rfl⟩
 ·exact ⟨h1, h3, fun e => by cases e⟩
theorem Owns.next (h : Owns w lo hi A n c xss) (hb : Below w.heap.size w w') : Owns w' lo hi A n c xss := by
 obtain ⟨h1, ⟨vs, hr, hi', ha⟩, h3⟩ := h
 refine ⟨h1, ⟨vs, ?_, fun j hj => (hi' j hj).next hb, ha⟩, h3⟩
 exact World.ownsRow.kept hr ⟨hb.os, hb.tape, hb.output, hb.size, fun k hk _ => hb.block k hk⟩ (row := none) (by cases (Value.slice A n c).ownBlock <;> simp)
theorem Owns.wider {lo' hi' : Nat} (h : Owns w lo hi A n c xss) (h1 : lo' ≤ lo) (h2 : hi ≤ hi') : Owns w lo' hi' A n c xss := by
 obtain ⟨h3, ⟨vs, hr, hin, ha⟩, h5⟩ := h
 have low : ∀ {t : TypeId} {v : Value} {m : Nat} {us : List Value}, w.ownsRow lo t 1 v m us → w.ownsRow lo' t 1 v m us := fun {t v m us} ho => by
  obtain ⟨q1, q2⟩ := ho
  refine ⟨q1, ?_⟩
  rcases q2 with q2 | ⟨g, cap, cur, hv, hg, r⟩
  ·exact .inl q2
  ·exact .inr ⟨g, cap, cur, hv, Nat.le_trans h1 hg, r⟩
 refine ⟨h3, ⟨vs, low hr, fun j hj => ?_, ha⟩, fun k hk => Nat.lt_of_lt_of_le (h5 k hk) h2⟩
 obtain ⟨A', c', e, ho, ht⟩ := hin j hj
 exact ⟨A', c', e, low ho, fun k hk => Nat.lt_of_lt_of_le (ht k hk) h2⟩
theorem Owns.btw {lo' hi' : Nat} (h : Owns w lo hi A n c xss) (hb : Btw lo' hi' w w') (ho : hi ≤ lo' ∨ hi' ≤ lo) : Owns w' lo hi A n c xss := by
 obtain ⟨h1, ⟨vs, hr, hin, ha⟩, h3⟩ := h
 have key : ∀ {t : TypeId} {m : Nat} {v : Value} {us : List Value}, w.ownsRow lo t 1 v m us → (∀ k, v.ownBlock = some k → k < hi) → w'.ownsRow lo t 1 v m us := fun {t m v us} hr ht => by
  obtain ⟨q1, q2⟩ := hr
  refine ⟨q1, ?_⟩
  rcases q2 with q2 | ⟨g, cap, cur, hv, hg, hh, r⟩
  ·exact .inl q2
  ·have h5 := ht g (by rw [hv]; rfl)
   refine .inr ⟨g, cap, cur, hv, hg, ?_, r⟩
   have hlt : g < w.heap.size := (Array.getElem?_eq_some_iff.1 hh).1
   exact (hb.block g hlt (by omega)).trans hh
 refine ⟨h1, ⟨vs, key hr (fun k hk => h3 k (by rw [blk_own] at hk; exact hk)), fun j hj => ?_, ha⟩, h3⟩
 obtain ⟨A', c', e, ho', ht⟩ := hin j hj
 exact ⟨A', c', e, key ho' (fun k hk => ht k (by rw [e, blk_own] at hk; exact hk)), ht⟩
theorem Owns.nil (w : World) (lo hi : Nat) : Owns w lo hi none 0 0 [] :=
 ⟨rfl, ⟨[], World.ownsRow_nil w lo 24 1, fun j hj => absurd hj (Nat.not_lt_zero _), fun i j k _ hj => absurd hj (Nat.not_lt_zero _)⟩, fun k hk => by cases hk⟩
end
theorem Inn.ne {w : World} {lo hi g : Nat} {v : Value} {xs : List Int} {cs : Array Value} (h : Inn w lo hi v xs) (hr : Row w g 24 cs) : v.ownBlock ≠ some g := by
 obtain ⟨A, c, rfl, ho, _⟩ := h
 rcases own_form (n := xs.length) ho with ⟨rfl, _⟩ | ⟨g', cur', rfl, _, hrow', _⟩
 ·intro e; cases e
 ·intro e
  have e2 : g' = g := by simpa [Value.ownBlock] using e
  exact Row.ne_ hr hrow' (by decide) e2.symm
theorem Inn.wider {w : World} {lo hi lo' hi' : Nat} {v : Value} {xs : List Int} (h : Inn w lo hi v xs) (h1 : lo' ≤ lo) (h2 : hi ≤ hi') : Inn w lo' hi' v xs := by
 obtain ⟨A, c, rfl, ho, ht⟩ := h
 exact ⟨A, c, rfl, Own.lower ho h1, fun k hk => Nat.lt_of_lt_of_le (ht k hk) h2⟩
theorem rowsOf {w : World} {base g n c : Nat} {t : TypeId} {cs : Array Value} (hr : Row w g t cs) (hs : cs.size = c) (hn : n ≤ c) (hm : c ≤ 9223372036854775807) (hb : base ≤ g) : w.ownsRow base t 1 (.slice (some ⟨g, 0, none⟩) n c) n (cs.toList.take n) :=
 ⟨by simp; omega, .inr ⟨g, c, cs, rfl, hb, hr, hn, by unfold maxLen; omega, by omega, by simp⟩⟩
end segs
end
section
namespace segsHelp
open Go.RowKit base ints sig cursor marks app sym appAt segs
set_option maxRecDepth 100000
theorem info_list : (Try.prog.info? 24).map (fun i => (i.zero, i.size, i.bytes)) = some (some (.slice none 0 0), 1, 24) := by kernel_rfl
theorem run_make_lists (n : Nat) (hn : n ≤ 1048576) (W : World) : (Instr.makeSlice 29 (.int .i64 (n : Int)) (.int .i64 (n : Int))).run Try.prog W =
  .ok (.slice (some ⟨W.heap.size, 0, none⟩) n n) (W.alloc (.cells (madeCells #[.slice none 0 0] n) 24)) := by
 obtain ⟨i0, hi, hz0, hz1, hz2⟩ := info_parts info_list
 have hr := run_make (P := Try.prog) W 29 24 i0 _ Try.underlying29 hi hz0 .i64 .i64 n n (by omega) (by omega) (by rw [hz2]; omega) (by omega)
 simpa [hz1, Value.cells] using hr
def HeadTo (w : World) (n : Nat) (xss : List (List Int)) (i : Value) (wr : World) : Prop :=
 ∃ (k : Nat) (cs : Array Value), k ≤ n ∧ i = .int .i64 k ∧ Row wr w.heap.size 24 cs ∧ cs.size = n ∧ (∀ j, j < k → Inn wr (w.heap.size + 1) wr.heap.size (cs.toList.getD j undef) (xss.getD j [])) ∧ Apart k cs.toList ∧ Below w.heap.size w wr
def sumL (xss : List (List Int)) (k : Nat) : Nat := ((xss.take k).map List.length).sum
def tot (xss : List (List Int)) : Nat := xss.length + sumL xss xss.length
theorem sumL_succ {xss : List (List Int)} {k : Nat} (h : k < xss.length) : sumL xss (k + 1) = sumL xss k + (xss.getD k []).length := by
 unfold sumL
 rw [List.take_succ_eq_append_getElem h, List.map_append, List.sum_append]
 simp [List.getD, h]
theorem sumL_mono {xss : List (List Int)} : ∀ {k m : Nat}, k ≤ m → m ≤ xss.length → sumL xss k ≤ sumL xss m
 | k, 0, h, _ => by rw [show k = 0 by omega]; exact Nat.le_refl _
 | k, m + 1, h, hm => by
  by_cases e : k = m + 1
  ·rw [e]; exact Nat.le_refl _
  ·have := sumL_mono (xss := xss) (show k ≤ m by omega) (by omega)
   rw [sumL_succ (by omega)]
   omega
theorem tot_each {xss : List (List Int)} {L : Nat} (h : tot xss ≤ L) : ∀ j, (xss.getD j []).length ≤ L := fun j => by
 by_cases hj : j < xss.length
 ·have h1 := sumL_succ hj
  have h2 := sumL_mono (xss := xss) (show j + 1 ≤ xss.length by omega) (Nat.le_refl _)
  unfold tot at h
  omega
 ·rw [show xss.getD j [] = [] by simp [List.getD, hj]]
  simp
theorem tot_len {xss : List (List Int)} {L n : Nat} (hl : xss.length = n) (h : tot xss ≤ L) : n ≤ L := by unfold tot at h; omega
end segsHelp
end
section
namespace segsMark
open Go.RowKit base ints sig cursor marks app sym appAt segs segsHelp
set_option maxRecDepth 100000
end segsMark
end
section
namespace kinds
open Go.RowKit base ints sig cursor marks app sym appAt segs segsHelp segsMark
set_option maxRecDepth 100000
def Ownd (w : World) (lo hi : Nat) (A : Option Addr) (n c : Nat) (xs : List Int) : Prop := Own w lo (.slice A n c) xs ∧ ∀ k, blk A = some k → k < hi
section
variable {w w' : World} {lo hi n c : Nat} {A : Option Addr} {xs : List Int}
theorem Ownd.next (h : Ownd w lo hi A n c xs) (hb : Below w.heap.size w w') : Ownd w' lo hi A n c xs := ⟨h.1.next hb, h.2⟩
theorem Ownd.cap (h : Ownd w lo hi A n c xs) : Cap A n c := by
 have hl := Own.len h.1
 rcases own_form (n := n) (vs := xs.map (Value.int .i64)) (by rw [hl]; have := h.1; rw [hl] at this; exact this) with ⟨rfl, h1, rfl, _⟩ | ⟨g, cur, rfl, _, _, h1, h2, h3, _⟩
 ·exact ⟨by omega, by omega, fun _ => rfl⟩
 ·exact ⟨h1, h3, fun e => by cases e⟩
theorem drewN_below (w : World) (d : Nat) : Below w.heap.size w (w.drewN d) := ⟨rfl, rfl, rfl, Nat.le_refl _, fun _ _ => rfl⟩
end
theorem owns_put {w : World} {lo hi n c b : Nat} {A : Option Addr} {xss : List (List Int)} {t : TypeId} {cs : Array Value} (h : Owns w lo hi A n c xss) (hr : Row w b t cs) (hb : b < lo) (i : Nat) (u : Value) : Owns (w.setCell ⟨b, i, none⟩ u) lo hi A n c xss :=
 h.btw (lo' := b) (hi' := b + 1) (Btw.of_grown (grown_put (World.grownBy.refl _ _) _ _) (fun k hk => by injection hk; omega)) (.inr (by omega))
end kinds
end
section
namespace look
open Go.RowKit base ints marks app sym segs fillMath
set_option maxRecDepth 100000
theorem varTerm (i : Int) (w : World) (h0 : 0 ≤ i) (h1 : i ≤ 1000) :
  Calls Try.prog 87 #[.int .i64 i] w (AnsList w [-1 - i]) := by
 have F : AnsList w [-1 - i] (.returned (.slice (some ⟨w.heap.size, 0, none⟩) 1 1)) (w.alloc (.cells #[.int .i64 (-1 - i)] 2)) :=
  ⟨_, 1, 1, rfl, Own.of_row (Row.new _ _ _) rfl rfl (Nat.le_refl _) (by omega) (Nat.le_refl _) (fun j hj => by
   have e : j = 0 := by omega
   subst e
   rfl), (Below.refl _ _).alloc (Nat.le_refl _) _⟩
 have HF := Lib.hid F
 clear F
 go_enter Try.func87, Try.ntmps87
 go_wp2
 go_ret
 exact HF.out
def AnsLook (B : Nat) (w : World) (ys : List Int) (e : Ending) (w' : World) : Prop := ∃ A n c, e = .returned (.slice A n c) ∧ Seg w' w'.heap.size A n ys ∧ Cap A n c ∧ (∀ k, blk A = some k → k < B ∨ w.heap.size ≤ k) ∧ Below w.heap.size w w'
def Looks (g : Nat) (lb : Array Value) (w : World) (L : Nat → List Int) (N : Nat) : Prop :=
 ∀ (W : World) (i : Nat), Below w.heap.size w W → i < N → Calls Try.prog g (#[.int .i64 (i : Int)] ++ lb) W (AnsLook w.heap.size W (L i))
theorem Looks.next {g : Nat} {lb : Array Value} {w w' : World} {L : Nat → List Int} {N : Nat} (h : Looks g lb w L N) (hb : Below w.heap.size w w') : Looks g lb w' L N :=
 fun W i hW hi => (h W i (next_trans hb hW) hi).mono fun _ _ ⟨A, n, c, he, h1, h2, h3, h4⟩ => ⟨A, n, c, he, h1, h2, fun k hk => by have := h3 k hk; have := hb.size; omega, h4⟩
theorem own_cap {w : World} {base : Nat} {A : Option Addr} {n c : Nat} {xs : List Int} (h : Own w base (.slice A n c) xs) : Cap A n c := by
 have hl := Own.len h
 rcases own_form (n := n) (vs := xs.map (Value.int .i64)) (by rw [hl]; rw [hl] at h; exact h) with ⟨rfl, h1, rfl, _⟩ | ⟨g, cur, rfl, _, _, h1, h2, h3, _⟩
 ·exact ⟨by omega, by omega, fun _ => rfl⟩
 ·exact ⟨h1, h3, fun e => by cases e⟩
theorem look_new {w w' : World} {B : Nat} {ys : List Int} {A : Option Addr} {n c : Nat} (ho : Own w' w.heap.size (.slice A n c) ys) (hb : Below w.heap.size w w') : AnsLook B w ys (.returned (.slice A n c)) w' :=
 ⟨A, n, c, rfl, Own.seg ho, own_cap ho, fun k hk => .inr (World.ownsRow.lt ho k (by cases A with | none => cases hk | some a => exact hk)).1, hb⟩
end look
end
section
open Go.Lib (hid)
namespace same
open Go.RowKit base ints
set_option maxHeartbeats 400000 in
theorem specSame (A A' : Option Addr) (n m c c' : Nat) (xs ys : List Int) (w : World) (h : Seg w w.heap.size A n xs) (h' : Seg w w.heap.size A' m ys) (hn : n ≤ 1048576) (hm : m ≤ 1048576) :
  Calls Try.prog 40 #[.slice A n c, .slice A' m c'] w (AnsSame w xs ys) := by
 by_cases hnm : n = m
 ·subst hnm
  go_enter Try.func40, Try.ntmps40
  go_wp2
  go_loopw [5] (fun i wr => HeadSame w n xs ys i wr) (fun i _ => n - (intOf i).toNat)
  case atStart => exact ⟨0, 0, Nat.zero_le _, rfl, rfl, fun j h => absurd h (Nat.not_lt_zero _)⟩
  case round =>
   obtain ⟨k, d, hk, rfl, rfl, hc⟩ := hrel
   by_cases hlt : k < n
   ·obtain ⟨b, off, x, rfl, -, hx, ex⟩ := h.spot hlt
    obtain ⟨b', off', y, rfl, -, hx', ey⟩ := h'.spot hlt
    by_cases he : x = y
    ·subst he
     have S := hid (alike_step (w := w) hlt hc ex ey)
     clear hc h h' ex ey
     go_wp2
     go_quiet (fail)
     go_wp2
     go_roundw
     case rel => exact S.out _
     case measure => simp [intOf]; omega
    ·have S := hid (same_not (w := w) ex ey he)
     have hne : (x != y) = true := by simp [he]
     clear hc h h' ex ey he
     go_wp2
     go_quiet (fail)
     go_wp2
     go_ret
     rw [World.drewN_drewN]
     exact S.out _
   ·have S := hid (same_yes (w := w) h.1 h'.1 hlt hc)
    clear hc h h'
    go_wp2
    go_ret
    exact S.out _
 ·have S := hid (same_len (w := w) h.1 h'.1 hnm)
  have hne : ((n : Int) != (m : Int)) = true := by simp; omega
  clear h h'
  go_enter Try.func40, Try.ntmps40
  go_wp2
  go_ret
  exact S.out
set_option maxHeartbeats 400000 in
theorem libEqual (A A' : Option Addr) (n m c c' : Nat) (xs ys : List Int) (w : World) (h : Seg w w.heap.size A n xs) (h' : Seg w w.heap.size A' m ys) (hn : n ≤ 1048576) (hm : m ≤ 1048576) :
  Calls Try.prog 50 #[.slice A n c, .slice A' m c'] w (AnsSame w xs ys) := by
 by_cases hnm : n = m
 ·subst hnm
  go_enter Try.func50, Try.ntmps50
  go_wp2
  go_loopw [13] (fun i wr => HeadSame w n xs ys i wr) (fun i _ => n - (intOf i).toNat)
  case atStart => exact ⟨0, 0, Nat.zero_le _, rfl, rfl, fun j h => absurd h (Nat.not_lt_zero _)⟩
  case round =>
   obtain ⟨k, d, hk, rfl, rfl, hc⟩ := hrel
   by_cases hlt : k < n
   ·obtain ⟨b, off, x, rfl, -, hx, ex⟩ := h.spot hlt
    obtain ⟨b', off', y, rfl, -, hx', ey⟩ := h'.spot hlt
    by_cases he : x = y
    ·subst he
     have S := hid (alike_step (w := w) hlt hc ex ey)
     clear hc h h' ex ey
     go_wp2
     go_quiet (fail)
     go_wp2
     go_roundw
     case rel => exact S.out _
     case measure => simp [intOf]; omega
    ·have S := hid (same_not (w := w) ex ey he)
     have hne : (x != y) = true := by simp [he]
     clear hc h h' ex ey he
     go_wp2
     go_quiet (fail)
     go_wp2
     go_ret
     rw [World.drewN_drewN]
     exact S.out _
   ·have S := hid (same_yes (w := w) h.1 h'.1 hlt hc)
    clear hc h h'
    go_wp2
    go_ret
    exact S.out _
 ·have S := hid (same_len (w := w) h.1 h'.1 hnm)
  have hne : ((n : Int) != (m : Int)) = true := by simp; omega
  clear h h'
  go_enter Try.func50, Try.ntmps50
  go_wp2
  go_ret
  exact S.out
theorem implSame (A A' : Option Addr) (n m c c' : Nat) (xs ys : List Int) (w : World) (h : Seg w w.heap.size A n xs) (h' : Seg w w.heap.size A' m ys) (hn : n ≤ 1048576) (hm : m ≤ 1048576) :
  Calls Try.prog 16 #[.slice A n c, .slice A' m c'] w (AnsSame w xs ys) := by
 have L := hid (libEqual A A' n m c c' xs ys w h h' hn hm)
 clear h h'
 go_enter Try.func16, Try.ntmps16
 go_wp2_with fail
 refine L.out.mono ?_
 rintro e w' ⟨rfl, d, rfl⟩
 go_wp2
 go_ret
 exact ⟨rfl, d, rfl⟩
end same
end
section
namespace sub
open Go.RowKit base ints marks app sym
theorem Seg.cut {w : World} {B b off m a j : Nat} {t : List Int} (h : Seg w B (some ⟨b, off, none⟩) m t) (hj : a + j ≤ m) : Seg w B (some ⟨b, off + a, none⟩) j ((t.drop a).take j) := by
 refine ⟨by have := h.1; simp; omega, fun hn => ?_⟩
 obtain ⟨b', off', e, hb, hc⟩ := h.2 (by omega)
 injection e with e
 injection e with e1 e2
 subst e1 e2
 refine ⟨_, _, rfl, hb, fun q hq => ?_⟩
 rw [Nat.add_assoc, hc (a + q) (by omega)]
 simp [List.getD, List.getElem?_take, hq]
set_option maxHeartbeats 400000 in
theorem copyInts (S : Option Addr) (m c : Nat) (ys : List Int) (w : World) (h : Seg w w.heap.size S m ys) (hnone : S = none → c = 0) (hm : m ≤ 1048576) :
  Calls Try.prog 81 #[.slice S m c] w (AnsList w ys) := by
 have ho := own_empty w w.heap.size (Nat.le_refl _)
 have bb : Below w.heap.size w (w.alloc (.cells #[] 2)) := (Below.refl _ _).alloc (Nat.le_refl _) _
 have hs := h.alloc (Nat.le_refl _) (.cells #[] 2)
 have HN := Lib.hid hnone
 clear hnone h
 go_enter Try.func81, Try.ntmps81
 go_wp2_with (at_builtin; refine appAll rfl _ _ rfl w.heap.size (some ⟨w.heap.size, 0, none⟩) 0 0 [] rfl ho S m c w.heap.size ys rfl hs HN.out (by omega) (by omega) (by simp) ?_; intro A' c' w' ho' b')
 simp only [Nat.zero_add, List.nil_append] at ho'
 have F : AnsList w ys (.returned (.slice A' m c')) w' := ⟨A', m, c', rfl, ho', bb.trans b'⟩
 have HF := Lib.hid F
 clear F ho' b' bb hs ho
 go_wp2
 go_ret
 exact HF.out
set_option maxHeartbeats 400000 in
theorem cloneInts (b off m c : Nat) (ys : List Int) (w : World) (h : Seg w w.heap.size (some ⟨b, off, none⟩) m ys) (hm : m ≤ 1048576) :
  Calls Try.prog 101 #[.slice (some ⟨b, off, none⟩) m c] w (AnsList w ys) := by
 have ho := own_empty w w.heap.size (Nat.le_refl _)
 have bb : Below w.heap.size w (w.alloc (.cells #[] 2)) := (Below.refl _ _).alloc (Nat.le_refl _) _
 have hs := h.alloc (Nat.le_refl _) (.cells #[] 2)
 clear h
 have hnil : ∀ (w : World) (a : Option Addr) (n c n' c' : Nat), (binOp .eql 24 (.slice a n c) (.slice none n' c')).run Try.prog w = .ok (.bool a.isNone) w := fun w a n c n' c' => Lib.run_eql_slice_nil w _ _ a n c n' c' Try.underlying24
 go_enter Try.func101, Try.ntmps101
 go_wp2_with (at_builtin; refine appAll rfl _ _ rfl w.heap.size (some ⟨w.heap.size, 0, none⟩) 0 0 [] rfl ho (some ⟨b, off, none⟩) m c w.heap.size ys rfl hs (fun e => by cases e) (by omega) (by omega) (by simp) ?_; intro A' c' w' ho' b')
 simp only [Nat.zero_add, List.nil_append] at ho'
 have F : AnsList w ys (.returned (.slice A' m c')) w' := ⟨A', m, c', rfl, ho', bb.trans b'⟩
 have HF := Lib.hid F
 clear F ho' b' bb hs ho hnil
 go_wp2
 go_ret
 exact HF.out
end sub
end
section
open Go.Lib (hid)
namespace plain
open Go.RowKit base ints cursor same marks app appAt sym sub segs segsHelp kinds fillMath Go.Proofs.Ytgfgaeagbipobaa.look plainMath
set_option maxRecDepth 100000
theorem Inn.none_ (w : World) (lo hi : Nat) : Inn w lo hi (.slice none 0 0) [] := ⟨none, 0, rfl, Own.nil _ _, fun k hk => by cases hk⟩
theorem inn_own {w : World} {lo : Nat} {A : Option Addr} {n c : Nat} {xs : List Int} (h : Own w lo (.slice A n c) xs) : Inn w lo w.heap.size (.slice A n c) xs := by
 have hl := Own.len h
 subst hl
 exact ⟨A, c, rfl, h, fun k hk => (World.ownsRow.lt h k (by rw [blk_own]; exact hk)).2⟩
set_option maxHeartbeats 1000000 in
theorem appS1 {w : World} {ops : Array Oper} {rest : List Oper} {o : Oper} {a : Act} {Q : Exit → Act → World → Prop} (hgd : o.guard = none) (s x : Operand)
  (ho : o.op = .call { callee := .builtin .append, args := #[s, x], argTypes := #[29, 29] })
  (lo mid : Nat) (A : Option Addr) (n c : Nat) (xss : List (List Int)) (hs : a.eval s = .slice A n c) (hown : Owns w lo mid A n c xss)
  (g c2 : Nat) (v : Value) (ys : List Int) (hx : a.eval x = .slice (some ⟨g, 0, none⟩) 1 c2) (hy : w.cell? ⟨g, 0, none⟩ = some v) (hv : Inn w mid w.heap.size v ys) (hn : n ≤ 1048576) (hlo : lo ≤ mid) (hmid : mid ≤ w.heap.size)
  (h : ∀ A' c' w', Owns w' lo w'.heap.size A' (n + 1) c' (xss ++ [ys]) → w.grownBy w' (blk A) → (blk A' = blk A ∨ blk A' = some w.heap.size) → Below lo w w' → wpList Try.prog ops Q rest (a.put o.dst (.slice A' (n + 1) c')) w') : wpList Try.prog ops Q (o :: rest) a w := by
 obtain ⟨i0, hi, hz0, hz1, hz2⟩ := info_parts info_list
 obtain ⟨hlen, ⟨vs, hr, hin, hap⟩, htop⟩ := hown
 have hvl : vs.length = n := by have := hr.1; omega
 have hvc : v.oneCell' = true := by obtain ⟨A1, c1, rfl, _⟩ := hv; rfl
 refine wpList_append_own_at w hgd s x 29 ho lo 24 i0 (.slice none 0 0) 1 24 Try.underlying29 hi hz0 hz1 hz2 rfl (by decide) (.slice A n c) n vs hs hr
  ⟨g, 0, none⟩ 1 c2 [v] hx rfl (fun j u hj => ?_) (fun u hu => ?_) (by unfold maxLen; omega) (by omega) (by omega) ?_
 ·match j, hj with
  | 0, hj => simp at hj; subst hj; simpa [Addr.add] using hy
 ·simp at hu; subst hu; exact hvc
 ·intro v' w' hown' hg _ hat
  have hform : ∃ A' c', v' = .slice A' (n + 1) c' := by
   rcases hown'.2 with ⟨_, h0⟩ | ⟨g', cap, cur, e, _⟩
   ·omega
   ·exact ⟨_, _, e⟩
  obtain ⟨A', c', rfl⟩ := hform
  rw [blk_own] at hg
  rw [blk_own, blk_own] at hat
  have hsz := hg.size
  have hne : ∀ {u : Value} {zs : List Int} {l2 h2 : Nat}, Inn w l2 h2 u zs → u.ownBlock = none ∨ u.ownBlock ≠ blk A := fun {u zs l2 h2} hu => by
   rcases own_form hr with ⟨rfl, _⟩ | ⟨g', cur, rfl, _, hrow, _⟩
   ·cases e : u.ownBlock with
    | none => exact .inl rfl
    | some z => exact .inr (fun e2 => by cases e2)
   ·exact .inr (hu.ne hrow)
  have hget : ∀ j, j < n → (vs ++ [v]).getD j undef = vs.getD j undef := fun j hj => by simp [List.getD, List.getElem?_append_left (show j < vs.length by omega)]
  have hget2 : ∀ j, j < n → (xss ++ [ys]).getD j [] = xss.getD j [] := fun j hj => by simp [List.getD, List.getElem?_append_left (show j < xss.length by omega)]
  have hnew : (vs ++ [v]).getD n undef = v := by simp [List.getD, ← hvl]
  have hnew2 : (xss ++ [ys]).getD n [] = ys := by simp [List.getD, ← hlen]
  refine h A' c' w' ⟨by simp [hlen], ⟨vs ++ [v], hown', fun j hj => ?_, fun i j k hij hj e1 e2 => ?_⟩, fun k hk => (World.ownsRow.lt hown' k (by rw [blk_own]; exact hk)).2⟩ hg hat ?_
  ·by_cases e : j = n
   ·subst e
    rw [hnew, hnew2]
    exact (hv.kept hg (hne hv)).wider (by omega) (by omega)
   ·rw [hget j (by omega), hget2 j (by omega)]
    exact ((hin j (by omega)).kept hg (hne (hin j (by omega)))).wider (Nat.le_refl _) (by omega)
  ·by_cases e : j = n
   ·subst e
    rw [hget i hij] at e1
    rw [hnew] at e2
    have h1 := ((hin i hij).blk k e1).2.1
    have h2 := (hv.blk k e2).1
    omega
   ·rw [hget i (by omega)] at e1
    rw [hget j (by omega)] at e2
    exact hap i j k hij (by omega) e1 e2
  ·refine (Below.refl lo w).grown hg (by omega) (fun k hk => ?_)
   exact (World.ownsRow.lt hr k (by rw [blk_own]; exact hk)).1
def AnsSubst (w : World) (xss : List (List Int)) (e : Ending) (w' : World) : Prop := ∃ A n c, e = .returned (.agg #[.slice A n c]) ∧ Owns w' w.heap.size w'.heap.size A n c xss ∧ Below w.heap.size w w'
def HeadP (w : World) (L : Nat → List Int) (terms i : Value) (wr : World) : Prop :=
 ∃ (k : Nat) (A : Option Addr) (n c : Nat), k ≤ 24 ∧ i = .int .i64 k ∧ terms = .slice A n c ∧ n ≤ k ∧ Owns wr (w.heap.size + 1) wr.heap.size A n c (plainL L k) ∧ Row wr w.heap.size 31 #[.slice none 0 0] ∧ Below w.heap.size w wr
theorem Seg.away {w w' : World} {A : Option Addr} {n : Nat} {xs : List Int} {r : Option Nat} (h : Seg w w.heap.size A n xs) (hg : w.grownBy w' r) (hne : ∀ k, blk A = some k → r ≠ some k) : Seg w' w'.heap.size A n xs :=
 ⟨h.1, fun hn => by
  obtain ⟨b, off, e, hb, hc⟩ := h.2 hn
  refine ⟨b, off, e, Nat.lt_of_lt_of_le hb hg.size, fun j hj => ?_⟩
  exact (World.cell?_of_block (hg.block b hb (fun e2 => hne b (by rw [e]; rfl) e2.symm))).trans (hc j hj)⟩
def HeadQ (w : World) (mid top : Nat) (L : Nat → List Int) (k : Nat) (A1 : Option Addr) (n1 : Nat) (ys : List Int) (terms : Value) (wr : World) : Prop :=
 ∃ (A : Option Addr) (n c : Nat), terms = .slice A n c ∧ n ≤ k ∧ (plainL L k).length ≤ n ∧ Owns wr (w.heap.size + 1) wr.heap.size A n c (plainL L k ++ List.replicate (n - (plainL L k).length) []) ∧ (∀ q, blk A = some q → q < mid ∨ top ≤ q) ∧
  Seg wr wr.heap.size A1 n1 ys ∧ Row wr w.heap.size 31 #[.slice none 0 0] ∧ Below w.heap.size w wr ∧ top ≤ wr.heap.size
def lenOf (v : Value) : Nat := match v with
 | .slice _ n _ => n
 | _ => 0
set_option maxHeartbeats 16000000 in
theorem plain (g : Nat) (lb : Array Value) (eg : ∀ args w, (callFunc g args).run Try.prog w = .ok (.enter g args) w) (L : Nat → List Int) (w : World)
  (hL : Looks g lb w L 24) (h1 : ∀ i, 1 ≤ (L i).length) (hM : ∀ i, (L i).length ≤ 4096) :
  Calls Try.prog 79 #[.func (.func g) #[] lb] w (AnsSubst w (plainL L 24)) := by
 have H1 := hid h1
 have HM := hid hM
 have HK := hid hL
 have S0 : HeadP w L (.slice none 0 0) (.int .i64 0) (w.alloc (.cells #[.slice none 0 0] 31)) :=
  ⟨0, none, 0, 0, by omega, rfl, rfl, Nat.le_refl _, by simpa [plainL, rowsL, strip] using Owns.nil (w.alloc (.cells #[.slice none 0 0] 31)) (w.heap.size + 1) (w.alloc (.cells #[.slice none 0 0] 31)).heap.size, Row.new _ _ _, (Below.refl _ _).alloc (Nat.le_refl _) _⟩
 have HS0 := hid S0
 clear S0 h1 hM hL
 go_enter Try.func79, Try.ntmps79
 go_wp2
 go_loopw [3, 6] (fun terms i wr => HeadP w L terms i wr) (fun _ i _ => 24 - (intOf i).toNat)
 case atStart => exact HS0.out
 case round =>
  obtain ⟨k, A, n, c, hk, rfl, rfl, hnk, ho, hr, hb⟩ := hrel
  clear HS0
  obtain ⟨wo, rfl⟩ : ∃ wo : World, wo = wr := ⟨_, rfl⟩
  by_cases hlt : k < 24
  ·have hcall := HK.out wo k hb hlt
   have hLk : (L k).length ≤ 4096 := HM.out k
   have hL1 : 1 ≤ (L k).length := H1.out k
   obtain ⟨ys, hys⟩ : ∃ ys, L k = ys := ⟨_, rfl⟩
   rw [hys] at hcall hLk hL1
   have HY := hid hys
   have HC := hid hcall
   clear hys hcall
   have hsz := hb.size
   have hrlt := hr.lt
   by_cases hsame : ys = [-1 - (k : Int)]
   ·have DS := hid (decide_eq_true hsame)
    go_wp2_with (first
     | (go_at_fn g; refine HC.out.mono ?_; rintro e w1 ⟨A1, n1, c1, rfl, s1, cap1, far1, bb1⟩; have hn1 : n1 ≤ 4096 := (by rw [← s1.1]; exact hLk))
     | (go_at_call 87; refine (varTerm (k : Int) _ (by omega) (by omega)).mono ?_; rintro e w2 ⟨A2, n2, c2, rfl, o2, bb2⟩; have hn2 : n2 ≤ 1048576 := (by rw [Own.len o2]; simp))
     | (go_at_call 16; refine (implSame A1 A2 n1 n2 c1 c2 ys [-1 - (k : Int)] w2 (s1.next bb2) (Own.seg o2) (by omega) hn2).mono ?_; rintro e w3 ⟨he, d, rfl⟩; rw [DS.out] at he; subst he))
    have bb3 : Below wo.heap.size wo (w2.drewN d) := below_drewN (next_trans bb1 bb2) d
    have hs3 := bb3.size
    have S : HeadP w L (.slice A n c) (.int .i64 ((k : Int) + 1)) (w2.drewN d) := ⟨k + 1, A, n, c, hlt, by simp, rfl, by omega, by rw [plain_same (HY.out.trans hsame)]; exact (ho.next bb3).wider (Nat.le_refl _) hs3, hr.next bb3, hb.trans (bb3.mono hsz)⟩
    have HS := hid S
    clear S bb3 hs3 s1 cap1 far1 bb1 o2 bb2 ho hr hb HC HY hsame DS
    go_wp2
    go_roundw
    case rel => exact HS.out
    case measure => simp [intOf]; omega
   ·have DS := hid (decide_eq_false hsame)
    have HNE := hid hsame
    clear hsame
    go_wp2_with (first
     | (go_at_fn g; refine HC.out.mono ?_; rintro e w1 ⟨A1, n1, c1, rfl, s1, cap1, far1, bb1⟩; have hn1 : n1 ≤ 4096 := (by rw [← s1.1]; exact hLk))
     | (go_at_call 87; refine (varTerm (k : Int) _ (by omega) (by omega)).mono ?_; rintro e w2 ⟨A2, n2, c2, rfl, o2, bb2⟩; have hn2 : n2 ≤ 1048576 := (by rw [Own.len o2]; simp))
     | (go_at_call 16; refine (implSame A1 A2 n1 n2 c1 c2 ys [-1 - (k : Int)] w2 (s1.next bb2) (Own.seg o2) (by omega) hn2).mono ?_; rintro e w3 ⟨he, hd⟩; rw [DS.out] at he; subst he; have bb3 : Below w2.heap.size w2 w3 := (by obtain ⟨d, rfl⟩ := hd; exact drewN_below _ _)))
    have bbo := next_trans (next_trans bb1 bb2) bb3
    have s3 := (s1.next bb2).next bb3
    have hs3 := bbo.size
    have h12 := bb2.size
    have h23 := bb3.size
    have hn1' : 1 ≤ n1 := by rw [← s1.1]; exact hL1
    have hA1 : ∀ q, blk A1 = some q → q < w.heap.size ∨ (wo.heap.size ≤ q ∧ q < w3.heap.size) := fun q hq => by
     rcases far1 q hq with h | h
     ·exact .inl h
     ·refine .inr ⟨h, ?_⟩
      obtain ⟨b, off, e, hb', _⟩ := s1.2 (by omega)
      rw [e] at hq
      have : b = q := Option.some.inj hq
      omega
    have Q0 : HeadQ w wo.heap.size w3.heap.size L k A1 n1 ys (.slice A n c) w3 := by
     have hl := ho.len
     refine ⟨A, n, c, rfl, hnk, by omega, ?_, fun q hq => .inl (ho.top q hq), s3, hr.next bbo, hb.trans (bbo.mono hsz), Nat.le_refl _⟩
     rw [show n - (plainL L k).length = 0 by omega, List.replicate_zero, List.append_nil]
     exact (ho.next bbo).wider (Nat.le_refl _) hs3
    have HQ0 := hid Q0
    have HA1 := hid hA1
    clear Q0 hA1 bbo s3 s1 cap1 far1 bb1 o2 bb2 bb3 ho hr hb HC DS hd
    go_loopw [3] (fun terms wr => HeadQ w wo.heap.size w3.heap.size L k A1 n1 ys terms wr) (fun terms _ => k - lenOf terms)
    case atStart => exact HQ0.out
    case round =>
     obtain ⟨A, n, c, rfl, hnk, hpn, ho, hloc, s1, hr, hb, htop⟩ := hrel
     clear HQ0
     have hrl := hr.lt
     have hne : ∀ q, blk A1 = some q → blk A ≠ some q := fun q hq e => by
      have h1 := HA1.out q hq
      have h2 := hloc q e
      obtain ⟨vs, hown, _⟩ := ho.row
      have h3 := (World.ownsRow.lt hown q (by rw [blk_own]; exact e)).1
      omega
     have hneB : blk A ≠ some w.heap.size := fun e => by
      obtain ⟨vs, hown, _⟩ := ho.row
      have h3 := (World.ownsRow.lt hown _ (by rw [blk_own]; exact e)).1
      omega
     by_cases hlt2 : n < k
     ·have ho1 := ho.next (w' := wr.alloc (.cells #[.slice none 0 0] 24)) ((Below.refl _ _).alloc (Nat.le_refl _) _)
      have hr1 := hr.alloc (.cells #[.slice none 0 0] 24)
      have s1a := s1.next (w' := wr.alloc (.cells #[.slice none 0 0] 24)) ((Below.refl _ _).alloc (Nat.le_refl _) _)
      go_wp2_with (at_builtin; refine appS1 rfl _ _ rfl (w.heap.size + 1) wr.heap.size A n c _ rfl ho1 wr.heap.size 1 (.slice none 0 0) [] rfl ((Row.new _ _ _).cell 0) (Inn.none_ _ _ _) (by omega) (by omega) (by simp) ?_; intro A' c' w5 ho5 hg5 hat5 b5)
      have S : HeadQ w wo.heap.size w3.heap.size L k A1 n1 ys (.slice A' (n + 1) c') w5 := by
       refine ⟨A', n + 1, c', rfl, hlt2, by omega, ?_, fun q hq => ?_, Seg.away s1a hg5 hne, Row.away hr1 hg5 hneB, (hb.alloc (by omega) _).trans (b5.mono (by omega)), ?_⟩
       ·rw [show n + 1 - (plainL L k).length = (n - (plainL L k).length) + 1 by omega, List.replicate_succ', ← List.append_assoc]
        exact ho5
       ·rcases hat5 with h | h
        ·exact hloc q (by rw [← h]; exact hq)
        ·rw [h] at hq
         injection hq with hq
         simp at hq
         omega
       ·have := hg5.size; simp at this; omega
      have HS := hid S
      clear S ho5 hg5 hat5 b5 ho1 hr1 s1a ho hloc s1 hr hb hne hneB
      go_wp2
      go_roundw
      case rel => exact HS.out
      case measure => simp [lenOf]; omega
     ·have hkn : n = k := by omega
      subst hkn
      obtain ⟨b1, off1, e1, _, _⟩ := s1.2 (by omega)
      subst e1
      rw [plain_pad] at ho
      have LC := hid (cloneInts b1 off1 n1 c1 ys wr s1 (by omega))
      go_wp2_with (first
       | (go_at_call 101; refine LC.out.mono ?_; rintro e w5 ⟨A5, n5, c5, rfl, o5, bb5⟩; have z5 := bb5.size; have ho5 := (ho.next bb5).next (w' := w5.alloc (.cells #[.slice A5 n5 c5] 24)) ((Below.refl _ _).alloc (Nat.le_refl _) _); have i5 := (inn_own o5).next (w' := w5.alloc (.cells #[.slice A5 n5 c5] 24)) ((Below.refl _ _).alloc (Nat.le_refl _) _); have i6 := Inn.wider i5 (Nat.le_refl _) (show w5.heap.size ≤ (w5.alloc (.cells #[.slice A5 n5 c5] 24)).heap.size by simp); have r5 := (hr.next bb5).alloc (.cells #[.slice A5 n5 c5] 24))
       | (at_builtin; refine appS1 rfl _ _ rfl (w.heap.size + 1) wr.heap.size A n c _ rfl ho5 w5.heap.size 1 (.slice A5 n5 c5) ys rfl ((Row.new _ _ _).cell 0) i6 (by omega) (by omega) (by simp; omega) ?_; intro A' c' w6 ho6 hg6 hat6 b6))
      have S : HeadP w L (.slice A' (n + 1) c') (.int .i64 ((n : Int) + 1)) w6 := by
       refine ⟨n + 1, A', n + 1, c', hlt, by simp, rfl, Nat.le_refl _, ?_, Row.away r5 hg6 hneB, ((hb.trans (bb5.mono (by omega))).alloc (by omega) _).trans (b6.mono (by omega))⟩
       rw [plain_new (by rw [HY.out]; exact HNE.out) (by rw [HY.out]; exact hL1), HY.out]
       exact ho6
      have HS := hid S
      clear S ho6 hg6 hat6 b6 ho5 i5 i6 r5 o5 bb5 ho hloc s1 hr hb hne hneB LC
      go_wp2
      go_roundw
      case rel => exact HS.out
      case measure => simp [intOf]; omega
  ·have hk24 : k = 24 := by omega
   subst hk24
   have hcell : wo.cell? ⟨w.heap.size, 0, none⟩ = some (.slice none 0 0) := hr.cell 0
   have hfr : wo.frozen? ⟨w.heap.size, 0, none⟩ = false := hr.free 0
   have F : AnsSubst w (plainL L 24) (.returned (.agg #[.slice A n c])) (wo.setCell ⟨w.heap.size, 0, none⟩ (.slice A n c)) :=
    ⟨A, n, c, rfl, (owns_put ho hr (Nat.lt_succ_self _) 0 _).wider (by omega) (by simp), hb.setCell (Nat.le_refl _) _⟩
   have HF := hid F
   clear F ho hr hb
   go_wp2
   exact bodyPost_ret (v := .agg #[.slice A n c]) (by simp [results, Try.results79, go_sem, hcell]) rfl HF.out
end plain
end
section
namespace drawSub
open Go.RowKit base ints sig cursor marks app appAt sym segs segsHelp dice drawSig drawTerm drawAny drawPair drawOne
def Elem (w : World) (p : Nat) (r : Option Nat) (v : Value) (ys : List Int) : Prop :=
 ∃ A' n' c', v = .slice A' n' c' ∧ Rd w p w.heap.size A' n' ys ∧ Cap A' n' c' ∧ (0 < n' → blk A' ≠ r)
def OwnR (w : World) (p lo : Nat) (A : Option Addr) (n c : Nat) (xss : List (List Int)) : Prop :=
 xss.length = n ∧ ∃ vs : List Value, w.ownsRow lo 24 1 (.slice A n c) n vs ∧ ∀ j, j < n → Elem w p (blk A) (vs.getD j undef) (xss.getD j [])
section
variable {w w' : World} {p lo n c : Nat} {A : Option Addr} {xss : List (List Int)} {r : Option Nat} {v : Value} {ys : List Int}
theorem Elem.below (h : Elem w p r v ys) (hb : Below w.heap.size w w') : Elem w' p r v ys := by
 obtain ⟨A', n', c', e, hr, hc, hne⟩ := h
 exact ⟨A', n', c', e, (hr.below hb (Nat.le_refl _)).more hb.size, hc, hne⟩
theorem Elem.dice (h : Elem w p r v ys) (hg : w.grownBy w' (some p)) : Elem w' p r v ys := by
 obtain ⟨A', n', c', e, hr, hc, hne⟩ := h
 exact ⟨A', n', c', e, (hr.grown hg (Nat.le_refl _)).more hg.size, hc, hne⟩
theorem OwnR.nil (w : World) (p lo : Nat) : OwnR w p lo none 0 0 [] := ⟨rfl, [], ⟨rfl, .inl ⟨rfl, rfl⟩⟩, fun j hj => absurd hj (Nat.not_lt_zero _)⟩
theorem OwnR.below (h : OwnR w p lo A n c xss) (hb : Below w.heap.size w w') : OwnR w' p lo A n c xss := by
 obtain ⟨h1, vs, h2, h3⟩ := h
 exact ⟨h1, vs, World.ownsRow.kept h2 ⟨hb.os, hb.tape, hb.output, hb.size, fun k hk _ => hb.block k hk⟩ (row := none) (by cases (Value.slice A n c).ownBlock <;> simp), fun j hj => (h3 j hj).below hb⟩
theorem OwnR.dice (h : OwnR w p lo A n c xss) (hg : w.grownBy w' (some p)) (hp : p < lo) : OwnR w' p lo A n c xss := by
 obtain ⟨h1, vs, h2, h3⟩ := h
 refine ⟨h1, vs, World.ownsRow.kept h2 hg ?_, fun j hj => (h3 j hj).dice hg⟩
 cases e : (Value.slice A n c).ownBlock with
 | none => exact .inl rfl
 | some k =>
  refine .inr (fun e2 => ?_)
  have := (World.ownsRow.lt h2 k e).1
  injection e2 with e2
  omega
theorem OwnR.lower {lo' : Nat} (h : OwnR w p lo A n c xss) (h1 : lo' ≤ lo) : OwnR w p lo' A n c xss := by
 obtain ⟨h3, vs, ho, h4⟩ := h
 refine ⟨h3, vs, ⟨ho.1, ?_⟩, h4⟩
 rcases ho.2 with q2 | ⟨g, cap, cur, hv, hg, q⟩
 ·exact .inl q2
 ·exact .inr ⟨g, cap, cur, hv, by omega, q⟩
theorem OwnR.ge (h : OwnR w p lo A n c xss) : ∀ k, blk A = some k → lo ≤ k ∧ k < w.heap.size := fun k hk => by
 obtain ⟨_, vs, ho, _⟩ := h
 exact World.ownsRow.lt ho k (by rw [blk_own]; exact hk)
theorem OwnR.cap (h : OwnR w p lo A n c xss) : Cap A n c := by
 obtain ⟨_, vs, hr, _⟩ := h
 rcases own_form hr with ⟨rfl, h1, rfl, _⟩ | ⟨g, cur, rfl, _, _, h1, h2, h3, _⟩
 ·exact ⟨by omega, by omega, fun _ => rfl⟩
 ·exact ⟨h1, h3, fun e => by cases e⟩
theorem ownR_app {vs : List Value} {A' : Option Addr} {c' : Nat} (hl : xss.length = n) (hr : w.ownsRow lo 24 1 (.slice A n c) n vs) (hin : ∀ j, j < n → Elem w p (blk A) (vs.getD j undef) (xss.getD j [])) (hv : Elem w p (blk A) v ys)
  (hown' : w'.ownsRow lo 24 1 (.slice A' (n + 1) c') (n + 1) (vs ++ [v])) (hg : w.grownBy w' (blk A)) (hat : blk A' = blk A ∨ blk A' = some w.heap.size) : OwnR w' p lo A' (n + 1) c' (xss ++ [ys]) := by
 have hvl : vs.length = n := by have := hr.1; omega
 have keep : ∀ {u : Value} {zs : List Int}, Elem w p (blk A) u zs → Elem w' p (blk A') u zs := fun {u zs} hu => by
  obtain ⟨B, m, q, e, hrd, hc, hne⟩ := hu
  refine ⟨B, m, q, e, ⟨hrd.1, fun hm => ?_⟩, hc, fun hm => ?_⟩
  ·obtain ⟨b, off, e1, hb, hbp, hcell⟩ := hrd.2 hm
   have h1 := hne hm
   rw [e1] at h1
   refine ⟨b, off, e1, Nat.lt_of_lt_of_le hb hg.size, hbp, fun j hj => ?_⟩
   rw [World.cell?_of_block (a := ⟨b, off + j, none⟩) (hg.block b hb h1)]
   exact hcell j hj
  ·obtain ⟨b, off, e1, hb, hbp, _⟩ := hrd.2 hm
   rcases hat with e2 | e2
   ·rw [e2]; exact hne hm
   ·rw [e2, e1]
    intro e3
    have e4 : b = w.heap.size := by injection e3
    omega
 refine ⟨by simp [hl], vs ++ [v], hown', fun j hj => ?_⟩
 by_cases e : j = n
 ·subst e
  rw [show (vs ++ [v]).getD j undef = v by simp [List.getD, ← hvl], show (xss ++ [ys]).getD j [] = ys by simp [List.getD, ← hl]]
  exact keep hv
 ·rw [show (vs ++ [v]).getD j undef = vs.getD j undef by simp [List.getD, List.getElem?_append_left (show j < vs.length by omega)], show (xss ++ [ys]).getD j [] = xss.getD j [] by simp [List.getD, List.getElem?_append_left (show j < xss.length by omega)]]
  exact keep (hin j (by omega))
end
theorem appR1 {w : World} {ops : Array Oper} {rest : List Oper} {o : Oper} {a : Act} {Q : Exit → Act → World → Prop} (hgd : o.guard = none) (s x : Operand)
  (ho : o.op = .call { callee := .builtin .append, args := #[s, x], argTypes := #[29, 29] })
  (p lo : Nat) (A : Option Addr) (n c : Nat) (xss : List (List Int)) (hs : a.eval s = .slice A n c) (hown : OwnR w p lo A n c xss)
  (g c2 : Nat) (v : Value) (ys : List Int) (hx : a.eval x = .slice (some ⟨g, 0, none⟩) 1 c2) (hy : w.cell? ⟨g, 0, none⟩ = some v) (hv : Elem w p (blk A) v ys) (hn : n ≤ 1048576) (hlo : lo ≤ w.heap.size)
  (h : ∀ A' c' w', OwnR w' p lo A' (n + 1) c' (xss ++ [ys]) → w.grownBy w' (blk A) → (blk A' = blk A ∨ blk A' = some w.heap.size) → Below lo w w' → wpList Try.prog ops Q rest (a.put o.dst (.slice A' (n + 1) c')) w') : wpList Try.prog ops Q (o :: rest) a w := by
 obtain ⟨i0, hi, hz0, hz1, hz2⟩ := info_parts info_list
 obtain ⟨hlen, vs, hr, hin⟩ := hown
 have hvl : vs.length = n := by have := hr.1; omega
 have hvc : v.oneCell' = true := by obtain ⟨A1, n1, c1, rfl, _⟩ := hv; rfl
 refine wpList_append_own_at w hgd s x 29 ho lo 24 i0 (.slice none 0 0) 1 24 Try.underlying29 hi hz0 hz1 hz2 rfl (by decide) (.slice A n c) n vs hs hr
  ⟨g, 0, none⟩ 1 c2 [v] hx rfl (fun j u hj => ?_) (fun u hu => ?_) (by unfold maxLen; omega) (by omega) hlo ?_
 ·match j, hj with
  | 0, hj => simp at hj; subst hj; simpa [Addr.add] using hy
 ·simp at hu; subst hu; exact hvc
 ·intro v' w' hown' hg _ hat
  have hform : ∃ A' c', v' = .slice A' (n + 1) c' := by
   rcases hown'.2 with ⟨_, h0⟩ | ⟨g', cap, cur, e, _⟩
   ·omega
   ·exact ⟨_, _, e⟩
  obtain ⟨A', c', rfl⟩ := hform
  rw [blk_own] at hg
  rw [blk_own, blk_own] at hat
  exact h A' c' w' (ownR_app hlen hr hin hv hown' hg hat) hg hat ((Below.refl lo w).grown hg hlo (fun k hk => (World.ownsRow.lt hr k (by rw [blk_own]; exact hk)).1))
def Small (M L m : Nat) (xss : List (List Int)) : Prop := m ≤ M ∧ ∀ j, (xss.getD j []).length ≤ L
theorem small_nil (M L : Nat) : Small M L 0 [] := ⟨Nat.zero_le _, fun j => by simp⟩
theorem small_app {M M' L m : Nat} {xss : List (List Int)} {ys : List Int} (h : Small M L m xss) (hl : xss.length = m) (hy : ys.length ≤ L) (hM : m + 1 ≤ M') : Small M' L (m + 1) (xss ++ [ys]) :=
 ⟨hM, fun j => by
  rcases Nat.lt_trichotomy j m with h1 | h1 | h1
  ·have := h.2 j
   simpa [List.getD, List.getElem?_append_left (show j < xss.length by omega)] using this
  ·subst h1
   simpa [List.getD, ← hl] using hy
  ·simp [List.getD, show xss.length + 1 ≤ j by omega]⟩
theorem small_wider {M L M' L' m : Nat} {xss : List (List Int)} (h : Small M L m xss) (h1 : M ≤ M') (h2 : L ≤ L') : Small M' L' m xss := ⟨Nat.le_trans h.1 h1, fun j => Nat.le_trans (h.2 j) h2⟩
end drawSub
end
section
namespace drawS
open Go.RowKit base ints sig term cursor termOk marks app appAt sym segs segsHelp dice drawSig drawTerm drawAny drawPair drawOne drawSub
set_option maxRecDepth 100000
theorem grown_over {w a b : World} {B : Nat} {r : Option Nat} (g : w.grownBy a r) (hb : Below B a b) (hB : w.heap.size ≤ B) : w.grownBy b r :=
 ⟨hb.os.trans g.os, hb.tape.trans g.tape, hb.output.trans g.output, Nat.le_trans g.size hb.size, fun k hk hne => (hb.block k (by omega)).trans (g.block k hk hne)⟩
theorem OwnR.set {w : World} {p lo N n c : Nat} {A : Option Addr} {xss : List (List Int)} {a : Option Addr} {l k : Nat} (h : OwnR w p lo A n c xss) (hN : N < lo) (hc : w.cell? ⟨N, 0, none⟩ = some (.slice a l k)) (u : Value) : OwnR (w.setCell ⟨N, 0, none⟩ u) p lo A n c xss := by
 obtain ⟨h1, vs, h2, h3⟩ := h
 refine ⟨h1, vs, World.ownsRow.kept h2 (grown_put (World.grownBy.refl w _) 0 u) ?_, fun j hj => ?_⟩
 ·cases e : (Value.slice A n c).ownBlock with
  | none => exact .inl rfl
  | some z =>
   refine .inr (fun e2 => ?_)
   have := (World.ownsRow.lt h2 z e).1
   injection e2 with e2
   omega
 ·obtain ⟨A', n', c', e, hr, hcap, hne⟩ := h3 j hj
  exact ⟨A', n', c', e, (Rd.other hr hc u).more (by simp), hcap, hne⟩
structure DD (w : World) (p : Nat) (A : Option Addr) (n c : Nat) (S : Option Addr) (sn sc : Nat) (sg : List Int) (o : Nat) (B : Option Addr) (m cB : Nat) (xss : List (List Int)) (wr : World) : Prop where
 d : Dice wr p A n c
 rS : Row wr w.heap.size 26 #[.slice S sn sc]
 rR : Row wr (w.heap.size + 1) 31 #[.slice none 0 0]
 rO : Row wr o 31 #[.slice B m cB]
 own : OwnR wr p (o + 1) B m cB xss
 s : Rd wr p w.heap.size S sn sg
 g : w.grownBy wr (some p)
 hp : p < w.heap.size
 ho : w.heap.size + 1 < o
section
variable {w : World} {p : Nat} {A : Option Addr} {n c : Nat} {S : Option Addr} {sn sc : Nat} {sg : List Int} {o : Nat} {B : Option Addr} {m cB : Nat} {xss : List (List Int)} {wr w' : World}
theorem DD.next (t : DD w p A n c S sn sc sg o B m cB xss wr) (hb : Below wr.heap.size wr w') : DD w p A n c S sn sc sg o B m cB xss w' :=
 ⟨t.d.next hb, t.rS.next hb, t.rR.next hb, t.rO.next hb, t.own.below hb, t.s.below hb t.g.size, grown_over t.g hb t.g.size, t.hp, t.ho⟩
end
end drawS
end
section
namespace drawSA
open Go.RowKit base ints sig term cursor termOk marks app appAt sym segs segsHelp dice drawSig drawTerm drawAny drawPair drawOne drawSub drawS
set_option maxRecDepth 100000
structure D0 (w : World) (p : Nat) (A : Option Addr) (n c : Nat) (S : Option Addr) (sn sc : Nat) (sg : List Int) (wr : World) : Prop where
 d : Dice wr p A n c
 rS : Row wr w.heap.size 26 #[.slice S sn sc]
 rR : Row wr (w.heap.size + 1) 31 #[.slice none 0 0]
 s : Rd wr p w.heap.size S sn sg
 g : w.grownBy wr (some p)
 hp : p < w.heap.size
structure DA (w : World) (p : Nat) (A : Option Addr) (n c : Nat) (S : Option Addr) (sn sc : Nat) (sg : List Int) (o : Nat) (B : Option Addr) (m cB : Nat) (xss : List (List Int)) (wr : World) : Prop where
 z : D0 w p A n c S sn sc sg wr
 rO : Row wr o 31 #[.slice B m cB]
 own : OwnR wr p (w.heap.size + 2) B m cB xss
 hB : blk B ≠ some o
 ho : w.heap.size + 1 < o
section
variable {w : World} {p : Nat} {A : Option Addr} {n c : Nat} {S : Option Addr} {sn sc : Nat} {sg : List Int} {o : Nat} {B : Option Addr} {m cB : Nat} {xss : List (List Int)} {wr w' : World}
theorem D0.next (t : D0 w p A n c S sn sc sg wr) (hb : Below wr.heap.size wr w') : D0 w p A n c S sn sc sg w' :=
 ⟨t.d.next hb, t.rS.next hb, t.rR.next hb, t.s.below hb t.g.size, grown_over t.g hb t.g.size, t.hp⟩
theorem D0.over {o : Nat} (t : D0 w p A n c S sn sc sg wr) (hb : Below (w.heap.size + 2) wr w') : D0 w p A n c S sn sc sg w' :=
 ⟨t.d.keep (hb.mono (by have := t.hp; omega)), t.rS.below hb (by omega), t.rR.below hb (by omega), t.s.below hb (by omega), grown_over t.g hb (by omega), t.hp⟩
theorem DA.next (t : DA w p A n c S sn sc sg o B m cB xss wr) (hb : Below wr.heap.size wr w') : DA w p A n c S sn sc sg o B m cB xss w' :=
 ⟨t.z.next hb, t.rO.next hb, t.own.below hb, t.hB, t.ho⟩
end
theorem rep_nil (k j : Nat) : (List.replicate k ([] : List Int)).getD j [] = [] := by
 rw [List.getD_eq_getElem?_getD, List.getElem?_replicate]
 split <;> rfl
theorem ownR_made {w : World} {p lo k : Nat} (hlo : lo ≤ w.heap.size) (hk : k ≤ 1048576) : OwnR (w.alloc (.cells (madeCells #[.slice none 0 0] k) 24)) p lo (some ⟨w.heap.size, 0, none⟩) k k (List.replicate k []) := by
 refine ⟨by simp, _, rowsOf (Row.new _ _ _) (size_madeCells _ _) (Nat.le_refl _) (by omega) hlo, fun j hj => ?_⟩
 have e : ((madeCells #[Value.slice none 0 0] k).toList.take k).getD j undef = .slice none 0 0 := by
  simp [madeCells, List.getD, hj, Nat.mod_one]
 rw [e, rep_nil k j]
 exact ⟨none, 0, 0, rfl, Rd.none_, ⟨Nat.le_refl _, by omega, fun _ => rfl⟩, fun h => absurd h (by omega)⟩
end drawSA
end
section
namespace shifted
open Go.RowKit base ints sig term termOk marks app sym segs termFacts varsMath fillMath Go.Proofs.Ytgfgaeagbipobaa.look
set_option maxRecDepth 100000
end shifted
end
section
namespace drawVar
open Go.RowKit base ints sig term cursor termOk marks app sym dice drawSig drawTerm drawAny drawTwo drawPair drawOne fillMath shifted
theorem Seg.other {w : World} {B N : Nat} {O : Option Addr} {on : Nat} {xs : List Int} {a : Option Addr} {l k : Nat} (h : Seg w B O on xs) (hN : w.cell? ⟨N, 0, none⟩ = some (.slice a l k)) (u : Value) : Seg (w.setCell ⟨N, 0, none⟩ u) B O on xs :=
 ⟨h.1, fun hn => by
  obtain ⟨b, off, e, hb, hc⟩ := h.2 hn
  refine ⟨b, off, e, hb, fun j hj => ?_⟩
  rw [World.cell?_setCell_other w _ _ _ (fun e => by have := hc j hj; rw [← e, hN] at this; cases this)]
  exact hc j hj⟩
structure V3 (w : World) (p : Nat) (A : Option Addr) (n c v : Nat) (S : Option Addr) (sn sc : Nat) (sg : List Int) (O : Option Addr) (on : Nat) (xs : List Int) (wr : World) : Prop where
 d : Dice wr p A n c
 rN : Row wr w.heap.size 26 #[.slice none 0 0]
 rV : Row wr v 26 #[.slice S sn sc]
 s : Rd wr p wr.heap.size S sn sg
 o : Rd wr p wr.heap.size O on xs
 b : Below w.heap.size w wr
 hp : w.heap.size < p
 pv : p < v
section
variable {w : World} {p : Nat} {A : Option Addr} {n c v : Nat} {S : Option Addr} {sn sc : Nat} {sg : List Int} {O : Option Addr} {on : Nat} {xs : List Int} {wr w' : World}
theorem V3.dice (t : V3 w p A n c v S sn sc sg O on xs wr) (d : Dice w' p A n c) (hg : wr.grownBy w' (some p)) : V3 w p A n c v S sn sc sg O on xs w' :=
 ⟨d, Row.away t.rN hg (fun e => by injection e; have := t.hp; omega), Row.away t.rV hg (fun e => by injection e; have := t.pv; omega), (t.s.grown hg (Nat.le_refl _)).more hg.size, (t.o.grown hg (Nat.le_refl _)).more hg.size, t.b.grown hg t.b.size (fun k hk => by injection hk; have := t.hp; omega), t.hp, t.pv⟩
theorem V3.next (t : V3 w p A n c v S sn sc sg O on xs wr) (hb : Below wr.heap.size wr w') : V3 w p A n c v S sn sc sg O on xs w' :=
 ⟨t.d.next hb, t.rN.next hb, t.rV.next hb, (t.s.below hb (Nat.le_refl _)).more hb.size, (t.o.below hb (Nat.le_refl _)).more hb.size, next_trans t.b hb, t.hp, t.pv⟩
theorem V3.drew (t : V3 w p A n c v S sn sc sg O on xs wr) : V3 w p A n c v S sn sc sg O on xs wr.drew := t.next ⟨rfl, rfl, rfl, Nat.le_refl _, fun _ _ => rfl⟩
end
theorem segB_below {w w' : World} {A : Option Addr} {n : Nat} (h : SegB w w.heap.size A n) (hb : Below w.heap.size w w') : SegB w' w'.heap.size A n := fun hp => by
 obtain ⟨b, off, e, hbb, hc⟩ := h hp
 refine ⟨b, off, e, Nat.lt_of_lt_of_le hbb hb.size, fun j hj => ?_⟩
 obtain ⟨x, x0, x1, hx⟩ := hc j hj
 exact ⟨x, x0, x1, (hb.cell (p := ⟨b, off + j, none⟩) hbb).trans hx⟩
end drawVar
end
section
namespace varsOf
open Go.RowKit base
def AnsB (w : World) (b : Bool) (e : Ending) (w' : World) : Prop := e = .returned (.bool b) ∧ Below w.heap.size w w'
theorem ansB {w w' : World} {a b : Bool} (h : a = b) (hb : Below w.heap.size w w') : AnsB w b (.returned (.bool a)) w' := ⟨by rw [h], hb⟩
end varsOf
end
section
namespace substOk
open Go.RowKit base ints sig term termOk marks app sym sub segs segsHelp termFacts varsMath varsOf fillMath Go.Proofs.Ytgfgaeagbipobaa.look
set_option maxRecDepth 100000
end substOk
end
section
open Go.Lib (hid)
namespace gives
open Go.RowKit base ints sig term termOk marks app sym sub segs segsHelp termFacts varsMath varsOf fillMath Go.Proofs.Ytgfgaeagbipobaa.look substOk
set_option maxRecDepth 100000
def givesL (ss : List (List Int)) (i : Nat) : List Int := if (ss.getD i []).length = 0 then vt i else ss.getD i []
theorem gives_var {ss : List (List Int)} {i : Nat} (h : (ss.getD i []).length = 0) : givesL ss i = vt i := by unfold givesL; rw [if_pos h]
theorem gives_term {ss : List (List Int)} {i : Nat} (h : ¬ (ss.getD i []).length = 0) : givesL ss i = ss.getD i [] := by unfold givesL; rw [if_neg h]
theorem gives_out {ss : List (List Int)} {i : Nat} (h : ¬ i < ss.length) : givesL ss i = vt i := gives_var (by simp [List.getD, h])
theorem gives_pos (ss : List (List Int)) (i : Nat) : 1 ≤ (givesL ss i).length := by
 unfold givesL
 split
 ·simp [vt]
 ·omega
set_option maxHeartbeats 2000000 in
theorem l2Gives (S : Option Addr) (m c : Nat) (ss : List (List Int)) (i : Nat) (w : World) (h : Segs w w.heap.size S m ss) (ht : tot ss ≤ 1048576) (hi : i ≤ 1048576) :
  Calls Try.prog 41 #[.agg #[.slice S m c], .int .i64 (i : Int)] w (AnsList w (givesL ss i)) := by
 have hm : m ≤ 1048576 := tot_len h.1 ht
 have HT := hid (tot_each ht)
 have HL := hid h.1
 clear ht
 have bel : Below w.heap.size w (w.alloc (.cells #[.slice S m c] 31)) := (Below.refl _ _).alloc (Nat.le_refl _) _
 have i0 : (0 : Int) ≤ (i : Int) := by omega
 have var : ∀ (hv : givesL ss i = vt i), AnsList w (givesL ss i) (.returned (.slice (some ⟨w.heap.size + 1, 0, none⟩) 1 1)) ((w.alloc (.cells #[.slice S m c] 31)).alloc (.cells #[.int .i64 (-1 - (i : Int))] 2)) := fun hv => by
  refine ⟨_, 1, 1, rfl, ?_, bel.alloc (by simp) _⟩
  rw [hv]
  have := Own.of_row (base := w.heap.size) (n := 1) (c := 1) (xs := vt i) (Row.new (w.alloc (.cells #[.slice S m c] 31)) 2 #[.int .i64 (-1 - (i : Int))]) rfl rfl (Nat.le_refl _) (by omega) (by simp) (fun j hj => by
   have e : j = 0 := by omega
   subst e
   rfl)
  simpa using this
 have VAR := hid var
 clear var
 by_cases hlt : i < m
 ·obtain ⟨b, off, A', n', cc, rfl, hbB, hx, hseg, hcap⟩ := h.spot hlt
  have hx1 : (w.alloc (.cells #[.slice (some ⟨b, off, none⟩) m c] 31)).cell? ⟨b, off + i, none⟩ = some (.slice A' n' cc) := (bel.cell (p := ⟨b, off + i, none⟩) hbB).trans hx
  by_cases hz : n' = 0
  ·subst hz
   have F := hid (VAR.out (gives_var hseg.1))
   clear h hseg hcap hx bel VAR
   go_enter Try.func41, Try.ntmps41
   go_wp2
   go_ret
   exact F.out
  ·have hpos : 0 < n' := by omega
   have E := hid (gives_term (ss := ss) (i := i) (by rw [hseg.1]; exact hz))
   have L := hid (copyInts A' n' cc _ _ ((hseg.below bel).more bel.size) hcap.2.2 (by rw [← hseg.1]; exact HT.out i))
   clear h hseg hcap hx VAR
   go_enter Try.func41, Try.ntmps41
   go_wp2_with fail
   refine L.out.mono ?_
   rintro e w1 ⟨D, dn, dc, rfl, o1, b1⟩
   have F : AnsList w (givesL ss i) (.returned (.slice D dn dc)) w1 := ⟨D, dn, dc, rfl, by rw [E.out]; exact Own.lower o1 bel.size, next_trans bel b1⟩
   have HF := hid F
   clear F o1 b1 bel L
   go_wp2
   go_ret
   exact HF.out
 ·have hge : ¬ (i : Int) < (m : Int) := by omega
  have F := hid (VAR.out (gives_out (by rw [HL.out]; exact hlt)))
  clear h bel VAR
  go_enter Try.func41, Try.ntmps41
  go_wp2
  go_ret
  exact F.out
theorem lookupIn (S : Option Addr) (m c : Nat) (w : World) :
  Calls Try.prog 47 #[.agg #[.slice S m c]] w fun e w' => e = .returned (.func (.func 86) #[] #[.pointer (some ⟨w.heap.size, 0, none⟩)]) ∧ w' = w.alloc (.cells #[.slice S m c] 31) := by
 have hmf : ∀ (fn : Fn) (first cap : Array Value) (w : World), (Instr.makeFunc fn first cap).run Try.prog w = .ok (.func fn first cap) w := fun _ _ _ _ => rfl
 go_enter Try.func47, Try.ntmps47
 go_wp2
 go_ret
 exact ⟨rfl, rfl⟩
set_option maxHeartbeats 2000000 in
theorem lookSubstC (B : Nat) (S : Option Addr) (m c : Nat) (ss : List (List Int)) (w : World) (hB : B < w.heap.size) (hc : w.cell? ⟨B, 0, none⟩ = some (.slice S m c)) (h : Segs w w.heap.size S m ss) (hm : m ≤ 1048576) :
  Looks 86 #[.pointer (some ⟨B, 0, none⟩)] w (givesL ss) 24 := by
 intro W i hb hi
 have cB : W.cell? ⟨B, 0, none⟩ = some (.slice S m c) := (hb.cell (p := ⟨B, 0, none⟩) hB).trans hc
 have h1 := h.below hb
 have HL := hid h.1
 have i0 : (0 : Int) ≤ (i : Int) := by omega
 have LV := hid (varTerm (i : Int) W (by omega) (by omega))
 have hws := hb.size
 clear hB hc h hb
 show Calls Try.prog 86 #[.int .i64 (i : Int), .pointer (some ⟨B, 0, none⟩)] W _
 by_cases hlt : i < m
 ·obtain ⟨b, off, A', n', cc, rfl, hbB, hx, hseg0, hcap⟩ := h1.spot hlt
  have hseg := hseg0.more hws
  by_cases hz : n' = 0
  ·subst hz
   have E := hid (gives_var (ss := ss) (i := i) hseg.1)
   clear h1 hseg hseg0 hcap
   go_enter Try.func86, Try.ntmps86
   go_wp2_with fail
   refine LV.out.mono ?_
   rintro e w1 ⟨D, dn, dc, rfl, o1, b1⟩
   have F : AnsLook w.heap.size W (givesL ss i) (.returned (.slice D dn dc)) w1 := by rw [E.out]; exact look_new o1 b1
   have HF := hid F
   clear F o1 b1 LV
   go_wp2
   go_ret
   exact HF.out
  ·have hpos : 0 < n' := by omega
   have F : AnsLook w.heap.size W (givesL ss i) (.returned (.slice A' n' cc)) W := ⟨A', n', cc, rfl, by rw [gives_term (by rw [hseg.1]; exact hz)]; exact hseg, hcap, fun k hk => .inl (by obtain ⟨b2, off2, e2, hb2, _⟩ := hseg0.2 hpos; rw [e2] at hk; have : b2 = k := Option.some.inj hk; omega), Below.refl _ _⟩
   have HF := hid F
   clear F h1 hseg hseg0 hcap LV
   go_enter Try.func86, Try.ntmps86
   go_wp2
   go_ret
   exact HF.out
 ·have hge : ¬ (i : Int) < (m : Int) := by omega
  have E := hid (gives_out (ss := ss) (i := i) (by rw [HL.out]; exact hlt))
  clear h1
  go_enter Try.func86, Try.ntmps86
  go_wp2_with fail
  refine LV.out.mono ?_
  rintro e w1 ⟨D, dn, dc, rfl, o1, b1⟩
  have F : AnsLook w.heap.size W (givesL ss i) (.returned (.slice D dn dc)) w1 := by rw [E.out]; exact look_new o1 b1
  have HF := hid F
  clear F o1 b1 LV
  go_wp2
  go_ret
  exact HF.out
theorem lookSubst (B : Nat) (S : Option Addr) (m c : Nat) (ss : List (List Int)) (w : World) (hr : Row w B 31 #[.slice S m c]) (h : Segs w w.heap.size S m ss) (hm : m ≤ 1048576) :
  Looks 86 #[.pointer (some ⟨B, 0, none⟩)] w (givesL ss) 24 := lookSubstC B S m c ss w hr.lt (hr.cell 0) h hm
end gives
end
section
open Go.Lib (hid)
namespace plainOf
open Go.RowKit base ints sig cursor marks app appAt sym sub segs segsHelp kinds varsOf fillMath Go.Proofs.Ytgfgaeagbipobaa.look substOk gives plainMath plain
set_option maxRecDepth 100000
theorem own_one {w : World} {base : Nat} {D : Option Addr} {c : Nat} {x : Int} (h : Own w base (.slice D 1 c) [x]) : ∃ g, D = some ⟨g, 0, none⟩ ∧ w.cell? ⟨g, 0, none⟩ = some (.int .i64 x) := by
 rcases own_form (n := 1) (vs := [x].map (Value.int .i64)) h with ⟨_, h1, _⟩ | ⟨g, cur, e, _, hr, _, _, _, _, hc⟩
 ·omega
 ·refine ⟨g, e, ?_⟩
  rw [hr.cell 0, hc 0 (by omega)]
  rfl
theorem Owns.shrink {w : World} {lo hi m n c : Nat} {A : Option Addr} {xss : List (List Int)} (h : Owns w lo hi A m c xss) (hn : n ≤ m) : Owns w lo hi A n c (xss.take n) := by
 obtain ⟨h1, ⟨vs, hr, hin, hap⟩, h3⟩ := h
 rcases own_form hr with ⟨rfl, h0, rfl, rfl⟩ | ⟨g, cur, rfl, hlo, hrow, hmc, hsz, hmax, hlen, hc⟩
 ·obtain rfl : n = 0 := by omega
  simpa using Owns.nil w lo hi
 ·have e1 : ∀ j, j < n → (cur.toList.take n).getD j undef = vs.getD j undef := fun j hj => by
   have := hc j (by omega)
   simp [List.getD, List.getElem?_take, hj, this]
  have e2 : ∀ j, j < n → (xss.take n).getD j [] = xss.getD j [] := fun j hj => by simp [List.getD, List.getElem?_take, hj]
  refine ⟨by rw [List.length_take, h1]; omega, ⟨_, rowsOf hrow hsz (by omega) hmax hlo, fun j hj => ?_, fun i j k hij hj a b => ?_⟩, h3⟩
  ·rw [e1 j hj, e2 j hj]
   exact hin j (by omega)
  ·rw [e1 i (by omega)] at a
   rw [e1 j hj] at b
   exact hap i j k hij (by omega) a b
def HeadL1 (w : World) (S : Option Addr) (m c : Nat) (ss : List (List Int)) (i : Value) (wr : World) : Prop :=
 ∃ (k : Nat) (A : Option Addr) (cA : Nat), k ≤ m ∧ i = .int .i64 k ∧ Owns wr (w.heap.size + 3) wr.heap.size A k cA (rowsL (givesL ss) k) ∧ Row wr w.heap.size 31 #[.slice S m c] ∧ Row wr (w.heap.size + 1) 31 #[.slice none 0 0] ∧
  Row wr (w.heap.size + 2) 31 #[.slice A k cA] ∧ Below w.heap.size w wr
theorem headL1_step {w wr w1 w5 w6 : World} {S A A' : Option Addr} {m c k cA c' : Nat} {ss : List (List Int)} (hk : k < m) (ho : Owns w6 (w.heap.size + 3) w6.heap.size A' (k + 1) c' (rowsL (givesL ss) (k + 1)))
  (r0 : Row wr w.heap.size 31 #[.slice S m c]) (r1 : Row wr (w.heap.size + 1) 31 #[.slice none 0 0]) (r2 : Row wr (w.heap.size + 2) 31 #[.slice A k cA]) (hb : Below w.heap.size w wr)
  (b1 : Below wr.heap.size wr w1) (b5 : Below w1.heap.size w1 w5) (hg : w5.grownBy w6 (blk A)) (hA : ∀ z, blk A = some z → w.heap.size + 3 ≤ z) :
  HeadL1 w S m c ss (.int .i64 ((k : Int) + 1)) (w6.setCell ⟨w.heap.size + 2, 0, none⟩ (.slice A' (k + 1) c')) := by
 have bb := next_trans b1 b5
 have q0 := Row.away (r0.next bb) hg (fun e => by have := hA _ e; omega)
 have q1 := Row.away (r1.next bb) hg (fun e => by have := hA _ e; omega)
 have q2 := Row.away (r2.next bb) hg (fun e => by have := hA _ e; omega)
 have hbb : Below w.heap.size w w6 := (hb.trans (bb.mono hb.size)).grown hg (by have := hb.size; have := bb.size; omega) (fun z hz => by have := hA z hz; omega)
 refine ⟨k + 1, A', c', hk, by simp, ?_, q0.far (by simp) _, q1.far (by simp) _, ?_, hbb.setCell (by simp) _⟩
 ·have := owns_put ho q2 (by omega) 0 (.slice A' (k + 1) c')
  simpa using this
 ·have := q2.put 0 (.slice A' (k + 1) c')
  simpa using this
def HeadL2 (w : World) (L : Nat → List Int) (m : Nat) (A : Option Addr) (cA : Nat) (p : Value) (wr : World) : Prop :=
 ∃ n : Nat, n ≤ m ∧ p = .pointer (some ⟨w.heap.size + 2, 0, none⟩) ∧ strip ((rowsL L m).take n) = plainL L m ∧ Owns wr (w.heap.size + 3) wr.heap.size A m cA (rowsL L m) ∧ Row wr (w.heap.size + 1) 31 #[.slice none 0 0] ∧
  Row wr (w.heap.size + 2) 31 #[.slice A n cA] ∧ Below w.heap.size w wr
def lenAt (w : World) (p : Addr) : Nat := match w.cell? p with
 | some (.slice _ n _) => n
 | _ => 0
theorem headL2_end {w wr : World} {L : Nat → List Int} {m n cA : Nat} {A : Option Addr} (hn : n ≤ m) (hs : strip ((rowsL L m).take n) = plainL L m) (ho : Owns wr (w.heap.size + 3) wr.heap.size A m cA (rowsL L m))
  (r1 : Row wr (w.heap.size + 1) 31 #[.slice none 0 0]) (hb : Below w.heap.size w wr) (hend : n = 0 ∨ (rowsL L m).getD (n - 1) [] ≠ []) :
  AnsSubst w (plainL L m) (.returned (.agg #[.slice A n cA])) (wr.setCell ⟨w.heap.size + 1, 0, none⟩ (.slice A n cA)) := by
 have e : (rowsL L m).take n = plainL L m := by
  rw [← hs]
  rcases hend with rfl | h
  ·simp [strip]
  ·by_cases h0 : n = 0
   ·subst h0; simp [strip]
   ·have := strip_last (l := rowsL L m) (q := n - 1) (by rw [rows_len]; omega) h
    rw [show n - 1 + 1 = n by omega] at this
    exact this.symm
 have h1 := Owns.shrink (owns_put ho r1 (by omega) 0 (.slice A n cA)) hn
 rw [e] at h1
 exact ⟨A, n, cA, rfl, h1.wider (by omega) (by simp), hb.setCell (by simp) _⟩
set_option maxHeartbeats 8000000 in
theorem l2Plain (S : Option Addr) (m c : Nat) (ss : List (List Int)) (w : World) (h : Segs w w.heap.size S m ss) (ht : tot ss ≤ 1048576) :
  Calls Try.prog 80 #[.agg #[.slice S m c]] w (AnsSubst w (plainL (givesL ss) m)) := by
 have HT := hid ht
 have hm : m ≤ 1048576 := tot_len h.1 ht
 have HE := hid (tot_each ht)
 clear ht
 go_enter Try.func80, Try.ntmps80
 go_wp2_with fail
 go_loopw [4] (fun i wr => HeadL1 w S m c ss i wr) (fun i _ => m - (intOf i).toNat)
 case atStart =>
  have b0 : Below w.heap.size w (((w.alloc (.cells #[.slice S m c] 31)).alloc (.cells #[.slice none 0 0] 31)).alloc (.cells #[.slice none 0 0] 31)) := (((Below.refl _ _).alloc (Nat.le_refl _) _).alloc (by simp) _).alloc (by simp; omega) _
  have q1 := Row.new (w.alloc (.cells #[.slice S m c] 31)) 31 #[.slice none 0 0]
  have q2 := Row.new ((w.alloc (.cells #[.slice S m c] 31)).alloc (.cells #[.slice none 0 0] 31)) 31 #[.slice none 0 0]
  refine ⟨0, none, 0, Nat.zero_le _, rfl, by simpa [rowsL] using Owns.nil _ _ _, ((Row.new w 31 #[.slice S m c]).alloc _).alloc _, ?_, ?_, b0⟩
  ·have := q1.alloc (.cells #[.slice none 0 0] 31); simpa using this
  ·simpa using q2
 case round =>
  obtain ⟨k, A, cA, hk, rfl, ho, r0, r1, r2, hb⟩ := hrel
  have c0 : wr.cell? ⟨w.heap.size, 0, none⟩ = some (.slice S m c) := r0.cell 0
  have cO : wr.cell? ⟨w.heap.size + 2, 0, none⟩ = some (.slice A k cA) := r2.cell 0
  have i0 : (0 : Int) ≤ (k : Int) := by omega
  by_cases hlt : k < m
  ·have i1 : (k : Int) < (m : Int) := by omega
   have LG := hid (l2Gives S m c ss k wr ((h.below hb).more hb.size) HT.out (by omega))
   have HA : Hid (∀ z, blk A = some z → w.heap.size + 3 ≤ z) := hid (fun z hz => by
    obtain ⟨vs, hown, _⟩ := ho.row
    exact (World.ownsRow.lt hown z (by rw [blk_own]; exact hz)).1)
   have hw1 : IntKind.i64.wrap (-1 - (k : Int)) = -1 - (k : Int) := by rw [IntKind.wrap_i64]; omega
   have hrl := r2.lt
   obtain ⟨ys, hys⟩ : ∃ ys, givesL ss k = ys := ⟨_, rfl⟩
   rw [hys] at LG
   have hlen : ys.length ≤ 1048576 := by
    rw [← hys]
    unfold givesL
    split
    ·simp [vt]
    ·exact HE.out k
   have RS := hid (rows_succ (givesL ss) k)
   by_cases h1 : ys.length = 1
   ·obtain ⟨x, rfl⟩ : ∃ x, ys = [x] := by
     match ys, h1 with
     | [x], _ => exact ⟨x, rfl⟩
    by_cases hx : x = -1 - (k : Int)
    ·have RB := hid (show bare (givesL ss) k = [] by unfold bare; rw [if_pos (by rw [hys, hx]; rfl)])
     have DX : (x == -1 - (k : Int)) = true := by simp [hx]
     clear hx hys
     go_wp2_with (first
      | (go_at_call 41; go_must (refine LG.out.mono ?_; rintro e w1 ⟨D, dn, dc, rfl, od, bb⟩; obtain rfl : dn = 1 := Own.len od; obtain ⟨gD, rfl, cD⟩ := own_one od; have cO1 : w1.cell? ⟨w.heap.size + 2, 0, none⟩ = some (.slice A k cA) := (r2.next bb).cell 0; have e5 : ((w1.alloc (.cells #[] 2)).alloc (.cells #[.slice (some ⟨w1.heap.size, 0, none⟩) 0 0] 24)).cell? ⟨w1.heap.size + 1, 0, none⟩ = some (.slice (some ⟨w1.heap.size, 0, none⟩) 0 0) := (by simp); have c15 : (w1.alloc (.cells #[] 2)).cell? ⟨w.heap.size + 2, 0, none⟩ = some (.slice A k cA) := ((r2.next bb).alloc (.cells #[] 2)).cell 0; have B5 : Below w1.heap.size w1 ((w1.alloc (.cells #[] 2)).alloc (.cells #[.slice (some ⟨w1.heap.size, 0, none⟩) 0 0] 24)) := ((Below.refl _ _).alloc (Nat.le_refl _) _).alloc (by simp) _; have hz5 := B5.size; have hz1 := bb.size; have ho5 := (ho.next bb).next B5; have i5 : Inn ((w1.alloc (.cells #[] 2)).alloc (.cells #[.slice (some ⟨w1.heap.size, 0, none⟩) 0 0] 24)) wr.heap.size ((w1.alloc (.cells #[] 2)).alloc (.cells #[.slice (some ⟨w1.heap.size, 0, none⟩) 0 0] 24)).heap.size (.slice (some ⟨w1.heap.size, 0, none⟩) 0 0) [] := Inn.wider ((inn_own (own_empty w1 wr.heap.size bb.size)).next ((Below.refl _ _).alloc (Nat.le_refl _) _)) (Nat.le_refl _) (by simp); have r25 := (r2.next bb).next B5; have c25 : ((w1.alloc (.cells #[] 2)).alloc (.cells #[.slice (some ⟨w1.heap.size, 0, none⟩) 0 0] 24)).cell? ⟨w.heap.size + 2, 0, none⟩ = some (.slice A k cA) := r25.cell 0))
      | (at_builtin; go_must (refine appS1 rfl _ _ rfl (w.heap.size + 3) wr.heap.size A k cA (rowsL (givesL ss) k) rfl ho5 _ 1 (.slice (some ⟨w1.heap.size, 0, none⟩) 0 0) [] rfl e5 i5 (by omega) (by omega) (by omega) ?_; intro A' c' w6 ho6 hg6 hat6 b6; have q2 := Row.away r25 hg6 (fun e => by have := HA.out _ e; omega); have c26 : w6.cell? ⟨w.heap.size + 2, 0, none⟩ = some (.slice A k cA) := q2.cell 0; have f26 : w6.frozen? ⟨w.heap.size + 2, 0, none⟩ = false := q2.free 0)))
     have S := hid (headL1_step (ss := ss) hlt (by rw [RS.out, RB.out]; exact ho6) r0 r1 r2 hb bb B5 hg6 HA.out)
     clear ho6 hg6 hat6 b6 ho5 i5 r25 c25 c15 q2 od bb B5 r0 r1 r2 hb ho RS RB LG cO1
     go_wp2
     go_roundw
     case rel => exact S.out
     case measure => simp [intOf]; omega
    ·have RB := hid (show bare (givesL ss) k = [x] by unfold bare; rw [if_neg (by rw [hys]; unfold vt; intro e; injection e with e; exact hx e), hys])
     have DX : (x == -1 - (k : Int)) = false := by simp [hx]
     clear hx hys
     go_wp2_with (first
      | (go_at_call 41; refine LG.out.mono ?_; rintro e w1 ⟨D, dn, dc, rfl, od, bb⟩; obtain rfl : dn = 1 := Own.len od; obtain ⟨gD, rfl, cD⟩ := own_one od; have cO1 : w1.cell? ⟨w.heap.size + 2, 0, none⟩ = some (.slice A k cA) := (r2.next bb).cell 0; have B5 : Below w1.heap.size w1 (w1.alloc (.cells #[.slice (some ⟨gD, 0, none⟩) 1 dc] 24)) := (Below.refl _ _).alloc (Nat.le_refl _) _; have hz5 := B5.size; have hz1 := bb.size; have ho5 := (ho.next bb).next B5; have i5 : Inn (w1.alloc (.cells #[.slice (some ⟨gD, 0, none⟩) 1 dc] 24)) wr.heap.size (w1.alloc (.cells #[.slice (some ⟨gD, 0, none⟩) 1 dc] 24)).heap.size (.slice (some ⟨gD, 0, none⟩) 1 dc) [x] := Inn.wider ((inn_own od).next ((Below.refl _ _).alloc (Nat.le_refl _) _)) (Nat.le_refl _) (by simp); have r25 := (r2.next bb).next B5; have c25 : (w1.alloc (.cells #[.slice (some ⟨gD, 0, none⟩) 1 dc] 24)).cell? ⟨w.heap.size + 2, 0, none⟩ = some (.slice A k cA) := r25.cell 0)
      | (at_builtin; refine appS1 rfl _ _ rfl (w.heap.size + 3) wr.heap.size A k cA (rowsL (givesL ss) k) rfl ho5 _ 1 (.slice (some ⟨gD, 0, none⟩) 1 dc) [x] rfl ((Row.new _ _ _).cell 0) i5 (by omega) (by omega) (by omega) ?_; intro A' c' w6 ho6 hg6 hat6 b6; have q2 := Row.away r25 hg6 (fun e => by have := HA.out _ e; omega); have c26 : w6.cell? ⟨w.heap.size + 2, 0, none⟩ = some (.slice A k cA) := q2.cell 0; have f26 : w6.frozen? ⟨w.heap.size + 2, 0, none⟩ = false := q2.free 0))
     have S := hid (headL1_step (ss := ss) hlt (by rw [RS.out, RB.out]; exact ho6) r0 r1 r2 hb bb B5 hg6 HA.out)
     clear ho6 hg6 hat6 b6 ho5 i5 r25 c25 q2 od bb B5 r0 r1 r2 hb ho RS RB LG cO1
     go_wp2
     go_roundw
     case rel => exact S.out
     case measure => simp [intOf]; omega
   ·have RB := hid (show bare (givesL ss) k = ys by unfold bare; rw [if_neg (by rw [hys]; unfold vt; intro e; rw [e] at h1; exact h1 rfl), hys])
    clear hys
    go_wp2_with (first
     | (go_at_call 41; refine LG.out.mono ?_; rintro e w1 ⟨D, dn, dc, rfl, od, bb⟩; have hdn : ¬ dn = 1 := (by rw [Own.len od]; exact h1); have hdz : ¬ (dn : Int) = 1 := (by omega); have hdb : (((dn : Nat) : Int) == 1) = false := (by simp; omega); have cO1 : w1.cell? ⟨w.heap.size + 2, 0, none⟩ = some (.slice A k cA) := (r2.next bb).cell 0; have B5 : Below w1.heap.size w1 (w1.alloc (.cells #[.slice D dn dc] 24)) := (Below.refl _ _).alloc (Nat.le_refl _) _; have hz5 := B5.size; have hz1 := bb.size; have ho5 := (ho.next bb).next B5; have i5 : Inn (w1.alloc (.cells #[.slice D dn dc] 24)) wr.heap.size (w1.alloc (.cells #[.slice D dn dc] 24)).heap.size (.slice D dn dc) ys := Inn.wider ((inn_own od).next ((Below.refl _ _).alloc (Nat.le_refl _) _)) (Nat.le_refl _) (by simp); have r25 := (r2.next bb).next B5; have c25 : (w1.alloc (.cells #[.slice D dn dc] 24)).cell? ⟨w.heap.size + 2, 0, none⟩ = some (.slice A k cA) := r25.cell 0)
     | (at_builtin; refine appS1 rfl _ _ rfl (w.heap.size + 3) wr.heap.size A k cA (rowsL (givesL ss) k) rfl ho5 _ 1 (.slice D dn dc) ys rfl ((Row.new _ _ _).cell 0) i5 (by omega) (by omega) (by omega) ?_; intro A' c' w6 ho6 hg6 hat6 b6; have q2 := Row.away r25 hg6 (fun e => by have := HA.out _ e; omega); have c26 : w6.cell? ⟨w.heap.size + 2, 0, none⟩ = some (.slice A k cA) := q2.cell 0; have f26 : w6.frozen? ⟨w.heap.size + 2, 0, none⟩ = false := q2.free 0))
    have S := hid (headL1_step (ss := ss) hlt (by rw [RS.out, RB.out]; exact ho6) r0 r1 r2 hb bb B5 hg6 HA.out)
    clear ho6 hg6 hat6 b6 ho5 i5 r25 c25 q2 od bb B5 r0 r1 r2 hb ho RS RB LG cO1
    go_wp2
    go_roundw
    case rel => exact S.out
    case measure => simp [intOf]; omega
  ·obtain rfl : k = m := by omega
   have HC := hid ho.cap
   have H2 : HeadL2 w (givesL ss) k A cA (.pointer (some ⟨w.heap.size + 2, 0, none⟩)) wr := ⟨k, Nat.le_refl _, rfl, by rw [List.take_of_length_le (by rw [rows_len]; exact Nat.le_refl _)]; rfl, ho, r1, r2, hb⟩
   have HH2 := hid H2
   have hc1 : cA ≤ 9223372036854775807 := ho.cap.2.1
   have hc0 : k ≤ cA := ho.cap.1
   clear H2 ho r0 r1 r2 hb cO h
   go_wp2_with fail
   go_loopw [] (fun wr => HeadL2 w (givesL ss) k A cA (.pointer (some ⟨w.heap.size + 2, 0, none⟩)) wr) (fun wr => lenAt wr ⟨w.heap.size + 2, 0, none⟩)
   case atStart => exact HH2.out
   case round =>
    obtain ⟨n, hn, -, hs, ho, r1, r2, hb⟩ := hrel
    clear HH2
    have cO : wr.cell? ⟨w.heap.size + 2, 0, none⟩ = some (.slice A n cA) := r2.cell 0
    have fO : wr.frozen? ⟨w.heap.size + 2, 0, none⟩ = false := r2.free 0
    have cR : wr.cell? ⟨w.heap.size + 1, 0, none⟩ = some (.slice none 0 0) := r1.cell 0
    have fR : wr.frozen? ⟨w.heap.size + 1, 0, none⟩ = false := r1.free 0
    by_cases h0 : n = 0
    ·subst h0
     have F := hid (headL2_end hn hs ho r1 hb (.inl rfl))
     clear hs ho r1 r2 hb
     go_wp2
     exact bodyPost_ret (v := .agg #[.slice A 0 cA]) (by simp [results, Try.results80, go_sem, cR]) rfl F.out
    ·obtain ⟨p, rfl⟩ : ∃ p, n = p + 1 := ⟨n - 1, by omega⟩
     obtain ⟨b, off, A', q, cq, rfl, hbb, hx, hseg, hcap⟩ := ho.segs.spot (k := p) (by omega)
     have p0 : (0 : Int) ≤ (p : Int) := by omega
     have p1 : ((p + 1 : Nat) : Int) - 1 = (p : Int) := by omega
     have p2 : (p : Int) ≤ (cA : Int) := by omega
     have p3 : (p : Int) < ((p + 1 : Nat) : Int) := by omega
     have p4 : (0 : Int) < ((p + 1 : Nat) : Int) := by omega
     have hw2 : IntKind.i64.wrap (p : Int) = (p : Int) := by rw [IntKind.wrap_i64]; omega
     by_cases hq : q = 0
     ·subst hq
      have hnil : (rowsL (givesL ss) k).getD p [] = [] := List.eq_nil_of_length_eq_zero hseg.1
      have S1 : HeadL2 w (givesL ss) k (some ⟨b, off, none⟩) cA (.pointer (some ⟨w.heap.size + 2, 0, none⟩)) (wr.setCell ⟨w.heap.size + 2, 0, none⟩ (.slice (some ⟨b, off, none⟩) p cA)) := by
       refine ⟨p, by omega, rfl, by rw [← strip_drop (by rw [rows_len]; omega) hnil]; exact hs, ?_, r1.far (by simp) _, ?_, hb.setCell (by simp) _⟩
       ·have := owns_put ho r2 (by omega) 0 (.slice (some ⟨b, off, none⟩) p cA)
        simpa using this
       ·have := r2.put 0 (.slice (some ⟨b, off, none⟩) p cA)
        simpa using this
      have HS1 := hid S1
      have E1 : (wr.setCell ⟨w.heap.size + 2, 0, none⟩ (.slice (some ⟨b, off, none⟩) p cA)).cell? ⟨w.heap.size + 2, 0, none⟩ = some (.slice (some ⟨b, off, none⟩) p cA) := by have := (r2.put 0 (.slice (some ⟨b, off, none⟩) p cA)).cell 0; simpa using this
      have HLT := hid (show lenAt (wr.setCell ⟨w.heap.size + 2, 0, none⟩ (.slice (some ⟨b, off, none⟩) p cA)) ⟨w.heap.size + 2, 0, none⟩ < lenAt wr ⟨w.heap.size + 2, 0, none⟩ by simp only [lenAt, E1, cO]; omega)
      clear S1 E1 hs ho r1 r2 hb hseg hcap hnil
      go_wp2
      go_roundw
      case rel => exact HS1.out
      case measure => exact HLT.out
     ·have hq1 : (0 : Int) < (q : Int) := by omega
      have F := hid (headL2_end hn hs ho r1 hb (.inr (fun e => by rw [show p + 1 - 1 = p by omega] at e; rw [e] at hseg; exact hq hseg.1.symm)))
      clear hs ho r1 r2 hb hseg hcap
      go_wp2
      exact bodyPost_ret (v := .agg #[.slice (some ⟨b, off, none⟩) (p + 1) cA]) (by simp [results, Try.results80, go_sem, cR]) rfl F.out
theorem tot_le {xss : List (List Int)} {M : Nat} (h : ∀ j, (xss.getD j []).length ≤ M) : tot xss ≤ xss.length + xss.length * M := by
 have : ∀ k, k ≤ xss.length → sumL xss k ≤ k * M := fun k => by
  induction k with
  | zero => intro _; simp [sumL]
  | succ k ih =>
   intro hk
   rw [sumL_succ (by omega)]
   have h1 := ih (by omega)
   have h2 := h k
   rw [Nat.succ_mul]
   omega
 unfold tot
 have := this xss.length (Nat.le_refl _)
 omega
end plainOf
end
section
namespace drawSS
open Go.RowKit base ints sig term cursor termOk marks app appAt sym segs segsHelp dice drawSig drawTerm drawAny drawTwo drawPair drawOne drawSub drawS drawSA drawVar plain plainOf
set_option maxRecDepth 100000
theorem OwnR.segs {w : World} {p lo n c : Nat} {A : Option Addr} {xss : List (List Int)} (h : OwnR w p lo A n c xss) : Segs w w.heap.size A n xss := by
 obtain ⟨h1, vs, hr, h3⟩ := h
 refine ⟨h1, fun hn => ?_⟩
 rcases own_form hr with ⟨_, e, _⟩ | ⟨g, cur, rfl, _, hrow, _, _, _, _, hc⟩
 ·omega
 ·refine ⟨g, 0, rfl, hrow.lt, fun j hj => ?_⟩
  obtain ⟨A', n', c', e, hrd, hcap, _⟩ := h3 j hj
  refine ⟨A', n', c', ?_, hrd.seg, hcap⟩
  rw [Nat.zero_add, hrow.cell j, hc j hj, e]
structure V4 (w : World) (p : Nat) (A : Option Addr) (n c v6 v7 : Nat) (S : Option Addr) (sn sc : Nat) (sg : List Int) (B : Option Addr) (m cB : Nat) (xss : List (List Int)) (wr : World) : Prop where
 d : Dice wr p A n c
 rN : Row wr w.heap.size 26 #[.slice none 0 0]
 rP : Row wr (w.heap.size + 1) 31 #[.slice none 0 0]
 r6 : Row wr v6 26 #[.slice S sn sc]
 r7 : Row wr v7 31 #[.slice B m cB]
 s : Rd wr p wr.heap.size S sn sg
 own : OwnR wr p (p + 1) B m cB xss
 b : Below w.heap.size w wr
 hp : w.heap.size + 1 < p
 p6 : p < v6
 p7 : p < v7
section
variable {w : World} {p : Nat} {A : Option Addr} {n c v6 v7 : Nat} {S : Option Addr} {sn sc : Nat} {sg : List Int} {B : Option Addr} {m cB : Nat} {xss : List (List Int)} {wr w' : World}
theorem V4.next (t : V4 w p A n c v6 v7 S sn sc sg B m cB xss wr) (hb : Below wr.heap.size wr w') : V4 w p A n c v6 v7 S sn sc sg B m cB xss w' :=
 ⟨t.d.next hb, t.rN.next hb, t.rP.next hb, t.r6.next hb, t.r7.next hb, (t.s.below hb (Nat.le_refl _)).more hb.size, t.own.below hb, next_trans t.b hb, t.hp, t.p6, t.p7⟩
end
end drawSS
end
section
open Go.Lib (hid)
namespace drawL4
open Go.RowKit base ints sig term cursor termOk marks app sym segs segsHelp dice drawSig drawTerm drawAny drawTwo drawPair drawOne drawSub drawSA drawSS drawS
set_option maxRecDepth 100000
structure LL (w : World) (p : Nat) (A : Option Addr) (n c : Nat) (S : Option Addr) (sn sc : Nat) (sg : List Int) (B : Option Addr) (m cB : Nat) (xss : List (List Int)) (wr : World) : Prop where
 d : Dice wr p A n c
 rS : Row wr w.heap.size 26 #[.slice S sn sc]
 own : OwnR wr p (w.heap.size + 1) B m cB xss
 s : Rd wr p w.heap.size S sn sg
 g : w.grownBy wr (some p)
 hp : p < w.heap.size
section
variable {w : World} {p : Nat} {A : Option Addr} {n c : Nat} {S : Option Addr} {sn sc : Nat} {sg : List Int} {B : Option Addr} {m cB : Nat} {xss : List (List Int)} {wr w' : World}
theorem LL.dice (t : LL w p A n c S sn sc sg B m cB xss wr) (d : Dice w' p A n c) (hg : wr.grownBy w' (some p)) : LL w p A n c S sn sc sg B m cB xss w' :=
 ⟨d, Row.away t.rS hg (fun e => by injection e; have := t.hp; omega), t.own.dice hg (by have := t.hp; omega), t.s.grown hg t.g.size, grown_trans t.g hg, t.hp⟩
theorem LL.next (t : LL w p A n c S sn sc sg B m cB xss wr) (hb : Below wr.heap.size wr w') : LL w p A n c S sn sc sg B m cB xss w' :=
 ⟨t.d.next hb, t.rS.next hb, t.own.below hb, t.s.below hb t.g.size, grown_over t.g hb t.g.size, t.hp⟩
theorem LL.put {B' : Option Addr} {m' cB' : Nat} {yss : List (List Int)} (t : LL w p A n c S sn sc sg B m cB xss wr) (hb : Below (w.heap.size + 1) wr w') (ho : OwnR w' p (w.heap.size + 1) B' m' cB' yss) : LL w p A n c S sn sc sg B' m' cB' yss w' :=
 ⟨t.d.keep (hb.mono (by have := t.hp; omega)), t.rS.below hb (Nat.lt_succ_self _), ho, t.s.below hb (Nat.le_succ _), grown_over t.g hb (Nat.le_succ _), t.hp⟩
end
theorem ownR_empty (w : World) (p base : Nat) (hb : base ≤ w.heap.size) : OwnR (w.alloc (.cells #[] 24)) p base (some ⟨w.heap.size, 0, none⟩) 0 0 [] := by
 have := ownR_made (p := p) (lo := base) (w := w) (k := 0) hb (by omega)
 have e : madeCells #[Value.slice none 0 0] 0 = #[] := by simp [madeCells]
 rw [e] at this
 simpa using this
def AnsL4 (w : World) (p : Nat) (A : Option Addr) (n c : Nat) (e : Ending) (w' : World) : Prop :=
 ∃ B m cB xss, e = .returned (.slice B m cB) ∧ OwnR w' p w.heap.size B m cB xss ∧ Small 13 65 m xss ∧ Dice w' p A n c ∧ w.grownBy w' (some p)
def HeadL (w : World) (p : Nat) (A : Option Addr) (n c : Nat) (S : Option Addr) (sn sc : Nat) (sg : List Int) (l num : Value) (wr : World) : Prop :=
 ∃ (k : Nat) (B : Option Addr) (m cB : Nat) (xss : List (List Int)), num = .int .i64 k ∧ l = .slice B m cB ∧ m + k ≤ 4 ∧ Small 4 65 m xss ∧ LL w p A n c S sn sc sg B m cB xss wr
def HeadM (w : World) (p : Nat) (A : Option Addr) (n c : Nat) (S : Option Addr) (sn sc : Nat) (sg : List Int) (g : Nat) (l : Value) (wr : World) : Prop :=
 ∃ (B : Option Addr) (m cB : Nat) (xss : List (List Int)), l = .slice B m cB ∧ m + g = 13 ∧ Small 13 65 m xss ∧ LL w p A n c S sn sc sg B m cB xss wr
set_option maxHeartbeats 4000000 in
theorem l4DrawList (p : Nat) (A : Option Addr) (n c : Nat) (S : Option Addr) (sn sc : Nat) (sg : List Int) (w : World) (hd : Dice w p A n c) (hr : Rd w p w.heap.size S sn sg) (hsn : sn ≤ 256) :
  Calls Try.prog 51 #[.pointer (some ⟨p, 0, none⟩), .agg #[.slice S sn sc]] w (AnsL4 w p A n c) := by
 obtain ⟨W, hW⟩ : ∃ W, W = (w.alloc (.cells #[.slice S sn sc] 26)).alloc (.cells #[] 24) := ⟨_, rfl⟩
 have T : LL w p A n c S sn sc sg (some ⟨w.heap.size + 1, 0, none⟩) 0 0 [] W := by
  have b1 : Below w.heap.size w W := by rw [hW]; exact ((Below.refl _ _).alloc (Nat.le_refl _) _).alloc (by simp) _
  refine ⟨hd.next b1, ?_, ?_, hr.below b1 (Nat.le_refl _), grown_below b1 _, hd.lt⟩
  ·rw [hW]; exact (Row.new _ _ _).alloc _
  ·rw [hW]; have := ownR_empty (w.alloc (.cells #[.slice S sn sc] 26)) p (w.heap.size + 1) (by simp); simpa using this
 have HW := hid hW
 have L1 := hid (below p A n c 5 W T.d (by omega) (by omega))
 clear hW hd hr
 go_enter Try.func51, Try.ntmps51
 go_wp2_with fail
 rw [← HW.out]
 refine L1.out.mono ?_
 rintro e w1 ⟨x, rfl, x0, x1, d1, g1⟩
 obtain ⟨k0, rfl⟩ := Int.eq_ofNat_of_zero_le x0
 have HH := hid (show HeadL w p A n c S sn sc sg (.slice (some ⟨w.heap.size + 1, 0, none⟩) 0 0) (.int .i64 (k0 : Int)) w1 from ⟨k0, _, 0, 0, [], rfl, rfl, by omega, small_nil _ _, T.dice d1 g1⟩)
 clear T d1 g1 L1 HW
 go_wp2_with fail
 go_loopw [5, 6] (fun l num wr => HeadL w p A n c S sn sc sg l num wr) (fun _ num _ => (intOf num).toNat)
 case atStart => exact HH.out
 case round =>
  obtain ⟨k, B, m, cB, xss, rfl, rfl, hmk, hsm, T⟩ := hrel
  clear HH
  by_cases hk : 0 < k
  ·have i0 : (0 : Int) < (k : Int) := by omega
   have cS : wr.cell? ⟨w.heap.size, 0, none⟩ = some (.slice S sn sc) := T.rS.cell 0
   have zwr := T.g.size
   go_wp2_with fail
   refine (drawAnyN p A n c S sn sc sg wr T.d (T.s.more zwr) (by omega)).mono ?_
   rintro e w2 ⟨O, on, oc, ys, rfl, ra, h1, h2, h3, h4, d2, g2, hnew⟩
   have T2 := T.dice d2 g2
   have zlt := T2.rS.lt
   have EL : Elem w2 p (blk B) (.slice O on oc) ys := ⟨O, on, oc, rfl, ra, ⟨h1, h2, h3⟩, fun hpos e => by
    obtain ⟨b, off, rfl, -⟩ := ra.2 hpos
    have q1 := hnew b rfl
    have q2 := (T.own.ge b (by rw [← e]; rfl)).2
    omega⟩
   have hyl : ys.length ≤ 65 := by rw [ra.1]; exact h4
   have B3 : Below w2.heap.size w2 (w2.alloc (.cells #[.slice O on oc] 24)) := (Below.refl _ _).alloc (Nat.le_refl _) _
   have T6 := T2.next B3
   have EL2 := EL.below B3
   clear T T2 EL B3 d2 g2 cS ra hnew h1 h2 h3 h4
   go_wp2_with (at_builtin; go_must (refine appR1 rfl _ _ rfl p (w.heap.size + 1) B m cB xss rfl T6.own _ 1 (.slice O on oc) ys rfl ((Row.new _ _ _).cell 0) EL2 (by omega) (by simp; omega) ?_; intro A' cA' w6 ho6 hg6 hat6 b6))
   have S1 := hid (show HeadL w p A n c S sn sc sg (.slice A' (m + 1) cA') (.int .i64 ((k : Int) - 1)) w6 from ⟨k - 1, A', m + 1, cA', xss ++ [ys], by rw [show ((k - 1 : Nat) : Int) = (k : Int) - 1 by omega], rfl, by omega, small_app hsm T6.own.1 hyl (by omega), T6.put b6 ho6⟩)
   clear ho6 hg6 hat6 b6 T6 EL2
   go_wp2
   go_roundw
   case rel => exact S1.out
   case measure => simp [intOf]; omega
  ·have i1 : ¬ (0 : Int) < (k : Int) := by omega
   have hm4 : m ≤ 4 := by omega
   go_wp2_with fail
   refine (once p A n c 15 wr T.d (by omega) (by omega)).mono ?_
   rintro e w2 ⟨b, rfl, d2, g2⟩
   have T2 := T.dice d2 g2
   clear T d2 g2
   cases b with
   | false =>
    have F := hid (show AnsL4 w p A n c (.returned (.slice B m cB)) w2 from ⟨B, m, cB, xss, rfl, T2.own.lower (Nat.le_succ _), small_wider hsm (by omega) (Nat.le_refl _), T2.d, T2.g⟩)
    clear T2
    go_wp2
    go_ret
    exact F.out
   | true =>
    have H2 := hid (show HeadM w p A n c S sn sc sg (13 - m) (.slice B m cB) w2 from ⟨B, m, cB, xss, rfl, by omega, small_wider hsm (by omega) (Nat.le_refl _), T2⟩)
    clear T2
    go_wp2_with fail
    go_loopg [5] (13 - m) (fun g l wr => HeadM w p A n c S sn sc sg g l wr)
    case atStart => exact H2.out
    case round =>
     obtain ⟨B2, m2, cB2, yss, rfl, hg, hs2, T⟩ := hrel
     clear H2
     have HG := hid hg
     clear hg
     have hm13 : m2 ≤ 13 := by have := HG.out; omega
     go_wp2_with fail
     refine (below p A n c 2 wr T.d (by omega) (by omega)).mono ?_
     rintro e w3 ⟨y, rfl, y0, y1, d3, g3⟩
     have T3 := T.dice d3 g3
     have y2 : y ≤ 1 := by omega
     clear T d3 g3 y1
     by_cases hlt : (m2 : Int) < 12 + y
     ·have HS := hid (show gk - 1 < gk ∧ m2 + 1 + (gk - 1) = 13 by have := HG.out; omega)
      have zp : p < w3.heap.size := by have := T3.g.size; have := T3.hp; omega
      have EL : Elem (w3.alloc (.cells #[.int .i64 (-1)] 2)) p (blk B2) (.slice (some ⟨w3.heap.size, 0, none⟩) 1 1) [-1] := ⟨_, 1, 1, rfl, ⟨rfl, fun _ => ⟨w3.heap.size, 0, rfl, by simp, by omega, fun j hj => by
       obtain rfl : j = 0 := by omega
       exact (Row.new w3 2 #[.int .i64 (-1)]).cell 0⟩⟩, ⟨Nat.le_refl _, by omega, fun e => by cases e⟩, fun _ e => by
       have q := (T3.own.ge w3.heap.size (by rw [← e]; rfl)).2
       omega⟩
      have B1 : Below w3.heap.size w3 (w3.alloc (.cells #[.int .i64 (-1)] 2)) := (Below.refl _ _).alloc (Nat.le_refl _) _
      have T4 := T3.next B1
      have B2' : Below (w3.alloc (.cells #[.int .i64 (-1)] 2)).heap.size (w3.alloc (.cells #[.int .i64 (-1)] 2)) ((w3.alloc (.cells #[.int .i64 (-1)] 2)).alloc (.cells #[.slice (some ⟨w3.heap.size, 0, none⟩) 1 1] 24)) := (Below.refl _ _).alloc (Nat.le_refl _) _
      have T6 := T4.next B2'
      have EL2 := EL.below B2'
      have zlt := T3.rS.lt
      clear T3 T4 EL B1 B2'
      go_wp2_with (at_builtin; go_must (refine appR1 rfl _ _ rfl p (w.heap.size + 1) B2 m2 cB2 yss rfl T6.own _ 1 (.slice (some ⟨w3.heap.size, 0, none⟩) 1 1) [-1] rfl (by simp) EL2 (by omega) (by simp; omega) ?_; intro A' cA' w6 ho6 hg6 hat6 b6))
      have S1 := hid (show HeadM w p A n c S sn sc sg (gk - 1) (.slice A' (m2 + 1) cA') w6 from ⟨A', m2 + 1, cA', yss ++ [[-1]], rfl, HS.out.2, small_app hs2 T6.own.1 (by simp) (by omega), T6.put b6 ho6⟩)
      clear ho6 hg6 hat6 b6 T6 EL2
      go_wp2
      go_roundg (gk - 1)
      case measure => exact HS.out.1
      case rel => exact S1.out
     ·have F := hid (show AnsL4 w p A n c (.returned (.slice B2 m2 cB2)) w3 from ⟨B2, m2, cB2, yss, rfl, T3.own.lower (Nat.le_succ _), hs2, T3.d, T3.g⟩)
      clear T3
      go_wp2
      go_ret
      exact F.out
end drawL4
end
section
namespace drawGeneral
open Go.RowKit base ints sig term cursor termOk marks app sym segs segsHelp dice drawSig drawTerm drawAny drawTwo drawPair drawOne drawSub drawSA drawSS drawS drawVar drawL4
set_option maxRecDepth 100000
def AnsGL (w : World) (e : Ending) (w' : World) : Prop :=
 ∃ S sn sc sg B m cB xss, e = .returned (.tuple #[.agg #[.slice S sn sc], .slice B m cB]) ∧ Seg w' w'.heap.size S sn sg ∧ Segs w' w'.heap.size B m xss ∧ Cap B m cB ∧ sn ≤ 9 ∧ Small 13 65 m xss ∧ Below w.heap.size w w'
theorem gl_of {w u : World} {p : Nat} {A : Option Addr} {n c v : Nat} {S : Option Addr} {sn sc : Nat} {sg : List Int} {lo : Nat} {B : Option Addr} {m cB : Nat} {xss : List (List Int)} (t : V3 w p A n c v S sn sc sg none 0 [] u) (ho : OwnR u p lo B m cB xss) (hlo : w.heap.size < lo) (h1 : sn ≤ 9) (h2 : Small 13 65 m xss) :
  AnsGL w (.returned (.tuple #[.agg #[.slice S sn sc], .slice B m cB])) (u.setCell ⟨w.heap.size, 0, none⟩ (.slice S sn sc)) :=
 ⟨S, sn, sc, sg, B, m, cB, xss, rfl, (Seg.other t.s.seg (t.rN.cell 0) _).more (by simp), OwnR.segs (OwnR.set ho hlo (t.rN.cell 0) _), OwnR.cap ho, h1, h2, t.b.setCell (Nat.le_refl _) _⟩
set_option maxHeartbeats 4000000 in
theorem drawMostGeneral (A : Option Addr) (n c : Nat) (w : World) (h : SegB w w.heap.size A n) (hn : n ≤ 4096) :
  Calls Try.prog 17 #[.slice A n c] w (AnsGL w) := by
 obtain ⟨W0, hW0⟩ : ∃ W0, W0 = w.alloc (.cells #[.slice none 0 0] 26) := ⟨_, rfl⟩
 have rN : Row W0 w.heap.size 26 #[.slice none 0 0] := by rw [hW0]; exact Row.new _ _ _
 have b0 : Below w.heap.size w W0 := by rw [hW0]; exact (Below.refl _ _).alloc (Nat.le_refl _) _
 have L := Lib.hid (new_ A n c W0 (segB_below h b0) hn)
 have HW0 := Lib.hid hW0
 clear h hW0
 go_enter Try.func17, Try.ntmps17
 go_wp2_with fail
 rw [← HW0.out]
 refine L.out.mono ?_
 rintro e w1 ⟨p, rfl, hp, d1, bb⟩
 have hNp : w.heap.size < p := Nat.lt_of_lt_of_le rN.lt hp
 replace rN := rN.next bb
 have bel := next_trans b0 bb
 have L2 := Lib.hid (drawSigAny p A n c w1 d1)
 have hp1 := d1.lt
 clear d1 bb b0 L
 go_wp2_with fail
 refine L2.out.mono ?_
 rintro e w2 ⟨S, sn, sc, sg, rfl, o2, hshort, d2, g2⟩
 have hsn : sn ≤ 9 := by rw [Own.len o2]; exact hshort
 have hp2 := d2.lt
 replace rN := Row.away rN g2 (fun e => by injection e; omega)
 have bel2 : Below w.heap.size w w2 := bel.grown g2 bel.size (fun k hk => by injection hk; omega)
 obtain ⟨v, hv⟩ : ∃ v, w2.heap.size = v := ⟨_, rfl⟩
 obtain ⟨W, hW⟩ : ∃ W, W = w2.alloc (.cells #[.slice S sn sc] 26) := ⟨_, rfl⟩
 have T : V3 w p A n c v S sn sc sg none 0 [] W := by
  have bb : Below w2.heap.size w2 W := by rw [hW]; exact (Below.refl _ _).alloc (Nat.le_refl _) _
  exact ⟨d2.next bb, rN.next bb, by rw [hW, ← hv]; exact Row.new _ _ _, ((Rd.of_own o2 hp1).below bb (Nat.le_refl _)).more bb.size, Rd.none_, next_trans bel2 bb, hNp, by omega⟩
 have HW := Lib.hid hW
 have HV := Lib.hid hv
 have cV : W.cell? ⟨v, 0, none⟩ = some (.slice S sn sc) := T.rV.cell 0
 have cN : W.cell? ⟨w.heap.size, 0, none⟩ = some (.slice none 0 0) := T.rN.cell 0
 have fN : W.frozen? ⟨w.heap.size, 0, none⟩ = false := T.rN.free 0
 have zNv : w.heap.size < v := by omega
 have zne1 : ¬ v = w.heap.size := by omega
 have zne2 : ¬ w.heap.size = v := by omega
 have hwlo : w.heap.size < W.drew.heap.size := T.drew.rN.lt
 have T1 := T.drew
 clear bel bel2 g2 d2 L2 rN hW hv o2 hshort T
 go_wp2_with fail
 rw [← HW.out, HV.out]
 go_region_held3 (fun w' => w'.cell? ⟨v, 0, none⟩ = some (.slice S sn sc))
  (go_keep)
  (first
   | (go_at_call 51; refine (l4DrawList p A n c S sn sc sg W.drew T1.d T1.s (by omega)).mono ?_; rintro e w3 ⟨B, m, cB, xss, rfl, ow, hsm, d3, g3⟩; have T2 := T1.dice d3 g3; have cV3 : w3.cell? ⟨v, 0, none⟩ = some (.slice S sn sc) := T2.rV.cell 0; have cN3 : w3.cell? ⟨w.heap.size, 0, none⟩ = some (.slice none 0 0) := T2.rN.cell 0; have fN3 : w3.frozen? ⟨w.heap.size, 0, none⟩ = false := T2.rN.free 0; have F := Lib.hid (gl_of T2 ow hwlo hsn hsm)))
 clear cV3 T2 ow d3 g3 T1 fN3
 go_wp2
 exact bodyPost_ret (v := .tuple #[.agg #[.slice S sn sc], .slice B m cB]) (by simp [results, Try.results17, go_sem, cN3]) rfl F.out
end drawGeneral
end
section
namespace endAt
open Go.RowKit base ints sig term arity endOf cursor termOk
def inB (t : List Int) (x : Int) : Bool := decide (0 ≤ x ∧ x < t.length)
def thereB (sg t : List Int) (x : Int) : Bool := termOkB sg t && inB t x
theorem termOk_parts {sg t : List Int} (h : termOkB sg t = true) : sigOkB sg = true ∧ t.length ≤ 60 ∧ scan sg 1 t = some t.length := by
 unfold termOkB termB at h
 simp only [Bool.and_eq_true, decide_eq_true_eq] at h
 exact h
theorem there_parts {sg t : List Int} {x : Int} (h : thereB sg t x = true) : termOkB sg t = true ∧ 0 ≤ x ∧ x < t.length := by
 unfold thereB inB at h
 simp only [Bool.and_eq_true, decide_eq_true_eq] at h
 exact h
theorem there_no {sg t : List Int} {x : Int} (h : termOkB sg t = false ∨ x < 0 ∨ (t.length : Int) ≤ x) : thereB sg t x = false := by
 unfold thereB inB
 rcases h with h | h | h
 ·rw [h, Bool.false_and]
 ·rw [decide_eq_false (by omega), Bool.and_false]
 ·rw [decide_eq_false (by omega), Bool.and_false]
theorem there (A : Option Addr) (m c : Nat) (x : Int) (b : Bool) (w : World) (hm : m ≤ 1048576) (hb : decide (0 ≤ x ∧ x < m) = b) :
  Calls Try.prog 69 #[.slice A m c, .int .i64 x] w fun e w' => w = w' ∧ e = .returned (.bool b) := by
 by_cases h : 0 ≤ x ∧ x ≤ (m : Int) - 1
 ·have hbt : b = true := by rw [← hb]; simp; omega
  subst hbt
  clear hb
  go_enter Try.func69, Try.ntmps69
  go_wp2_with fail
  refine (inYes _ _ _ _ h).mono ?_
  rintro e w' ⟨rfl, rfl⟩
  go_wp2
  go_ret
  exact ⟨rfl, rfl⟩
 ·have hbt : b = false := by rw [← hb]; simp; omega
  subst hbt
  clear hb
  go_enter Try.func69, Try.ntmps69
  go_wp2_with fail
  refine (inNo _ _ _ _ h).mono ?_
  rintro e w' ⟨rfl, rfl⟩
  go_wp2
  go_ret
  exact ⟨rfl, rfl⟩
end endAt
end
section
namespace sym
open Go.RowKit base ints sig term termOk marks app
end sym
end
section
open Go.Lib (hid)
namespace curO
open Go.RowKit base ints sig term arity cursor sub
set_option maxRecDepth 100000
structure CurO (w : World) (p o : Nat) (ty : TypeId) (cs : Array Value) (A : Option Addr) (n c : Nat) (A' : Option Addr) (m c' : Nat) (sg t : List Int) (k : Nat) : Prop where
 row : Row w p ty (cs.setIfInBounds (o + 2) (.int .i64 k))
 h0 : cs[o]? = some (.slice A n c)
 h1 : cs[o + 1]? = some (.slice A' m c')
 sz : o + 2 < cs.size
 s : Seg w p A n sg
 s' : Seg w p A' m t
 le : k ≤ m
 hn : n ≤ 1048576
 hm : m ≤ 1048576
 ars : Arities sg
section
variable {w w' : World} {p o : Nat} {ty : TypeId} {cs : Array Value} {A : Option Addr} {n c : Nat} {A' : Option Addr} {m c' : Nat} {sg t : List Int} {k : Nat}
theorem CurO.c0 (h : CurO w p o ty cs A n c A' m c' sg t k) : w.cell? ⟨p, o, none⟩ = some (.slice A n c) := by
 rw [h.row.cell o, Array.getElem?_setIfInBounds_ne (by omega)]; exact h.h0
theorem CurO.c1 (h : CurO w p o ty cs A n c A' m c' sg t k) : w.cell? ⟨p, o + 1, none⟩ = some (.slice A' m c') := by
 rw [h.row.cell (o + 1), Array.getElem?_setIfInBounds_ne (by omega)]; exact h.h1
theorem CurO.c2 (h : CurO w p o ty cs A n c A' m c' sg t k) : w.cell? ⟨p, o + 2, none⟩ = some (.int .i64 k) := by
 rw [h.row.cell (o + 2), Array.getElem?_setIfInBounds_self_of_lt h.sz]
theorem CurO.below (h : CurO w p o ty cs A n c A' m c' sg t k) (hb : Below w.heap.size w w') : CurO w' p o ty cs A n c A' m c' sg t k :=
 have hp := h.row.lt
 ⟨h.row.next hb, h.h0, h.h1, h.sz, h.s.below (hb.mono (Nat.le_of_lt hp)), h.s'.below (hb.mono (Nat.le_of_lt hp)), h.le, h.hn, h.hm, h.ars⟩
theorem CurO.drewN (h : CurO w p o ty cs A n c A' m c' sg t k) (d : Nat) : CurO (w.drewN d) p o ty cs A n c A' m c' sg t k :=
 ⟨h.row, h.h0, h.h1, h.sz, h.s, h.s', h.le, h.hn, h.hm, h.ars⟩
theorem CurO.step (h : CurO w p o ty cs A n c A' m c' sg t k) (hk : k < m) (d : Nat) :
  CurO ((w.drewN d).setCell ⟨p, o + 2, none⟩ (.int .i64 ((k : Int) + 1))) p o ty cs A n c A' m c' sg t (k + 1) := by
 have r := (h.row.drewN d).put (o + 2) (.int .i64 ((k : Int) + 1))
 rw [Array.setIfInBounds_setIfInBounds] at r
 refine ⟨?_, h.h0, h.h1, h.sz, (h.s.drewN d).put (p := ⟨p, o + 2, none⟩) (Nat.le_refl _) _, (h.s'.drewN d).put (p := ⟨p, o + 2, none⟩) (Nat.le_refl _) _, hk, h.hn, h.hm, h.ars⟩
 have e : (.int .i64 ((k : Int) + 1) : Value) = .int .i64 ((k + 1 : Nat) : Int) := by simp
 rw [← e]
 exact r
end
def NextO (w : World) (p o : Nat) (ty : TypeId) (cs : Array Value) (A : Option Addr) (n c : Nat) (A' : Option Addr) (m c' : Nat) (sg t : List Int) (k : Nat) (e : Ending) (w' : World) : Prop :=
 w.grownBy w' (some p) ∧ ((k < m ∧ e = .returned (.int .i64 (ar sg (t.getD k 0))) ∧ CurO w' p o ty cs A n c A' m c' sg t (k + 1)) ∨ (k = m ∧ e = .returned (.int .i64 (-1)) ∧ CurO w' p o ty cs A n c A' m c' sg t k))
set_option maxHeartbeats 1000000 in
theorem nextO (p o : Nat) (ty : TypeId) (cs : Array Value) (A : Option Addr) (n c : Nat) (A' : Option Addr) (m c' : Nat) (sg t : List Int) (k : Nat) (w : World) (h : CurO w p o ty cs A n c A' m c' sg t k) :
  Calls Try.prog 100 #[.pointer (some ⟨p, o, none⟩)] w (NextO w p o ty cs A n c A' m c' sg t k) := by
 have hk := h.le
 have hm := h.hm
 have c0 := h.c0
 have c1 := h.c1
 have c2 := h.c2
 have f2 : w.frozen? ⟨p, o + 2, none⟩ = false := h.row.free (o + 2)
 by_cases hlt : k < m
 ·obtain ⟨b, off, x, rfl, hbb, hx, ex⟩ := h.s'.spot hlt
  have i0 : (0 : Int) ≤ (k : Int) := by omega
  have i1 : (k : Int) < (m : Int) := by omega
  have HS := hid (fun d => h.step hlt d)
  have HG := hid (fun d => grown_put (grown_drewN (World.grownBy.refl w (some p)) d) (o + 2) (.int .i64 ((k : Int) + 1)))
  clear h
  go_enter Try.func100, Try.ntmps100
  go_wp2
  go_quiet (fail)
  go_wp2
  go_quiet (fail)
  go_wp2_with fail
  refine (implArity A n c sg x _ ((HS.out _).s.more (Nat.le_of_lt (HS.out _).row.lt)) (HS.out 0).hn).mono ?_
  rintro e w' ⟨rfl, bb⟩
  have F : NextO w p o ty cs A n c (some ⟨b, off, none⟩) m c' sg t k (.returned (.int .i64 (ar sg x))) w' :=
   ⟨grown_trans (HG.out _) (grown_below bb _), .inl ⟨hlt, by rw [ex.out], (HS.out _).below bb⟩⟩
  have HF := hid F
  clear F HG HS bb ex
  go_wp2
  go_ret
  exact HF.out
 ·have e : k = m := by omega
  have HS := hid (fun d => h.drewN d)
  have HE := hid e
  have i2 : decide (m ≤ k) = true := by simp; omega
  clear e h
  go_enter Try.func100, Try.ntmps100
  go_wp2
  go_quiet (fail)
  go_wp2
  go_ret
  exact ⟨grown_drewN (World.grownBy.refl w (some p)) _, .inr ⟨HE.out, rfl, HS.out _⟩⟩
def PassO (w : World) (p o : Nat) (ty : TypeId) (cs : Array Value) (A : Option Addr) (n c : Nat) (A' : Option Addr) (m c' : Nat) (sg t : List Int) (k : Nat) (e : Ending) (w' : World) : Prop :=
 w.grownBy w' (some p) ∧ ((∃ j, scan sg 1 (t.drop k) = some j ∧ e = .returned (.bool true) ∧ CurO w' p o ty cs A n c A' m c' sg t (k + j)) ∨ (scan sg 1 (t.drop k) = none ∧ e = .returned (.bool false) ∧ ∃ k', CurO w' p o ty cs A n c A' m c' sg t k'))
def HeadO (w : World) (p o : Nat) (ty : TypeId) (cs : Array Value) (A : Option Addr) (n c : Nat) (A' : Option Addr) (m c' : Nat) (sg t : List Int) (a : Nat) (q : Value) (wr : World) : Prop :=
 ∃ k q' : Nat, q = .int .i64 q' ∧ q' ≤ 3 * k + 1 ∧ Scn sg t a k q' ∧ CurO wr p o ty cs A n c A' m c' sg t k ∧ w.grownBy wr (some p)
def atO (p o : Nat) (wr : World) : Nat := (intOf ((wr.cell? ⟨p, o + 2, none⟩).getD undef)).toNat
theorem atO_cur {w : World} {p o : Nat} {ty : TypeId} {cs : Array Value} {A : Option Addr} {n c : Nat} {A' : Option Addr} {m c' : Nat} {sg t : List Int} {k : Nat} (h : CurO w p o ty cs A n c A' m c' sg t k) : atO p o w = k := by
 unfold atO
 rw [h.c2]
 simp [intOf]
set_option maxHeartbeats 1000000 in
theorem passO (p o : Nat) (ty : TypeId) (cs : Array Value) (A : Option Addr) (n c : Nat) (A' : Option Addr) (m c' : Nat) (sg t : List Int) (a : Nat) (w : World) (h : CurO w p o ty cs A n c A' m c' sg t a) :
  Calls Try.prog 76 #[.pointer (some ⟨p, o, none⟩)] w (PassO w p o ty cs A n c A' m c' sg t a) := by
 have hm := h.hm
 have HL := hid h.s'.1
 have hs := h.ars
 have H0 : HeadO w p o ty cs A n c A' m c' sg t a (.int .i64 1) w := ⟨a, 1, rfl, by omega, Scn.start (by rw [HL.out]; exact h.le), h, World.grownBy.refl _ _⟩
 have HH := hid H0
 clear H0 h
 go_enter Try.func76, Try.ntmps76
 go_wp2_with fail
 go_loopw [3, 4] (fun q _ wr => HeadO w p o ty cs A n c A' m c' sg t a q wr) (fun _ _ wr => m - atO p o wr)
 case atStart => exact HH.out
 case round =>
  obtain ⟨k, q, rfl, hq, hl, hc, hg⟩ := hrel
  clear HH
  have hk := hc.le
  by_cases h0 : q = 0
  ·subst h0
   have S : PassO w p o ty cs A n c A' m c' sg t a (.returned (.bool true)) wr := ⟨hg, .inl ⟨k - a, hl.done, rfl, by rw [show a + (k - a) = k by have := hl.1; omega]; exact hc⟩⟩
   have HS := hid S
   clear S hl hc hg
   go_wp2
   go_ret
   exact HS.out
  ·obtain ⟨q1, rfl⟩ : ∃ q1, q = q1 + 1 := ⟨q - 1, by omega⟩
   have hq0 : (0 : Int) < ((q1 + 1 : Nat) : Int) := by omega
   go_wp2_with fail
   refine (nextO p o ty cs A n c A' m c' sg t k wr hc).mono ?_
   rintro e w2 ⟨g2, ⟨hlt, rfl, hc2⟩ | ⟨hk', rfl, hc2⟩⟩
   ·obtain ⟨z, hz⟩ : ∃ z, ar sg (t.getD k 0) = z := ⟨_, rfl⟩
    have hzb := ar_bd hs (t.getD k 0)
    rw [hz] at hzb ⊢
    by_cases hneg : z < 0
    ·have S : PassO w p o ty cs A n c A' m c' sg t a (.returned (.bool false)) w2 := ⟨grown_trans hg g2, .inr ⟨hl.bad (by rw [HL.out]; exact hlt) rfl (by rw [hz]; exact hneg), rfl, _, hc2⟩⟩
     have HS := hid S
     clear S hl hc hg hc2 g2 hz
     go_wp2
     go_ret
     exact HS.out
    ·have hl' := hl.step (by rw [HL.out]; exact hlt) rfl (by rw [hz]; exact hneg)
     rw [hz] at hl'
     have S : HeadO w p o ty cs A n c A' m c' sg t a (.int .i64 ((q1 : Int) + z)) w2 := ⟨k + 1, q1 + z.toNat, by congr 1; omega, by omega, hl', hc2, grown_trans hg g2⟩
     have HS := hid S
     have M := hid (show m - atO p o w2 < m - atO p o wr by rw [atO_cur hc, atO_cur hc2]; omega)
     have hz1 := hzb.1
     have hz2 := hzb.2
     have hq2 : (q1 : Int) ≤ 3145728 := by omega
     clear S hl hc hg hc2 g2 hz hl' hzb
     go_wp2
     go_roundw
     case rel => rw [show (q1 : Int) + 1 + z - 1 = (q1 : Int) + z by omega]; exact HS.out
     case measure => exact M.out
   ·have S : PassO w p o ty cs A n c A' m c' sg t a (.returned (.bool false)) w2 := ⟨grown_trans hg g2, .inr ⟨hl.out (by rw [HL.out]; omega), rfl, _, hc2⟩⟩
    have HS := hid S
    clear S hl hc hg hc2 g2
    go_wp2
    go_ret
    exact HS.out
def PartO (w : World) (p o : Nat) (ty : TypeId) (cs : Array Value) (A : Option Addr) (n c : Nat) (b off m c' : Nat) (sg t : List Int) (k j : Nat) (e : Ending) (w' : World) : Prop :=
 e = .returned (.slice (some ⟨b, off + k, none⟩) j (c' - k)) ∧ w.grownBy w' (some p) ∧ CurO w' p o ty cs A n c (some ⟨b, off, none⟩) m c' sg t (k + j)
set_option maxHeartbeats 1000000 in
theorem partO (p o : Nat) (ty : TypeId) (cs : Array Value) (A : Option Addr) (n c b off m c' : Nat) (sg t : List Int) (k j : Nat) (w : World) (h : CurO w p o ty cs A n c (some ⟨b, off, none⟩) m c' sg t k) (hj : scan sg 1 (t.drop k) = some j) (hkj : k + j ≤ m) (h1 : 1 ≤ j) (hmc : m ≤ c') (hc : c' ≤ 9223372036854775807) :
  Calls Try.prog 94 #[.pointer (some ⟨p, o, none⟩)] w (PartO w p o ty cs A n c b off m c' sg t k j) := by
 have hm := h.hm
 have c2 := h.c2
 have L := hid (passO p o ty cs A n c (some ⟨b, off, none⟩) m c' sg t k w h)
 have HJ := hid hj
 have a1 : (k : Int) ≤ (k : Int) + (j : Int) := by omega
 have a2 : (k : Int) + (j : Int) ≤ (c' : Int) := by omega
 have a3 : ¬ c' = k := by omega
 have a4 : k + j ≤ c' := by omega
 have a5 : k + j - k = j := by omega
 clear hj h
 go_enter Try.func94, Try.ntmps94
 go_wp2_with fail
 refine L.out.mono ?_
 rintro e w1 ⟨hg, ⟨j', hj', rfl, hc1⟩ | ⟨hj', rfl, -⟩⟩
 ·obtain rfl : j = j' := by rw [HJ.out] at hj'; injection hj'
  have d1 := hc1.c1
  have d2 := hc1.c2
  have HF := hid (fun d => (show PartO w p o ty cs A n c b off m c' sg t k j (.returned (.slice (some ⟨b, off + k, none⟩) (k + j - k) (c' - k))) (w1.drewN d) from ⟨by rw [a5], grown_drewN hg d, hc1.drewN d⟩))
  clear hc1 hg hj' L
  go_wp2
  go_quiet (fail)
  go_wp2
  go_ret
  exact HF.out _
 ·rw [HJ.out] at hj'
  cases hj'
theorem ofCur {w : World} {p : Nat} {A : Option Addr} {n c : Nat} {A' : Option Addr} {m c' : Nat} {sg t : List Int} {k : Nat} (h : Cur w p A n c A' m c' sg t k) (u : Value) :
  CurO w p 0 56 #[.slice A n c, .slice A' m c', u] A n c A' m c' sg t k :=
 ⟨by have r := h.row; simpa using r, by simp, by simp, by simp, h.s, h.s', h.le, h.hn, h.hm, h.ars⟩
theorem toCur {w : World} {p : Nat} {A : Option Addr} {n c : Nat} {A' : Option Addr} {m c' : Nat} {sg t : List Int} {k : Nat} {u : Value} (h : CurO w p 0 56 #[.slice A n c, .slice A' m c', u] A n c A' m c' sg t k) :
  Cur w p A n c A' m c' sg t k :=
 ⟨by have r := h.row; simpa using r, h.s, h.s', h.le, h.hn, h.hm, h.ars⟩
theorem partC (p : Nat) (A : Option Addr) (n c b off m c' : Nat) (sg t : List Int) (k j : Nat) (w : World) (h : Cur w p A n c (some ⟨b, off, none⟩) m c' sg t k) (hj : scan sg 1 (t.drop k) = some j) (hkj : k + j ≤ m) (h1 : 1 ≤ j) (hmc : m ≤ c') (hc : c' ≤ 9223372036854775807) :
  Calls Try.prog 94 #[.pointer (some ⟨p, 0, none⟩)] w fun e w' => e = .returned (.slice (some ⟨b, off + k, none⟩) j (c' - k)) ∧ w.grownBy w' (some p) ∧ Cur w' p A n c (some ⟨b, off, none⟩) m c' sg t (k + j) :=
 (partO p 0 _ _ A n c b off m c' sg t k j w (ofCur h undef) hj hkj h1 hmc hc).mono fun _ _ ⟨e1, e2, e3⟩ => ⟨e1, e2, toCur e3⟩
end curO
end
section
namespace sub
open Go.RowKit base ints sig term arity endOf cursor termOk endAt marks app sym curO
def subL (sg t : List Int) (a : Nat) : List Int := (t.drop a).take (len1 sg t a)
set_option maxHeartbeats 1000000 in
theorem l1Sub (A A' : Option Addr) (n c m c' : Nat) (sg t : List Int) (a j : Nat) (w : World) (h : Seg w w.heap.size A n sg) (h' : Seg w w.heap.size A' m t) (hn : n ≤ 1048576) (hm : m ≤ 1048576) (hc' : m ≤ c') (hc2 : c' ≤ 9223372036854775807)
  (hs : Arities sg) (ha : a < m) (hj : scan sg 1 (t.drop a) = some j) (hj1 : 1 ≤ j) (hj2 : a + j ≤ m) :
  Calls Try.prog 66 #[.agg #[.slice A n c], .slice A' m c', .int .i64 (a : Int)] w (AnsList w (subL sg t a)) := by
 obtain ⟨b, off, x, rfl, -, -, -⟩ := h'.spot ha
 obtain ⟨W, hW⟩ : ∃ W, W = w.alloc (.cells #[.slice A n c] 26) := ⟨_, rfl⟩
 have bel : Below w.heap.size w W := by rw [hW]; exact (Below.refl _ _).alloc (Nat.le_refl _) _
 have zW : w.heap.size < W.heap.size := by rw [hW]; simp
 replace h := (h.below bel).more bel.size
 replace h' := (h'.below bel).more bel.size
 have HW := Lib.hid hW
 clear hW
 have L := Lib.hid (specEnd A _ n c m c' sg t (a : Int) W h h' hn hm hs (by omega) (by omega))
 have HE := Lib.hid (endI_some hj)
 have HL := Lib.hid (len1_eq hj)
 have hcut := Seg.cut (a := a) (j := j) h' hj2
 clear h h' hj hs
 have i0 : (0 : Int) ≤ (a : Int) := by omega
 have i1 : (a : Int) ≤ (a : Int) + (j : Int) := by omega
 have i2 : (a : Int) + (j : Int) ≤ (c' : Int) := by omega
 have i3 : ¬ c' = a := by omega
 go_enter Try.func66, Try.ntmps66
 go_wp2_with fail
 rw [← HW.out]
 refine L.out.mono ?_
 rintro e w1 ⟨he, bb⟩
 rw [Int.toNat_natCast, HE.out] at he
 subst he
 replace hcut := hcut.next bb
 replace bel := next_trans bel bb
 clear bb L
 go_wp2_with fail
 refine (copyInts _ j _ _ w1 hcut (fun e => by cases e) (by omega)).mono ?_
 rintro e w2 ⟨A2, n2, c2, rfl, o2, bb⟩
 have F : AnsList w (subL sg t a) (.returned (.slice A2 n2 c2)) w2 := ⟨A2, n2, c2, rfl, by unfold subL; rw [HL.out]; exact Own.lower o2 bel.size, next_trans bel bb⟩
 have HF := Lib.hid F
 clear F o2 bb bel hcut
 go_wp2
 go_ret
 exact HF.out
end sub
end
section
namespace args
open Go.RowKit base ints sig term arity endOf cursor termOk endAt marks app sym
def Coll (sg t : List Int) (m : Nat) (L ys : List Int) (q p : Nat) : Prop := ys ++ places sg t q p = L ∧ ∃ i, scan sg q (t.drop p) = some i ∧ p + i ≤ m
theorem Coll.first {sg t : List Int} {m : Nat} {L ys : List Int} {q p : Nat} (h : Coll sg t m L ys (q + 1) p) : ∃ j, scan sg 1 (t.drop p) = some j ∧ p + j ≤ m ∧ p < t.length ∧ Coll sg t m L (ys ++ [(p : Int)]) q (p + j) := by
 obtain ⟨h1, i, h2, h3⟩ := h
 obtain ⟨j, e1, e2, e3, e4⟩ := scan_first h2
 have e5 := scan_le h2
 refine ⟨j, e1, by omega, ?_, ?_, i - j, e4, by omega⟩
 ·simp only [List.length_drop] at e5; omega
 ·rw [← h1, List.append_assoc]
  congr 1
  simp only [places, len1_eq e1, List.singleton_append]
theorem Coll.done {sg t : List Int} {m : Nat} {L ys : List Int} {p : Nat} (h : Coll sg t m L ys 0 p) : ys = L := by
 have := h.1
 simpa [places] using this
theorem Coll.len {sg t : List Int} {m : Nat} {L ys : List Int} {q p : Nat} (h : Coll sg t m L ys q p) : ys.length ≤ L.length := by
 rw [← h.1]; simp
theorem Cur.keep {w w' : World} {p : Nat} {A : Option Addr} {n c : Nat} {A' : Option Addr} {m c' : Nat} {sg t : List Int} {k : Nat} (h : Cur w p A n c A' m c' sg t k) (hb : Below (p + 1) w w') : Cur w' p A n c A' m c' sg t k :=
 ⟨h.row.below hb (Nat.lt_succ_self _), h.s.below (hb.mono (Nat.le_succ _)), h.s'.below (hb.mono (Nat.le_succ _)), h.le, h.hn, h.hm, h.ars⟩
end args
end
section
namespace depth
open Go.RowKit base ints sig term arity endOf cursor termOk endAt marks app sym args
def Deep (sg t : List Int) (f : Nat) (M d : Int) (q p : Nat) : Prop := max d (maxOver sg t (dep sg t f) q p) = M ∧ 0 ≤ d ∧ d ≤ f ∧ ∃ i, scan sg q (t.drop p) = some i ∧ i ≤ f ∧ p + i ≤ t.length
theorem Deep.first {sg t : List Int} {f : Nat} {M d : Int} {q p : Nat} (h : Deep sg t f M d (q + 1) p) : ∃ j, scan sg 1 (t.drop p) = some j ∧ j ≤ f ∧ p < t.length ∧ p + j ≤ t.length ∧ Deep sg t f M (max d (dep sg t f p)) q (p + j) := by
 obtain ⟨h1, h2, h3, i, h4, h5, h6⟩ := h
 obtain ⟨j, e1, e2, e3, e4⟩ := scan_first h4
 have hb := dep_bd (sg := sg) (t := t) f p
 refine ⟨j, e1, by omega, by omega, by omega, ?_, by omega, by omega, i - j, e4, by omega, by omega⟩
 simp only [maxOver, len1_eq e1] at h1
 omega
theorem Deep.done {sg t : List Int} {f : Nat} {M d : Int} {p : Nat} (h : Deep sg t f M d 0 p) : d = M := by
 have h1 := h.1
 have h2 := h.2.1
 simp only [maxOver] at h1
 omega
def depthI (sg t : List Int) : Int := if termOkB sg t = true then dep sg t t.length 0 else 0
end depth
end
end Go.Proofs.Ytgfgaeagbipobaa
