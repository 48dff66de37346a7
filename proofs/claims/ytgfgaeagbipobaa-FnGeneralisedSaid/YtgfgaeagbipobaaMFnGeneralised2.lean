/-
  MERGED: my texts FillMath, PlainMath, AppAt, Segs, SegsHelp, SegsMark, Kinds, Look, Same, Copy, Plain, DrawSub, DrawS, DrawSA, Shifted, DrawVar, AnsB, SubstOk, Gives, PlainOf, DrawSS, one behind the other, as they are. By an AI agent.
-/
import Derived.Test.YtgfgaeagbipobaaMFnGeneralised1
import Derived.Maps.AppendAt
import Derived.Deep.QuietTactic
import Derived.BigQuiet
import Derived.Shelf.Abstract
import Derived.WalkSpells
import Derived.Deep.AppendLies
import Derived.Deep.RegionHeld3
import Derived.Deep.DeepMust
namespace Go.Proofs.Ytgfgaeagbipobaa
section
namespace fillMath
open sig term termOk termFacts varsMath
def vt (i : Nat) : List Int := [-1 - (i : Int)]
def rep (L : Nat → List Int) (n : Int) : List Int := if 0 ≤ n then [n] else L (-1 - n).toNat
def fillL (L : Nat → List Int) (t : List Int) : List Int := t.flatMap (rep L)
theorem rep_sym {L : Nat → List Int} {n : Int} (h : 0 ≤ n) : rep L n = [n] := by unfold rep; rw [if_pos h]
theorem rep_var {L : Nat → List Int} {n : Int} (h : n < 0) : rep L n = L (-1 - n).toNat := by unfold rep; rw [if_neg (by omega)]
theorem fill_nil (L : Nat → List Int) : fillL L [] = [] := rfl
theorem fill_cons (L : Nat → List Int) (x : Int) (r : List Int) : fillL L (x :: r) = rep L x ++ fillL L r := by simp [fillL]
theorem fill_append (L : Nat → List Int) (a b : List Int) : fillL L (a ++ b) = fillL L a ++ fillL L b := by simp [fillL]
theorem fill_take {L : Nat → List Int} {t : List Int} {k : Nat} {x : Int} (hk : k < t.length) (hx : t.getD k 0 = x) : fillL L (t.take (k + 1)) = fillL L (t.take k) ++ rep L x := by
 rw [take_snoc hk hx, fill_append, fill_cons, fill_nil, List.append_nil]
theorem rep_len {L : Nat → List Int} {M : Nat} (h1 : 1 ≤ M) (hM : ∀ i, (L i).length ≤ M) (n : Int) : (rep L n).length ≤ M := by
 unfold rep
 split
 ·simpa using h1
 ·exact hM _
theorem fill_len {L : Nat → List Int} {M : Nat} (h1 : 1 ≤ M) (hM : ∀ i, (L i).length ≤ M) : ∀ t : List Int, (fillL L t).length ≤ t.length * M
 | [] => by simp [fill_nil]
 | x :: r => by
  have h2 := rep_len h1 hM x
  have h3 := fill_len h1 hM r
  rw [fill_cons, List.length_append, List.length_cons, Nat.add_mul]
  omega
theorem fill_ge {L : Nat → List Int} (h1 : ∀ i, 1 ≤ (L i).length) : ∀ t : List Int, t.length ≤ (fillL L t).length
 | [] => by simp
 | x :: r => by
  have h3 := fill_ge h1 r
  have h2 : 1 ≤ (rep L x).length := by
   unfold rep
   split
   ·simp
   ·exact h1 _
  rw [fill_cons, List.length_append, List.length_cons]
  omega
theorem fill_ext {L L' : Nat → List Int} : ∀ {t : List Int}, (∀ x ∈ t, x < 0 → L (-1 - x).toNat = L' (-1 - x).toNat) → fillL L t = fillL L' t
 | [], _ => rfl
 | x :: r, h => by
  rw [fill_cons, fill_cons, fill_ext (fun y hy => h y (List.mem_cons_of_mem _ hy))]
  congr 1
  unfold rep
  split
  ·rfl
  ·exact h x (List.mem_cons_self ..) (by omega)
theorem fill_fill {L U : Nat → List Int} : ∀ t : List Int, fillL U (fillL L t) = fillL (fun i => fillL U (L i)) t
 | [] => rfl
 | x :: r => by
  rw [fill_cons, fill_append, fill_cons, fill_fill r]
  congr 1
  unfold rep
  by_cases h : 0 ≤ x
  ·rw [if_pos h, if_pos h, fill_cons, fill_nil, List.append_nil, rep_sym h]
  ·rw [if_neg h, if_neg h]
theorem scan_join {sg : List Int} : ∀ {l l' : List Int} {q q' j : Nat}, scan sg q l = some l.length → scan sg q' l' = some j → scan sg (q + q') (l ++ l') = some (l.length + j)
 | [], l', q, q', j, h, h' => by
  cases q with
  | zero => simpa using h'
  | succ q => rw [scan_nil] at h; cases h
 | x :: r, l', q, q', j, h, h' => by
  cases q with
  | zero => rw [scan_zero] at h; simp at h
  | succ q =>
   by_cases ha : ar sg x < 0
   ·rw [scan_bad ha] at h; cases h
   ·rw [scan_step ha] at h
    obtain ⟨i, hi, e⟩ := Option.map_eq_some_iff.1 h
    have e2 : i = r.length := by simp at e; omega
    subst e2
    have h2 := scan_join hi h'
    rw [show q + 1 + q' = (q + q') + 1 by omega, List.cons_append, scan_step ha, show q + q' + (ar sg x).toNat = q + (ar sg x).toNat + q' by omega, h2]
    simp
    omega
theorem scan_fill {sg : List Int} {L : Nat → List Int} : ∀ {t : List Int} {q : Nat}, scan sg q t = some t.length → (∀ x ∈ t, x < 0 → scan sg 1 (L (-1 - x).toNat) = some (L (-1 - x).toNat).length) → scan sg q (fillL L t) = some (fillL L t).length
 | [], q, h, _ => h
 | x :: r, q, h, hL => by
  cases q with
  | zero => rw [scan_zero] at h; simp at h
  | succ q =>
   by_cases ha : ar sg x < 0
   ·rw [scan_bad ha] at h; cases h
   ·rw [scan_step ha] at h
    obtain ⟨i, hi, e⟩ := Option.map_eq_some_iff.1 h
    have e2 : i = r.length := by simp at e; omega
    subst e2
    have h2 := scan_fill hi (fun y hy => hL y (List.mem_cons_of_mem _ hy))
    rw [fill_cons]
    by_cases hx : 0 ≤ x
    ·rw [rep_sym hx, List.singleton_append, scan_step ha, h2]
     simp
    ·have h3 := hL x (List.mem_cons_self ..) (by omega)
     have h0 : ar sg x = 0 := by
      unfold ar at ha ⊢
      split
      ·rfl
      ·rename_i h4
       rw [if_neg h4] at ha
       split at ha
       ·omega
       ·omega
     rw [h0] at h2
     rw [rep_var (by omega), Nat.add_comm q 1]
     have h4 := scan_join h3 (by simpa using h2)
     rw [h4, List.length_append]
theorem fill_term {sg t : List Int} {L : Nat → List Int} (h : termOkB sg t = true) (hL : ∀ x ∈ t, x < 0 → termOkB sg (L (-1 - x).toNat) = true) (h60 : (fillL L t).length ≤ 60) : termOkB sg (fillL L t) = true :=
 term_mk (term_parts h).1 h60 (scan_fill (term_parts h).2.2 (fun x hx h0 => (term_parts (hL x hx h0)).2.2))
theorem var_term {sg : List Int} {i : Nat} (hs : sigOkB sg = true) (hi : i < 24) : termOkB sg (vt i) = true := by
 refine term_mk hs (by simp [vt]) ?_
 have h0 : ar sg (-1 - (i : Int)) = 0 := ar_var (by omega)
 show scan sg 1 [-1 - (i : Int)] = some 1
 rw [scan_step (by omega), h0]
 rfl
def sh (k x : Int) : Int := if x < 0 then x - k else x
end fillMath
end
section
namespace plainMath
open fillMath
def strip : List (List Int) → List (List Int)
 | [] => []
 | x :: r => if strip r = [] then (if x = [] then [] else [x]) else x :: strip r
theorem strip_snoc : ∀ (l : List (List Int)) (x : List Int), strip (l ++ [x]) = if x = [] then strip l else l ++ [x]
 | [], x => by
  show strip [x] = _
  by_cases h : x = [] <;> simp [strip, h]
 | y :: r, x => by
  rw [List.cons_append, strip, strip_snoc r x]
  by_cases h : x = []
  ·simp [h, strip]
  ·simp [h]
theorem strip_len : ∀ l : List (List Int), (strip l).length ≤ l.length
 | [] => by simp [strip]
 | x :: r => by
  have h := strip_len r
  rw [strip]
  split
  ·split <;> simp
  ·simp; omega
theorem strip_pad : ∀ l : List (List Int), strip l ++ List.replicate (l.length - (strip l).length) [] = l
 | [] => by simp [strip]
 | x :: r => by
  have h := strip_pad r
  rw [strip]
  by_cases h1 : strip r = []
  ·rw [h1] at h
   rw [if_pos h1]
   have h2 : List.replicate r.length ([] : List Int) = r := by simpa using h
   by_cases h3 : x = []
   ·rw [if_pos h3]
    subst h3
    simp only [List.length_cons, List.length_nil, Nat.sub_zero, List.nil_append]
    rw [List.replicate_succ, h2]
   ·rw [if_neg h3]
    simp only [List.length_cons, List.length_nil]
    rw [show r.length + 1 - (0 + 1) = r.length by omega, h2]
    rfl
  ·rw [if_neg h1]
   simp only [List.length_cons, List.cons_append]
   rw [show r.length + 1 - ((strip r).length + 1) = r.length - (strip r).length by omega, h]
theorem strip_last {l : List (List Int)} {q : Nat} (hq : q < l.length) (h : l.getD q [] ≠ []) : strip (l.take (q + 1)) = l.take (q + 1) := by
 have e : l.take (q + 1) = l.take q ++ [l.getD q []] := by
  rw [List.take_succ_eq_append_getElem hq]
  simp [List.getD, hq]
 rw [e, strip_snoc, if_neg h]
theorem strip_drop {l : List (List Int)} {q : Nat} (hq : q < l.length) (h : l.getD q [] = []) : strip (l.take (q + 1)) = strip (l.take q) := by
 have e : l.take (q + 1) = l.take q ++ [l.getD q []] := by
  rw [List.take_succ_eq_append_getElem hq]
  simp [List.getD, hq]
 rw [e, strip_snoc, if_pos h]
def bare (L : Nat → List Int) (i : Nat) : List Int := if L i = vt i then [] else L i
def rowsL (L : Nat → List Int) (m : Nat) : List (List Int) := (List.range m).map (bare L)
def plainL (L : Nat → List Int) (m : Nat) : List (List Int) := strip (rowsL L m)
theorem rows_len (L : Nat → List Int) (m : Nat) : (rowsL L m).length = m := by simp [rowsL]
theorem rows_succ (L : Nat → List Int) (m : Nat) : rowsL L (m + 1) = rowsL L m ++ [bare L m] := by simp [rowsL, List.range_succ]
theorem plain_same {L : Nat → List Int} {m : Nat} (h : L m = vt m) : plainL L (m + 1) = plainL L m := by
 unfold plainL
 rw [rows_succ, strip_snoc, if_pos (by unfold bare; rw [if_pos h])]
theorem plain_new {L : Nat → List Int} {m : Nat} (h : L m ≠ vt m) (hne : 1 ≤ (L m).length) : plainL L (m + 1) = rowsL L m ++ [L m] := by
 unfold plainL
 have hb : bare L m = L m := by unfold bare; rw [if_neg h]
 rw [rows_succ, strip_snoc, hb, if_neg (fun e => by rw [e] at hne; simp at hne)]
theorem plain_pad (L : Nat → List Int) (m : Nat) : plainL L m ++ List.replicate (m - (plainL L m).length) [] = rowsL L m := by
 have := strip_pad (rowsL L m)
 rw [rows_len] at this
 exact this
theorem plain_more {L : Nat → List Int} {m : Nat} : ∀ {k : Nat}, (∀ i, m ≤ i → L i = vt i) → plainL L (m + k) = plainL L m
 | 0, _ => rfl
 | k + 1, h => by rw [← Nat.add_assoc, plain_same (h _ (by omega)), plain_more h]
theorem plain_24 {L : Nat → List Int} {m : Nat} (hm : m ≤ 24) (h : ∀ i, m ≤ i → L i = vt i) : plainL L 24 = plainL L m := by
 have := plain_more (k := 24 - m) h
 rwa [show m + (24 - m) = 24 by omega] at this
end plainMath
end
section
namespace appAt
open Go.RowKit base ints marks app
set_option maxRecDepth 100000
theorem blk_own (A : Option Addr) (n c : Nat) : (Value.slice A n c).ownBlock = blk A := by cases A <;> rfl
theorem appAllAt {w : World} {ops : Array Oper} {rest : List Oper} {o : Oper} {a : Act} {Q : Exit → Act → World → Prop} (hgd : o.guard = none) (s x : Operand)
  (ho : o.op = .call { callee := .builtin .append, args := #[s, x], argTypes := #[24, 24] })
  (base : Nat) (A : Option Addr) (n c : Nat) (xs : List Int) (hs : a.eval s = .slice A n c) (hown : Own w base (.slice A n c) xs)
  (S : Option Addr) (m c2 B : Nat) (ys : List Int) (hx : a.eval x = .slice S m c2) (hseg : Seg w B S m ys) (hm1 : 1 ≤ m) (hn : n ≤ 2097152) (hm : m ≤ 2097152) (hbase : base ≤ w.heap.size)
  (h : ∀ A' c' w', Own w' base (.slice A' (n + m) c') (xs ++ ys) → w.grownBy w' (blk A) → (blk A' = blk A ∨ blk A' = some w.heap.size) → wpList Try.prog ops Q rest (a.put o.dst (.slice A' (n + m) c')) w') : wpList Try.prog ops Q (o :: rest) a w := by
 obtain ⟨i0, hi, hz0, hz1, hz2⟩ := info_parts info_i64
 have hl : xs.length = n := by
  obtain ⟨A', c', e⟩ := hown.slice
  injection e with _ e _
  exact e.symm
 have ho1 : w.ownsRow base 2 1 (.slice A n c) n (xs.map (Value.int .i64)) := by rw [← hl]; rw [← hl] at hown; exact hown
 obtain ⟨b, off, e, _, hc⟩ := hseg.2 (by omega)
 subst e
 refine wpList_append_own_at w hgd s x 24 ho base 2 i0 (.int .i64 0) 1 8 Try.underlying24 hi hz0 hz1 hz2 rfl (by decide) (.slice A n c) n (xs.map (Value.int .i64)) hs ho1
  ⟨b, off, none⟩ m c2 (ys.map (Value.int .i64)) hx (by simp [hseg.1]) (fun j u hj => ?_) (fun u hu => ?_) (by unfold maxLen; omega) (by omega) hbase ?_
 ·have hjl : j < m := by
   have := (List.getElem?_eq_some_iff.1 hj).1
   simp at this
   have := hseg.1
   omega
  have hcj := hc j hjl
  have e2 : (⟨b, off, none⟩ : Addr).add j = ⟨b, off + j, none⟩ := by unfold Addr.add; split <;> simp_all
  rw [e2, hcj, ← hj]
  have := hseg.1
  simp [List.getD, show j < ys.length by omega]
 ·obtain ⟨y, _, rfl⟩ := List.mem_map.1 hu
  rfl
 ·intro v' w' hown' hg _ hat
  rw [← List.map_append] at hown'
  obtain ⟨A', c', rfl, ho'⟩ := own_of hown'
  rw [blk_own] at hg
  rw [blk_own, blk_own] at hat
  exact h A' c' w' ho' hg hat
theorem Own.kept {w w' : World} {base : Nat} {A : Option Addr} {n c : Nat} {xs : List Int} {r : Option Nat} (h : Own w base (.slice A n c) xs) (hg : w.grownBy w' r) (hne : blk A = none ∨ blk A ≠ r) : Own w' base (.slice A n c) xs :=
 World.ownsRow.kept h hg (by rw [blk_own]; exact hne)
end appAt
end
section
namespace segs
open Go.RowKit base ints marks app sym appAt
set_option maxRecDepth 100000
def Cap (A : Option Addr) (n c : Nat) : Prop := n ≤ c ∧ c ≤ 9223372036854775807 ∧ (A = none → c = 0)
def Segs (w : World) (B : Nat) (A : Option Addr) (n : Nat) (xss : List (List Int)) : Prop :=
 xss.length = n ∧ (0 < n → ∃ b off, A = some ⟨b, off, none⟩ ∧ b < B ∧ ∀ j, j < n → ∃ A' n' c', w.cell? ⟨b, off + j, none⟩ = some (.slice A' n' c') ∧ Seg w B A' n' (xss.getD j []) ∧ Cap A' n' c')
section
variable {w w' : World} {B B' n : Nat} {A : Option Addr} {xss : List (List Int)}
theorem Segs.spot (h : Segs w B A n xss) {k : Nat} (hk : k < n) : ∃ b off A' n' c', A = some ⟨b, off, none⟩ ∧ b < B ∧ w.cell? ⟨b, off + k, none⟩ = some (.slice A' n' c') ∧ Seg w B A' n' (xss.getD k []) ∧ Cap A' n' c' := by
 obtain ⟨b, off, e, hb, hc⟩ := h.2 (by omega)
 obtain ⟨A', n', c', h1, h2, h3⟩ := hc k hk
 exact ⟨b, off, A', n', c', e, hb, h1, h2, h3⟩
theorem Segs.keep (h : Segs w B A n xss) (hk : ∀ p : Addr, p.block < B → w'.cell? p = w.cell? p) : Segs w' B A n xss :=
 ⟨h.1, fun hn => by
  obtain ⟨b, off, e, hb, hc⟩ := h.2 hn
  refine ⟨b, off, e, hb, fun j hj => ?_⟩
  obtain ⟨A', n', c', h1, h2, h3⟩ := hc j hj
  exact ⟨A', n', c', (hk ⟨b, off + j, none⟩ hb).trans h1, h2.keep hk, h3⟩⟩
theorem Segs.more (h : Segs w B A n xss) (hB : B ≤ B') : Segs w B' A n xss :=
 ⟨h.1, fun hn => by
  obtain ⟨b, off, e, hb, hc⟩ := h.2 hn
  refine ⟨b, off, e, by omega, fun j hj => ?_⟩
  obtain ⟨A', n', c', h1, h2, h3⟩ := hc j hj
  exact ⟨A', n', c', h1, h2.more hB, h3⟩⟩
theorem Segs.below (h : Segs w B A n xss) (hb : Below B w w') : Segs w' B A n xss := h.keep fun _ hp => hb.cell hp
theorem Segs.next (h : Segs w w.heap.size A n xss) (hb : Below w.heap.size w w') : Segs w' w'.heap.size A n xss := (h.below hb).more hb.size
theorem Segs.drew (h : Segs w B A n xss) : Segs w.drew B A n xss := h
structure Btw (lo hi : Nat) (w w' : World) : Prop where
 os : w'.os = w.os
 tape : w'.tape = w.tape
 output : w'.output = w.output
 size : w.heap.size ≤ w'.heap.size
 block : ∀ k, k < w.heap.size → (k < lo ∨ hi ≤ k) → w'.heap[k]? = w.heap[k]?
theorem Btw.trans {lo hi : Nat} {a b c : World} (h : Btw lo hi a b) (k : Btw lo hi b c) : Btw lo hi a c :=
 ⟨k.os.trans h.os, k.tape.trans h.tape, k.output.trans h.output, Nat.le_trans h.size k.size, fun i hi' ho => (k.block i (Nat.lt_of_lt_of_le hi' h.size) ho).trans (h.block i hi' ho)⟩
theorem Btw.of_grown {lo hi : Nat} {r : Option Nat} (h : w.grownBy w' r) (hr : ∀ k, r = some k → lo ≤ k ∧ k < hi) : Btw lo hi w w' :=
 ⟨h.os, h.tape, h.output, h.size, fun k hk ho => h.block k hk (fun e => by have := hr k e.symm; omega)⟩
theorem Btw.below {lo hi : Nat} (h : Btw lo hi w w') (hB : B ≤ lo) (hs : B ≤ w.heap.size) : Below B w w' := ⟨h.os, h.tape, h.output, h.size, fun k hk => h.block k (by omega) (.inl (by omega))⟩
theorem Below.btw {a : World} {lo hi : Nat} (h : Below B a w) (k : Btw lo hi w w') (hB : B ≤ lo) (hs : B ≤ w.heap.size) : Below B a w' := h.trans (k.below hB hs)
theorem Row.btw {g : Nat} {t : TypeId} {cs : Array Value} {lo hi : Nat} (h : Row w g t cs) (hb : Btw lo hi w w') (hg : g < lo ∨ hi ≤ g) : Row w' g t cs := (hb.block g h.lt hg).trans h
theorem Row.ne_ {g g' : Nat} {t t' : TypeId} {cs cs' : Array Value} (h : Row w g t cs) (h' : Row w g' t' cs') (hne : t ≠ t') : g ≠ g' := by
 rintro rfl
 unfold Row at h h'
 rw [h] at h'
 injection h' with h'
 injection h' with _ ht
 exact hne ht
end
def Inn (w : World) (lo hi : Nat) (v : Value) (xs : List Int) : Prop := ∃ A c, v = .slice A xs.length c ∧ Own w lo v xs ∧ ∀ k, blk A = some k → k < hi
def Apart (n : Nat) (vs : List Value) : Prop := ∀ i j k, i < j → j < n → (vs.getD i undef).ownBlock = some k → (vs.getD j undef).ownBlock ≠ some k
structure Owns (w : World) (lo hi : Nat) (A : Option Addr) (n c : Nat) (xss : List (List Int)) : Prop where
 len : xss.length = n
 row : ∃ vs : List Value, w.ownsRow lo 24 1 (.slice A n c) n vs ∧ (∀ j, j < n → Inn w lo hi (vs.getD j undef) (xss.getD j [])) ∧ Apart n vs
 top : ∀ k, blk A = some k → k < hi
section
variable {w w' : World} {lo hi n c : Nat} {A : Option Addr} {xss : List (List Int)}
theorem own_form {base n c : Nat} {A : Option Addr} {vs : List Value} {t : TypeId} (h : w.ownsRow base t 1 (.slice A n c) n vs) : (A = none ∧ n = 0 ∧ c = 0 ∧ vs = []) ∨
  ∃ g cur, A = some ⟨g, 0, none⟩ ∧ base ≤ g ∧ Row w g t cur ∧ n ≤ c ∧ cur.size = c ∧ c ≤ 9223372036854775807 ∧ vs.length = n ∧ ∀ j, j < n → cur[j]? = some (vs.getD j undef) := by
 have hl : vs.length = n := by have := h.1; omega
 obtain ⟨h1, h2⟩ := h
 rcases h2 with ⟨e, h0⟩ | ⟨g, cap, cur, e, hb, hg, hn, hm, hs, ht⟩
 ·have e1 := (Value.slice.inj e)
  obtain ⟨rfl, rfl, rfl⟩ := e1
  exact .inl ⟨rfl, rfl, rfl, List.eq_nil_of_length_eq_zero hl⟩
 ·have e1 := (Value.slice.inj e)
  obtain ⟨rfl, -, rfl⟩ := e1
  refine .inr ⟨g, cur, rfl, hb, hg, hn, by omega, by unfold maxLen at hm; omega, hl, fun j hj => ?_⟩
  have h3 : (cur.toList.take (n * 1))[j]? = vs[j]? := by rw [ht]
  rw [List.getElem?_take, if_pos (by omega)] at h3
  rw [← Array.getElem?_toList, h3]
  simp [List.getD, show j < vs.length by omega]
theorem Inn.blk {v : Value} {xs : List Int} (h : Inn w lo hi v xs) : ∀ k, v.ownBlock = some k → lo ≤ k ∧ k < hi ∧ k < w.heap.size := fun k hk => by
 obtain ⟨A, c, rfl, ho, ht⟩ := h
 have h1 := World.ownsRow.lt ho k hk
 rw [blk_own] at hk
 exact ⟨h1.1, ht k hk, h1.2⟩
theorem Inn.kept {v : Value} {xs : List Int} {r : Option Nat} (h : Inn w lo hi v xs) (hg : w.grownBy w' r) (hne : v.ownBlock = none ∨ v.ownBlock ≠ r) : Inn w' lo hi v xs := by
 obtain ⟨A, c, rfl, ho, ht⟩ := h
 exact ⟨A, c, rfl, World.ownsRow.kept ho hg hne, ht⟩
theorem Inn.next {v : Value} {xs : List Int} (h : Inn w lo hi v xs) (hb : Below w.heap.size w w') : Inn w' lo hi v xs := by
 obtain ⟨A, c, rfl, ho, ht⟩ := h
 exact ⟨A, c, rfl, ho.next hb, ht⟩
theorem Inn.cap {v : Value} {xs : List Int} (h : Inn w lo hi v xs) : ∃ A c, v = .slice A xs.length c ∧ Own w lo v xs ∧ Cap A xs.length c := by
 obtain ⟨A, c, rfl, ho, ht⟩ := h
 refine ⟨A, c, rfl, ho, ?_⟩
 rcases own_form (n := xs.length) (vs := xs.map (Value.int .i64)) ho with ⟨rfl, h1, rfl, _⟩ | ⟨g, cur, rfl, _, _, h1, h2, h3, _⟩
 ·exact ⟨by omega, by omega, fun _ => rfl⟩
 ·exact ⟨h1, h3, fun e => by cases e⟩
theorem Owns.segs (h : Owns w lo hi A n c xss) : Segs w w.heap.size A n xss := by
 obtain ⟨vs, hr, hi', _⟩ := h.row
 refine ⟨h.len, fun hn => ?_⟩
 rcases own_form hr with ⟨_, e, _⟩ | ⟨g, cur, rfl, _, hrow, _, _, _, _, hc⟩
 ·omega
 ·refine ⟨g, 0, rfl, hrow.lt, fun j hj => ?_⟩
  obtain ⟨A', c', e, ho, hcap⟩ := (hi' j hj).cap
  refine ⟨A', _, c', ?_, Own.seg (by rw [← e]; exact ho), hcap⟩
  rw [Nat.zero_add, hrow.cell j, hc j hj, e]
theorem Owns.rd (h : Owns w lo hi A n c xss) : Segs w w.heap.size A n xss := h.segs
theorem Owns.cap (h : Owns w lo hi A n c xss) : Cap A n c := by
 obtain ⟨vs, hr, _⟩ := h.row
 rcases own_form hr with ⟨rfl, h1, rfl, _⟩ | ⟨g, cur, rfl, _, _, h1, h2, h3, _⟩
 ·exact ⟨by omega, by omega, fun _ => rfl⟩
 ·exact ⟨h1, h3, fun e => by cases e⟩
theorem Owns.next (h : Owns w lo hi A n c xss) (hb : Below w.heap.size w w') : Owns w' lo hi A n c xss := by
 obtain ⟨h1, ⟨vs, hr, hi', ha⟩, h3⟩ := h
 refine ⟨h1, ⟨vs, ?_, fun j hj => (hi' j hj).next hb, ha⟩, h3⟩
 exact World.ownsRow.kept hr ⟨hb.os, hb.tape, hb.output, hb.size, fun k hk _ => hb.block k hk⟩ (row := none) (by cases (Value.slice A n c).ownBlock <;> simp)
theorem Owns.wider {lo' hi' : Nat} (h : Owns w lo hi A n c xss) (h1 : lo' ≤ lo) (h2 : hi ≤ hi') : Owns w lo' hi' A n c xss := by
 obtain ⟨h3, ⟨vs, hr, hin, ha⟩, h5⟩ := h
 have low : ∀ {t : TypeId} {v : Value} {m : Nat} {us : List Value}, w.ownsRow lo t 1 v m us → w.ownsRow lo' t 1 v m us := fun {t v m us} ho => by
  obtain ⟨q1, q2⟩ := ho
  refine ⟨q1, ?_⟩
  rcases q2 with q2 | ⟨g, cap, cur, hv, hg, r⟩
  ·exact .inl q2
  ·exact .inr ⟨g, cap, cur, hv, Nat.le_trans h1 hg, r⟩
 refine ⟨h3, ⟨vs, low hr, fun j hj => ?_, ha⟩, fun k hk => Nat.lt_of_lt_of_le (h5 k hk) h2⟩
 obtain ⟨A', c', e, ho, ht⟩ := hin j hj
 exact ⟨A', c', e, low ho, fun k hk => Nat.lt_of_lt_of_le (ht k hk) h2⟩
theorem Owns.btw {lo' hi' : Nat} (h : Owns w lo hi A n c xss) (hb : Btw lo' hi' w w') (ho : hi ≤ lo' ∨ hi' ≤ lo) : Owns w' lo hi A n c xss := by
 obtain ⟨h1, ⟨vs, hr, hin, ha⟩, h3⟩ := h
 have key : ∀ {t : TypeId} {m : Nat} {v : Value} {us : List Value}, w.ownsRow lo t 1 v m us → (∀ k, v.ownBlock = some k → k < hi) → w'.ownsRow lo t 1 v m us := fun {t m v us} hr ht => by
  obtain ⟨q1, q2⟩ := hr
  refine ⟨q1, ?_⟩
  rcases q2 with q2 | ⟨g, cap, cur, hv, hg, hh, r⟩
  ·exact .inl q2
  ·have h5 := ht g (by rw [hv]; rfl)
   refine .inr ⟨g, cap, cur, hv, hg, ?_, r⟩
   have hlt : g < w.heap.size := (Array.getElem?_eq_some_iff.1 hh).1
   exact (hb.block g hlt (by omega)).trans hh
 refine ⟨h1, ⟨vs, key hr (fun k hk => h3 k (by rw [blk_own] at hk; exact hk)), fun j hj => ?_, ha⟩, h3⟩
 obtain ⟨A', c', e, ho', ht⟩ := hin j hj
 exact ⟨A', c', e, key ho' (fun k hk => ht k (by rw [e, blk_own] at hk; exact hk)), ht⟩
theorem Owns.nil (w : World) (lo hi : Nat) : Owns w lo hi none 0 0 [] :=
 ⟨rfl, ⟨[], World.ownsRow_nil w lo 24 1, fun j hj => absurd hj (Nat.not_lt_zero _), fun i j k _ hj => absurd hj (Nat.not_lt_zero _)⟩, fun k hk => by cases hk⟩
end
theorem Inn.ne {w : World} {lo hi g : Nat} {v : Value} {xs : List Int} {cs : Array Value} (h : Inn w lo hi v xs) (hr : Row w g 24 cs) : v.ownBlock ≠ some g := by
 obtain ⟨A, c, rfl, ho, _⟩ := h
 rcases own_form (n := xs.length) ho with ⟨rfl, _⟩ | ⟨g', cur', rfl, _, hrow', _⟩
 ·intro e; cases e
 ·intro e
  have e2 : g' = g := by simpa [Value.ownBlock] using e
  exact Row.ne_ hr hrow' (by decide) e2.symm
theorem Inn.wider {w : World} {lo hi lo' hi' : Nat} {v : Value} {xs : List Int} (h : Inn w lo hi v xs) (h1 : lo' ≤ lo) (h2 : hi ≤ hi') : Inn w lo' hi' v xs := by
 obtain ⟨A, c, rfl, ho, ht⟩ := h
 exact ⟨A, c, rfl, Own.lower ho h1, fun k hk => Nat.lt_of_lt_of_le (ht k hk) h2⟩
theorem rowsOf {w : World} {base g n c : Nat} {t : TypeId} {cs : Array Value} (hr : Row w g t cs) (hs : cs.size = c) (hn : n ≤ c) (hm : c ≤ 9223372036854775807) (hb : base ≤ g) : w.ownsRow base t 1 (.slice (some ⟨g, 0, none⟩) n c) n (cs.toList.take n) :=
 ⟨by simp; omega, .inr ⟨g, c, cs, rfl, hb, hr, hn, by unfold maxLen; omega, by omega, by simp⟩⟩
end segs
end
section
namespace segsHelp
open Go.RowKit base ints sig cursor marks app sym appAt segs
set_option maxRecDepth 100000
theorem info_list : (Try.prog.info? 24).map (fun i => (i.zero, i.size, i.bytes)) = some (some (.slice none 0 0), 1, 24) := by kernel_rfl
theorem run_make_lists (n : Nat) (hn : n ≤ 1048576) (W : World) : (Instr.makeSlice 29 (.int .i64 (n : Int)) (.int .i64 (n : Int))).run Try.prog W =
  .ok (.slice (some ⟨W.heap.size, 0, none⟩) n n) (W.alloc (.cells (madeCells #[.slice none 0 0] n) 24)) := by
 obtain ⟨i0, hi, hz0, hz1, hz2⟩ := info_parts info_list
 have hr := run_make (P := Try.prog) W 29 24 i0 _ Try.underlying29 hi hz0 .i64 .i64 n n (by omega) (by omega) (by rw [hz2]; omega) (by omega)
 simpa [hz1, Value.cells] using hr
def HeadTo (w : World) (n : Nat) (xss : List (List Int)) (i : Value) (wr : World) : Prop :=
 ∃ (k : Nat) (cs : Array Value), k ≤ n ∧ i = .int .i64 k ∧ Row wr w.heap.size 24 cs ∧ cs.size = n ∧ (∀ j, j < k → Inn wr (w.heap.size + 1) wr.heap.size (cs.toList.getD j undef) (xss.getD j [])) ∧ Apart k cs.toList ∧ Below w.heap.size w wr
def sumL (xss : List (List Int)) (k : Nat) : Nat := ((xss.take k).map List.length).sum
def tot (xss : List (List Int)) : Nat := xss.length + sumL xss xss.length
theorem sumL_succ {xss : List (List Int)} {k : Nat} (h : k < xss.length) : sumL xss (k + 1) = sumL xss k + (xss.getD k []).length := by
 unfold sumL
 rw [List.take_succ_eq_append_getElem h, List.map_append, List.sum_append]
 simp [List.getD, h]
theorem sumL_mono {xss : List (List Int)} : ∀ {k m : Nat}, k ≤ m → m ≤ xss.length → sumL xss k ≤ sumL xss m
 | k, 0, h, _ => by rw [show k = 0 by omega]; exact Nat.le_refl _
 | k, m + 1, h, hm => by
  by_cases e : k = m + 1
  ·rw [e]; exact Nat.le_refl _
  ·have := sumL_mono (xss := xss) (show k ≤ m by omega) (by omega)
   rw [sumL_succ (by omega)]
   omega
theorem tot_each {xss : List (List Int)} {L : Nat} (h : tot xss ≤ L) : ∀ j, (xss.getD j []).length ≤ L := fun j => by
 by_cases hj : j < xss.length
 ·have h1 := sumL_succ hj
  have h2 := sumL_mono (xss := xss) (show j + 1 ≤ xss.length by omega) (Nat.le_refl _)
  unfold tot at h
  omega
 ·rw [show xss.getD j [] = [] by simp [List.getD, hj]]
  simp
theorem tot_len {xss : List (List Int)} {L n : Nat} (hl : xss.length = n) (h : tot xss ≤ L) : n ≤ L := by unfold tot at h; omega
end segsHelp
end
section
namespace segsMark
open Go.RowKit base ints sig cursor marks app sym appAt segs segsHelp
set_option maxRecDepth 100000
end segsMark
end
section
namespace kinds
open Go.RowKit base ints sig cursor marks app sym appAt segs segsHelp segsMark
set_option maxRecDepth 100000
def Ownd (w : World) (lo hi : Nat) (A : Option Addr) (n c : Nat) (xs : List Int) : Prop := Own w lo (.slice A n c) xs ∧ ∀ k, blk A = some k → k < hi
section
variable {w w' : World} {lo hi n c : Nat} {A : Option Addr} {xs : List Int}
theorem Ownd.rd (h : Ownd w lo hi A n c xs) : Seg w w.heap.size A n xs := Own.seg h.1
theorem Ownd.next (h : Ownd w lo hi A n c xs) (hb : Below w.heap.size w w') : Ownd w' lo hi A n c xs := ⟨h.1.next hb, h.2⟩
theorem Ownd.cap (h : Ownd w lo hi A n c xs) : Cap A n c := by
 have hl := Own.len h.1
 rcases own_form (n := n) (vs := xs.map (Value.int .i64)) (by rw [hl]; have := h.1; rw [hl] at this; exact this) with ⟨rfl, h1, rfl, _⟩ | ⟨g, cur, rfl, _, _, h1, h2, h3, _⟩
 ·exact ⟨by omega, by omega, fun _ => rfl⟩
 ·exact ⟨h1, h3, fun e => by cases e⟩
theorem drew_below (w : World) : Below w.heap.size w w.drew := ⟨rfl, rfl, rfl, Nat.le_refl _, fun _ _ => rfl⟩
theorem drewN_below (w : World) (d : Nat) : Below w.heap.size w (w.drewN d) := ⟨rfl, rfl, rfl, Nat.le_refl _, fun _ _ => rfl⟩
end
theorem owns_put {w : World} {lo hi n c b : Nat} {A : Option Addr} {xss : List (List Int)} {t : TypeId} {cs : Array Value} (h : Owns w lo hi A n c xss) (hr : Row w b t cs) (hb : b < lo) (i : Nat) (u : Value) : Owns (w.setCell ⟨b, i, none⟩ u) lo hi A n c xss :=
 h.btw (lo' := b) (hi' := b + 1) (Btw.of_grown (grown_put (World.grownBy.refl _ _) _ _) (fun k hk => by injection hk; omega)) (.inr (by omega))
end kinds
end
section
namespace look
open Go.RowKit base ints marks app sym segs fillMath
set_option maxRecDepth 100000
theorem varTerm (i : Int) (w : World) (h0 : 0 ≤ i) (h1 : i ≤ 1000) :
  Calls Try.prog 87 #[.int .i64 i] w (AnsList w [-1 - i]) := by
 have F : AnsList w [-1 - i] (.returned (.slice (some ⟨w.heap.size, 0, none⟩) 1 1)) (w.alloc (.cells #[.int .i64 (-1 - i)] 2)) :=
  ⟨_, 1, 1, rfl, Own.of_row (Row.new _ _ _) rfl rfl (Nat.le_refl _) (by omega) (Nat.le_refl _) (fun j hj => by
   have e : j = 0 := by omega
   subst e
   rfl), (Below.refl _ _).alloc (Nat.le_refl _) _⟩
 have HF := Lib.hid F
 clear F
 go_enter Try.func87, Try.ntmps87
 go_wp2
 go_ret
 exact HF.out
def AnsLook (B : Nat) (w : World) (ys : List Int) (e : Ending) (w' : World) : Prop := ∃ A n c, e = .returned (.slice A n c) ∧ Seg w' w'.heap.size A n ys ∧ Cap A n c ∧ (∀ k, blk A = some k → k < B ∨ w.heap.size ≤ k) ∧ Below w.heap.size w w'
def Looks (g : Nat) (lb : Array Value) (w : World) (L : Nat → List Int) (N : Nat) : Prop :=
 ∀ (W : World) (i : Nat), Below w.heap.size w W → i < N → Calls Try.prog g (#[.int .i64 (i : Int)] ++ lb) W (AnsLook w.heap.size W (L i))
theorem Looks.next {g : Nat} {lb : Array Value} {w w' : World} {L : Nat → List Int} {N : Nat} (h : Looks g lb w L N) (hb : Below w.heap.size w w') : Looks g lb w' L N :=
 fun W i hW hi => (h W i (next_trans hb hW) hi).mono fun _ _ ⟨A, n, c, he, h1, h2, h3, h4⟩ => ⟨A, n, c, he, h1, h2, fun k hk => by have := h3 k hk; have := hb.size; omega, h4⟩
theorem own_cap {w : World} {base : Nat} {A : Option Addr} {n c : Nat} {xs : List Int} (h : Own w base (.slice A n c) xs) : Cap A n c := by
 have hl := Own.len h
 rcases own_form (n := n) (vs := xs.map (Value.int .i64)) (by rw [hl]; rw [hl] at h; exact h) with ⟨rfl, h1, rfl, _⟩ | ⟨g, cur, rfl, _, _, h1, h2, h3, _⟩
 ·exact ⟨by omega, by omega, fun _ => rfl⟩
 ·exact ⟨h1, h3, fun e => by cases e⟩
theorem look_new {w w' : World} {B : Nat} {ys : List Int} {A : Option Addr} {n c : Nat} (ho : Own w' w.heap.size (.slice A n c) ys) (hb : Below w.heap.size w w') : AnsLook B w ys (.returned (.slice A n c)) w' :=
 ⟨A, n, c, rfl, Own.seg ho, own_cap ho, fun k hk => .inr (World.ownsRow.lt ho k (by cases A with | none => cases hk | some a => exact hk)).1, hb⟩
end look
end
section
open Go.Lib (hid)
namespace same
open Go.RowKit base ints
set_option maxHeartbeats 400000 in
theorem specSame (A A' : Option Addr) (n m c c' : Nat) (xs ys : List Int) (w : World) (h : Seg w w.heap.size A n xs) (h' : Seg w w.heap.size A' m ys) (hn : n ≤ 1048576) (hm : m ≤ 1048576) :
  Calls Try.prog 40 #[.slice A n c, .slice A' m c'] w (AnsSame w xs ys) := by
 by_cases hnm : n = m
 ·subst hnm
  go_enter Try.func40, Try.ntmps40
  go_wp2
  go_loopw [5] (fun i wr => HeadSame w n xs ys i wr) (fun i _ => n - (intOf i).toNat)
  case atStart => exact ⟨0, 0, Nat.zero_le _, rfl, rfl, fun j h => absurd h (Nat.not_lt_zero _)⟩
  case round =>
   obtain ⟨k, d, hk, rfl, rfl, hc⟩ := hrel
   by_cases hlt : k < n
   ·obtain ⟨b, off, x, rfl, -, hx, ex⟩ := h.spot hlt
    obtain ⟨b', off', y, rfl, -, hx', ey⟩ := h'.spot hlt
    by_cases he : x = y
    ·subst he
     have S := hid (alike_step (w := w) hlt hc ex ey)
     clear hc h h' ex ey
     go_wp2
     go_quiet (fail)
     go_wp2
     go_roundw
     case rel => exact S.out _
     case measure => simp [intOf]; omega
    ·have S := hid (same_not (w := w) ex ey he)
     have hne : (x != y) = true := by simp [he]
     clear hc h h' ex ey he
     go_wp2
     go_quiet (fail)
     go_wp2
     go_ret
     rw [World.drewN_drewN]
     exact S.out _
   ·have S := hid (same_yes (w := w) h.1 h'.1 hlt hc)
    clear hc h h'
    go_wp2
    go_ret
    exact S.out _
 ·have S := hid (same_len (w := w) h.1 h'.1 hnm)
  have hne : ((n : Int) != (m : Int)) = true := by simp; omega
  clear h h'
  go_enter Try.func40, Try.ntmps40
  go_wp2
  go_ret
  exact S.out
set_option maxHeartbeats 400000 in
theorem libEqual (A A' : Option Addr) (n m c c' : Nat) (xs ys : List Int) (w : World) (h : Seg w w.heap.size A n xs) (h' : Seg w w.heap.size A' m ys) (hn : n ≤ 1048576) (hm : m ≤ 1048576) :
  Calls Try.prog 50 #[.slice A n c, .slice A' m c'] w (AnsSame w xs ys) := by
 by_cases hnm : n = m
 ·subst hnm
  go_enter Try.func50, Try.ntmps50
  go_wp2
  go_loopw [13] (fun i wr => HeadSame w n xs ys i wr) (fun i _ => n - (intOf i).toNat)
  case atStart => exact ⟨0, 0, Nat.zero_le _, rfl, rfl, fun j h => absurd h (Nat.not_lt_zero _)⟩
  case round =>
   obtain ⟨k, d, hk, rfl, rfl, hc⟩ := hrel
   by_cases hlt : k < n
   ·obtain ⟨b, off, x, rfl, -, hx, ex⟩ := h.spot hlt
    obtain ⟨b', off', y, rfl, -, hx', ey⟩ := h'.spot hlt
    by_cases he : x = y
    ·subst he
     have S := hid (alike_step (w := w) hlt hc ex ey)
     clear hc h h' ex ey
     go_wp2
     go_quiet (fail)
     go_wp2
     go_roundw
     case rel => exact S.out _
     case measure => simp [intOf]; omega
    ·have S := hid (same_not (w := w) ex ey he)
     have hne : (x != y) = true := by simp [he]
     clear hc h h' ex ey he
     go_wp2
     go_quiet (fail)
     go_wp2
     go_ret
     rw [World.drewN_drewN]
     exact S.out _
   ·have S := hid (same_yes (w := w) h.1 h'.1 hlt hc)
    clear hc h h'
    go_wp2
    go_ret
    exact S.out _
 ·have S := hid (same_len (w := w) h.1 h'.1 hnm)
  have hne : ((n : Int) != (m : Int)) = true := by simp; omega
  clear h h'
  go_enter Try.func50, Try.ntmps50
  go_wp2
  go_ret
  exact S.out
theorem implSame (A A' : Option Addr) (n m c c' : Nat) (xs ys : List Int) (w : World) (h : Seg w w.heap.size A n xs) (h' : Seg w w.heap.size A' m ys) (hn : n ≤ 1048576) (hm : m ≤ 1048576) :
  Calls Try.prog 16 #[.slice A n c, .slice A' m c'] w (AnsSame w xs ys) := by
 have L := hid (libEqual A A' n m c c' xs ys w h h' hn hm)
 clear h h'
 go_enter Try.func16, Try.ntmps16
 go_wp2_with fail
 refine L.out.mono ?_
 rintro e w' ⟨rfl, d, rfl⟩
 go_wp2
 go_ret
 exact ⟨rfl, d, rfl⟩
end same
end
section
namespace sub
open Go.RowKit base ints marks app sym
theorem Seg.cut {w : World} {B b off m a j : Nat} {t : List Int} (h : Seg w B (some ⟨b, off, none⟩) m t) (hj : a + j ≤ m) : Seg w B (some ⟨b, off + a, none⟩) j ((t.drop a).take j) := by
 refine ⟨by have := h.1; simp; omega, fun hn => ?_⟩
 obtain ⟨b', off', e, hb, hc⟩ := h.2 (by omega)
 injection e with e
 injection e with e1 e2
 subst e1 e2
 refine ⟨_, _, rfl, hb, fun q hq => ?_⟩
 rw [Nat.add_assoc, hc (a + q) (by omega)]
 simp [List.getD, List.getElem?_take, hq]
set_option maxHeartbeats 400000 in
theorem copyInts (S : Option Addr) (m c : Nat) (ys : List Int) (w : World) (h : Seg w w.heap.size S m ys) (hnone : S = none → c = 0) (hm : m ≤ 1048576) :
  Calls Try.prog 81 #[.slice S m c] w (AnsList w ys) := by
 have ho := own_empty w w.heap.size (Nat.le_refl _)
 have bb : Below w.heap.size w (w.alloc (.cells #[] 2)) := (Below.refl _ _).alloc (Nat.le_refl _) _
 have hs := h.alloc (Nat.le_refl _) (.cells #[] 2)
 have HN := Lib.hid hnone
 clear hnone h
 go_enter Try.func81, Try.ntmps81
 go_wp2_with (at_builtin; refine appAll rfl _ _ rfl w.heap.size (some ⟨w.heap.size, 0, none⟩) 0 0 [] rfl ho S m c w.heap.size ys rfl hs HN.out (by omega) (by omega) (by simp) ?_; intro A' c' w' ho' b')
 simp only [Nat.zero_add, List.nil_append] at ho'
 have F : AnsList w ys (.returned (.slice A' m c')) w' := ⟨A', m, c', rfl, ho', bb.trans b'⟩
 have HF := Lib.hid F
 clear F ho' b' bb hs ho
 go_wp2
 go_ret
 exact HF.out
set_option maxHeartbeats 400000 in
theorem cloneInts (b off m c : Nat) (ys : List Int) (w : World) (h : Seg w w.heap.size (some ⟨b, off, none⟩) m ys) (hm : m ≤ 1048576) :
  Calls Try.prog 101 #[.slice (some ⟨b, off, none⟩) m c] w (AnsList w ys) := by
 have ho := own_empty w w.heap.size (Nat.le_refl _)
 have bb : Below w.heap.size w (w.alloc (.cells #[] 2)) := (Below.refl _ _).alloc (Nat.le_refl _) _
 have hs := h.alloc (Nat.le_refl _) (.cells #[] 2)
 clear h
 have hnil : ∀ (w : World) (a : Option Addr) (n c n' c' : Nat), (binOp .eql 24 (.slice a n c) (.slice none n' c')).run Try.prog w = .ok (.bool a.isNone) w := fun w a n c n' c' => Lib.run_eql_slice_nil w _ _ a n c n' c' Try.underlying24
 go_enter Try.func101, Try.ntmps101
 go_wp2_with (at_builtin; refine appAll rfl _ _ rfl w.heap.size (some ⟨w.heap.size, 0, none⟩) 0 0 [] rfl ho (some ⟨b, off, none⟩) m c w.heap.size ys rfl hs (fun e => by cases e) (by omega) (by omega) (by simp) ?_; intro A' c' w' ho' b')
 simp only [Nat.zero_add, List.nil_append] at ho'
 have F : AnsList w ys (.returned (.slice A' m c')) w' := ⟨A', m, c', rfl, ho', bb.trans b'⟩
 have HF := Lib.hid F
 clear F ho' b' bb hs ho hnil
 go_wp2
 go_ret
 exact HF.out
end sub
end
section
open Go.Lib (hid)
namespace plain
open Go.RowKit base ints cursor same marks app appAt sym sub segs segsHelp kinds fillMath Go.Proofs.Ytgfgaeagbipobaa.look plainMath
set_option maxRecDepth 100000
theorem Inn.none_ (w : World) (lo hi : Nat) : Inn w lo hi (.slice none 0 0) [] := ⟨none, 0, rfl, Own.nil _ _, fun k hk => by cases hk⟩
theorem inn_own {w : World} {lo : Nat} {A : Option Addr} {n c : Nat} {xs : List Int} (h : Own w lo (.slice A n c) xs) : Inn w lo w.heap.size (.slice A n c) xs := by
 have hl := Own.len h
 subst hl
 exact ⟨A, c, rfl, h, fun k hk => (World.ownsRow.lt h k (by rw [blk_own]; exact hk)).2⟩
set_option maxHeartbeats 1000000 in
theorem appS1 {w : World} {ops : Array Oper} {rest : List Oper} {o : Oper} {a : Act} {Q : Exit → Act → World → Prop} (hgd : o.guard = none) (s x : Operand)
  (ho : o.op = .call { callee := .builtin .append, args := #[s, x], argTypes := #[29, 29] })
  (lo mid : Nat) (A : Option Addr) (n c : Nat) (xss : List (List Int)) (hs : a.eval s = .slice A n c) (hown : Owns w lo mid A n c xss)
  (g c2 : Nat) (v : Value) (ys : List Int) (hx : a.eval x = .slice (some ⟨g, 0, none⟩) 1 c2) (hy : w.cell? ⟨g, 0, none⟩ = some v) (hv : Inn w mid w.heap.size v ys) (hn : n ≤ 1048576) (hlo : lo ≤ mid) (hmid : mid ≤ w.heap.size)
  (h : ∀ A' c' w', Owns w' lo w'.heap.size A' (n + 1) c' (xss ++ [ys]) → w.grownBy w' (blk A) → (blk A' = blk A ∨ blk A' = some w.heap.size) → Below lo w w' → wpList Try.prog ops Q rest (a.put o.dst (.slice A' (n + 1) c')) w') : wpList Try.prog ops Q (o :: rest) a w := by
 obtain ⟨i0, hi, hz0, hz1, hz2⟩ := info_parts info_list
 obtain ⟨hlen, ⟨vs, hr, hin, hap⟩, htop⟩ := hown
 have hvl : vs.length = n := by have := hr.1; omega
 have hvc : v.oneCell' = true := by obtain ⟨A1, c1, rfl, _⟩ := hv; rfl
 refine wpList_append_own_at w hgd s x 29 ho lo 24 i0 (.slice none 0 0) 1 24 Try.underlying29 hi hz0 hz1 hz2 rfl (by decide) (.slice A n c) n vs hs hr
  ⟨g, 0, none⟩ 1 c2 [v] hx rfl (fun j u hj => ?_) (fun u hu => ?_) (by unfold maxLen; omega) (by omega) (by omega) ?_
 ·match j, hj with
  | 0, hj => simp at hj; subst hj; simpa [Addr.add] using hy
 ·simp at hu; subst hu; exact hvc
 ·intro v' w' hown' hg _ hat
  have hform : ∃ A' c', v' = .slice A' (n + 1) c' := by
   rcases hown'.2 with ⟨_, h0⟩ | ⟨g', cap, cur, e, _⟩
   ·omega
   ·exact ⟨_, _, e⟩
  obtain ⟨A', c', rfl⟩ := hform
  rw [blk_own] at hg
  rw [blk_own, blk_own] at hat
  have hsz := hg.size
  have hne : ∀ {u : Value} {zs : List Int} {l2 h2 : Nat}, Inn w l2 h2 u zs → u.ownBlock = none ∨ u.ownBlock ≠ blk A := fun {u zs l2 h2} hu => by
   rcases own_form hr with ⟨rfl, _⟩ | ⟨g', cur, rfl, _, hrow, _⟩
   ·cases e : u.ownBlock with
    | none => exact .inl rfl
    | some z => exact .inr (fun e2 => by cases e2)
   ·exact .inr (hu.ne hrow)
  have hget : ∀ j, j < n → (vs ++ [v]).getD j undef = vs.getD j undef := fun j hj => by simp [List.getD, List.getElem?_append_left (show j < vs.length by omega)]
  have hget2 : ∀ j, j < n → (xss ++ [ys]).getD j [] = xss.getD j [] := fun j hj => by simp [List.getD, List.getElem?_append_left (show j < xss.length by omega)]
  have hnew : (vs ++ [v]).getD n undef = v := by simp [List.getD, ← hvl]
  have hnew2 : (xss ++ [ys]).getD n [] = ys := by simp [List.getD, ← hlen]
  refine h A' c' w' ⟨by simp [hlen], ⟨vs ++ [v], hown', fun j hj => ?_, fun i j k hij hj e1 e2 => ?_⟩, fun k hk => (World.ownsRow.lt hown' k (by rw [blk_own]; exact hk)).2⟩ hg hat ?_
  ·by_cases e : j = n
   ·subst e
    rw [hnew, hnew2]
    exact (hv.kept hg (hne hv)).wider (by omega) (by omega)
   ·rw [hget j (by omega), hget2 j (by omega)]
    exact ((hin j (by omega)).kept hg (hne (hin j (by omega)))).wider (Nat.le_refl _) (by omega)
  ·by_cases e : j = n
   ·subst e
    rw [hget i hij] at e1
    rw [hnew] at e2
    have h1 := ((hin i hij).blk k e1).2.1
    have h2 := (hv.blk k e2).1
    omega
   ·rw [hget i (by omega)] at e1
    rw [hget j (by omega)] at e2
    exact hap i j k hij (by omega) e1 e2
  ·refine (Below.refl lo w).grown hg (by omega) (fun k hk => ?_)
   exact (World.ownsRow.lt hr k (by rw [blk_own]; exact hk)).1
def AnsSubst (w : World) (xss : List (List Int)) (e : Ending) (w' : World) : Prop := ∃ A n c, e = .returned (.agg #[.slice A n c]) ∧ Owns w' w.heap.size w'.heap.size A n c xss ∧ Below w.heap.size w w'
def HeadP (w : World) (L : Nat → List Int) (terms i : Value) (wr : World) : Prop :=
 ∃ (k : Nat) (A : Option Addr) (n c : Nat), k ≤ 24 ∧ i = .int .i64 k ∧ terms = .slice A n c ∧ n ≤ k ∧ Owns wr (w.heap.size + 1) wr.heap.size A n c (plainL L k) ∧ Row wr w.heap.size 31 #[.slice none 0 0] ∧ Below w.heap.size w wr
theorem Seg.away {w w' : World} {A : Option Addr} {n : Nat} {xs : List Int} {r : Option Nat} (h : Seg w w.heap.size A n xs) (hg : w.grownBy w' r) (hne : ∀ k, blk A = some k → r ≠ some k) : Seg w' w'.heap.size A n xs :=
 ⟨h.1, fun hn => by
  obtain ⟨b, off, e, hb, hc⟩ := h.2 hn
  refine ⟨b, off, e, Nat.lt_of_lt_of_le hb hg.size, fun j hj => ?_⟩
  exact (World.cell?_of_block (hg.block b hb (fun e2 => hne b (by rw [e]; rfl) e2.symm))).trans (hc j hj)⟩
def HeadQ (w : World) (mid top : Nat) (L : Nat → List Int) (k : Nat) (A1 : Option Addr) (n1 : Nat) (ys : List Int) (terms : Value) (wr : World) : Prop :=
 ∃ (A : Option Addr) (n c : Nat), terms = .slice A n c ∧ n ≤ k ∧ (plainL L k).length ≤ n ∧ Owns wr (w.heap.size + 1) wr.heap.size A n c (plainL L k ++ List.replicate (n - (plainL L k).length) []) ∧ (∀ q, blk A = some q → q < mid ∨ top ≤ q) ∧
  Seg wr wr.heap.size A1 n1 ys ∧ Row wr w.heap.size 31 #[.slice none 0 0] ∧ Below w.heap.size w wr ∧ top ≤ wr.heap.size
def lenOf (v : Value) : Nat := match v with
 | .slice _ n _ => n
 | _ => 0
set_option maxHeartbeats 16000000 in
theorem plain (g : Nat) (lb : Array Value) (eg : ∀ args w, (callFunc g args).run Try.prog w = .ok (.enter g args) w) (L : Nat → List Int) (w : World)
  (hL : Looks g lb w L 24) (h1 : ∀ i, 1 ≤ (L i).length) (hM : ∀ i, (L i).length ≤ 4096) :
  Calls Try.prog 79 #[.func (.func g) #[] lb] w (AnsSubst w (plainL L 24)) := by
 have H1 := hid h1
 have HM := hid hM
 have HK := hid hL
 have S0 : HeadP w L (.slice none 0 0) (.int .i64 0) (w.alloc (.cells #[.slice none 0 0] 31)) :=
  ⟨0, none, 0, 0, by omega, rfl, rfl, Nat.le_refl _, by simpa [plainL, rowsL, strip] using Owns.nil (w.alloc (.cells #[.slice none 0 0] 31)) (w.heap.size + 1) (w.alloc (.cells #[.slice none 0 0] 31)).heap.size, Row.new _ _ _, (Below.refl _ _).alloc (Nat.le_refl _) _⟩
 have HS0 := hid S0
 clear S0 h1 hM hL
 go_enter Try.func79, Try.ntmps79
 go_wp2
 go_loopw [3, 6] (fun terms i wr => HeadP w L terms i wr) (fun _ i _ => 24 - (intOf i).toNat)
 case atStart => exact HS0.out
 case round =>
  obtain ⟨k, A, n, c, hk, rfl, rfl, hnk, ho, hr, hb⟩ := hrel
  clear HS0
  obtain ⟨wo, rfl⟩ : ∃ wo : World, wo = wr := ⟨_, rfl⟩
  by_cases hlt : k < 24
  ·have hcall := HK.out wo k hb hlt
   have hLk : (L k).length ≤ 4096 := HM.out k
   have hL1 : 1 ≤ (L k).length := H1.out k
   obtain ⟨ys, hys⟩ : ∃ ys, L k = ys := ⟨_, rfl⟩
   rw [hys] at hcall hLk hL1
   have HY := hid hys
   have HC := hid hcall
   clear hys hcall
   have hsz := hb.size
   have hrlt := hr.lt
   by_cases hsame : ys = [-1 - (k : Int)]
   ·have DS := hid (decide_eq_true hsame)
    go_wp2_with (first
     | (go_at_fn g; refine HC.out.mono ?_; rintro e w1 ⟨A1, n1, c1, rfl, s1, cap1, far1, bb1⟩; have hn1 : n1 ≤ 4096 := (by rw [← s1.1]; exact hLk))
     | (go_at_call 87; refine (varTerm (k : Int) _ (by omega) (by omega)).mono ?_; rintro e w2 ⟨A2, n2, c2, rfl, o2, bb2⟩; have hn2 : n2 ≤ 1048576 := (by rw [Own.len o2]; simp))
     | (go_at_call 16; refine (implSame A1 A2 n1 n2 c1 c2 ys [-1 - (k : Int)] w2 (s1.next bb2) (Own.seg o2) (by omega) hn2).mono ?_; rintro e w3 ⟨he, d, rfl⟩; rw [DS.out] at he; subst he))
    have bb3 : Below wo.heap.size wo (w2.drewN d) := below_drewN (next_trans bb1 bb2) d
    have hs3 := bb3.size
    have S : HeadP w L (.slice A n c) (.int .i64 ((k : Int) + 1)) (w2.drewN d) := ⟨k + 1, A, n, c, hlt, by simp, rfl, by omega, by rw [plain_same (HY.out.trans hsame)]; exact (ho.next bb3).wider (Nat.le_refl _) hs3, hr.next bb3, hb.trans (bb3.mono hsz)⟩
    have HS := hid S
    clear S bb3 hs3 s1 cap1 far1 bb1 o2 bb2 ho hr hb HC HY hsame DS
    go_wp2
    go_roundw
    case rel => exact HS.out
    case measure => simp [intOf]; omega
   ·have DS := hid (decide_eq_false hsame)
    have HNE := hid hsame
    clear hsame
    go_wp2_with (first
     | (go_at_fn g; refine HC.out.mono ?_; rintro e w1 ⟨A1, n1, c1, rfl, s1, cap1, far1, bb1⟩; have hn1 : n1 ≤ 4096 := (by rw [← s1.1]; exact hLk))
     | (go_at_call 87; refine (varTerm (k : Int) _ (by omega) (by omega)).mono ?_; rintro e w2 ⟨A2, n2, c2, rfl, o2, bb2⟩; have hn2 : n2 ≤ 1048576 := (by rw [Own.len o2]; simp))
     | (go_at_call 16; refine (implSame A1 A2 n1 n2 c1 c2 ys [-1 - (k : Int)] w2 (s1.next bb2) (Own.seg o2) (by omega) hn2).mono ?_; rintro e w3 ⟨he, hd⟩; rw [DS.out] at he; subst he; have bb3 : Below w2.heap.size w2 w3 := (by obtain ⟨d, rfl⟩ := hd; exact drewN_below _ _)))
    have bbo := next_trans (next_trans bb1 bb2) bb3
    have s3 := (s1.next bb2).next bb3
    have hs3 := bbo.size
    have h12 := bb2.size
    have h23 := bb3.size
    have hn1' : 1 ≤ n1 := by rw [← s1.1]; exact hL1
    have hA1 : ∀ q, blk A1 = some q → q < w.heap.size ∨ (wo.heap.size ≤ q ∧ q < w3.heap.size) := fun q hq => by
     rcases far1 q hq with h | h
     ·exact .inl h
     ·refine .inr ⟨h, ?_⟩
      obtain ⟨b, off, e, hb', _⟩ := s1.2 (by omega)
      rw [e] at hq
      have : b = q := Option.some.inj hq
      omega
    have Q0 : HeadQ w wo.heap.size w3.heap.size L k A1 n1 ys (.slice A n c) w3 := by
     have hl := ho.len
     refine ⟨A, n, c, rfl, hnk, by omega, ?_, fun q hq => .inl (ho.top q hq), s3, hr.next bbo, hb.trans (bbo.mono hsz), Nat.le_refl _⟩
     rw [show n - (plainL L k).length = 0 by omega, List.replicate_zero, List.append_nil]
     exact (ho.next bbo).wider (Nat.le_refl _) hs3
    have HQ0 := hid Q0
    have HA1 := hid hA1
    clear Q0 hA1 bbo s3 s1 cap1 far1 bb1 o2 bb2 bb3 ho hr hb HC DS hd
    go_loopw [3] (fun terms wr => HeadQ w wo.heap.size w3.heap.size L k A1 n1 ys terms wr) (fun terms _ => k - lenOf terms)
    case atStart => exact HQ0.out
    case round =>
     obtain ⟨A, n, c, rfl, hnk, hpn, ho, hloc, s1, hr, hb, htop⟩ := hrel
     clear HQ0
     have hrl := hr.lt
     have hne : ∀ q, blk A1 = some q → blk A ≠ some q := fun q hq e => by
      have h1 := HA1.out q hq
      have h2 := hloc q e
      obtain ⟨vs, hown, _⟩ := ho.row
      have h3 := (World.ownsRow.lt hown q (by rw [blk_own]; exact e)).1
      omega
     have hneB : blk A ≠ some w.heap.size := fun e => by
      obtain ⟨vs, hown, _⟩ := ho.row
      have h3 := (World.ownsRow.lt hown _ (by rw [blk_own]; exact e)).1
      omega
     by_cases hlt2 : n < k
     ·have ho1 := ho.next (w' := wr.alloc (.cells #[.slice none 0 0] 24)) ((Below.refl _ _).alloc (Nat.le_refl _) _)
      have hr1 := hr.alloc (.cells #[.slice none 0 0] 24)
      have s1a := s1.next (w' := wr.alloc (.cells #[.slice none 0 0] 24)) ((Below.refl _ _).alloc (Nat.le_refl _) _)
      go_wp2_with (at_builtin; refine appS1 rfl _ _ rfl (w.heap.size + 1) wr.heap.size A n c _ rfl ho1 wr.heap.size 1 (.slice none 0 0) [] rfl ((Row.new _ _ _).cell 0) (Inn.none_ _ _ _) (by omega) (by omega) (by simp) ?_; intro A' c' w5 ho5 hg5 hat5 b5)
      have S : HeadQ w wo.heap.size w3.heap.size L k A1 n1 ys (.slice A' (n + 1) c') w5 := by
       refine ⟨A', n + 1, c', rfl, hlt2, by omega, ?_, fun q hq => ?_, Seg.away s1a hg5 hne, Row.away hr1 hg5 hneB, (hb.alloc (by omega) _).trans (b5.mono (by omega)), ?_⟩
       ·rw [show n + 1 - (plainL L k).length = (n - (plainL L k).length) + 1 by omega, List.replicate_succ', ← List.append_assoc]
        exact ho5
       ·rcases hat5 with h | h
        ·exact hloc q (by rw [← h]; exact hq)
        ·rw [h] at hq
         injection hq with hq
         simp at hq
         omega
       ·have := hg5.size; simp at this; omega
      have HS := hid S
      clear S ho5 hg5 hat5 b5 ho1 hr1 s1a ho hloc s1 hr hb hne hneB
      go_wp2
      go_roundw
      case rel => exact HS.out
      case measure => simp [lenOf]; omega
     ·have hkn : n = k := by omega
      subst hkn
      obtain ⟨b1, off1, e1, _, _⟩ := s1.2 (by omega)
      subst e1
      rw [plain_pad] at ho
      have LC := hid (cloneInts b1 off1 n1 c1 ys wr s1 (by omega))
      go_wp2_with (first
       | (go_at_call 101; refine LC.out.mono ?_; rintro e w5 ⟨A5, n5, c5, rfl, o5, bb5⟩; have z5 := bb5.size; have ho5 := (ho.next bb5).next (w' := w5.alloc (.cells #[.slice A5 n5 c5] 24)) ((Below.refl _ _).alloc (Nat.le_refl _) _); have i5 := (inn_own o5).next (w' := w5.alloc (.cells #[.slice A5 n5 c5] 24)) ((Below.refl _ _).alloc (Nat.le_refl _) _); have i6 := Inn.wider i5 (Nat.le_refl _) (show w5.heap.size ≤ (w5.alloc (.cells #[.slice A5 n5 c5] 24)).heap.size by simp); have r5 := (hr.next bb5).alloc (.cells #[.slice A5 n5 c5] 24))
       | (at_builtin; refine appS1 rfl _ _ rfl (w.heap.size + 1) wr.heap.size A n c _ rfl ho5 w5.heap.size 1 (.slice A5 n5 c5) ys rfl ((Row.new _ _ _).cell 0) i6 (by omega) (by omega) (by simp; omega) ?_; intro A' c' w6 ho6 hg6 hat6 b6))
      have S : HeadP w L (.slice A' (n + 1) c') (.int .i64 ((n : Int) + 1)) w6 := by
       refine ⟨n + 1, A', n + 1, c', hlt, by simp, rfl, Nat.le_refl _, ?_, Row.away r5 hg6 hneB, ((hb.trans (bb5.mono (by omega))).alloc (by omega) _).trans (b6.mono (by omega))⟩
       rw [plain_new (by rw [HY.out]; exact HNE.out) (by rw [HY.out]; exact hL1), HY.out]
       exact ho6
      have HS := hid S
      clear S ho6 hg6 hat6 b6 ho5 i5 i6 r5 o5 bb5 ho hloc s1 hr hb hne hneB LC
      go_wp2
      go_roundw
      case rel => exact HS.out
      case measure => simp [intOf]; omega
  ·have hk24 : k = 24 := by omega
   subst hk24
   have hcell : wo.cell? ⟨w.heap.size, 0, none⟩ = some (.slice none 0 0) := hr.cell 0
   have hfr : wo.frozen? ⟨w.heap.size, 0, none⟩ = false := hr.free 0
   have F : AnsSubst w (plainL L 24) (.returned (.agg #[.slice A n c])) (wo.setCell ⟨w.heap.size, 0, none⟩ (.slice A n c)) :=
    ⟨A, n, c, rfl, (owns_put ho hr (Nat.lt_succ_self _) 0 _).wider (by omega) (by simp), hb.setCell (Nat.le_refl _) _⟩
   have HF := hid F
   clear F ho hr hb
   go_wp2
   exact bodyPost_ret (v := .agg #[.slice A n c]) (by simp [results, Try.results79, go_sem, hcell]) rfl HF.out
end plain
end
section
namespace drawSub
open Go.RowKit base ints sig cursor marks app appAt sym segs segsHelp dice drawSig drawTerm drawAny drawPair drawOne
def Elem (w : World) (p : Nat) (r : Option Nat) (v : Value) (ys : List Int) : Prop :=
 ∃ A' n' c', v = .slice A' n' c' ∧ Rd w p w.heap.size A' n' ys ∧ Cap A' n' c' ∧ (0 < n' → blk A' ≠ r)
def OwnR (w : World) (p lo : Nat) (A : Option Addr) (n c : Nat) (xss : List (List Int)) : Prop :=
 xss.length = n ∧ ∃ vs : List Value, w.ownsRow lo 24 1 (.slice A n c) n vs ∧ ∀ j, j < n → Elem w p (blk A) (vs.getD j undef) (xss.getD j [])
section
variable {w w' : World} {p lo n c : Nat} {A : Option Addr} {xss : List (List Int)} {r : Option Nat} {v : Value} {ys : List Int}
theorem Elem.below (h : Elem w p r v ys) (hb : Below w.heap.size w w') : Elem w' p r v ys := by
 obtain ⟨A', n', c', e, hr, hc, hne⟩ := h
 exact ⟨A', n', c', e, (hr.below hb (Nat.le_refl _)).more hb.size, hc, hne⟩
theorem Elem.dice (h : Elem w p r v ys) (hg : w.grownBy w' (some p)) : Elem w' p r v ys := by
 obtain ⟨A', n', c', e, hr, hc, hne⟩ := h
 exact ⟨A', n', c', e, (hr.grown hg (Nat.le_refl _)).more hg.size, hc, hne⟩
theorem OwnR.nil (w : World) (p lo : Nat) : OwnR w p lo none 0 0 [] := ⟨rfl, [], ⟨rfl, .inl ⟨rfl, rfl⟩⟩, fun j hj => absurd hj (Nat.not_lt_zero _)⟩
theorem OwnR.below (h : OwnR w p lo A n c xss) (hb : Below w.heap.size w w') : OwnR w' p lo A n c xss := by
 obtain ⟨h1, vs, h2, h3⟩ := h
 exact ⟨h1, vs, World.ownsRow.kept h2 ⟨hb.os, hb.tape, hb.output, hb.size, fun k hk _ => hb.block k hk⟩ (row := none) (by cases (Value.slice A n c).ownBlock <;> simp), fun j hj => (h3 j hj).below hb⟩
theorem OwnR.dice (h : OwnR w p lo A n c xss) (hg : w.grownBy w' (some p)) (hp : p < lo) : OwnR w' p lo A n c xss := by
 obtain ⟨h1, vs, h2, h3⟩ := h
 refine ⟨h1, vs, World.ownsRow.kept h2 hg ?_, fun j hj => (h3 j hj).dice hg⟩
 cases e : (Value.slice A n c).ownBlock with
 | none => exact .inl rfl
 | some k =>
  refine .inr (fun e2 => ?_)
  have := (World.ownsRow.lt h2 k e).1
  injection e2 with e2
  omega
theorem OwnR.lower {lo' : Nat} (h : OwnR w p lo A n c xss) (h1 : lo' ≤ lo) : OwnR w p lo' A n c xss := by
 obtain ⟨h3, vs, ho, h4⟩ := h
 refine ⟨h3, vs, ⟨ho.1, ?_⟩, h4⟩
 rcases ho.2 with q2 | ⟨g, cap, cur, hv, hg, q⟩
 ·exact .inl q2
 ·exact .inr ⟨g, cap, cur, hv, by omega, q⟩
theorem OwnR.ge (h : OwnR w p lo A n c xss) : ∀ k, blk A = some k → lo ≤ k ∧ k < w.heap.size := fun k hk => by
 obtain ⟨_, vs, ho, _⟩ := h
 exact World.ownsRow.lt ho k (by rw [blk_own]; exact hk)
theorem OwnR.cap (h : OwnR w p lo A n c xss) : Cap A n c := by
 obtain ⟨_, vs, hr, _⟩ := h
 rcases own_form hr with ⟨rfl, h1, rfl, _⟩ | ⟨g, cur, rfl, _, _, h1, h2, h3, _⟩
 ·exact ⟨by omega, by omega, fun _ => rfl⟩
 ·exact ⟨h1, h3, fun e => by cases e⟩
theorem ownR_app {vs : List Value} {A' : Option Addr} {c' : Nat} (hl : xss.length = n) (hr : w.ownsRow lo 24 1 (.slice A n c) n vs) (hin : ∀ j, j < n → Elem w p (blk A) (vs.getD j undef) (xss.getD j [])) (hv : Elem w p (blk A) v ys)
  (hown' : w'.ownsRow lo 24 1 (.slice A' (n + 1) c') (n + 1) (vs ++ [v])) (hg : w.grownBy w' (blk A)) (hat : blk A' = blk A ∨ blk A' = some w.heap.size) : OwnR w' p lo A' (n + 1) c' (xss ++ [ys]) := by
 have hvl : vs.length = n := by have := hr.1; omega
 have keep : ∀ {u : Value} {zs : List Int}, Elem w p (blk A) u zs → Elem w' p (blk A') u zs := fun {u zs} hu => by
  obtain ⟨B, m, q, e, hrd, hc, hne⟩ := hu
  refine ⟨B, m, q, e, ⟨hrd.1, fun hm => ?_⟩, hc, fun hm => ?_⟩
  ·obtain ⟨b, off, e1, hb, hbp, hcell⟩ := hrd.2 hm
   have h1 := hne hm
   rw [e1] at h1
   refine ⟨b, off, e1, Nat.lt_of_lt_of_le hb hg.size, hbp, fun j hj => ?_⟩
   rw [World.cell?_of_block (a := ⟨b, off + j, none⟩) (hg.block b hb h1)]
   exact hcell j hj
  ·obtain ⟨b, off, e1, hb, hbp, _⟩ := hrd.2 hm
   rcases hat with e2 | e2
   ·rw [e2]; exact hne hm
   ·rw [e2, e1]
    intro e3
    have e4 : b = w.heap.size := by injection e3
    omega
 refine ⟨by simp [hl], vs ++ [v], hown', fun j hj => ?_⟩
 by_cases e : j = n
 ·subst e
  rw [show (vs ++ [v]).getD j undef = v by simp [List.getD, ← hvl], show (xss ++ [ys]).getD j [] = ys by simp [List.getD, ← hl]]
  exact keep hv
 ·rw [show (vs ++ [v]).getD j undef = vs.getD j undef by simp [List.getD, List.getElem?_append_left (show j < vs.length by omega)], show (xss ++ [ys]).getD j [] = xss.getD j [] by simp [List.getD, List.getElem?_append_left (show j < xss.length by omega)]]
  exact keep (hin j (by omega))
end
theorem appR1 {w : World} {ops : Array Oper} {rest : List Oper} {o : Oper} {a : Act} {Q : Exit → Act → World → Prop} (hgd : o.guard = none) (s x : Operand)
  (ho : o.op = .call { callee := .builtin .append, args := #[s, x], argTypes := #[29, 29] })
  (p lo : Nat) (A : Option Addr) (n c : Nat) (xss : List (List Int)) (hs : a.eval s = .slice A n c) (hown : OwnR w p lo A n c xss)
  (g c2 : Nat) (v : Value) (ys : List Int) (hx : a.eval x = .slice (some ⟨g, 0, none⟩) 1 c2) (hy : w.cell? ⟨g, 0, none⟩ = some v) (hv : Elem w p (blk A) v ys) (hn : n ≤ 1048576) (hlo : lo ≤ w.heap.size)
  (h : ∀ A' c' w', OwnR w' p lo A' (n + 1) c' (xss ++ [ys]) → w.grownBy w' (blk A) → (blk A' = blk A ∨ blk A' = some w.heap.size) → Below lo w w' → wpList Try.prog ops Q rest (a.put o.dst (.slice A' (n + 1) c')) w') : wpList Try.prog ops Q (o :: rest) a w := by
 obtain ⟨i0, hi, hz0, hz1, hz2⟩ := info_parts info_list
 obtain ⟨hlen, vs, hr, hin⟩ := hown
 have hvl : vs.length = n := by have := hr.1; omega
 have hvc : v.oneCell' = true := by obtain ⟨A1, n1, c1, rfl, _⟩ := hv; rfl
 refine wpList_append_own_at w hgd s x 29 ho lo 24 i0 (.slice none 0 0) 1 24 Try.underlying29 hi hz0 hz1 hz2 rfl (by decide) (.slice A n c) n vs hs hr
  ⟨g, 0, none⟩ 1 c2 [v] hx rfl (fun j u hj => ?_) (fun u hu => ?_) (by unfold maxLen; omega) (by omega) hlo ?_
 ·match j, hj with
  | 0, hj => simp at hj; subst hj; simpa [Addr.add] using hy
 ·simp at hu; subst hu; exact hvc
 ·intro v' w' hown' hg _ hat
  have hform : ∃ A' c', v' = .slice A' (n + 1) c' := by
   rcases hown'.2 with ⟨_, h0⟩ | ⟨g', cap, cur, e, _⟩
   ·omega
   ·exact ⟨_, _, e⟩
  obtain ⟨A', c', rfl⟩ := hform
  rw [blk_own] at hg
  rw [blk_own, blk_own] at hat
  exact h A' c' w' (ownR_app hlen hr hin hv hown' hg hat) hg hat ((Below.refl lo w).grown hg hlo (fun k hk => (World.ownsRow.lt hr k (by rw [blk_own]; exact hk)).1))
theorem stepR1 {w : World} {ops : Array Oper} {o : Oper} {a : Act} {K : Act → World → Prop} {Q : Exit → Act → World → Prop} {E : Prop} (hgd : o.guard = none) (s x : Operand)
  (ho : o.op = .call { callee := .builtin .append, args := #[s, x], argTypes := #[29, 29] })
  (p lo : Nat) (A : Option Addr) (n c : Nat) (xss : List (List Int)) (hs : a.eval s = .slice A n c) (hown : OwnR w p lo A n c xss)
  (g c2 : Nat) (v : Value) (ys : List Int) (hx : a.eval x = .slice (some ⟨g, 0, none⟩) 1 c2) (hy : w.cell? ⟨g, 0, none⟩ = some v) (hv : Elem w p (blk A) v ys) (hn : n ≤ 1048576) (hlo : lo ≤ w.heap.size)
  (h : ∀ g' c' w', OwnR w' p lo (some ⟨g', 0, none⟩) (n + 1) c' (xss ++ [ys]) → w.grownBy w' (blk A) → (blk A = some g' ∨ g' = w.heap.size) → g' < w'.heap.size → K (a.put o.dst (.slice (some ⟨g', 0, none⟩) (n + 1) c')) w') :
  if Region.wanted o (yielded ops a.tmps) = true then Oper.wp Try.prog o a w K Q else E := by
 obtain ⟨i0, hi, hz0, hz1, hz2⟩ := info_parts info_list
 obtain ⟨hlen, vs, hr, hin⟩ := hown
 have hvl : vs.length = n := by have := hr.1; omega
 have hvc : v.oneCell' = true := by obtain ⟨A1, n1, c1, rfl, _⟩ := hv; rfl
 refine step_append_lies w hgd s x 29 ho lo 24 i0 (.slice none 0 0) 1 24 Try.underlying29 hi hz0 hz1 hz2 rfl (by decide) (.slice A n c) n vs hs hr
  ⟨g, 0, none⟩ 1 c2 [v] hx rfl (fun j u hj => ?_) (fun u hu => ?_) (by omega) (by unfold maxLen; omega) (by omega) hlo w.heap.size rfl ?_
 ·match j, hj with
  | 0, hj => simp at hj; subst hj; simpa [Addr.add] using hy
 ·simp at hu; subst hu; exact hvc
 ·intro g' c' w' hown' hg hat hlt
  rw [blk_own] at hg hat
  exact h g' c' w' (ownR_app hlen hr hin hv hown' hg (hat.imp (fun e => e.symm) (fun e => by rw [← e]; rfl))) hg hat hlt
def Small (M L m : Nat) (xss : List (List Int)) : Prop := m ≤ M ∧ ∀ j, (xss.getD j []).length ≤ L
theorem small_nil (M L : Nat) : Small M L 0 [] := ⟨Nat.zero_le _, fun j => by simp⟩
theorem small_app {M M' L m : Nat} {xss : List (List Int)} {ys : List Int} (h : Small M L m xss) (hl : xss.length = m) (hy : ys.length ≤ L) (hM : m + 1 ≤ M') : Small M' L (m + 1) (xss ++ [ys]) :=
 ⟨hM, fun j => by
  rcases Nat.lt_trichotomy j m with h1 | h1 | h1
  ·have := h.2 j
   simpa [List.getD, List.getElem?_append_left (show j < xss.length by omega)] using this
  ·subst h1
   simpa [List.getD, ← hl] using hy
  ·simp [List.getD, show xss.length + 1 ≤ j by omega]⟩
theorem small_wider {M L M' L' m : Nat} {xss : List (List Int)} (h : Small M L m xss) (h1 : M ≤ M') (h2 : L ≤ L') : Small M' L' m xss := ⟨Nat.le_trans h.1 h1, fun j => Nat.le_trans (h.2 j) h2⟩
theorem small_tot {M L m : Nat} {xss : List (List Int)} (h : Small M L m xss) (hl : xss.length = m) (hb : M + M * L ≤ 1048576) : tot xss ≤ 1048576 := by
 have h1 : ∀ k, sumL xss k ≤ k * L := fun k => by
  induction k with
  | zero => simp [sumL]
  | succ k ih =>
   by_cases hk : k < xss.length
   ·rw [sumL_succ hk, Nat.add_mul]
    have := h.2 k
    omega
   ·have e : sumL xss (k + 1) = sumL xss k := by
     unfold sumL
     rw [List.take_of_length_le (show xss.length ≤ k + 1 by omega), List.take_of_length_le (show xss.length ≤ k by omega)]
    rw [e, Nat.add_mul]
    omega
 unfold tot
 have h2 := h1 xss.length
 have h3 : xss.length * L ≤ M * L := Nat.mul_le_mul_right _ (by rw [hl]; exact h.1)
 have h4 := h.1
 omega
def AnsSub (w : World) (p : Nat) (A : Option Addr) (n c M L : Nat) (e : Ending) (w' : World) : Prop :=
 ∃ B m cB xss, e = .returned (.agg #[.slice B m cB]) ∧ OwnR w' p w.heap.size B m cB xss ∧ Small M L m xss ∧ Dice w' p A n c ∧ w.grownBy w' (some p)
end drawSub
end
section
namespace drawS
open Go.RowKit base ints sig term cursor termOk marks app appAt sym segs segsHelp dice drawSig drawTerm drawAny drawPair drawOne drawSub
set_option maxRecDepth 100000
theorem grown_over {w a b : World} {B : Nat} {r : Option Nat} (g : w.grownBy a r) (hb : Below B a b) (hB : w.heap.size ≤ B) : w.grownBy b r :=
 ⟨hb.os.trans g.os, hb.tape.trans g.tape, hb.output.trans g.output, Nat.le_trans g.size hb.size, fun k hk hne => (hb.block k (by omega)).trans (g.block k hk hne)⟩
theorem OwnR.set {w : World} {p lo N n c : Nat} {A : Option Addr} {xss : List (List Int)} {a : Option Addr} {l k : Nat} (h : OwnR w p lo A n c xss) (hN : N < lo) (hc : w.cell? ⟨N, 0, none⟩ = some (.slice a l k)) (u : Value) : OwnR (w.setCell ⟨N, 0, none⟩ u) p lo A n c xss := by
 obtain ⟨h1, vs, h2, h3⟩ := h
 refine ⟨h1, vs, World.ownsRow.kept h2 (grown_put (World.grownBy.refl w _) 0 u) ?_, fun j hj => ?_⟩
 ·cases e : (Value.slice A n c).ownBlock with
  | none => exact .inl rfl
  | some z =>
   refine .inr (fun e2 => ?_)
   have := (World.ownsRow.lt h2 z e).1
   injection e2 with e2
   omega
 ·obtain ⟨A', n', c', e, hr, hcap, hne⟩ := h3 j hj
  exact ⟨A', n', c', e, (Rd.other hr hc u).more (by simp), hcap, hne⟩
structure DD (w : World) (p : Nat) (A : Option Addr) (n c : Nat) (S : Option Addr) (sn sc : Nat) (sg : List Int) (o : Nat) (B : Option Addr) (m cB : Nat) (xss : List (List Int)) (wr : World) : Prop where
 d : Dice wr p A n c
 rS : Row wr w.heap.size 26 #[.slice S sn sc]
 rR : Row wr (w.heap.size + 1) 31 #[.slice none 0 0]
 rO : Row wr o 31 #[.slice B m cB]
 own : OwnR wr p (o + 1) B m cB xss
 s : Rd wr p w.heap.size S sn sg
 g : w.grownBy wr (some p)
 hp : p < w.heap.size
 ho : w.heap.size + 1 < o
section
variable {w : World} {p : Nat} {A : Option Addr} {n c : Nat} {S : Option Addr} {sn sc : Nat} {sg : List Int} {o : Nat} {B : Option Addr} {m cB : Nat} {xss : List (List Int)} {wr w' : World}
theorem DD.dice (t : DD w p A n c S sn sc sg o B m cB xss wr) (d : Dice w' p A n c) (hg : wr.grownBy w' (some p)) : DD w p A n c S sn sc sg o B m cB xss w' :=
 ⟨d, Row.away t.rS hg (fun e => by injection e; have := t.hp; omega), Row.away t.rR hg (fun e => by injection e; have := t.hp; omega), Row.away t.rO hg (fun e => by injection e; have := t.hp; have := t.ho; omega), t.own.dice hg (by have := t.hp; have := t.ho; omega), t.s.grown hg t.g.size, grown_trans t.g hg, t.hp, t.ho⟩
theorem DD.next (t : DD w p A n c S sn sc sg o B m cB xss wr) (hb : Below wr.heap.size wr w') : DD w p A n c S sn sc sg o B m cB xss w' :=
 ⟨t.d.next hb, t.rS.next hb, t.rR.next hb, t.rO.next hb, t.own.below hb, t.s.below hb t.g.size, grown_over t.g hb t.g.size, t.hp, t.ho⟩
theorem DD.drew (t : DD w p A n c S sn sc sg o B m cB xss wr) : DD w p A n c S sn sc sg o B m cB xss wr.drew := t.next ⟨rfl, rfl, rfl, Nat.le_refl _, fun _ _ => rfl⟩
theorem DD.put {B' : Option Addr} {m' cB' : Nat} {yss : List (List Int)} (t : DD w p A n c S sn sc sg o B m cB xss wr) (hb : Below (o + 1) wr w') (ho : OwnR w' p (o + 1) B' m' cB' yss) : DD w p A n c S sn sc sg o B' m' cB' yss (w'.setCell ⟨o, 0, none⟩ (.slice B' m' cB')) := by
 have h1 := t.hp
 have h2 := t.ho
 have hO := t.rO.below hb (Nat.lt_succ_self _)
 have hS := Below.setCell (Below.refl o w') (p := ⟨o, 0, none⟩) (Nat.le_refl _) (.slice B' m' cB')
 have hb2 : Below o wr (w'.setCell ⟨o, 0, none⟩ (.slice B' m' cB')) := (hb.mono (Nat.le_succ _)).trans hS
 exact ⟨t.d.keep (hb2.mono (by omega)), t.rS.below hb2 (by omega), t.rR.below hb2 (by omega), hO.put 0 _, OwnR.set ho (Nat.lt_succ_self _) (hO.cell 0) _, t.s.below hb2 (by omega), grown_over t.g hb2 (by omega), h1, h2⟩
theorem DD.result {M L : Nat} (t : DD w p A n c S sn sc sg o B m cB xss wr) (hs : Small M L m xss) : AnsSub w p A n c M L (.returned (.agg #[.slice B m cB])) (wr.setCell ⟨w.heap.size + 1, 0, none⟩ (.slice B m cB)) := by
 have h1 := t.hp
 have h2 := t.ho
 have hS := Below.setCell (Below.refl (w.heap.size + 1) wr) (p := ⟨w.heap.size + 1, 0, none⟩) (Nat.le_refl _) (.slice B m cB)
 exact ⟨B, m, cB, xss, rfl, (OwnR.set t.own (by omega) (t.rR.cell 0) _).lower (by omega), hs, t.d.keep (hS.mono (by omega)), grown_over t.g hS (by omega)⟩
end
def HeadD (w : World) (p : Nat) (A : Option Addr) (n c : Nat) (S : Option Addr) (sn sc : Nat) (sg : List Int) (o : Nat) (num : Value) (wr : World) : Prop :=
 ∃ (k : Nat) (B : Option Addr) (m cB : Nat) (xss : List (List Int)), num = .int .i64 k ∧ m + k ≤ 3 ∧ Small 3 16 m xss ∧ DD w p A n c S sn sc sg o B m cB xss wr
theorem elem_nil {w : World} {p : Nat} {r : Option Nat} {g : Nat} : Elem w p r (.slice (some ⟨g, 0, none⟩) 0 0) [] := ⟨_, 0, 0, rfl, Rd.none_, ⟨Nat.le_refl _, by omega, fun e => by cases e⟩, fun h => absurd h (by omega)⟩
set_option maxHeartbeats 4000000 in
theorem draw (p : Nat) (A : Option Addr) (n c : Nat) (S : Option Addr) (sn sc : Nat) (sg : List Int) (w : World) (hd : Dice w p A n c) (hr : Rd w p w.heap.size S sn sg) (hs : Arities sg) (hn1 : 1 ≤ sn) (hn2 : sn ≤ 256) :
  Calls Try.prog 84 #[.pointer (some ⟨p, 0, none⟩), .agg #[.slice S sn sc]] w (AnsSub w p A n c 3 16) := by
 obtain ⟨W, hW⟩ : ∃ W, W = ((w.alloc (.cells #[.slice S sn sc] 26)).alloc (.cells #[.slice none 0 0] 31)).alloc (.cells #[.slice none 0 0] 31) := ⟨_, rfl⟩
 have T : DD w p A n c S sn sc sg (w.heap.size + 2) none 0 0 [] W := by
  have b1 : Below w.heap.size w W := by rw [hW]; exact (((Below.refl _ _).alloc (Nat.le_refl _) _).alloc (by simp) _).alloc (by simp; omega) _
  refine ⟨hd.next b1, ?_, ?_, ?_, OwnR.nil _ _ _, hr.below b1 (Nat.le_refl _), grown_below b1 _, hd.lt, by omega⟩
  ·rw [hW]; exact ((Row.new _ _ _).alloc _).alloc _
  ·rw [hW]; have := (Row.new (w.alloc (.cells #[.slice S sn sc] 26)) 31 #[.slice none 0 0]).alloc (.cells #[.slice none 0 0] 31); simpa using this
  ·rw [hW]; have := Row.new ((w.alloc (.cells #[.slice S sn sc] 26)).alloc (.cells #[.slice none 0 0] 31)) 31 #[.slice none 0 0]; simpa using this
 have HW := Lib.hid hW
 have hp := hd.lt
 have L1 := Lib.hid (below p A n c 4 W T.d (by omega) (by omega))
 clear hW hd hr
 go_enter Try.func84, Try.ntmps84
 go_wp2_with fail
 rw [← HW.out]
 refine L1.out.mono ?_
 rintro e w1 ⟨x, rfl, x0, x1, d1, g1⟩
 obtain ⟨k0, rfl⟩ := Int.eq_ofNat_of_zero_le x0
 have H0 : HeadD w p A n c S sn sc sg (w.heap.size + 2) (.int .i64 (k0 : Int)) w1 := ⟨k0, none, 0, 0, [], rfl, by omega, small_nil _ _, T.dice d1 g1⟩
 have HH := Lib.hid H0
 clear H0 T d1 g1 L1 HW
 go_wp2_with fail
 go_loopw [6] (fun num wr => HeadD w p A n c S sn sc sg (w.heap.size + 2) num wr) (fun num _ => (intOf num).toNat)
 case atStart => exact HH.out
 case round =>
  obtain ⟨k, B, m, cB, xss, rfl, hmk, hsm, T⟩ := hrel
  clear HH
  have ze1 : ¬ w.heap.size + 2 = w.heap.size + 1 := by omega
  by_cases hk : 0 < k
  ·have i0 : (0 : Int) < (k : Int) := by omega
   have B1 : Below wr.heap.size wr (wr.alloc (.cells #[] 2)) := (Below.refl _ _).alloc (Nat.le_refl _) _
   have T1 := T.next B1
   have zwr := T.g.size
   clear T B1
   go_wp2_with fail
   refine (once p A n c 3 _ T1.d (by omega) (by omega)).mono ?_
   rintro e w2 ⟨b, rfl, d2, g2⟩
   have T2 := T1.dice d2 g2
   clear T1 d2 g2
   have finish : ∀ (wz : World) (v : Value) (ys : List Int), DD w p A n c S sn sc sg (w.heap.size + 2) B m cB xss wz → Elem wz p (blk B) v ys → ys.length ≤ 16 → ∀ (wt : World) (B' : Option Addr) (cB' : Nat), OwnR wt p (w.heap.size + 3) B' (m + 1) cB' (xss ++ [ys]) → Below (w.heap.size + 3) wz wt → HeadD w p A n c S sn sc sg (w.heap.size + 2) (.int .i64 ((k : Int) - 1)) (wt.setCell ⟨w.heap.size + 2, 0, none⟩ (.slice B' (m + 1) cB')) :=
    fun wz v ys t el hy wt B' cB' ho hb => ⟨k - 1, B', m + 1, cB', xss ++ [ys], by rw [show ((k - 1 : Nat) : Int) = (k : Int) - 1 by omega], by omega, small_app hsm t.own.1 hy (by omega), t.put hb ho⟩
   have FIN := Lib.hid finish
   clear finish
   cases b with
   | true =>
    have B3 : Below w2.heap.size w2 (w2.alloc (.cells #[.slice (some ⟨wr.heap.size, 0, none⟩) 0 0] 24)) := (Below.refl _ _).alloc (Nat.le_refl _) _
    have T3 := T2.next B3
    have cO : w2.cell? ⟨w.heap.size + 2, 0, none⟩ = some (.slice B m cB) := T2.rO.cell 0
    have zlt := T2.rO.lt
    clear B3
    go_wp2_with (at_builtin; go_must (refine appR1 rfl _ _ rfl p (w.heap.size + 3) B m cB xss rfl T3.own _ 1 (.slice (some ⟨wr.heap.size, 0, none⟩) 0 0) [] rfl ((Row.new _ _ _).cell 0) elem_nil (by omega) (by simp; omega) ?_; intro A' cA' w6 ho6 hg6 hat6 b6; have q2 := T3.rO.below b6 (by omega); have c6 : w6.cell? ⟨w.heap.size + 2, 0, none⟩ = some (.slice B m cB) := q2.cell 0; have f6 : w6.frozen? ⟨w.heap.size + 2, 0, none⟩ = false := q2.free 0))
    have S1 := Lib.hid (FIN.out _ (.slice (some ⟨wr.heap.size, 0, none⟩) 0 0) [] T3 elem_nil (by simp) w6 A' cA' ho6 b6)
    clear ho6 hg6 hat6 b6 T3 T2 q2 cO FIN
    go_wp2
    go_roundw
    case rel => exact S1.out
    case measure => simp [intOf]; omega
   | false =>
    have T3 := T2.drew
    have cS : w2.cell? ⟨w.heap.size, 0, none⟩ = some (.slice S sn sc) := T2.rS.cell 0
    clear T2
    go_wp2_with fail
    go_region_held3 (fun w' => w'.cell? ⟨w.heap.size, 0, none⟩ = some (.slice S sn sc))
     (go_keep)
     (first
      | (go_at_call 65; refine (below p A n c 3 _ T3.d (by omega) (by omega)).mono ?_; rintro e u1 ⟨x, rfl, x0, x1, d1, g1⟩; have T4 := T3.dice d1 g1; have cS2 : u1.cell? ⟨w.heap.size, 0, none⟩ = some (.slice S sn sc) := T4.rS.cell 0; have hw : IntKind.i64.wrap (1 + x) = 1 + x := by rw [IntKind.wrap_i64]; omega)
      | (go_at_call 64; refine (drawTerm p A n c S sn sc sg 3 hs (by omega) (by omega) (by omega) (by omega) 2 (1 + x) u1 T4.d (T4.s.more T4.g.size) (by omega) (by clear hw; omega) (by clear hw; omega)).mono ?_; rintro e u2 ⟨O, on, oc, ys, rfl, o2, h1, h2, d2, g2⟩; have T5 := T4.dice d2 g2; have cS3 : u2.cell? ⟨w.heap.size, 0, none⟩ = some (.slice S sn sc) := T5.rS.cell 0))
    have hyl : ys.length ≤ 16 := by rw [← Own.len o2]; exact h2
    have zu1 := T4.rO.lt
    have cO : u2.cell? ⟨w.heap.size + 2, 0, none⟩ = some (.slice B m cB) := T5.rO.cell 0
    have zlt := T5.rO.lt
    have EL : Elem u2 p (blk B) (.slice O on oc) ys := ⟨O, on, oc, rfl, Rd.of_own o2 (by omega), ⟨(Own.cap o2).1, (Own.cap o2).2, Own.none_cap o2⟩, fun _ e => by
     obtain ⟨gg, rfl⟩ := Own.some_ o2 h1
     have h3 := Own.ge o2 gg rfl
     have h4 := (T4.own.ge gg (by rw [← e]; rfl)).2
     omega⟩
    have B3 : Below u2.heap.size u2 (u2.alloc (.cells #[.slice O on oc] 24)) := (Below.refl _ _).alloc (Nat.le_refl _) _
    have T6 := T5.next B3
    have EL2 := EL.below B3
    clear hw T3 T4 T5 EL B3 d1 g1 d2 g2 cS cS2 cS3 o2 x0 x1
    go_wp2_with (at_builtin; go_must (refine appR1 rfl _ _ rfl p (w.heap.size + 3) B m cB xss rfl T6.own _ 1 (.slice O on oc) ys rfl ((Row.new _ _ _).cell 0) EL2 (by omega) (by simp; omega) ?_; intro A' cA' w6 ho6 hg6 hat6 b6; have q2 := T6.rO.below b6 (by omega); have c6 : w6.cell? ⟨w.heap.size + 2, 0, none⟩ = some (.slice B m cB) := q2.cell 0; have f6 : w6.frozen? ⟨w.heap.size + 2, 0, none⟩ = false := q2.free 0))
    have S1 := Lib.hid (FIN.out _ _ ys T6 EL2 hyl w6 A' cA' ho6 b6)
    clear ho6 hg6 hat6 b6 T6 EL2 q2 cO FIN
    go_wp2
    go_roundw
    case rel => exact S1.out
    case measure => simp [intOf]; omega
  ·have i1 : ¬ (0 : Int) < (k : Int) := by omega
   have cO : wr.cell? ⟨w.heap.size + 2, 0, none⟩ = some (.slice B m cB) := T.rO.cell 0
   have cR : wr.cell? ⟨w.heap.size + 1, 0, none⟩ = some (.slice none 0 0) := T.rR.cell 0
   have fR : wr.frozen? ⟨w.heap.size + 1, 0, none⟩ = false := T.rR.free 0
   have F := Lib.hid (T.result hsm)
   clear T
   go_wp2
   exact bodyPost_ret (v := .agg #[.slice B m cB]) (by simp [results, Try.results84, go_sem, cR]) rfl F.out
end drawS
end
section
open Go.Lib (hid)
namespace drawSA
open Go.RowKit base ints sig term cursor termOk marks app appAt sym segs segsHelp dice drawSig drawTerm drawAny drawPair drawOne drawSub drawS
set_option maxRecDepth 100000
theorem OwnR.setNe {w : World} {p lo N n c : Nat} {A : Option Addr} {xss : List (List Int)} {a : Option Addr} {l k : Nat} (h : OwnR w p lo A n c xss) (hN : blk A ≠ some N) (hc : w.cell? ⟨N, 0, none⟩ = some (.slice a l k)) (u : Value) : OwnR (w.setCell ⟨N, 0, none⟩ u) p lo A n c xss := by
 obtain ⟨h1, vs, h2, h3⟩ := h
 refine ⟨h1, vs, World.ownsRow.kept h2 (grown_put (World.grownBy.refl w _) 0 u) (.inr (by rw [blk_own]; exact hN)), fun j hj => ?_⟩
 obtain ⟨A', n', c', e, hr, hcap, hne⟩ := h3 j hj
 exact ⟨A', n', c', e, (Rd.other hr hc u).more (by simp), hcap, hne⟩
structure D0 (w : World) (p : Nat) (A : Option Addr) (n c : Nat) (S : Option Addr) (sn sc : Nat) (sg : List Int) (wr : World) : Prop where
 d : Dice wr p A n c
 rS : Row wr w.heap.size 26 #[.slice S sn sc]
 rR : Row wr (w.heap.size + 1) 31 #[.slice none 0 0]
 s : Rd wr p w.heap.size S sn sg
 g : w.grownBy wr (some p)
 hp : p < w.heap.size
structure DA (w : World) (p : Nat) (A : Option Addr) (n c : Nat) (S : Option Addr) (sn sc : Nat) (sg : List Int) (o : Nat) (B : Option Addr) (m cB : Nat) (xss : List (List Int)) (wr : World) : Prop where
 z : D0 w p A n c S sn sc sg wr
 rO : Row wr o 31 #[.slice B m cB]
 own : OwnR wr p (w.heap.size + 2) B m cB xss
 hB : blk B ≠ some o
 ho : w.heap.size + 1 < o
section
variable {w : World} {p : Nat} {A : Option Addr} {n c : Nat} {S : Option Addr} {sn sc : Nat} {sg : List Int} {o : Nat} {B : Option Addr} {m cB : Nat} {xss : List (List Int)} {wr w' : World}
theorem D0.dice (t : D0 w p A n c S sn sc sg wr) (d : Dice w' p A n c) (hg : wr.grownBy w' (some p)) : D0 w p A n c S sn sc sg w' :=
 ⟨d, Row.away t.rS hg (fun e => by injection e; have := t.hp; omega), Row.away t.rR hg (fun e => by injection e; have := t.hp; omega), t.s.grown hg t.g.size, grown_trans t.g hg, t.hp⟩
theorem D0.next (t : D0 w p A n c S sn sc sg wr) (hb : Below wr.heap.size wr w') : D0 w p A n c S sn sc sg w' :=
 ⟨t.d.next hb, t.rS.next hb, t.rR.next hb, t.s.below hb t.g.size, grown_over t.g hb t.g.size, t.hp⟩
theorem D0.over {o : Nat} (t : D0 w p A n c S sn sc sg wr) (hb : Below (w.heap.size + 2) wr w') : D0 w p A n c S sn sc sg w' :=
 ⟨t.d.keep (hb.mono (by have := t.hp; omega)), t.rS.below hb (by omega), t.rR.below hb (by omega), t.s.below hb (by omega), grown_over t.g hb (by omega), t.hp⟩
theorem DA.dice (t : DA w p A n c S sn sc sg o B m cB xss wr) (d : Dice w' p A n c) (hg : wr.grownBy w' (some p)) : DA w p A n c S sn sc sg o B m cB xss w' :=
 ⟨t.z.dice d hg, Row.away t.rO hg (fun e => by injection e; have := t.z.hp; have := t.ho; omega), t.own.dice hg (by have := t.z.hp; omega), t.hB, t.ho⟩
theorem DA.next (t : DA w p A n c S sn sc sg o B m cB xss wr) (hb : Below wr.heap.size wr w') : DA w p A n c S sn sc sg o B m cB xss w' :=
 ⟨t.z.next hb, t.rO.next hb, t.own.below hb, t.hB, t.ho⟩
theorem DA.alloc (t : DA w p A n c S sn sc sg o B m cB xss wr) (x : Obj) : DA w p A n c S sn sc sg o B m cB xss (wr.alloc x) := t.next ((Below.refl _ _).alloc (Nat.le_refl _) _)
theorem DA.drew (t : DA w p A n c S sn sc sg o B m cB xss wr) : DA w p A n c S sn sc sg o B m cB xss wr.drew := t.next ⟨rfl, rfl, rfl, Nat.le_refl _, fun _ _ => rfl⟩
theorem DA.put {B' : Option Addr} {m' cB' : Nat} {yss : List (List Int)} (t : DA w p A n c S sn sc sg o B m cB xss wr) (hg : wr.grownBy w' (blk B)) (ho : OwnR w' p (w.heap.size + 2) B' m' cB' yss) (hat : blk B' = blk B ∨ blk B' = some wr.heap.size) : DA w p A n c S sn sc sg o B' m' cB' yss (w'.setCell ⟨o, 0, none⟩ (.slice B' m' cB')) := by
 have h2 := t.ho
 have hz := t.rO.lt
 have hge := t.own.ge
 have hO := Row.away t.rO hg t.hB
 have hb : Below (w.heap.size + 2) wr w' := (Below.refl _ _).grown hg (by omega) (fun k hk => (hge k hk).1)
 have hb2 : Below (w.heap.size + 2) wr (w'.setCell ⟨o, 0, none⟩ (.slice B' m' cB')) := hb.setCell (p := ⟨o, 0, none⟩) (by show w.heap.size + 2 ≤ o; omega) _
 have hB' : blk B' ≠ some o := by
  rcases hat with e | e
  ·rw [e]; exact t.hB
  ·rw [e]; intro e2; injection e2; omega
 exact ⟨D0.over (o := o) t.z hb2, hO.put 0 _, OwnR.setNe ho hB' (hO.cell 0) _, hB', h2⟩
theorem DA.result {M L : Nat} (t : DA w p A n c S sn sc sg o B m cB xss wr) (hs : Small M L m xss) : AnsSub w p A n c M L (.returned (.agg #[.slice B m cB])) (wr.setCell ⟨w.heap.size + 1, 0, none⟩ (.slice B m cB)) := by
 have h1 := t.z.hp
 have hS := Below.setCell (Below.refl (w.heap.size + 1) wr) (p := ⟨w.heap.size + 1, 0, none⟩) (Nat.le_refl _) (.slice B m cB)
 have hne : blk B ≠ some (w.heap.size + 1) := fun e => by have := (t.own.ge _ e).1; omega
 exact ⟨B, m, cB, xss, rfl, (OwnR.setNe t.own hne (t.z.rR.cell 0) _).lower (by omega), hs, t.z.d.keep (hS.mono (by omega)), grown_over t.z.g hS (by omega)⟩
theorem D0.empty {M L : Nat} (t : D0 w p A n c S sn sc sg wr) : AnsSub w p A n c M L (.returned (.agg #[.slice none 0 0])) (wr.setCell ⟨w.heap.size + 1, 0, none⟩ (.slice none 0 0)) := by
 have h1 := t.hp
 have hS := Below.setCell (Below.refl (w.heap.size + 1) wr) (p := ⟨w.heap.size + 1, 0, none⟩) (Nat.le_refl _) (.slice none 0 0)
 exact ⟨none, 0, 0, [], rfl, OwnR.nil _ _ _, small_nil _ _, t.d.keep (hS.mono (by omega)), grown_over t.g hS (by omega)⟩
end
theorem elem_new {w : World} {p N : Nat} {r : Option Nat} {O : Option Addr} {on oc : Nat} {ys : List Int} (h : Rd w p w.heap.size O on ys) (h1 : on ≤ oc) (h2 : oc ≤ 9223372036854775807) (h3 : O = none → oc = 0) (hnew : ∀ k, blk O = some k → N ≤ k) (hr : ∀ k, r = some k → k < N) : Elem w p r (.slice O on oc) ys :=
 ⟨O, on, oc, rfl, h, ⟨h1, h2, h3⟩, fun hn e => by
  obtain ⟨b, off, e1, _⟩ := h.2 hn
  have e2 : blk O = some b := by rw [e1]; rfl
  have q1 := hnew b e2
  have q2 := hr b (by rw [← e]; exact e2)
  omega⟩
theorem one_own (w : World) (y : Int) : Own (w.alloc (.cells #[.int .i64 y] 2)) w.heap.size (.slice (some ⟨w.heap.size, 0, none⟩) 1 1) [y] :=
 Own.of_row (Row.new _ _ _) rfl rfl (Nat.le_refl _) (by omega) (Nat.le_refl _) (fun j hj => by
  have : j = 0 := by omega
  subst this
  rfl)
theorem rep_nil (k j : Nat) : (List.replicate k ([] : List Int)).getD j [] = [] := by
 rw [List.getD_eq_getElem?_getD, List.getElem?_replicate]
 split <;> rfl
theorem ownR_made {w : World} {p lo k : Nat} (hlo : lo ≤ w.heap.size) (hk : k ≤ 1048576) : OwnR (w.alloc (.cells (madeCells #[.slice none 0 0] k) 24)) p lo (some ⟨w.heap.size, 0, none⟩) k k (List.replicate k []) := by
 refine ⟨by simp, _, rowsOf (Row.new _ _ _) (size_madeCells _ _) (Nat.le_refl _) (by omega) hlo, fun j hj => ?_⟩
 have e : ((madeCells #[Value.slice none 0 0] k).toList.take k).getD j undef = .slice none 0 0 := by
  simp [madeCells, List.getD, hj, Nat.mod_one]
 rw [e, rep_nil k j]
 exact ⟨none, 0, 0, rfl, Rd.none_, ⟨Nat.le_refl _, by omega, fun _ => rfl⟩, fun h => absurd h (by omega)⟩
theorem small_made {k L : Nat} (hk : k ≤ 25) : Small 25 L k (List.replicate k []) := ⟨hk, fun j => by
 rw [rep_nil k j]
 simp⟩
set_option maxHeartbeats 8000000 in
theorem drawAnyS (p : Nat) (A : Option Addr) (n c : Nat) (S : Option Addr) (sn sc : Nat) (sg : List Int) (w : World) (hd : Dice w p A n c) (hr : Rd w p w.heap.size S sn sg) (hsn : sn ≤ 256) :
  Calls Try.prog 43 #[.pointer (some ⟨p, 0, none⟩), .agg #[.slice S sn sc]] w (AnsSub w p A n c 25 65) := by
 obtain ⟨W, hW⟩ : ∃ W, W = (w.alloc (.cells #[.slice S sn sc] 26)).alloc (.cells #[.slice none 0 0] 31) := ⟨_, rfl⟩
 have T : D0 w p A n c S sn sc sg W := by
  have b1 : Below w.heap.size w W := by rw [hW]; exact ((Below.refl _ _).alloc (Nat.le_refl _) _).alloc (by simp) _
  refine ⟨hd.next b1, ?_, ?_, hr.below b1 (Nat.le_refl _), grown_below b1 _, hd.lt⟩
  ·rw [hW]; exact (Row.new _ _ _).alloc _
  ·rw [hW]; have := Row.new (w.alloc (.cells #[.slice S sn sc] 26)) 31 #[.slice none 0 0]; simpa using this
 have HW := hid hW
 have hp := hd.lt
 have hsl := hid hr.1
 have L1 := hid (specSigOk S sn sc sg W (T.s.more T.g.size).seg (by omega))
 have cS : W.cell? ⟨w.heap.size, 0, none⟩ = some (.slice S sn sc) := T.rS.cell 0
 have zw : ¬ w.heap.size + 1 = w.heap.size := by omega
 clear hW hd hr
 go_enter Try.func43, Try.ntmps43
 go_wp2_with fail
 rw [← HW.out]
 refine L1.out.mono ?_
 rintro e u0 ⟨he, bb⟩
 replace T := T.next bb
 clear bb L1 cS HW
 cases hok : sigOkB sg with
 | false =>
  rw [hok] at he
  subst he
  have cR : u0.cell? ⟨w.heap.size + 1, 0, none⟩ = some (.slice none 0 0) := T.rR.cell 0
  have fR : u0.frozen? ⟨w.heap.size + 1, 0, none⟩ = false := T.rR.free 0
  have F := hid (T.empty (M := 25) (L := 65))
  clear T hok
  go_wp2
  exact bodyPost_ret (v := .agg #[.slice none 0 0]) (by simp [results, Try.results43, go_sem, cR]) rfl F.out
 | true =>
  rw [hok] at he
  subst he
  have hars := (sig_arities hok).1
  have hl1 := (sig_arities hok).2.1
  have L2 := hid (draw p A n c S sn sc sg u0 T.d (T.s.more T.g.size) hars (by rw [← hsl.out]; exact hl1) hsn)
  have cS : u0.cell? ⟨w.heap.size, 0, none⟩ = some (.slice S sn sc) := T.rS.cell 0
  clear hok hl1
  go_wp2_with fail
  refine L2.out.mono ?_
  rintro e w2 ⟨B, m, cB, xss, rfl, own2, hsm, d2, g2⟩
  have zu := T.rR.lt
  have zB := own2.ge
  have T2 := T.dice d2 g2
  obtain ⟨o, ho⟩ : ∃ o, w2.heap.size = o := ⟨_, rfl⟩
  obtain ⟨W3, hW3⟩ : ∃ W3, W3 = w2.alloc (.cells #[.slice B m cB] 31) := ⟨_, rfl⟩
  have T3 : DA w p A n c S sn sc sg o B m cB xss W3 := by
   have bb : Below w2.heap.size w2 W3 := by rw [hW3]; exact (Below.refl _ _).alloc (Nat.le_refl _) _
   exact ⟨T2.next bb, by rw [hW3, ← ho]; exact Row.new _ _ _, (own2.below bb).lower (by omega), fun e => by have := (zB _ e).2; omega, by have := T2.rR.lt; omega⟩
  have HW3 := hid hW3
  have HO := hid ho
  have L3 := hid (once p A n c 12 W3 T3.z.d (by omega) (by omega))
  have hml := hid own2.1
  clear T T2 own2 d2 g2 L2 cS hW3 ho zB zu
  go_wp2_with fail
  rw [← HW3.out, HO.out]
  refine L3.out.mono ?_
  rintro e w4 ⟨b, rfl, d4, g4⟩
  have T4 := T3.dice d4 g4
  clear T3 d4 g4 L3 HW3 HO
  have zo := T4.ho
  have zne1 : ¬ o = w.heap.size + 1 := by omega
  have zne2 : ¬ w.heap.size + 1 = o := by omega
  have zne3 : ¬ o = w.heap.size := by omega
  cases b with
  | false =>
   have cO : w4.cell? ⟨o, 0, none⟩ = some (.slice B m cB) := T4.rO.cell 0
   have cR : w4.cell? ⟨w.heap.size + 1, 0, none⟩ = some (.slice none 0 0) := T4.z.rR.cell 0
   have fR : w4.frozen? ⟨w.heap.size + 1, 0, none⟩ = false := T4.z.rR.free 0
   have F := hid (T4.result (small_wider hsm (show 3 ≤ 25 by omega) (show 16 ≤ 65 by omega)))
   clear T4
   go_wp2
   exact bodyPost_ret (v := .agg #[.slice B m cB]) (by simp [results, Try.results43, go_sem, cR]) rfl F.out
  | true =>
   have L4 := hid (below p A n c 3 w4 T4.z.d (by omega) (by omega))
   go_wp2_with fail
   refine L4.out.mono ?_
   rintro e w5 ⟨x, rfl, x0, x1, d5, g5⟩
   have T5 := T4.dice d5 g5
   clear T4 d5 g5 L4
   have cO : w5.cell? ⟨o, 0, none⟩ = some (.slice B m cB) := T5.rO.cell 0
   have hm3 := hsm.1
   by_cases hx0 : x = 0
   ·subst hx0
    have T6 := T5.drew
    have cS : w5.cell? ⟨w.heap.size, 0, none⟩ = some (.slice S sn sc) := T5.z.rS.cell 0
    clear x0 x1
    go_wp2_with fail
    go_region_law (first
     | (refine stepR1 rfl _ _ rfl p (w.heap.size + 2) B m cB xss (by simp [Act.eval, Act.put]) (T7.alloc _).own w7.heap.size 1 (.slice O on oc) ys (by simp [Act.eval, Act.put]) ((Row.new _ _ _).cell 0) (EL.below ((Below.refl _ _).alloc (Nat.le_refl _) _)) (by omega) (by simp; omega) ?_; intro O' oc' w8 ho8 hg8 hat8 hlt8; have r8 := Row.away (T7.alloc _).rO hg8 T7.hB; have cV8 : w8.cell? ⟨o, 0, none⟩ = some (.slice B m cB) := r8.cell 0; have fV8 : w8.frozen? ⟨o, 0, none⟩ = false := r8.free 0)
     | (go_simp; go_at_call 44; refine (drawAnyN p A n c S sn sc sg _ T6.z.d (T6.z.s.more T6.z.g.size) (by omega)).mono ?_; rintro e w7 ⟨O, on, oc, ys, rfl, ra, h1, h2, h3, h4, d7, g7, hnew⟩; have T7 := T6.dice d7 g7; have EL : Elem w7 p (blk B) (.slice O on oc) ys := elem_new ra h1 h2 h3 hnew (fun k hk => (T6.own.ge k hk).2); have cV7 : w7.cell? ⟨o, 0, none⟩ = some (.slice B m cB) := T7.rO.cell 0; have zV7 : o < w7.heap.size := T7.rO.lt; have zW7 : w.heap.size + 1 < w7.heap.size := T7.z.rR.lt))
    all_goals
     have T8 := DA.put (T7.alloc (.cells #[.slice O on oc] 24)) hg8 ho8 (hat8.elim (fun h => .inl h.symm) (fun h => .inr (by rw [h]; rfl)))
     have F := hid (T8.result (small_app (M' := 25) (small_wider hsm (Nat.le_refl _) (show 16 ≤ 65 by omega)) hml.out (by rw [ra.1]; exact h4) (by omega)))
     have cR8 : (w8.setCell ⟨o, 0, none⟩ (.slice (some ⟨O', 0, none⟩) (m + 1) oc')).cell? ⟨w.heap.size + 1, 0, none⟩ = some (.slice none 0 0) := T8.z.rR.cell 0
     have fR8 : (w8.setCell ⟨o, 0, none⟩ (.slice (some ⟨O', 0, none⟩) (m + 1) oc')).frozen? ⟨w.heap.size + 1, 0, none⟩ = false := T8.z.rR.free 0
     clear T8 T7 T6 T5 ho8 hg8 hat8 hlt8 r8 d7 g7 cV7 EL ra
     go_wp2
     exact bodyPost_ret (v := .agg #[.slice (some ⟨O', 0, none⟩) (m + 1) oc']) (by simp [results, Try.results43, go_sem, cR8]) rfl F.out
   ·by_cases hx1 : x = 1
    ·subst hx1
     clear x0 x1 hx0
     have L6 := hid (below p A n c 2 w5 T5.z.d (by omega) (by omega))
     go_wp2_with fail
     refine L6.out.mono ?_
     rintro e w6 ⟨y, rfl, y0, y1, d6, g6⟩
     have T6 := T5.dice d6 g6
     obtain ⟨k, rfl⟩ := Int.eq_ofNat_of_zero_le y0
     have hmk : ∀ W : World, (Instr.makeSlice 29 (.int .i64 (24 + (k : Int))) (.int .i64 (24 + (k : Int)))).run Try.prog W = .ok (.slice (some ⟨W.heap.size, 0, none⟩) (24 + k) (24 + k)) (W.alloc (.cells (madeCells #[.slice none 0 0] (24 + k)) 24)) := fun W => by
      have := run_make_lists (24 + k) (by omega) W
      rwa [show ((24 + k : Nat) : Int) = 24 + (k : Int) by simp] at this
     have zO := T6.rO.lt
     have zR := T6.z.rR.lt
     have T7 := T6.put (w' := w6.alloc (.cells (madeCells #[.slice none 0 0] (24 + k)) 24)) (World.grownBy_alloc _ _ _) (ownR_made (p := p) (lo := w.heap.size + 2) (k := 24 + k) (by omega) (by omega)) (.inr rfl)
     have F := T7.result (small_made (L := 65) (show 24 + k ≤ 25 by omega))
     have cO6 : w6.cell? ⟨o, 0, none⟩ = some (.slice B m cB) := T6.rO.cell 0
     have fO6 : w6.frozen? ⟨o, 0, none⟩ = false := T6.rO.free 0
     have cR6 : w6.cell? ⟨w.heap.size + 1, 0, none⟩ = some (.slice none 0 0) := T6.z.rR.cell 0
     have fR6 : w6.frozen? ⟨w.heap.size + 1, 0, none⟩ = false := T6.z.rR.free 0
     rw [World.setCell_alloc_past (hn := zO), World.setCell_alloc_past (hn := by simp; omega)] at F
     have HF := hid F
     clear F T7 T6 T5 d6 g6 L6 cO
     go_wp2
     exact bodyPost_ret (v := .agg #[.slice (some ⟨w6.heap.size, 0, none⟩) (24 + k) (24 + k)]) (by simp [results, Try.results43, go_sem, cR6, zR, zne1, zne2]) rfl HF.out
    ·have hx2 : x = 2 := by omega
     subst hx2
     have T6 := T5.drew
     clear x0 x1 hx0 hx1
     go_wp2_with fail
     go_region_law (first
      | (refine stepR1 rfl _ _ rfl p (w.heap.size + 2) B m cB xss (by simp [Act.eval, Act.put]) ((T7.alloc _).alloc _).own (w7.heap.size + 1) 1 (.slice (some ⟨w7.heap.size, 0, none⟩) 1 1) [y] (by simp [Act.eval, Act.put]) c77 (EL.below ((Below.refl _ _).alloc (Nat.le_refl _) _)) (by omega) (by simp; omega) ?_; intro O' oc' w8 ho8 hg8 hat8 hlt8; have r8 := Row.away ((T7.alloc _).alloc _).rO hg8 T7.hB; have cV8 : w8.cell? ⟨o, 0, none⟩ = some (.slice B m cB) := r8.cell 0; have fV8 : w8.frozen? ⟨o, 0, none⟩ = false := r8.free 0)
      | (go_simp; go_at_call 85; refine (odd p A n c _ T6.z.d).mono ?_; rintro e w7 ⟨y, rfl, d7, g7⟩; have T7 := T6.dice d7 g7; have EL : Elem (w7.alloc (.cells #[.int .i64 y] 2)) p (blk B) (.slice (some ⟨w7.heap.size, 0, none⟩) 1 1) [y] := ⟨_, 1, 1, rfl, Rd.of_own (one_own w7 y) T7.z.d.lt, ⟨Nat.le_refl _, by omega, fun e => by cases e⟩, fun _ e => absurd (T7.own.ge w7.heap.size (by rw [← e]; rfl)).2 (Nat.lt_irrefl _)⟩; have c77 : ((w7.alloc (.cells #[.int .i64 y] 2)).alloc (.cells #[.slice (some ⟨w7.heap.size, 0, none⟩) 1 1] 24)).cell? ⟨w7.heap.size + 1, 0, none⟩ = some (.slice (some ⟨w7.heap.size, 0, none⟩) 1 1) := (by simp); have cV7 : w7.cell? ⟨o, 0, none⟩ = some (.slice B m cB) := T7.rO.cell 0; have zV7 : o < w7.heap.size := T7.rO.lt; have zW7 : w.heap.size + 1 < w7.heap.size := T7.z.rR.lt))
     all_goals
      have T8 := DA.put ((T7.alloc (.cells #[.int .i64 y] 2)).alloc (.cells #[.slice (some ⟨w7.heap.size, 0, none⟩) 1 1] 24)) hg8 ho8 (hat8.elim (fun h => .inl h.symm) (fun h => .inr (by rw [h]; rfl)))
      have F := hid (T8.result (small_app (M' := 25) (small_wider hsm (Nat.le_refl _) (show 16 ≤ 65 by omega)) hml.out (by simp) (by omega)))
      have cR8 : (w8.setCell ⟨o, 0, none⟩ (.slice (some ⟨O', 0, none⟩) (m + 1) oc')).cell? ⟨w.heap.size + 1, 0, none⟩ = some (.slice none 0 0) := T8.z.rR.cell 0
      have fR8 : (w8.setCell ⟨o, 0, none⟩ (.slice (some ⟨O', 0, none⟩) (m + 1) oc')).frozen? ⟨w.heap.size + 1, 0, none⟩ = false := T8.z.rR.free 0
      clear T8 T7 T6 T5 ho8 hg8 hat8 hlt8 r8 d7 g7 cV7 EL
      go_wp2
      exact bodyPost_ret (v := .agg #[.slice (some ⟨O', 0, none⟩) (m + 1) oc']) (by simp [results, Try.results43, go_sem, cR8]) rfl F.out
end drawSA
end
section
namespace shifted
open Go.RowKit base ints sig term termOk marks app sym segs termFacts varsMath fillMath Go.Proofs.Ytgfgaeagbipobaa.look
set_option maxRecDepth 100000
def AnsPairO (w : World) (ys : List Int) (b : Bool) (e : Ending) (w' : World) : Prop := ∃ A n c, e = .returned (.tuple #[.slice A n c, .bool b]) ∧ Own w' w.heap.size (.slice A n c) ys ∧ Below w.heap.size w w'
end shifted
end
section
namespace drawVar
open Go.RowKit base ints sig term cursor termOk marks app sym dice drawSig drawTerm drawAny drawTwo drawPair drawOne fillMath shifted
structure V3 (w : World) (p : Nat) (A : Option Addr) (n c v : Nat) (S : Option Addr) (sn sc : Nat) (sg : List Int) (O : Option Addr) (on : Nat) (xs : List Int) (wr : World) : Prop where
 d : Dice wr p A n c
 rN : Row wr w.heap.size 26 #[.slice none 0 0]
 rV : Row wr v 26 #[.slice S sn sc]
 s : Rd wr p wr.heap.size S sn sg
 o : Rd wr p wr.heap.size O on xs
 b : Below w.heap.size w wr
 hp : w.heap.size < p
 pv : p < v
section
variable {w : World} {p : Nat} {A : Option Addr} {n c v : Nat} {S : Option Addr} {sn sc : Nat} {sg : List Int} {O : Option Addr} {on : Nat} {xs : List Int} {wr w' : World}
theorem V3.next (t : V3 w p A n c v S sn sc sg O on xs wr) (hb : Below wr.heap.size wr w') : V3 w p A n c v S sn sc sg O on xs w' :=
 ⟨t.d.next hb, t.rN.next hb, t.rV.next hb, (t.s.below hb (Nat.le_refl _)).more hb.size, (t.o.below hb (Nat.le_refl _)).more hb.size, next_trans t.b hb, t.hp, t.pv⟩
end
theorem segB_below {w w' : World} {A : Option Addr} {n : Nat} (h : SegB w w.heap.size A n) (hb : Below w.heap.size w w') : SegB w' w'.heap.size A n := fun hp => by
 obtain ⟨b, off, e, hbb, hc⟩ := h hp
 refine ⟨b, off, e, Nat.lt_of_lt_of_le hbb hb.size, fun j hj => ?_⟩
 obtain ⟨x, x0, x1, hx⟩ := hc j hj
 exact ⟨x, x0, x1, (hb.cell (p := ⟨b, off + j, none⟩) hbb).trans hx⟩
end drawVar
end
section
namespace varsOf
open Go.RowKit base
def AnsB (w : World) (b : Bool) (e : Ending) (w' : World) : Prop := e = .returned (.bool b) ∧ Below w.heap.size w w'
theorem ansB {w w' : World} {a b : Bool} (h : a = b) (hb : Below w.heap.size w w') : AnsB w b (.returned (.bool a)) w' := ⟨by rw [h], hb⟩
end varsOf
end
section
open Go.Lib (hid)
namespace substOk
open Go.RowKit base ints sig term termOk marks app sym sub segs segsHelp termFacts varsMath varsOf fillMath Go.Proofs.Ytgfgaeagbipobaa.look
set_option maxRecDepth 100000
def goodB (sg t : List Int) : Bool := decide (t.length = 0) || termOkB sg t
def substOkB (sg : List Int) (ss : List (List Int)) : Bool := sigOkB sg && (decide (ss.length ≤ 24) && ss.all (goodB sg))
theorem substOk_parts {sg : List Int} {ss : List (List Int)} (h : substOkB sg ss = true) : sigOkB sg = true ∧ ss.length ≤ 24 ∧ ∀ j, j < ss.length → goodB sg (ss.getD j []) = true := by
 unfold substOkB at h
 simp only [Bool.and_eq_true, decide_eq_true_eq, List.all_eq_true] at h
 refine ⟨h.1, h.2.1, fun j hj => ?_⟩
 have := h.2.2 (ss[j]) (List.getElem_mem hj)
 simpa [List.getD, hj] using this
theorem subst_sig {sg : List Int} {ss : List (List Int)} (h : sigOkB sg = false) : substOkB sg ss = false := by unfold substOkB; rw [h, Bool.false_and]
theorem subst_long {sg : List Int} {ss : List (List Int)} (h : ¬ ss.length ≤ 24) : substOkB sg ss = false := by unfold substOkB; rw [decide_eq_false h, Bool.false_and, Bool.and_false]
theorem subst_bad {sg : List Int} {ss : List (List Int)} {k : Nat} (hk : k < ss.length) (h : goodB sg (ss.getD k []) = false) : substOkB sg ss = false := by
 have : ss.all (goodB sg) = false := by
  rw [List.all_eq_false]
  refine ⟨ss[k], List.getElem_mem hk, ?_⟩
  have e : ss.getD k [] = ss[k] := by simp [List.getD, hk]
  rw [e] at h
  simp [h]
 unfold substOkB
 rw [this, Bool.and_false, Bool.and_false]
theorem subst_good {sg : List Int} {ss : List (List Int)} (h : sigOkB sg = true) (hl : ss.length ≤ 24) (hg : ∀ j, j < ss.length → goodB sg (ss.getD j []) = true) : substOkB sg ss = true := by
 have : ss.all (goodB sg) = true := by
  rw [List.all_eq_true]
  intro x hx
  obtain ⟨j, hj, rfl⟩ := List.getElem_of_mem hx
  have := hg j hj
  simpa [List.getD, hj] using this
 unfold substOkB
 rw [this, h, decide_eq_true hl]
 rfl
def HeadSO (w : World) (A : Option Addr) (n c : Nat) (S : Option Addr) (m c' : Nat) (sg : List Int) (ss : List (List Int)) (i : Value) (wr : World) : Prop :=
 ∃ k : Nat, k ≤ m ∧ i = .int .i64 k ∧ (∀ j, j < k → goodB sg (ss.getD j []) = true) ∧ Row wr w.heap.size 26 #[.slice A n c] ∧ Row wr (w.heap.size + 1) 31 #[.slice S m c'] ∧ Below w.heap.size w wr
theorem headSO_step {w wr : World} {A : Option Addr} {n c : Nat} {S : Option Addr} {m c' : Nat} {sg : List Int} {ss : List (List Int)} {k : Nat} (hk : k < m) (hlow : ∀ j, j < k → goodB sg (ss.getD j []) = true) (hg : goodB sg (ss.getD k []) = true)
  (r1 : Row wr w.heap.size 26 #[.slice A n c]) (r2 : Row wr (w.heap.size + 1) 31 #[.slice S m c']) (hb : Below w.heap.size w wr) : HeadSO w A n c S m c' sg ss (.int .i64 ((k : Int) + 1)) wr :=
 ⟨k + 1, hk, by simp, fun j hj => by
  by_cases e : j = k
  ·subst e; exact hg
  ·exact hlow j (by omega), r1, r2, hb⟩
theorem boxes2 (w : World) (A : Option Addr) (n c : Nat) (S : Option Addr) (m c' : Nat) : ∃ W, W = (w.alloc (.cells #[.slice A n c] 26)).alloc (.cells #[.slice S m c'] 31) ∧
  Row W w.heap.size 26 #[.slice A n c] ∧ Row W (w.heap.size + 1) 31 #[.slice S m c'] ∧ Below w.heap.size w W := by
 refine ⟨_, rfl, ?_, ?_, ?_⟩
 ·have := (Row.new w 26 #[.slice A n c]).alloc (.cells #[.slice S m c'] 31)
  simpa using this
 ·have := Row.new (w.alloc (.cells #[.slice A n c] 26)) 31 #[.slice S m c']
  simpa using this
 ·exact ((Below.refl _ _).alloc (Nat.le_refl _) _).alloc (by simp) _
set_option maxHeartbeats 4000000 in
theorem specSubstOk (A S : Option Addr) (n c m c' : Nat) (sg : List Int) (ss : List (List Int)) (w : World) (h : Seg w w.heap.size A n sg) (h' : Segs w w.heap.size S m ss) (hn : n ≤ 1048576) (ht : tot ss ≤ 1048576) :
  Calls Try.prog 39 #[.agg #[.slice A n c], .agg #[.slice S m c']] w (AnsB w (substOkB sg ss)) := by
 obtain ⟨W, hW, rA, rS, bel⟩ := boxes2 w A n c S m c'
 have HW := hid hW
 have HL := hid h'.1
 have hm : m ≤ 1048576 := tot_len h'.1 ht
 have HT := hid (tot_each ht)
 have L := hid (specSigOk A n c sg W (h.next bel) hn)
 have cS : W.cell? ⟨w.heap.size + 1, 0, none⟩ = some (.slice S m c') := rS.cell 0
 clear hW ht
 cases hsig : sigOkB sg with
 | false =>
  have HS := hid hsig
  clear hsig h h'
  go_enter Try.func39, Try.ntmps39
  go_wp2_with fail
  rw [← HW.out]
  refine L.out.mono ?_
  rintro e w1 ⟨he, bb⟩
  rw [HS.out] at he
  subst he
  have F := hid (ansB (b := substOkB sg ss) (a := false) (by rw [subst_sig HS.out]) (next_trans bel bb))
  clear bb bel rA rS cS
  go_wp2
  go_ret
  exact F.out
 | true =>
  have HS := hid hsig
  clear hsig
  by_cases h24 : m ≤ 24
  ·go_enter Try.func39, Try.ntmps39
   go_wp2_with fail
   rw [← HW.out]
   refine L.out.mono ?_
   rintro e w1 ⟨he, bb⟩
   rw [HS.out] at he
   subst he
   have H0 : HeadSO w A n c S m c' sg ss (.int .i64 0) w1 := ⟨0, Nat.zero_le _, rfl, fun j hj => absurd hj (Nat.not_lt_zero _), rA.next bb, rS.next bb, next_trans bel bb⟩
   have HH := hid H0
   have cS1 : w1.cell? ⟨w.heap.size + 1, 0, none⟩ = some (.slice S m c') := (rS.next bb).cell 0
   clear H0 bb bel rA rS cS L
   go_wp2_with fail
   go_loopw [5] (fun i wr => HeadSO w A n c S m c' sg ss i wr) (fun i _ => m - (intOf i).toNat)
   case atStart => exact HH.out
   case round =>
    obtain ⟨k, hk, rfl, hlow, r1, r2, hb⟩ := hrel
    have HLOW := hid hlow
    clear hlow HH cS1
    have cS : wr.cell? ⟨w.heap.size + 1, 0, none⟩ = some (.slice S m c') := r2.cell 0
    have cA : wr.cell? ⟨w.heap.size, 0, none⟩ = some (.slice A n c) := r1.cell 0
    by_cases hlt : k < m
    ·obtain ⟨b, off, A', n', cc, rfl, hbB, hx, hseg, hcap⟩ := h'.spot hlt
     have hx1 : wr.cell? ⟨b, off + k, none⟩ = some (.slice A' n' cc) := (hb.cell (p := ⟨b, off + k, none⟩) hbB).trans hx
     have hn' : n' ≤ 1048576 := by rw [← hseg.1]; exact HT.out k
     have HG := hid hseg.1
     have i0 : (0 : Int) ≤ (k : Int) := by omega
     have i1 : (k : Int) < (m : Int) := by omega
     have hbr : b < wr.heap.size := Nat.lt_of_lt_of_le hbB hb.size
     have r1d := r1.drew
     have r2d := r2.drew
     have hbd := hb.drew
     by_cases hz : n' = 0
     ·subst hz
      have S1 : ∀ d : Nat, HeadSO w A n c (some ⟨b, off, none⟩) m c' sg ss (.int .i64 ((k : Int) + 1)) (wr.drewN d) := fun d => headSO_step hlt HLOW.out (by unfold goodB; rw [HG.out]; rfl) (r1.drewN d) (r2.drewN d) (below_drewN hb d)
      have HS1 := hid S1
      clear S1 r1 r2 hb hx hseg hcap r1d r2d hbd h h'
      go_wp2_with fail
      go_quiet (fail)
      go_wp2
      go_roundw
      case rel => exact HS1.out _
      case measure => simp [intOf]; omega
     ·have hpos : 0 < n' := by omega
      have i2 : (0 : Int) < (n' : Int) := by omega
      have LT := hid (specTermOk A A' n c n' cc sg (ss.getD k []) wr.drew ((h.next hb).drew) (((hseg.below hb).more hb.size).drew) hn hn')
      have hne1 := World.new_ne wr _ cS
      cases hok : termOkB sg (ss.getD k []) with
      | false =>
       have HO := hid hok
       clear hok hx hseg hcap h h' r1 r2 hb
       go_wp2_with fail
       go_region_held3 (fun w' => w'.cell? ⟨w.heap.size + 1, 0, none⟩ = some (.slice (some ⟨b, off, none⟩) m c') ∧ w'.cell? ⟨w.heap.size, 0, none⟩ = some (.slice A n c) ∧ w'.cell? ⟨b, off + k, none⟩ = some (.slice A' n' cc))
        (go_keep)
        (first
         | (go_at_call 25; refine LT.out.mono ?_; rintro e w2 ⟨he, bb⟩; rw [HO.out] at he; subst he; have cA2 : w2.cell? ⟨w.heap.size, 0, none⟩ = some (.slice A n c) := (r1d.next bb).cell 0; have cS2 : w2.cell? ⟨w.heap.size + 1, 0, none⟩ = some (.slice (some ⟨b, off, none⟩) m c') := (r2d.next bb).cell 0; have cX2 : w2.cell? ⟨b, off + k, none⟩ = some (.slice A' n' cc) := (bb.cell (p := ⟨b, off + k, none⟩) hbr).trans hx1; have F := hid (ansB (b := substOkB sg ss) (a := false) (by rw [subst_bad (k := k) (by rw [HL.out]; exact hlt) (by unfold goodB; rw [HO.out, HG.out]; simp; omega)]) (next_trans hbd bb))))
       clear r1d r2d hbd LT cA2 cS2 cX2 hx1 cA cS
       go_wp2
       go_ret
       exact F.out
      | true =>
       have HO := hid hok
       clear hok hx hseg hcap h h' r1 r2 hb
       go_wp2_with fail
       go_region_held3 (fun w' => w'.cell? ⟨w.heap.size + 1, 0, none⟩ = some (.slice (some ⟨b, off, none⟩) m c') ∧ w'.cell? ⟨w.heap.size, 0, none⟩ = some (.slice A n c) ∧ w'.cell? ⟨b, off + k, none⟩ = some (.slice A' n' cc))
        (go_keep)
        (first
         | (go_at_call 25; refine LT.out.mono ?_; rintro e w2 ⟨he, bb⟩; rw [HO.out] at he; subst he; have cA2 : w2.cell? ⟨w.heap.size, 0, none⟩ = some (.slice A n c) := (r1d.next bb).cell 0; have cS2 : w2.cell? ⟨w.heap.size + 1, 0, none⟩ = some (.slice (some ⟨b, off, none⟩) m c') := (r2d.next bb).cell 0; have cX2 : w2.cell? ⟨b, off + k, none⟩ = some (.slice A' n' cc) := (bb.cell (p := ⟨b, off + k, none⟩) hbr).trans hx1; have F := hid (headSO_step (sg := sg) (ss := ss) hlt HLOW.out (by unfold goodB; rw [HO.out, Bool.or_true]) (r1d.next bb) (r2d.next bb) (next_trans hbd bb))))
       clear r1d r2d hbd LT cA2 cS2 cX2 hx1 cA cS
       go_wp2
       go_roundw
       case rel => exact F.out
       case measure => simp [intOf]; omega
    ·have F := hid (ansB (b := substOkB sg ss) (a := true) (by rw [subst_good HS.out (by rw [HL.out]; exact h24) (fun j hj => HLOW.out j (by rw [HL.out] at hj; omega))]) hb)
     clear r1 r2 hb h h'
     go_wp2
     go_ret
     exact F.out
  ·have i1 : (24 : Int) < (m : Int) := by omega
   go_enter Try.func39, Try.ntmps39
   go_wp2_with fail
   rw [← HW.out]
   refine L.out.mono ?_
   rintro e w1 ⟨he, bb⟩
   rw [HS.out] at he
   subst he
   have cS1 : w1.cell? ⟨w.heap.size + 1, 0, none⟩ = some (.slice S m c') := (rS.next bb).cell 0
   have F := hid (ansB (b := substOkB sg ss) (a := false) (by rw [subst_long (by rw [HL.out]; exact h24)]) (next_trans bel bb))
   clear bb bel rA rS cS h h' L
   go_wp2
   go_ret
   exact F.out
end substOk
end
section
open Go.Lib (hid)
namespace gives
open Go.RowKit base ints sig term termOk marks app sym sub segs segsHelp termFacts varsMath varsOf fillMath Go.Proofs.Ytgfgaeagbipobaa.look substOk
set_option maxRecDepth 100000
def givesL (ss : List (List Int)) (i : Nat) : List Int := if (ss.getD i []).length = 0 then vt i else ss.getD i []
theorem gives_var {ss : List (List Int)} {i : Nat} (h : (ss.getD i []).length = 0) : givesL ss i = vt i := by unfold givesL; rw [if_pos h]
theorem gives_term {ss : List (List Int)} {i : Nat} (h : ¬ (ss.getD i []).length = 0) : givesL ss i = ss.getD i [] := by unfold givesL; rw [if_neg h]
theorem gives_out {ss : List (List Int)} {i : Nat} (h : ¬ i < ss.length) : givesL ss i = vt i := gives_var (by simp [List.getD, h])
theorem gives_ok {sg : List Int} {ss : List (List Int)} (h : substOkB sg ss = true) {i : Nat} (hi : i < 24) : termOkB sg (givesL ss i) = true := by
 obtain ⟨h1, h2, h3⟩ := substOk_parts h
 by_cases hl : i < ss.length
 ·have h4 := h3 i hl
  by_cases hz : (ss.getD i []).length = 0
  ·rw [gives_var hz]; exact var_term h1 hi
  ·rw [gives_term hz]
   unfold goodB at h4
   rw [decide_eq_false hz, Bool.false_or] at h4
   exact h4
 ·rw [gives_out hl]; exact var_term h1 hi
theorem gives_len {sg : List Int} {ss : List (List Int)} (h : substOkB sg ss = true) (i : Nat) : (givesL ss i).length ≤ 60 := by
 by_cases hi : i < ss.length
 ·have h2 := (substOk_parts h).2.1
  exact (term_len (gives_ok h (show i < 24 by omega))).2
 ·rw [gives_out hi]; simp [vt]
theorem gives_pos (ss : List (List Int)) (i : Nat) : 1 ≤ (givesL ss i).length := by
 unfold givesL
 split
 ·simp [vt]
 ·omega
set_option maxHeartbeats 2000000 in
theorem l2Gives (S : Option Addr) (m c : Nat) (ss : List (List Int)) (i : Nat) (w : World) (h : Segs w w.heap.size S m ss) (ht : tot ss ≤ 1048576) (hi : i ≤ 1048576) :
  Calls Try.prog 41 #[.agg #[.slice S m c], .int .i64 (i : Int)] w (AnsList w (givesL ss i)) := by
 have hm : m ≤ 1048576 := tot_len h.1 ht
 have HT := hid (tot_each ht)
 have HL := hid h.1
 clear ht
 have bel : Below w.heap.size w (w.alloc (.cells #[.slice S m c] 31)) := (Below.refl _ _).alloc (Nat.le_refl _) _
 have i0 : (0 : Int) ≤ (i : Int) := by omega
 have var : ∀ (hv : givesL ss i = vt i), AnsList w (givesL ss i) (.returned (.slice (some ⟨w.heap.size + 1, 0, none⟩) 1 1)) ((w.alloc (.cells #[.slice S m c] 31)).alloc (.cells #[.int .i64 (-1 - (i : Int))] 2)) := fun hv => by
  refine ⟨_, 1, 1, rfl, ?_, bel.alloc (by simp) _⟩
  rw [hv]
  have := Own.of_row (base := w.heap.size) (n := 1) (c := 1) (xs := vt i) (Row.new (w.alloc (.cells #[.slice S m c] 31)) 2 #[.int .i64 (-1 - (i : Int))]) rfl rfl (Nat.le_refl _) (by omega) (by simp) (fun j hj => by
   have e : j = 0 := by omega
   subst e
   rfl)
  simpa using this
 have VAR := hid var
 clear var
 by_cases hlt : i < m
 ·obtain ⟨b, off, A', n', cc, rfl, hbB, hx, hseg, hcap⟩ := h.spot hlt
  have hx1 : (w.alloc (.cells #[.slice (some ⟨b, off, none⟩) m c] 31)).cell? ⟨b, off + i, none⟩ = some (.slice A' n' cc) := (bel.cell (p := ⟨b, off + i, none⟩) hbB).trans hx
  by_cases hz : n' = 0
  ·subst hz
   have F := hid (VAR.out (gives_var hseg.1))
   clear h hseg hcap hx bel VAR
   go_enter Try.func41, Try.ntmps41
   go_wp2
   go_ret
   exact F.out
  ·have hpos : 0 < n' := by omega
   have E := hid (gives_term (ss := ss) (i := i) (by rw [hseg.1]; exact hz))
   have L := hid (copyInts A' n' cc _ _ ((hseg.below bel).more bel.size) hcap.2.2 (by rw [← hseg.1]; exact HT.out i))
   clear h hseg hcap hx VAR
   go_enter Try.func41, Try.ntmps41
   go_wp2_with fail
   refine L.out.mono ?_
   rintro e w1 ⟨D, dn, dc, rfl, o1, b1⟩
   have F : AnsList w (givesL ss i) (.returned (.slice D dn dc)) w1 := ⟨D, dn, dc, rfl, by rw [E.out]; exact Own.lower o1 bel.size, next_trans bel b1⟩
   have HF := hid F
   clear F o1 b1 bel L
   go_wp2
   go_ret
   exact HF.out
 ·have hge : ¬ (i : Int) < (m : Int) := by omega
  have F := hid (VAR.out (gives_out (by rw [HL.out]; exact hlt)))
  clear h bel VAR
  go_enter Try.func41, Try.ntmps41
  go_wp2
  go_ret
  exact F.out
theorem lookupIn (S : Option Addr) (m c : Nat) (w : World) :
  Calls Try.prog 47 #[.agg #[.slice S m c]] w fun e w' => e = .returned (.func (.func 86) #[] #[.pointer (some ⟨w.heap.size, 0, none⟩)]) ∧ w' = w.alloc (.cells #[.slice S m c] 31) := by
 have hmf : ∀ (fn : Fn) (first cap : Array Value) (w : World), (Instr.makeFunc fn first cap).run Try.prog w = .ok (.func fn first cap) w := fun _ _ _ _ => rfl
 go_enter Try.func47, Try.ntmps47
 go_wp2
 go_ret
 exact ⟨rfl, rfl⟩
set_option maxHeartbeats 2000000 in
theorem lookSubstC (B : Nat) (S : Option Addr) (m c : Nat) (ss : List (List Int)) (w : World) (hB : B < w.heap.size) (hc : w.cell? ⟨B, 0, none⟩ = some (.slice S m c)) (h : Segs w w.heap.size S m ss) (hm : m ≤ 1048576) :
  Looks 86 #[.pointer (some ⟨B, 0, none⟩)] w (givesL ss) 24 := by
 intro W i hb hi
 have cB : W.cell? ⟨B, 0, none⟩ = some (.slice S m c) := (hb.cell (p := ⟨B, 0, none⟩) hB).trans hc
 have h1 := h.below hb
 have HL := hid h.1
 have i0 : (0 : Int) ≤ (i : Int) := by omega
 have LV := hid (varTerm (i : Int) W (by omega) (by omega))
 have hws := hb.size
 clear hB hc h hb
 show Calls Try.prog 86 #[.int .i64 (i : Int), .pointer (some ⟨B, 0, none⟩)] W _
 by_cases hlt : i < m
 ·obtain ⟨b, off, A', n', cc, rfl, hbB, hx, hseg0, hcap⟩ := h1.spot hlt
  have hseg := hseg0.more hws
  by_cases hz : n' = 0
  ·subst hz
   have E := hid (gives_var (ss := ss) (i := i) hseg.1)
   clear h1 hseg hseg0 hcap
   go_enter Try.func86, Try.ntmps86
   go_wp2_with fail
   refine LV.out.mono ?_
   rintro e w1 ⟨D, dn, dc, rfl, o1, b1⟩
   have F : AnsLook w.heap.size W (givesL ss i) (.returned (.slice D dn dc)) w1 := by rw [E.out]; exact look_new o1 b1
   have HF := hid F
   clear F o1 b1 LV
   go_wp2
   go_ret
   exact HF.out
  ·have hpos : 0 < n' := by omega
   have F : AnsLook w.heap.size W (givesL ss i) (.returned (.slice A' n' cc)) W := ⟨A', n', cc, rfl, by rw [gives_term (by rw [hseg.1]; exact hz)]; exact hseg, hcap, fun k hk => .inl (by obtain ⟨b2, off2, e2, hb2, _⟩ := hseg0.2 hpos; rw [e2] at hk; have : b2 = k := Option.some.inj hk; omega), Below.refl _ _⟩
   have HF := hid F
   clear F h1 hseg hseg0 hcap LV
   go_enter Try.func86, Try.ntmps86
   go_wp2
   go_ret
   exact HF.out
 ·have hge : ¬ (i : Int) < (m : Int) := by omega
  have E := hid (gives_out (ss := ss) (i := i) (by rw [HL.out]; exact hlt))
  clear h1
  go_enter Try.func86, Try.ntmps86
  go_wp2_with fail
  refine LV.out.mono ?_
  rintro e w1 ⟨D, dn, dc, rfl, o1, b1⟩
  have F : AnsLook w.heap.size W (givesL ss i) (.returned (.slice D dn dc)) w1 := by rw [E.out]; exact look_new o1 b1
  have HF := hid F
  clear F o1 b1 LV
  go_wp2
  go_ret
  exact HF.out
theorem lookSubst (B : Nat) (S : Option Addr) (m c : Nat) (ss : List (List Int)) (w : World) (hr : Row w B 31 #[.slice S m c]) (h : Segs w w.heap.size S m ss) (hm : m ≤ 1048576) :
  Looks 86 #[.pointer (some ⟨B, 0, none⟩)] w (givesL ss) 24 := lookSubstC B S m c ss w hr.lt (hr.cell 0) h hm
end gives
end
section
open Go.Lib (hid)
namespace plainOf
open Go.RowKit base ints sig cursor marks app appAt sym sub segs segsHelp kinds varsOf fillMath Go.Proofs.Ytgfgaeagbipobaa.look substOk gives plainMath plain
set_option maxRecDepth 100000
theorem own_one {w : World} {base : Nat} {D : Option Addr} {c : Nat} {x : Int} (h : Own w base (.slice D 1 c) [x]) : ∃ g, D = some ⟨g, 0, none⟩ ∧ w.cell? ⟨g, 0, none⟩ = some (.int .i64 x) := by
 rcases own_form (n := 1) (vs := [x].map (Value.int .i64)) h with ⟨_, h1, _⟩ | ⟨g, cur, e, _, hr, _, _, _, _, hc⟩
 ·omega
 ·refine ⟨g, e, ?_⟩
  rw [hr.cell 0, hc 0 (by omega)]
  rfl
theorem Owns.shrink {w : World} {lo hi m n c : Nat} {A : Option Addr} {xss : List (List Int)} (h : Owns w lo hi A m c xss) (hn : n ≤ m) : Owns w lo hi A n c (xss.take n) := by
 obtain ⟨h1, ⟨vs, hr, hin, hap⟩, h3⟩ := h
 rcases own_form hr with ⟨rfl, h0, rfl, rfl⟩ | ⟨g, cur, rfl, hlo, hrow, hmc, hsz, hmax, hlen, hc⟩
 ·obtain rfl : n = 0 := by omega
  simpa using Owns.nil w lo hi
 ·have e1 : ∀ j, j < n → (cur.toList.take n).getD j undef = vs.getD j undef := fun j hj => by
   have := hc j (by omega)
   simp [List.getD, List.getElem?_take, hj, this]
  have e2 : ∀ j, j < n → (xss.take n).getD j [] = xss.getD j [] := fun j hj => by simp [List.getD, List.getElem?_take, hj]
  refine ⟨by rw [List.length_take, h1]; omega, ⟨_, rowsOf hrow hsz (by omega) hmax hlo, fun j hj => ?_, fun i j k hij hj a b => ?_⟩, h3⟩
  ·rw [e1 j hj, e2 j hj]
   exact hin j (by omega)
  ·rw [e1 i (by omega)] at a
   rw [e1 j hj] at b
   exact hap i j k hij (by omega) a b
def HeadL1 (w : World) (S : Option Addr) (m c : Nat) (ss : List (List Int)) (i : Value) (wr : World) : Prop :=
 ∃ (k : Nat) (A : Option Addr) (cA : Nat), k ≤ m ∧ i = .int .i64 k ∧ Owns wr (w.heap.size + 3) wr.heap.size A k cA (rowsL (givesL ss) k) ∧ Row wr w.heap.size 31 #[.slice S m c] ∧ Row wr (w.heap.size + 1) 31 #[.slice none 0 0] ∧
  Row wr (w.heap.size + 2) 31 #[.slice A k cA] ∧ Below w.heap.size w wr
theorem headL1_step {w wr w1 w5 w6 : World} {S A A' : Option Addr} {m c k cA c' : Nat} {ss : List (List Int)} (hk : k < m) (ho : Owns w6 (w.heap.size + 3) w6.heap.size A' (k + 1) c' (rowsL (givesL ss) (k + 1)))
  (r0 : Row wr w.heap.size 31 #[.slice S m c]) (r1 : Row wr (w.heap.size + 1) 31 #[.slice none 0 0]) (r2 : Row wr (w.heap.size + 2) 31 #[.slice A k cA]) (hb : Below w.heap.size w wr)
  (b1 : Below wr.heap.size wr w1) (b5 : Below w1.heap.size w1 w5) (hg : w5.grownBy w6 (blk A)) (hA : ∀ z, blk A = some z → w.heap.size + 3 ≤ z) :
  HeadL1 w S m c ss (.int .i64 ((k : Int) + 1)) (w6.setCell ⟨w.heap.size + 2, 0, none⟩ (.slice A' (k + 1) c')) := by
 have bb := next_trans b1 b5
 have q0 := Row.away (r0.next bb) hg (fun e => by have := hA _ e; omega)
 have q1 := Row.away (r1.next bb) hg (fun e => by have := hA _ e; omega)
 have q2 := Row.away (r2.next bb) hg (fun e => by have := hA _ e; omega)
 have hbb : Below w.heap.size w w6 := (hb.trans (bb.mono hb.size)).grown hg (by have := hb.size; have := bb.size; omega) (fun z hz => by have := hA z hz; omega)
 refine ⟨k + 1, A', c', hk, by simp, ?_, q0.far (by simp) _, q1.far (by simp) _, ?_, hbb.setCell (by simp) _⟩
 ·have := owns_put ho q2 (by omega) 0 (.slice A' (k + 1) c')
  simpa using this
 ·have := q2.put 0 (.slice A' (k + 1) c')
  simpa using this
def HeadL2 (w : World) (L : Nat → List Int) (m : Nat) (A : Option Addr) (cA : Nat) (p : Value) (wr : World) : Prop :=
 ∃ n : Nat, n ≤ m ∧ p = .pointer (some ⟨w.heap.size + 2, 0, none⟩) ∧ strip ((rowsL L m).take n) = plainL L m ∧ Owns wr (w.heap.size + 3) wr.heap.size A m cA (rowsL L m) ∧ Row wr (w.heap.size + 1) 31 #[.slice none 0 0] ∧
  Row wr (w.heap.size + 2) 31 #[.slice A n cA] ∧ Below w.heap.size w wr
def lenAt (w : World) (p : Addr) : Nat := match w.cell? p with
 | some (.slice _ n _) => n
 | _ => 0
theorem headL2_end {w wr : World} {L : Nat → List Int} {m n cA : Nat} {A : Option Addr} (hn : n ≤ m) (hs : strip ((rowsL L m).take n) = plainL L m) (ho : Owns wr (w.heap.size + 3) wr.heap.size A m cA (rowsL L m))
  (r1 : Row wr (w.heap.size + 1) 31 #[.slice none 0 0]) (hb : Below w.heap.size w wr) (hend : n = 0 ∨ (rowsL L m).getD (n - 1) [] ≠ []) :
  AnsSubst w (plainL L m) (.returned (.agg #[.slice A n cA])) (wr.setCell ⟨w.heap.size + 1, 0, none⟩ (.slice A n cA)) := by
 have e : (rowsL L m).take n = plainL L m := by
  rw [← hs]
  rcases hend with rfl | h
  ·simp [strip]
  ·by_cases h0 : n = 0
   ·subst h0; simp [strip]
   ·have := strip_last (l := rowsL L m) (q := n - 1) (by rw [rows_len]; omega) h
    rw [show n - 1 + 1 = n by omega] at this
    exact this.symm
 have h1 := Owns.shrink (owns_put ho r1 (by omega) 0 (.slice A n cA)) hn
 rw [e] at h1
 exact ⟨A, n, cA, rfl, h1.wider (by omega) (by simp), hb.setCell (by simp) _⟩
set_option maxHeartbeats 8000000 in
theorem l2Plain (S : Option Addr) (m c : Nat) (ss : List (List Int)) (w : World) (h : Segs w w.heap.size S m ss) (ht : tot ss ≤ 1048576) :
  Calls Try.prog 80 #[.agg #[.slice S m c]] w (AnsSubst w (plainL (givesL ss) m)) := by
 have HT := hid ht
 have hm : m ≤ 1048576 := tot_len h.1 ht
 have HE := hid (tot_each ht)
 clear ht
 go_enter Try.func80, Try.ntmps80
 go_wp2_with fail
 go_loopw [4] (fun i wr => HeadL1 w S m c ss i wr) (fun i _ => m - (intOf i).toNat)
 case atStart =>
  have b0 : Below w.heap.size w (((w.alloc (.cells #[.slice S m c] 31)).alloc (.cells #[.slice none 0 0] 31)).alloc (.cells #[.slice none 0 0] 31)) := (((Below.refl _ _).alloc (Nat.le_refl _) _).alloc (by simp) _).alloc (by simp; omega) _
  have q1 := Row.new (w.alloc (.cells #[.slice S m c] 31)) 31 #[.slice none 0 0]
  have q2 := Row.new ((w.alloc (.cells #[.slice S m c] 31)).alloc (.cells #[.slice none 0 0] 31)) 31 #[.slice none 0 0]
  refine ⟨0, none, 0, Nat.zero_le _, rfl, by simpa [rowsL] using Owns.nil _ _ _, ((Row.new w 31 #[.slice S m c]).alloc _).alloc _, ?_, ?_, b0⟩
  ·have := q1.alloc (.cells #[.slice none 0 0] 31); simpa using this
  ·simpa using q2
 case round =>
  obtain ⟨k, A, cA, hk, rfl, ho, r0, r1, r2, hb⟩ := hrel
  have c0 : wr.cell? ⟨w.heap.size, 0, none⟩ = some (.slice S m c) := r0.cell 0
  have cO : wr.cell? ⟨w.heap.size + 2, 0, none⟩ = some (.slice A k cA) := r2.cell 0
  have i0 : (0 : Int) ≤ (k : Int) := by omega
  by_cases hlt : k < m
  ·have i1 : (k : Int) < (m : Int) := by omega
   have LG := hid (l2Gives S m c ss k wr ((h.below hb).more hb.size) HT.out (by omega))
   have HA : Hid (∀ z, blk A = some z → w.heap.size + 3 ≤ z) := hid (fun z hz => by
    obtain ⟨vs, hown, _⟩ := ho.row
    exact (World.ownsRow.lt hown z (by rw [blk_own]; exact hz)).1)
   have hw1 : IntKind.i64.wrap (-1 - (k : Int)) = -1 - (k : Int) := by rw [IntKind.wrap_i64]; omega
   have hrl := r2.lt
   obtain ⟨ys, hys⟩ : ∃ ys, givesL ss k = ys := ⟨_, rfl⟩
   rw [hys] at LG
   have hlen : ys.length ≤ 1048576 := by
    rw [← hys]
    unfold givesL
    split
    ·simp [vt]
    ·exact HE.out k
   have RS := hid (rows_succ (givesL ss) k)
   by_cases h1 : ys.length = 1
   ·obtain ⟨x, rfl⟩ : ∃ x, ys = [x] := by
     match ys, h1 with
     | [x], _ => exact ⟨x, rfl⟩
    by_cases hx : x = -1 - (k : Int)
    ·have RB := hid (show bare (givesL ss) k = [] by unfold bare; rw [if_pos (by rw [hys, hx]; rfl)])
     have DX : (x == -1 - (k : Int)) = true := by simp [hx]
     clear hx hys
     go_wp2_with (first
      | (go_at_call 41; go_must (refine LG.out.mono ?_; rintro e w1 ⟨D, dn, dc, rfl, od, bb⟩; obtain rfl : dn = 1 := Own.len od; obtain ⟨gD, rfl, cD⟩ := own_one od; have cO1 : w1.cell? ⟨w.heap.size + 2, 0, none⟩ = some (.slice A k cA) := (r2.next bb).cell 0; have e5 : ((w1.alloc (.cells #[] 2)).alloc (.cells #[.slice (some ⟨w1.heap.size, 0, none⟩) 0 0] 24)).cell? ⟨w1.heap.size + 1, 0, none⟩ = some (.slice (some ⟨w1.heap.size, 0, none⟩) 0 0) := (by simp); have c15 : (w1.alloc (.cells #[] 2)).cell? ⟨w.heap.size + 2, 0, none⟩ = some (.slice A k cA) := ((r2.next bb).alloc (.cells #[] 2)).cell 0; have B5 : Below w1.heap.size w1 ((w1.alloc (.cells #[] 2)).alloc (.cells #[.slice (some ⟨w1.heap.size, 0, none⟩) 0 0] 24)) := ((Below.refl _ _).alloc (Nat.le_refl _) _).alloc (by simp) _; have hz5 := B5.size; have hz1 := bb.size; have ho5 := (ho.next bb).next B5; have i5 : Inn ((w1.alloc (.cells #[] 2)).alloc (.cells #[.slice (some ⟨w1.heap.size, 0, none⟩) 0 0] 24)) wr.heap.size ((w1.alloc (.cells #[] 2)).alloc (.cells #[.slice (some ⟨w1.heap.size, 0, none⟩) 0 0] 24)).heap.size (.slice (some ⟨w1.heap.size, 0, none⟩) 0 0) [] := Inn.wider ((inn_own (own_empty w1 wr.heap.size bb.size)).next ((Below.refl _ _).alloc (Nat.le_refl _) _)) (Nat.le_refl _) (by simp); have r25 := (r2.next bb).next B5; have c25 : ((w1.alloc (.cells #[] 2)).alloc (.cells #[.slice (some ⟨w1.heap.size, 0, none⟩) 0 0] 24)).cell? ⟨w.heap.size + 2, 0, none⟩ = some (.slice A k cA) := r25.cell 0))
      | (at_builtin; go_must (refine appS1 rfl _ _ rfl (w.heap.size + 3) wr.heap.size A k cA (rowsL (givesL ss) k) rfl ho5 _ 1 (.slice (some ⟨w1.heap.size, 0, none⟩) 0 0) [] rfl e5 i5 (by omega) (by omega) (by omega) ?_; intro A' c' w6 ho6 hg6 hat6 b6; have q2 := Row.away r25 hg6 (fun e => by have := HA.out _ e; omega); have c26 : w6.cell? ⟨w.heap.size + 2, 0, none⟩ = some (.slice A k cA) := q2.cell 0; have f26 : w6.frozen? ⟨w.heap.size + 2, 0, none⟩ = false := q2.free 0)))
     have S := hid (headL1_step (ss := ss) hlt (by rw [RS.out, RB.out]; exact ho6) r0 r1 r2 hb bb B5 hg6 HA.out)
     clear ho6 hg6 hat6 b6 ho5 i5 r25 c25 c15 q2 od bb B5 r0 r1 r2 hb ho RS RB LG cO1
     go_wp2
     go_roundw
     case rel => exact S.out
     case measure => simp [intOf]; omega
    ·have RB := hid (show bare (givesL ss) k = [x] by unfold bare; rw [if_neg (by rw [hys]; unfold vt; intro e; injection e with e; exact hx e), hys])
     have DX : (x == -1 - (k : Int)) = false := by simp [hx]
     clear hx hys
     go_wp2_with (first
      | (go_at_call 41; refine LG.out.mono ?_; rintro e w1 ⟨D, dn, dc, rfl, od, bb⟩; obtain rfl : dn = 1 := Own.len od; obtain ⟨gD, rfl, cD⟩ := own_one od; have cO1 : w1.cell? ⟨w.heap.size + 2, 0, none⟩ = some (.slice A k cA) := (r2.next bb).cell 0; have B5 : Below w1.heap.size w1 (w1.alloc (.cells #[.slice (some ⟨gD, 0, none⟩) 1 dc] 24)) := (Below.refl _ _).alloc (Nat.le_refl _) _; have hz5 := B5.size; have hz1 := bb.size; have ho5 := (ho.next bb).next B5; have i5 : Inn (w1.alloc (.cells #[.slice (some ⟨gD, 0, none⟩) 1 dc] 24)) wr.heap.size (w1.alloc (.cells #[.slice (some ⟨gD, 0, none⟩) 1 dc] 24)).heap.size (.slice (some ⟨gD, 0, none⟩) 1 dc) [x] := Inn.wider ((inn_own od).next ((Below.refl _ _).alloc (Nat.le_refl _) _)) (Nat.le_refl _) (by simp); have r25 := (r2.next bb).next B5; have c25 : (w1.alloc (.cells #[.slice (some ⟨gD, 0, none⟩) 1 dc] 24)).cell? ⟨w.heap.size + 2, 0, none⟩ = some (.slice A k cA) := r25.cell 0)
      | (at_builtin; refine appS1 rfl _ _ rfl (w.heap.size + 3) wr.heap.size A k cA (rowsL (givesL ss) k) rfl ho5 _ 1 (.slice (some ⟨gD, 0, none⟩) 1 dc) [x] rfl ((Row.new _ _ _).cell 0) i5 (by omega) (by omega) (by omega) ?_; intro A' c' w6 ho6 hg6 hat6 b6; have q2 := Row.away r25 hg6 (fun e => by have := HA.out _ e; omega); have c26 : w6.cell? ⟨w.heap.size + 2, 0, none⟩ = some (.slice A k cA) := q2.cell 0; have f26 : w6.frozen? ⟨w.heap.size + 2, 0, none⟩ = false := q2.free 0))
     have S := hid (headL1_step (ss := ss) hlt (by rw [RS.out, RB.out]; exact ho6) r0 r1 r2 hb bb B5 hg6 HA.out)
     clear ho6 hg6 hat6 b6 ho5 i5 r25 c25 q2 od bb B5 r0 r1 r2 hb ho RS RB LG cO1
     go_wp2
     go_roundw
     case rel => exact S.out
     case measure => simp [intOf]; omega
   ·have RB := hid (show bare (givesL ss) k = ys by unfold bare; rw [if_neg (by rw [hys]; unfold vt; intro e; rw [e] at h1; exact h1 rfl), hys])
    clear hys
    go_wp2_with (first
     | (go_at_call 41; refine LG.out.mono ?_; rintro e w1 ⟨D, dn, dc, rfl, od, bb⟩; have hdn : ¬ dn = 1 := (by rw [Own.len od]; exact h1); have hdz : ¬ (dn : Int) = 1 := (by omega); have hdb : (((dn : Nat) : Int) == 1) = false := (by simp; omega); have cO1 : w1.cell? ⟨w.heap.size + 2, 0, none⟩ = some (.slice A k cA) := (r2.next bb).cell 0; have B5 : Below w1.heap.size w1 (w1.alloc (.cells #[.slice D dn dc] 24)) := (Below.refl _ _).alloc (Nat.le_refl _) _; have hz5 := B5.size; have hz1 := bb.size; have ho5 := (ho.next bb).next B5; have i5 : Inn (w1.alloc (.cells #[.slice D dn dc] 24)) wr.heap.size (w1.alloc (.cells #[.slice D dn dc] 24)).heap.size (.slice D dn dc) ys := Inn.wider ((inn_own od).next ((Below.refl _ _).alloc (Nat.le_refl _) _)) (Nat.le_refl _) (by simp); have r25 := (r2.next bb).next B5; have c25 : (w1.alloc (.cells #[.slice D dn dc] 24)).cell? ⟨w.heap.size + 2, 0, none⟩ = some (.slice A k cA) := r25.cell 0)
     | (at_builtin; refine appS1 rfl _ _ rfl (w.heap.size + 3) wr.heap.size A k cA (rowsL (givesL ss) k) rfl ho5 _ 1 (.slice D dn dc) ys rfl ((Row.new _ _ _).cell 0) i5 (by omega) (by omega) (by omega) ?_; intro A' c' w6 ho6 hg6 hat6 b6; have q2 := Row.away r25 hg6 (fun e => by have := HA.out _ e; omega); have c26 : w6.cell? ⟨w.heap.size + 2, 0, none⟩ = some (.slice A k cA) := q2.cell 0; have f26 : w6.frozen? ⟨w.heap.size + 2, 0, none⟩ = false := q2.free 0))
    have S := hid (headL1_step (ss := ss) hlt (by rw [RS.out, RB.out]; exact ho6) r0 r1 r2 hb bb B5 hg6 HA.out)
    clear ho6 hg6 hat6 b6 ho5 i5 r25 c25 q2 od bb B5 r0 r1 r2 hb ho RS RB LG cO1
    go_wp2
    go_roundw
    case rel => exact S.out
    case measure => simp [intOf]; omega
  ·obtain rfl : k = m := by omega
   have HC := hid ho.cap
   have H2 : HeadL2 w (givesL ss) k A cA (.pointer (some ⟨w.heap.size + 2, 0, none⟩)) wr := ⟨k, Nat.le_refl _, rfl, by rw [List.take_of_length_le (by rw [rows_len]; exact Nat.le_refl _)]; rfl, ho, r1, r2, hb⟩
   have HH2 := hid H2
   have hc1 : cA ≤ 9223372036854775807 := ho.cap.2.1
   have hc0 : k ≤ cA := ho.cap.1
   clear H2 ho r0 r1 r2 hb cO h
   go_wp2_with fail
   go_loopw [] (fun wr => HeadL2 w (givesL ss) k A cA (.pointer (some ⟨w.heap.size + 2, 0, none⟩)) wr) (fun wr => lenAt wr ⟨w.heap.size + 2, 0, none⟩)
   case atStart => exact HH2.out
   case round =>
    obtain ⟨n, hn, -, hs, ho, r1, r2, hb⟩ := hrel
    clear HH2
    have cO : wr.cell? ⟨w.heap.size + 2, 0, none⟩ = some (.slice A n cA) := r2.cell 0
    have fO : wr.frozen? ⟨w.heap.size + 2, 0, none⟩ = false := r2.free 0
    have cR : wr.cell? ⟨w.heap.size + 1, 0, none⟩ = some (.slice none 0 0) := r1.cell 0
    have fR : wr.frozen? ⟨w.heap.size + 1, 0, none⟩ = false := r1.free 0
    by_cases h0 : n = 0
    ·subst h0
     have F := hid (headL2_end hn hs ho r1 hb (.inl rfl))
     clear hs ho r1 r2 hb
     go_wp2
     exact bodyPost_ret (v := .agg #[.slice A 0 cA]) (by simp [results, Try.results80, go_sem, cR]) rfl F.out
    ·obtain ⟨p, rfl⟩ : ∃ p, n = p + 1 := ⟨n - 1, by omega⟩
     obtain ⟨b, off, A', q, cq, rfl, hbb, hx, hseg, hcap⟩ := ho.segs.spot (k := p) (by omega)
     have p0 : (0 : Int) ≤ (p : Int) := by omega
     have p1 : ((p + 1 : Nat) : Int) - 1 = (p : Int) := by omega
     have p2 : (p : Int) ≤ (cA : Int) := by omega
     have p3 : (p : Int) < ((p + 1 : Nat) : Int) := by omega
     have p4 : (0 : Int) < ((p + 1 : Nat) : Int) := by omega
     have hw2 : IntKind.i64.wrap (p : Int) = (p : Int) := by rw [IntKind.wrap_i64]; omega
     by_cases hq : q = 0
     ·subst hq
      have hnil : (rowsL (givesL ss) k).getD p [] = [] := List.eq_nil_of_length_eq_zero hseg.1
      have S1 : HeadL2 w (givesL ss) k (some ⟨b, off, none⟩) cA (.pointer (some ⟨w.heap.size + 2, 0, none⟩)) (wr.setCell ⟨w.heap.size + 2, 0, none⟩ (.slice (some ⟨b, off, none⟩) p cA)) := by
       refine ⟨p, by omega, rfl, by rw [← strip_drop (by rw [rows_len]; omega) hnil]; exact hs, ?_, r1.far (by simp) _, ?_, hb.setCell (by simp) _⟩
       ·have := owns_put ho r2 (by omega) 0 (.slice (some ⟨b, off, none⟩) p cA)
        simpa using this
       ·have := r2.put 0 (.slice (some ⟨b, off, none⟩) p cA)
        simpa using this
      have HS1 := hid S1
      have E1 : (wr.setCell ⟨w.heap.size + 2, 0, none⟩ (.slice (some ⟨b, off, none⟩) p cA)).cell? ⟨w.heap.size + 2, 0, none⟩ = some (.slice (some ⟨b, off, none⟩) p cA) := by have := (r2.put 0 (.slice (some ⟨b, off, none⟩) p cA)).cell 0; simpa using this
      have HLT := hid (show lenAt (wr.setCell ⟨w.heap.size + 2, 0, none⟩ (.slice (some ⟨b, off, none⟩) p cA)) ⟨w.heap.size + 2, 0, none⟩ < lenAt wr ⟨w.heap.size + 2, 0, none⟩ by simp only [lenAt, E1, cO]; omega)
      clear S1 E1 hs ho r1 r2 hb hseg hcap hnil
      go_wp2
      go_roundw
      case rel => exact HS1.out
      case measure => exact HLT.out
     ·have hq1 : (0 : Int) < (q : Int) := by omega
      have F := hid (headL2_end hn hs ho r1 hb (.inr (fun e => by rw [show p + 1 - 1 = p by omega] at e; rw [e] at hseg; exact hq hseg.1.symm)))
      clear hs ho r1 r2 hb hseg hcap
      go_wp2
      exact bodyPost_ret (v := .agg #[.slice (some ⟨b, off, none⟩) (p + 1) cA]) (by simp [results, Try.results80, go_sem, cR]) rfl F.out
theorem tot_le {xss : List (List Int)} {M : Nat} (h : ∀ j, (xss.getD j []).length ≤ M) : tot xss ≤ xss.length + xss.length * M := by
 have : ∀ k, k ≤ xss.length → sumL xss k ≤ k * M := fun k => by
  induction k with
  | zero => intro _; simp [sumL]
  | succ k ih =>
   intro hk
   rw [sumL_succ (by omega)]
   have h1 := ih (by omega)
   have h2 := h k
   rw [Nat.succ_mul]
   omega
 unfold tot
 have := this xss.length (Nat.le_refl _)
 omega
end plainOf
end
section
namespace drawSS
open Go.RowKit base ints sig term cursor termOk marks app appAt sym segs segsHelp dice drawSig drawTerm drawAny drawTwo drawPair drawOne drawSub drawS drawSA drawVar plain plainOf
set_option maxRecDepth 100000
theorem OwnR.segs {w : World} {p lo n c : Nat} {A : Option Addr} {xss : List (List Int)} (h : OwnR w p lo A n c xss) : Segs w w.heap.size A n xss := by
 obtain ⟨h1, vs, hr, h3⟩ := h
 refine ⟨h1, fun hn => ?_⟩
 rcases own_form hr with ⟨_, e, _⟩ | ⟨g, cur, rfl, _, hrow, _, _, _, _, hc⟩
 ·omega
 ·refine ⟨g, 0, rfl, hrow.lt, fun j hj => ?_⟩
  obtain ⟨A', n', c', e, hrd, hcap, _⟩ := h3 j hj
  refine ⟨A', n', c', ?_, hrd.seg, hcap⟩
  rw [Nat.zero_add, hrow.cell j, hc j hj, e]
structure V4 (w : World) (p : Nat) (A : Option Addr) (n c v6 v7 : Nat) (S : Option Addr) (sn sc : Nat) (sg : List Int) (B : Option Addr) (m cB : Nat) (xss : List (List Int)) (wr : World) : Prop where
 d : Dice wr p A n c
 rN : Row wr w.heap.size 26 #[.slice none 0 0]
 rP : Row wr (w.heap.size + 1) 31 #[.slice none 0 0]
 r6 : Row wr v6 26 #[.slice S sn sc]
 r7 : Row wr v7 31 #[.slice B m cB]
 s : Rd wr p wr.heap.size S sn sg
 own : OwnR wr p (p + 1) B m cB xss
 b : Below w.heap.size w wr
 hp : w.heap.size + 1 < p
 p6 : p < v6
 p7 : p < v7
section
variable {w : World} {p : Nat} {A : Option Addr} {n c v6 v7 : Nat} {S : Option Addr} {sn sc : Nat} {sg : List Int} {B : Option Addr} {m cB : Nat} {xss : List (List Int)} {wr w' : World}
theorem V4.next (t : V4 w p A n c v6 v7 S sn sc sg B m cB xss wr) (hb : Below wr.heap.size wr w') : V4 w p A n c v6 v7 S sn sc sg B m cB xss w' :=
 ⟨t.d.next hb, t.rN.next hb, t.rP.next hb, t.r6.next hb, t.r7.next hb, (t.s.below hb (Nat.le_refl _)).more hb.size, t.own.below hb, next_trans t.b hb, t.hp, t.p6, t.p7⟩
end
end drawSS
end
end Go.Proofs.Ytgfgaeagbipobaa
