/-
  MERGED: my texts KboScale, KboFun, KboWhyS, KboWhyT, KboArgs, KboGrade, one behind the other, as they are. By an AI agent.
-/
import Derived.Test.YtiimbmkofpnebaaMFnExactKboOrients3
import Derived.Deep.WholeRow
import Derived.Deep.RegionHeld3
import Derived.Deep.QuietTactic
import Derived.Deep.DeepCutAuto
namespace Go.Proofs.Ytiimbmkofpnebaa
section
open Go.Lib (hid)
namespace kboScale
open Go.RowKit base ints sig term termOk termFacts marks sym varsOf ruleSpec rankMath rankSpec lpoLink lpoPrec kboMath kboLink kboOft kboWt kboOk whole
set_option maxRecDepth 100000
def scV (A R Y : Option Addr) (n c rn rc yn yc : Nat) (v : Int) (b : Bool) : Value := if b then .agg #[.slice A n c, .slice R rn rc, .int .i64 v, .slice Y yn yc] else .agg #[.slice none 0 0, .slice none 0 0, .int .i64 0, .slice none 0 0]
theorem size_p : (Try.prog.info? 94).map (·.size) = some 2 := by kernel_rfl
theorem size_s : (Try.prog.info? 96).map (·.size) = some 4 := by kernel_rfl
def AnsSc (w : World) (s : Bool → Value) (b : Bool) (e : Ending) (w' : World) : Prop := e = .returned (.tuple #[s b, .bool b]) ∧ Below w.heap.size w w'
structure R3 (w : World) (ca cb cc : Array Value) (wr : World) : Prop where
 a : Row wr w.heap.size 29 ca
 b : Row wr (w.heap.size + 1) 32 cb
 c : Row wr (w.heap.size + 1 + 1) 96 cc
 l : Below w.heap.size w wr
theorem R3.next {w wr w' : World} {ca cb cc : Array Value} (h : R3 w ca cb cc wr) (hb : Below wr.heap.size wr w') : R3 w ca cb cc w' := ⟨h.a.next hb, h.b.next hb, h.c.next hb, next_trans h.l hb⟩
theorem r3_new (w : World) (ca cb cc : Array Value) : ∃ W, W = ((w.alloc (.cells ca 29)).alloc (.cells cb 32)).alloc (.cells cc 96) ∧ R3 w ca cb cc W := by
 obtain ⟨W1, h, a, b, l⟩ := box2 w 29 32 ca cb
 have hs : W1.heap.size = w.heap.size + 1 + 1 := by rw [h]; simp
 refine ⟨_, rfl, ?_, ?_, ?_, ?_⟩
 ·rw [← h]; exact a.alloc _
 ·rw [← h]; exact b.alloc _
 ·rw [← h, ← hs]; exact Row.new _ _ _
 ·rw [← h]; exact l.alloc l.size _
theorem below_setRow {w wr : World} {B g : Nat} {cs : Array Value} (h : Below B w wr) (hg : B ≤ g) (hB : B ≤ wr.heap.size) : Below B w (wr.setRow g cs) := h.grown (grown_setRow wr g cs) hB (fun k e => by injection e; omega)
theorem box_one (w : World) (t : TypeId) (cs : Array Value) : ∃ W, W = w.alloc (.cells cs t) ∧ Row W w.heap.size t cs ∧ Below w.heap.size w W := box1 w t cs
def HeadSc (w : World) (g : Nat) (ca cb cc cs : Array Value) (n : Nat) (f : Nat → Bool) (i : Value) (wr : World) : Prop := ∃ k : Nat, k ≤ n ∧ i = .int .i64 k ∧ (∀ j, j < k → f j = true) ∧ R3 w ca cb cc wr ∧ Row wr g 96 cs
set_option maxHeartbeats 4000000 in
theorem scaleOf (A Y R : Option Addr) (n c yn yc rn rc : Nat) (v : Int) (sg sy rk : List Int) (w : World) (hA : Seg w w.heap.size A n sg) (hY : Seg w w.heap.size Y yn sy) (hR : Seg w w.heap.size R rn rk) (hn : n ≤ 1048576) (hyn : yn ≤ 1048576) (hrn : rn ≤ 1048576) :
  Calls Try.prog 71 #[.agg #[.slice A n c], .agg #[.int .i64 v, .slice Y yn yc, .slice R rn rc]] w (AnsSc w (scV A R Y n c rn rc yn yc v) (wB sg v sy rk)) := by
 obtain ⟨W, hW, q⟩ := r3_new w #[.slice A n c] #[.int .i64 v, .slice Y yn yc, .slice R rn rc] #[.slice none 0 0, .slice none 0 0, .int .i64 0, .slice none 0 0]
 have HW := hid hW
 have HAL := hid hA.1
 have HYL := hid hY.1
 have HRL := hid hR.1
 have L1 := hid (precedenceOf A R n c rn rc sg rk W (hA.next q.l) (hR.next q.l) hn hrn)
 have LA := hid (fun (w1 : World) (bb : Below w.heap.size w w1) (k : Nat) (hk : k < n) (e1 : rn = n) (e2 : yn = n) => admits A R Y n c rc yc v sg rk sy k w1 (hA.next bb) (e1 ▸ hR.next bb) (e2 ▸ hY.next bb) hn hk)
 have k0 : W.cell? ⟨w.heap.size, 0, none⟩ = some (.slice A n c) := q.a.cell 0
 have k1 : W.cell? ⟨w.heap.size + 1, 0, none⟩ = some (.int .i64 v) := q.b.cell 0
 have k2 : W.cell? ⟨w.heap.size + 1, 1, none⟩ = some (.slice Y yn yc) := q.b.cell 1
 have k3 : W.cell? ⟨w.heap.size + 1, 2, none⟩ = some (.slice R rn rc) := q.b.cell 2
 rw [hW] at k0 k1 k2 k3
 clear hW hA hY hR
 cases hp : precB sg rk with
 | false =>
  have HP := hid hp
  clear hp
  go_enter Try.func71, Try.ntmps71
  go_wp2_with fail
  rw [← HW.out]
  clear k0 k1 k2 k3
  refine L1.out.mono ?_
  rintro e w1 ⟨he, bb⟩
  rw [HP.out] at he
  subst he
  replace q := q.next bb
  have zb := q.c.lt
  clear bb L1
  obtain ⟨w2, hw2, rp, bb⟩ := box_one w1 94 #[.slice none 0 0, .slice none 0 0]
  have H2 := hid hw2
  replace q := q.next bb
  clear hw2 bb rp
  go_wp2_with (first
   | (refine rowStore rfl 94 _ _ rfl w1.heap.size #[.slice none 0 0, .slice none 0 0] #[.slice none 0 0, .slice none 0 0] 94 rfl rfl (heap_alloc_new w1 _) size_p rfl (by simp [Value.oneCell']) ?_; rw [World.setRow_alloc_new]; rw [← H2.out]; refine (?_ : Hid _).out))
  refine hid ?_
  have k0 : w2.cell? ⟨w.heap.size, 0, none⟩ = some (.slice A n c) := q.a.cell 0
  have k1 : w2.cell? ⟨w.heap.size + 1, 0, none⟩ = some (.int .i64 v) := q.b.cell 0
  have k2 : w2.cell? ⟨w.heap.size + 1, 1, none⟩ = some (.slice Y yn yc) := q.b.cell 1
  have F := hid (show AnsSc w (scV A R Y n c rn rc yn yc v) (wB sg v sy rk) (.returned (.tuple #[.agg #[.slice none 0 0, .slice none 0 0, .int .i64 0, .slice none 0 0], .bool false])) (w2.setRow (w.heap.size + 1 + 1) #[.slice none 0 0, .slice none 0 0, .int .i64 0, .slice none 0 0]) from ⟨by rw [w_prec HP.out]; rfl, below_setRow q.l (by omega) q.l.size⟩)
  have hz := q.c
  have h3 := Row.setRow q.c #[.slice none 0 0, .slice none 0 0, .int .i64 0, .slice none 0 0]
  unfold Row at hz
  have HZ := hid hz
  have H3 := hid h3
  clear hz h3 q
  go_wp2_with (first
   | (refine rowStore rfl 96 _ _ rfl (w.heap.size + 1 + 1) #[.slice none 0 0, .slice none 0 0, .int .i64 0, .slice none 0 0] #[.slice none 0 0, .slice none 0 0, .int .i64 0, .slice none 0 0] 96 rfl rfl HZ.out size_s rfl (by simp [Value.oneCell']) ?_))
  (try simp only [Exit.inBlock, Exit.then])
  refine bodyPost_ret (v := .tuple #[.agg #[.slice none 0 0, .slice none 0 0, .int .i64 0, .slice none 0 0], .bool false]) ?_ rfl F.out
  exact results_row_tmp Try.results71 _ (w.heap.size + 1 + 1) 96 #[.slice none 0 0, .slice none 0 0, .int .i64 0, .slice none 0 0] _ rfl H3.out Try.underlying96 rfl size_s
 | true =>
  have HP := hid hp
  clear hp
  go_enter Try.func71, Try.ntmps71
  go_wp2_with fail
  rw [← HW.out]
  clear k0 k1 k2 k3
  refine L1.out.mono ?_
  rintro e w1 ⟨he, bb⟩
  rw [HP.out] at he
  subst he
  replace q := q.next bb
  have zb := q.c.lt
  clear bb L1
  obtain ⟨w2, hw2, rp, bb⟩ := box_one w1 94 #[.slice A n c, .slice R rn rc]
  have H2 := hid hw2
  replace q := q.next bb
  clear hw2 bb rp
  go_wp2_with (first
   | (refine rowStore rfl 94 _ _ rfl w1.heap.size #[.slice A n c, .slice R rn rc] #[.slice none 0 0, .slice none 0 0] 94 rfl rfl (heap_alloc_new w1 _) size_p rfl (by simp [Value.oneCell']) ?_; rw [World.setRow_alloc_new]; rw [← H2.out]; refine (?_ : Hid _).out))
  refine hid ?_
  have k0 : w2.cell? ⟨w.heap.size, 0, none⟩ = some (.slice A n c) := q.a.cell 0
  have k1 : w2.cell? ⟨w.heap.size + 1, 0, none⟩ = some (.int .i64 v) := q.b.cell 0
  have k2 : w2.cell? ⟨w.heap.size + 1, 1, none⟩ = some (.slice Y yn yc) := q.b.cell 1
  have k4 : w2.cell? ⟨w1.heap.size, 0, none⟩ = some (.slice A n c) := by rw [H2.out]; exact (Row.new w1 _ _).cell 0
  have k5 : w2.cell? ⟨w1.heap.size, 1, none⟩ = some (.slice R rn rc) := by rw [H2.out]; exact (Row.new w1 _ _).cell 1
  by_cases hly : yn = n
  case neg =>
   have e1 : ((yn : Int) != (n : Int)) = true := by simp; omega
   have F := hid (show AnsSc w (scV A R Y n c rn rc yn yc v) (wB sg v sy rk) (.returned (.tuple #[.agg #[.slice none 0 0, .slice none 0 0, .int .i64 0, .slice none 0 0], .bool false])) (w2.setRow (w.heap.size + 1 + 1) #[.slice none 0 0, .slice none 0 0, .int .i64 0, .slice none 0 0]) from ⟨by rw [w_len (by rw [HYL.out, HAL.out]; exact hly)]; rfl, below_setRow q.l (by omega) q.l.size⟩)
   have hz := q.c
   have h3 := Row.setRow q.c #[.slice none 0 0, .slice none 0 0, .int .i64 0, .slice none 0 0]
   unfold Row at hz
   have HZ := hid hz
   have H3 := hid h3
   clear hz h3 q
   go_wp2_with (first
    | (refine rowStore rfl 96 _ _ rfl (w.heap.size + 1 + 1) #[.slice none 0 0, .slice none 0 0, .int .i64 0, .slice none 0 0] #[.slice none 0 0, .slice none 0 0, .int .i64 0, .slice none 0 0] 96 rfl rfl HZ.out size_s rfl (by simp [Value.oneCell']) ?_))
   (try simp only [Exit.inBlock, Exit.then])
   refine bodyPost_ret (v := .tuple #[.agg #[.slice none 0 0, .slice none 0 0, .int .i64 0, .slice none 0 0], .bool false]) ?_ rfl F.out
   exact results_row_tmp Try.results71 _ (w.heap.size + 1 + 1) 96 #[.slice none 0 0, .slice none 0 0, .int .i64 0, .slice none 0 0] _ rfl H3.out Try.underlying96 rfl size_s
  subst hly
  have hrl : rn = yn := by
   have := (rank_parts (prec_parts HP.out).2).1
   rw [HAL.out, HRL.out] at this
   exact this
  subst hrl
  have e1 : ((rn : Int) != (rn : Int)) = false := by simp
  by_cases hv1 : v < 1
  ·have d1 : decide (v < 1) = true := decide_eq_true hv1
   have F := hid (show AnsSc w (scV A R Y rn c rn rc rn yc v) (wB sg v sy rk) (.returned (.tuple #[.agg #[.slice none 0 0, .slice none 0 0, .int .i64 0, .slice none 0 0], .bool false])) (w2.setRow (w.heap.size + 1 + 1) #[.slice none 0 0, .slice none 0 0, .int .i64 0, .slice none 0 0]) from ⟨by rw [w_var (by omega)]; rfl, below_setRow q.l (by omega) q.l.size⟩)
   have hz := q.c
   have h3 := Row.setRow q.c #[.slice none 0 0, .slice none 0 0, .int .i64 0, .slice none 0 0]
   unfold Row at hz
   have HZ := hid hz
   have H3 := hid h3
   clear hz h3 q
   go_wp2_with (first
    | (refine rowStore rfl 96 _ _ rfl (w.heap.size + 1 + 1) #[.slice none 0 0, .slice none 0 0, .int .i64 0, .slice none 0 0] #[.slice none 0 0, .slice none 0 0, .int .i64 0, .slice none 0 0] 96 rfl rfl HZ.out size_s rfl (by simp [Value.oneCell']) ?_))
   (try simp only [Exit.inBlock, Exit.then])
   refine bodyPost_ret (v := .tuple #[.agg #[.slice none 0 0, .slice none 0 0, .int .i64 0, .slice none 0 0], .bool false]) ?_ rfl F.out
   exact results_row_tmp Try.results71 _ (w.heap.size + 1 + 1) 96 #[.slice none 0 0, .slice none 0 0, .int .i64 0, .slice none 0 0] _ rfl H3.out Try.underlying96 rfl size_s
  have d1 : decide (v < 1) = false := decide_eq_false hv1
  by_cases hv2 : 20 < v
  ·have d2 : decide (20 < v) = true := decide_eq_true hv2
   have F := hid (show AnsSc w (scV A R Y rn c rn rc rn yc v) (wB sg v sy rk) (.returned (.tuple #[.agg #[.slice none 0 0, .slice none 0 0, .int .i64 0, .slice none 0 0], .bool false])) (w2.setRow (w.heap.size + 1 + 1) #[.slice none 0 0, .slice none 0 0, .int .i64 0, .slice none 0 0]) from ⟨by rw [w_var (by omega)]; rfl, below_setRow q.l (by omega) q.l.size⟩)
   have hz := q.c
   have h3 := Row.setRow q.c #[.slice none 0 0, .slice none 0 0, .int .i64 0, .slice none 0 0]
   unfold Row at hz
   have HZ := hid hz
   have H3 := hid h3
   clear hz h3 q
   go_wp2_with (first
    | (refine rowStore rfl 96 _ _ rfl (w.heap.size + 1 + 1) #[.slice none 0 0, .slice none 0 0, .int .i64 0, .slice none 0 0] #[.slice none 0 0, .slice none 0 0, .int .i64 0, .slice none 0 0] 96 rfl rfl HZ.out size_s rfl (by simp [Value.oneCell']) ?_))
   (try simp only [Exit.inBlock, Exit.then])
   refine bodyPost_ret (v := .tuple #[.agg #[.slice none 0 0, .slice none 0 0, .int .i64 0, .slice none 0 0], .bool false]) ?_ rfl F.out
   exact results_row_tmp Try.results71 _ (w.heap.size + 1 + 1) 96 #[.slice none 0 0, .slice none 0 0, .int .i64 0, .slice none 0 0] _ rfl H3.out Try.underlying96 rfl size_s
  have d2 : decide (20 < v) = false := decide_eq_false hv2
  obtain ⟨w3, hw3, rs, bb⟩ := box_one w2 96 #[.slice A rn c, .slice R rn rc, .int .i64 v, .slice Y rn yc]
  have H3 := hid hw3
  replace q := q.next bb
  have h2 : w2.heap.size = w1.heap.size + 1 := by rw [H2.out]; simp
  have hg3 : w.heap.size + 1 + 1 < w2.heap.size := by omega
  clear h2
  have H0 : Hid (HeadSc w w2.heap.size #[.slice A rn c] #[.int .i64 v, .slice Y rn yc, .slice R rn rc] #[.slice none 0 0, .slice none 0 0, .int .i64 0, .slice none 0 0] #[.slice A rn c, .slice R rn rc, .int .i64 v, .slice Y rn yc] rn (admB sg v sy rk) (.int .i64 0) w3) := hid ⟨0, Nat.zero_le _, rfl, fun j hj => absurd hj (Nat.not_lt_zero _), q, rs⟩
  clear hw3 bb rs q
  go_wp2_with (first
   | (refine rowStore rfl 96 _ _ rfl w2.heap.size #[.slice A rn c, .slice R rn rc, .int .i64 v, .slice Y rn yc] #[.slice none 0 0, .slice none 0 0, .int .i64 0, .slice none 0 0] 96 rfl rfl (heap_alloc_new w2 _) size_s rfl (by simp [Value.oneCell']) ?_; rw [World.setRow_alloc_new]; rw [← H3.out]; refine (?_ : Hid _).out))
  refine hid ?_
  have m0 : w3.cell? ⟨w.heap.size + 1, 1, none⟩ = some (.slice Y rn yc) := by obtain ⟨_, _, _, _, q, _⟩ := H0.out; exact q.b.cell 1
  clear k0 k1 k2 k4 k5
  go_wp2
  go_loopw [48] (fun i wr => HeadSc w w2.heap.size #[.slice A rn c] #[.int .i64 v, .slice Y rn yc, .slice R rn rc] #[.slice none 0 0, .slice none 0 0, .int .i64 0, .slice none 0 0] #[.slice A rn c, .slice R rn rc, .int .i64 v, .slice Y rn yc] rn (admB sg v sy rk) i wr) (fun i _ => rn - (intOf i).toNat)
  case atStart => exact H0.out
  case round =>
   clear H0 m0
   obtain ⟨k, hk, rfl, hlow, q, rs⟩ := hrel
   have HLOW := hid hlow
   clear hlow
   have k0 : wr.cell? ⟨w2.heap.size, 0, none⟩ = some (.slice A rn c) := rs.cell 0
   have k1 : wr.cell? ⟨w2.heap.size, 1, none⟩ = some (.slice R rn rc) := rs.cell 1
   have k2 : wr.cell? ⟨w2.heap.size, 2, none⟩ = some (.int .i64 v) := rs.cell 2
   have k3 : wr.cell? ⟨w2.heap.size, 3, none⟩ = some (.slice Y rn yc) := rs.cell 3
   by_cases hlt : k < rn
   case neg =>
    have F := hid (show AnsSc w (scV A R Y rn c rn rc rn yc v) (wB sg v sy rk) (.returned (.tuple #[.agg #[.slice A rn c, .slice R rn rc, .int .i64 v, .slice Y rn yc], .bool true])) (wr.setRow (w.heap.size + 1 + 1) #[.slice A rn c, .slice R rn rc, .int .i64 v, .slice Y rn yc]) from ⟨by rw [w_yes HP.out (by omega) (by rw [HYL.out, HAL.out]) (fun f hf => HLOW.out f (by have := HYL.out; omega))]; rfl, below_setRow q.l (by omega) q.l.size⟩)
    have hz := q.c
    have h3 := Row.setRow q.c #[.slice A rn c, .slice R rn rc, .int .i64 v, .slice Y rn yc]
    unfold Row at hz
    have HZ := hid hz
    have H3 := hid h3
    clear hz h3 q rs
    go_wp2_with (first
     | (refine rowStore rfl 96 _ _ rfl (w.heap.size + 1 + 1) #[.slice A rn c, .slice R rn rc, .int .i64 v, .slice Y rn yc] #[.slice none 0 0, .slice none 0 0, .int .i64 0, .slice none 0 0] 96 rfl rfl HZ.out size_s rfl (by simp [Value.oneCell']) ?_))
    (try simp only [Exit.inBlock, Exit.then])
    refine bodyPost_ret (v := .tuple #[.agg #[.slice A rn c, .slice R rn rc, .int .i64 v, .slice Y rn yc], .bool true]) ?_ rfl F.out
    exact results_row_tmp Try.results71 _ (w.heap.size + 1 + 1) 96 #[.slice A rn c, .slice R rn rc, .int .i64 v, .slice Y rn yc] _ rfl H3.out Try.underlying96 rfl size_s
   have LX := hid (LA.out wr q.l k hlt (by first | rfl | trivial) (by first | rfl | trivial))
   obtain ⟨u, hu⟩ : ∃ u, admB sg v sy rk k = u := ⟨_, rfl⟩
   rw [hu] at LX
   have HU := hid hu
   have Q := hid q
   have RS := hid rs
   clear hu q rs
   go_wp2_with fail
   refine LX.out.mono ?_
   rintro e w4 ⟨rfl, bb⟩
   have q := Q.out.next bb
   have rs := RS.out.next bb
   clear bb Q RS k0 k1 k2 k3 LX
   cases u with
   | false =>
    have F := hid (show AnsSc w (scV A R Y rn c rn rc rn yc v) (wB sg v sy rk) (.returned (.tuple #[.agg #[.slice none 0 0, .slice none 0 0, .int .i64 0, .slice none 0 0], .bool false])) (w4.setRow (w.heap.size + 1 + 1) #[.slice none 0 0, .slice none 0 0, .int .i64 0, .slice none 0 0]) from ⟨by rw [w_bad (f := k) (by rw [HYL.out]; exact hlt) HU.out]; rfl, below_setRow q.l (by omega) q.l.size⟩)
    have hz := q.c
    have h3 := Row.setRow q.c #[.slice none 0 0, .slice none 0 0, .int .i64 0, .slice none 0 0]
    unfold Row at hz
    have HZ := hid hz
    have H3 := hid h3
    clear hz h3 q rs
    go_wp2_with (first
     | (refine rowStore rfl 96 _ _ rfl (w.heap.size + 1 + 1) #[.slice none 0 0, .slice none 0 0, .int .i64 0, .slice none 0 0] #[.slice none 0 0, .slice none 0 0, .int .i64 0, .slice none 0 0] 96 rfl rfl HZ.out size_s rfl (by simp [Value.oneCell']) ?_))
    (try simp only [Exit.inBlock, Exit.then])
    refine bodyPost_ret (v := .tuple #[.agg #[.slice none 0 0, .slice none 0 0, .int .i64 0, .slice none 0 0], .bool false]) ?_ rfl F.out
    exact results_row_tmp Try.results71 _ (w.heap.size + 1 + 1) 96 #[.slice none 0 0, .slice none 0 0, .int .i64 0, .slice none 0 0] _ rfl H3.out Try.underlying96 rfl size_s
   | true =>
    have S1 := hid (show HeadSc w w2.heap.size #[.slice A rn c] #[.int .i64 v, .slice Y rn yc, .slice R rn rc] #[.slice none 0 0, .slice none 0 0, .int .i64 0, .slice none 0 0] #[.slice A rn c, .slice R rn rc, .int .i64 v, .slice Y rn yc] rn (admB sg v sy rk) (.int .i64 ((k : Int) + 1)) w4 from ⟨k + 1, hlt, by simp, fun j hj => by
     by_cases e : j = k
     ·rw [e]; exact HU.out
     ·exact HLOW.out j (by omega), q, rs⟩)
    clear q rs
    go_wp2
    go_roundw
    case rel => exact S1.out
    case measure => simp [intOf]; omega
end kboScale
end
section
namespace kboFun
open Go.RowKit base ints sig term termOk termFacts marks sym varsOf ruleSpec forest rankMath rankSpec lpoLink lpoPrec kboMath kboLink kboOft kboWt kboOk kboScale whole
set_option maxRecDepth 100000
theorem scale2 (A Y R : Option Addr) (n c yn yc rn rc : Nat) (v : Int) (sg sy rk : List Int) (w : World) (hA : Seg w w.heap.size A n sg) (hY : Seg w w.heap.size Y yn sy) (hR : Seg w w.heap.size R rn rk) (hn : n ≤ 1048576) (hyn : yn ≤ 1048576) (hrn : rn ≤ 1048576) :
  (wB sg v sy rk = true → Calls Try.prog 71 #[.agg #[.slice A n c], .agg #[.int .i64 v, .slice Y yn yc, .slice R rn rc]] w fun e w' => e = .returned (.tuple #[.agg #[.slice A n c, .slice R rn rc, .int .i64 v, .slice Y yn yc], .bool true]) ∧ Below w.heap.size w w') ∧
  (wB sg v sy rk = false → Calls Try.prog 71 #[.agg #[.slice A n c], .agg #[.int .i64 v, .slice Y yn yc, .slice R rn rc]] w fun e w' => e = .returned (.tuple #[.agg #[.slice none 0 0, .slice none 0 0, .int .i64 0, .slice none 0 0], .bool false]) ∧ Below w.heap.size w w') :=
 ⟨fun h => (scaleOf A Y R n c yn yc rn rc v sg sy rk w hA hY hR hn hyn hrn).mono fun e w' he => by
  unfold AnsSc at he
  rw [h] at he
  exact he, fun h => (scaleOf A Y R n c yn yc rn rc v sg sy rk w hA hY hR hn hyn hrn).mono fun e w' he => by
  unfold AnsSc at he
  rw [h] at he
  exact he⟩
end kboFun
end
section
open Go.Lib (hid)
namespace kboWhyS
open Go.RowKit base ints sig term termOk termFacts marks sym varsOf ruleSpec forest rankMath rankSpec lpoLink lpoPrec kboMath kboLink kboOft kboWt kboOk kboScale whole kboFun shape drawX stk partsSpec lpoMath same
set_option maxRecDepth 100000
theorem rdq_len {w : World} {Q : Nat → Prop} {A : Option Addr} {n c : Nat} {t : List Int} (h : RdQ w Q sI [.slice A n c] t) : t.length = n := by
 obtain ⟨A', n', c', e, hc, hl, -⟩ := h
 injection e with e
 injection e with e1 e2 e3
 rw [e2]
 exact hl
theorem stk_at {w : World} {Q : Nat → Prop} {lo g n c : Nat} {D : List (List Int)} (h : Stk w Q lo (some ⟨g, 0, none⟩) n c D) {j : Nat} (hj : j < n) : ∃ X xn xc, w.cell? ⟨g, j, none⟩ = some (.slice X xn xc) ∧ RdQ w Q sI [.slice X xn xc] (D.getD j []) := by
 rcases h.form with ⟨e, -⟩ | ⟨g', cur, e, hg, hr, hnc, hs, hc, hj'⟩
 ·cases e
 ·injection e with e
  injection e with e1
  subst e1
  obtain ⟨X, xn, xc, h1, h2⟩ := hj' j hj
  exact ⟨X, xn, xc, (hr.cell j).trans h1, h2⟩
theorem fo_pos {sg t : List Int} (h : Fo sg 1 t) : 1 ≤ t.length := Fo.pos (q := 0) h
section
variable {sg sy rk s t : List Int} {v : Int}
theorem kw0 (h : oft s t = false ∨ wt v sy t < wt v sy s) : kwhy sg v sy rk t s = 0 := by unfold kwhy stepK; rw [if_pos h]
theorem kw1 (h : oft s t = true) (h2 : wt v sy s < wt v sy t) : kwhy sg v sy rk t s = 1 := by unfold kwhy stepK; rw [if_neg (by rw [h]; simp; omega), if_pos h2]
theorem kw2 (h : oft s t = true) (h2 : wt v sy t = wt v sy s) (h3 : hd s < 0) : kwhy sg v sy rk t s = if 0 ≤ hd t then 2 else 0 := by unfold kwhy stepK; rw [if_neg (by rw [h]; simp; omega), if_neg (by omega), if_pos h3]
theorem kw3 (h : oft s t = true) (h2 : wt v sy t = wt v sy s) (h3 : ¬ hd s < 0) (h4 : hd t < 0) : kwhy sg v sy rk t s = 0 := by unfold kwhy stepK; rw [if_neg (by rw [h]; simp; omega), if_neg (by omega), if_neg h3, if_pos h4]
theorem kw4 (h : oft s t = true) (h2 : wt v sy t = wt v sy s) (h3 : ¬ hd s < 0) (h4 : ¬ hd t < 0) (h5 : hd t ≠ hd s) : kwhy sg v sy rk t s = if rkL rk (hd s) < rkL rk (hd t) then 3 else 0 := by unfold kwhy stepK; rw [if_neg (by rw [h]; simp; omega), if_neg (by omega), if_neg h3, if_neg h4, if_pos h5]
theorem kw5 (h : oft s t = true) (h2 : wt v sy t = wt v sy s) (h3 : ¬ hd s < 0) (h4 : ¬ hd t < 0) (h5 : hd t = hd s) : kwhy sg v sy rk t s = if lexB (kg sg v sy rk) (ptsC sg t) (ptsC sg s) = true then 4 else 0 := by unfold kwhy stepK; rw [if_neg (by rw [h]; simp; omega), if_neg (by omega), if_neg h3, if_neg h4, if_neg (by simpa using h5)]
theorem lex_at {g : List Int → List Int → Bool} : ∀ {ps qs : List (List Int)} {j : Nat}, j < ps.length → j < qs.length → (∀ i, i < j → ps.getD i [] = qs.getD i []) → ps.getD j [] ≠ qs.getD j [] → lexB g ps qs = g (ps.getD j []) (qs.getD j [])
 | [], _, _, h, _, _, _ => absurd h (Nat.not_lt_zero _)
 | _ :: _, [], _, _, h, _, _ => absurd h (Nat.not_lt_zero _)
 | p :: ps, q :: qs, 0, _, _, _, h => by
  unfold lexB
  rw [if_neg (show ¬ p = q from h)]
  rfl
 | p :: ps, q :: qs, j + 1, h1, h2, h3, h4 => by
  have h0 : p = q := h3 0 (Nat.succ_pos _)
  unfold lexB
  rw [if_pos h0]
  exact lex_at (j := j) (Nat.lt_of_succ_lt_succ h1) (Nat.lt_of_succ_lt_succ h2) (fun i hi => h3 (i + 1) (Nat.succ_lt_succ hi)) h4
theorem lex_end {g : List Int → List Int → Bool} : ∀ {ps qs : List (List Int)}, (∀ i, i < ps.length → ps.getD i [] = qs.getD i []) → lexB g ps qs = false
 | [], _, _ => by simp [lexB]
 | _ :: _, [], _ => by simp [lexB]
 | p :: ps, q :: qs, h => by
  have h0 : p = q := h 0 (Nat.succ_pos _)
  unfold lexB
  rw [if_pos h0]
  exact lex_end fun i hi => h (i + 1) (Nat.succ_lt_succ hi)
theorem prt_len2 {a b : List Int} {ps qs : List (List Int)} (h : Prt sg a ps) (h' : Prt sg b qs) (e : a.getD 0 0 = b.getD 0 0) : ps.length = qs.length := by
 obtain ⟨⟨x, _, _, e1, h1⟩, _⟩ := h
 obtain ⟨⟨y, _, _, e2, h2⟩, _⟩ := h'
 rw [e1, e2] at e
 have e' : x = y := e
 rw [h1, h2, e']
theorem part_lt {a : List Int} {ps : List (List Int)} (h : Prt sg a ps) {i : Nat} (hi : i < ps.length) : (ps.getD i []).length < a.length := by
 have hm : ps.getD i [] ∈ ps := by rw [List.getD_eq_getElem?_getD, List.getElem?_eq_getElem hi]; exact List.getElem_mem hi
 have := mem_sum hm
 have := h.len
 omega
theorem part_fo {a : List Int} {ps : List (List Int)} (h : Prt sg a ps) {i : Nat} (hi : i < ps.length) : Fo sg 1 (ps.getD i []) := by
 refine h.2 _ ?_
 rw [List.getD_eq_getElem?_getD, List.getElem?_eq_getElem hi]
 exact List.getElem_mem hi
end
def HeadWr (w : World) (ca cb : Array Value) (m : Nat) (sg sy t : List Int) (i : Value) (wr : World) : Prop := ∃ k : Nat, k ≤ m - 1 ∧ i = .int .i64 k ∧ (∀ j, j < k → (0 ≤ t.getD j 0 ∧ sg.getD (t.getD j 0).toNat 0 = 1 ∧ sy.getD (t.getD j 0).toNat 0 = 0)) ∧ R2 w 29 32 ca cb wr
set_option maxHeartbeats 4000000 in
theorem l14Wrapped (A Y R T : Option Addr) (n c yn yc rn rc m mc : Nat) (v x : Int) (sg sy t : List Int) (w : World) (hA : Seg w w.heap.size A n sg) (hY : Seg w w.heap.size Y yn sy) (hT : Seg w w.heap.size T m t) (hm : m ≤ 1048576) (hm1 : 1 ≤ m) (hyn : yn = n) (ft : Fo sg 1 t) :
  Calls Try.prog 121 #[.agg #[.slice A n c], .agg #[.int .i64 v, .slice Y yn yc, .slice R rn rc], .int .i64 x, .slice T m mc] w (AnsB w (wrapB sg sy x t)) := by
 obtain ⟨W, hW, q⟩ := r2_new w 29 32 #[.slice A n c] #[.int .i64 v, .slice Y yn yc, .slice R rn rc]
 have HW := hid hW
 have HL := hid hT.1
 have HAL := hid hA.1
 have HF := hid ft
 have H0 := hid (show HeadWr w #[.slice A n c] #[.int .i64 v, .slice Y yn yc, .slice R rn rc] m sg sy t (.int .i64 0) W from ⟨0, Nat.zero_le _, rfl, fun j hj => absurd hj (Nat.not_lt_zero _), q⟩)
 subst hyn
 clear hW q ft
 go_enter Try.func121, Try.ntmps121
 go_wp2_with fail
 rw [← HW.out]
 go_loopw [9] (fun i wr => HeadWr w #[.slice A yn c] #[.int .i64 v, .slice Y yn yc, .slice R rn rc] m sg sy t i wr) (fun i _ => m - 1 - (intOf i).toNat)
 case atStart => exact H0.out
 case round =>
  clear H0
  obtain ⟨k, hk, rfl, hlow, q⟩ := hrel
  have HLOW := hid hlow
  clear hlow
  have k0 : wr.cell? ⟨w.heap.size, 0, none⟩ = some (.slice A yn c) := q.a.cell 0
  have k1 : wr.cell? ⟨w.heap.size + 1, 1, none⟩ = some (.slice Y yn yc) := q.b.cell 1
  have Q := hid (fun dd => q.drewN dd)
  by_cases hlt : k < m - 1
  case neg =>
   obtain ⟨b, off, z, rfl, hbB, hz0, ez⟩ := hT.spot (k := m - 1) (by omega)
   have hz : wr.cell? ⟨b, off + (m - 1), none⟩ = some (.int .i64 z) := (q.l.cell (p := ⟨b, off + (m - 1), none⟩) hbB).trans hz0
   have hwe := wrap_end (sg := sg) (sy := sy) (x := x) (t := t) (fun i hi => HLOW.out i (by have := HL.out; omega))
   rw [HL.out, ez.out] at hwe
   have i1 : ¬ (k : Int) < (m : Int) - 1 := by omega
   have d1 : decide ((k : Int) < (m : Int) - 1) = false := decide_eq_false i1
   have B := hid q.l
   clear q Q hz0
   by_cases h1 : 1 < m
   ·have d2 : decide ((1 : Int) < (m : Int)) = true := decide_eq_true (by omega)
    have j0 : (0 : Int) ≤ (m : Int) - 1 := by omega
    have j1 : (m : Int) - 1 < (m : Int) := by omega
    obtain ⟨p, hp⟩ : ∃ p, m - 1 = p := ⟨_, rfl⟩
    have hp2 : (m : Int) - 1 = (p : Int) := by omega
    rw [hp] at hz
    rw [decide_eq_true h1, Bool.true_and] at hwe
    by_cases hzx : z = x
    ·have d3 : (z == x) = true := by simp [hzx]
     have F := hid (show AnsB w (wrapB sg sy x t) (.returned (.bool true)) wr from ⟨by rw [hwe, decide_eq_true hzx], B.out⟩)
     clear hwe ez
     go_wp2
     go_ret
     exact F.out
    ·have d3 : (z == x) = false := by simp [hzx]
     have F := hid (show AnsB w (wrapB sg sy x t) (.returned (.bool false)) wr from ⟨by rw [hwe, decide_eq_false hzx], B.out⟩)
     clear hwe ez
     go_wp2
     go_ret
     exact F.out
   ·have d2 : decide ((1 : Int) < (m : Int)) = false := decide_eq_false (by omega)
    rw [decide_eq_false h1, Bool.false_and] at hwe
    have F := hid (show AnsB w (wrapB sg sy x t) (.returned (.bool false)) wr from ⟨by rw [hwe], B.out⟩)
    clear hwe ez hz
    go_wp2
    go_ret
    exact F.out
  obtain ⟨b, off, z, rfl, hbB, hz0, ez⟩ := hT.spot (k := k) (by omega)
  have hz : wr.cell? ⟨b, off + k, none⟩ = some (.int .i64 z) := (q.l.cell (p := ⟨b, off + k, none⟩) hbB).trans hz0
  have i0 : (0 : Int) ≤ (k : Int) := by omega
  have i1 : (k : Int) < (m : Int) := by omega
  have d1 : decide ((k : Int) < (m : Int) - 1) = true := decide_eq_true (by omega)
  have hkl : k < t.length := by rw [HL.out]; omega
  have HKL := hid (show k < t.length - 1 by rw [HL.out]; exact hlt)
  have hmem : z ∈ t := by rw [← ez.out, getD_get hkl]; exact List.getElem_mem _
  by_cases hz1 : z < 0
  ·have d2 : decide (z < 0) = true := decide_eq_true hz1
   have F := hid (fun dd => ansB (w' := wr.drewN dd) (b := wrapB sg sy x t) (a := false) (by rw [wrap_bad HKL.out (fun h => by rw [ez.out] at h; omega)]) (Q.out dd).l)
   clear q Q hz0 ez
   go_wp2_with fail
   go_quiet (fail)
   go_wp2
   go_ret
   exact F.out _
  have d2 : decide (z < 0) = false := decide_eq_false hz1
  obtain ⟨f, rfl⟩ : ∃ f : Nat, z = (f : Int) := ⟨z.toNat, by omega⟩
  have hfn : f < yn := by have := ar_in (by omega) (HF.out.sym _ hmem (by omega)); have := HAL.out; omega
  obtain ⟨ba, oa, a, rfl, zA, ca, ea⟩ := hA.spot hfn
  obtain ⟨by_, oy, y, rfl, zY, cy, ey⟩ := hY.spot hfn
  have ca' : wr.cell? ⟨ba, oa + f, none⟩ = some (.int .i64 a) := (q.l.cell (p := ⟨ba, oa + f, none⟩) zA).trans ca
  have cy' : wr.cell? ⟨by_, oy + f, none⟩ = some (.int .i64 y) := (q.l.cell (p := ⟨by_, oy + f, none⟩) zY).trans cy
  have j0 : (0 : Int) ≤ (f : Int) := by omega
  have j1 : (f : Int) < (yn : Int) := by omega
  have EA := hid (show sg.getD (t.getD k 0).toNat 0 = a by rw [ez.out]; exact ea.out)
  have EY := hid (show sy.getD (t.getD k 0).toNat 0 = y by rw [ez.out]; exact ey.out)
  clear q hz0 ca cy ea ey
  by_cases a1 : a = 1
  case neg =>
   have d3 : (a != 1) = true := by simp [a1]
   have F := hid (fun dd => ansB (w' := wr.drewN dd) (b := wrapB sg sy x t) (a := false) (by rw [wrap_bad HKL.out (fun h => by rw [EA.out] at h; exact a1 h.2.1)]) (Q.out dd).l)
   clear Q
   go_wp2_with fail
   go_quiet (fail)
   go_wp2
   go_ret
   exact F.out _
  subst a1
  have d3 : ((1 : Int) != 1) = false := by simp
  by_cases y0 : y = 0
  case neg =>
   have d4 : (y != 0) = true := by simp [y0]
   have F := hid (fun dd => ansB (w' := wr.drewN dd) (b := wrapB sg sy x t) (a := false) (by rw [wrap_bad HKL.out (fun h => by rw [EY.out] at h; exact y0 h.2.2)]) (Q.out dd).l)
   clear Q
   go_wp2_with fail
   go_quiet (fail)
   go_wp2
   go_ret
   exact F.out _
  subst y0
  have d4 : ((0 : Int) != 0) = false := by simp
  have S1 := hid (fun dd => show HeadWr w #[.slice (some ⟨ba, oa, none⟩) yn c] #[.int .i64 v, .slice (some ⟨by_, oy, none⟩) yn yc, .slice R rn rc] m sg sy t (.int .i64 ((k : Int) + 1)) (wr.drewN dd) from ⟨k + 1, by omega, by simp, fun j hj => by
   by_cases e : j = k
   ·rw [e, EA.out, EY.out, ez.out]; exact ⟨by omega, rfl, rfl⟩
   ·exact HLOW.out j (by omega), Q.out dd⟩)
  clear Q
  go_wp2_with fail
  go_quiet (fail)
  go_wp2
  go_roundw
  case rel => exact S1.out _
  case measure => simp [intOf]; omega
end kboWhyS
end
section
open Go.Lib (hid)
namespace kboWhyT
open Go.RowKit base ints sig term termOk termFacts marks sym varsOf ruleSpec forest rankMath rankSpec lpoLink lpoPrec kboMath kboLink kboOft kboWt kboOk kboScale whole kboFun shape drawX stk partsSpec lpoMath same kboWhyS
set_option maxRecDepth 100000
structure KS (w : World) (Q : Nat → Prop) (ca cb : Array Value) (g1 g2 k c1 c2 : Nat) (ps qs : List (List Int)) (wr : World) : Prop where
 r : R2 w 29 32 ca cb wr
 p : Stk wr Q w.heap.size (some ⟨g1, 0, none⟩) k c1 ps
 q : Stk wr Q w.heap.size (some ⟨g2, 0, none⟩) k c2 qs
theorem KS.next {w wr w' : World} {Q : Nat → Prop} {ca cb : Array Value} {g1 g2 k c1 c2 : Nat} {ps qs : List (List Int)} (h : KS w Q ca cb g1 g2 k c1 c2 ps qs wr) (hQ : ∀ b, Q b → b < w.heap.size) (hb : Below wr.heap.size wr w') : KS w Q ca cb g1 g2 k c1 c2 ps qs w' :=
 have hQ' : ∀ b, Q b → b < wr.heap.size := fun b h1 => Nat.lt_of_lt_of_le (hQ b h1) h.r.l.size
 ⟨h.r.next hb, h.p.next hb hQ', h.q.next hb hQ'⟩
theorem KS.drewN {w wr : World} {Q : Nat → Prop} {ca cb : Array Value} {g1 g2 k c1 c2 : Nat} {ps qs : List (List Int)} (h : KS w Q ca cb g1 g2 k c1 c2 ps qs wr) (d : Nat) : KS w Q ca cb g1 g2 k c1 c2 ps qs (wr.drewN d) := ⟨h.r.drewN d, h.p.drewN d, h.q.drewN d⟩
theorem quiet_same {T U : Option Addr} {m k mc kc : Nat} {t y : List Int} {w : World} {bo : Bool} (h : Seg w w.heap.size T m t) (h' : Seg w w.heap.size U k y) (hm : m ≤ 1048576) (hk : k ≤ 1048576) (hb : decide (t = y) = bo) : Calls Try.prog 123 #[.slice T m mc, .slice U k kc] w fun e w' => e = .returned (.bool bo) ∧ ∃ d, w' = w.drewN d :=
 (specSame T U m k mc kc t y w h h' hm hk).mono fun e w' he => by
  obtain ⟨h1, d, h2⟩ := he
  exact ⟨by rw [h1, hb], d, h2⟩
set_option maxHeartbeats 8000000 in
theorem l14Why (A Y R : Option Addr) (n c yn yc rn rc : Nat) (v : Int) (sg sy rk : List Int) (Q : Nat → Prop) (hs : Arities sg) (hok : wB sg v sy rk = true) (hn : n ≤ 1048576) (hyn : yn ≤ 1048576) (hrn : rn ≤ 1048576) : ∀ (f : Nat) (S T : Option Addr) (m mc k kc : Nat) (s t : List Int) (w : World), s.length < f → Seg w w.heap.size A n sg → Seg w w.heap.size Y yn sy → Seg w w.heap.size R rn rk → RdQ w Q sI [.slice S m mc] s → RdQ w Q sI [.slice T k kc] t → (∀ b, Q b → b < w.heap.size) → m ≤ 1048576 → k ≤ 1048576 → Fo sg 1 s → Fo sg 1 t →
  Calls Try.prog 88 #[.agg #[.slice A n c], .agg #[.int .i64 v, .slice Y yn yc, .slice R rn rc], .slice S m mc, .slice T k kc] w (AnsI w (kwhy sg v sy rk t s))
 | 0, _, _, _, _, _, _, _, _, _, hf, _, _, _, _, _, _, _, _, _, _ => absurd hf (Nat.not_lt_zero _)
 | f + 1, S, T, m, mc, k, kc, s, t, w, hf, hA, hY, hR, gS, gT, hQ, hm, hk, fs, ft => by
  have IH := hid (fun (w1 : World) (bb : Below w.heap.size w w1) (S' T' : Option Addr) (m' mc' k' kc' : Nat) (s' t' : List Int) hf' h1 h2 hm' hk' f1 f2 => l14Why A Y R n c yn yc rn rc v sg sy rk Q hs hok hn hyn hrn f S' T' m' mc' k' kc' s' t' w1 hf' (hA.next bb) (hY.next bb) (hR.next bb) h1 h2 (fun b hb => Nat.lt_of_lt_of_le (hQ b hb) bb.size) hm' hk' f1 f2)
  obtain ⟨W, hW, q⟩ := r2_new w 29 32 #[.slice A n c] #[.int .i64 v, .slice Y yn yc, .slice R rn rc]
  have ok := adm_of hok
  have hsm := small_of hok
  have lowS := low_of hok fs
  have lowT := low_of hok ft
  have hyl : yn = n := by rw [← hY.1, (w_parts hok).2.2.1, hA.1]
  have hrl : rn = n := by rw [← hR.1, (rank_parts (prec_parts (w_parts hok).1).2).1, hA.1]
  have hsl := rdq_len gS
  have htl := rdq_len gT
  have hm1 : 0 < m := by have := fo_pos fs; omega
  have hk1 : 0 < k := by have := fo_pos ft; omega
  have sS : Seg w w.heap.size S m s := shape.Rd.seg (gS.rd hQ)
  have sT : Seg w w.heap.size T k t := shape.Rd.seg (gT.rd hQ)
  obtain ⟨b1, o1, rfl, hb1, hx0⟩ := sS.round hm1
  obtain ⟨b2, o2, rfl, hb2, hy0⟩ := sT.round hk1
  obtain ⟨x, ex⟩ : ∃ x, s.getD 0 0 = x := ⟨_, rfl⟩
  obtain ⟨y, ey⟩ : ∃ y, t.getD 0 0 = y := ⟨_, rfl⟩
  rw [ex] at hx0
  rw [ey] at hy0
  have CX := hid (fun (w1 : World) (bb : Below w.heap.size w w1) => (show w1.cell? ⟨b1, o1, none⟩ = some (.int .i64 x) from (bb.cell (p := ⟨b1, o1 + 0, none⟩) hb1).trans hx0))
  have CY := hid (fun (w1 : World) (bb : Below w.heap.size w w1) => (show w1.cell? ⟨b2, o2, none⟩ = some (.int .i64 y) from (bb.cell (p := ⟨b2, o2 + 0, none⟩) hb2).trans hy0))
  have LW1 := hid (l14Weight Y R _ yn yc rn rc m mc v sy s W (hY.next q.l) (sS.next q.l) hm hsm lowS)
  have LW2 := hid (fun (w1 : World) (bb : Below w.heap.size w w1) => l14Weight Y R _ yn yc rn rc k kc v sy t w1 (hY.next bb) (sT.next bb) hk hsm lowT)
  have LO := hid (fun (w1 : World) (bb : Below w.heap.size w w1) => l14Often _ _ m mc k kc s t w1 (sS.next bb) (sT.next bb) hm hk)
  have LX := hid (fun (w1 : World) (bb : Below w.heap.size w w1) => l14Wrapped A Y R _ n c yn yc rn rc k kc v x sg sy t w1 (hA.next bb) (hY.next bb) (sT.next bb) hk hk1 hyl ft)
  have LP := hid (fun (w1 : World) (bb : Below w.heap.size w w1) (T' : Option Addr) (m' mc' : Nat) (t' : List Int) h1 h2 h3 h4 => l13Parts Q A T' n c m' mc' sg t' w1 (hA.next bb) h1 (fun b hb => Nat.lt_of_lt_of_le (hQ b hb) bb.size) hn h2 hs h3 h4)
  have SR := hid hR
  have GS := hid gS
  have GT := hid gT
  have HQ := hid hQ
  have HW := hid hW
  have HFS := hid fs
  have HFT := hid ft
  have HX := hid (show hd s = x from ex)
  have HY := hid (show hd t = y from ey)
  have OK := hid ok
  have HF := hid hf
  have HSL := hid hsl
  have HTL := hid htl
  have HRL := hid hrl
  have HAL := hid hA.1
  have k0 : W.cell? ⟨w.heap.size, 0, none⟩ = some (.slice A n c) := q.a.cell 0
  have k1 : W.cell? ⟨w.heap.size + 1, 0, none⟩ = some (.int .i64 v) := q.b.cell 0
  have k2 : W.cell? ⟨w.heap.size + 1, 1, none⟩ = some (.slice Y yn yc) := q.b.cell 1
  have k3 : W.cell? ⟨w.heap.size + 1, 2, none⟩ = some (.slice R rn rc) := q.b.cell 2
  rw [hW] at k0 k1 k2 k3
  clear hW hA hY hR gS gT hQ fs ft ex ey ok hok hs hsm lowS lowT hyl hrl hsl htl sS sT hb1 hb2 hx0 hy0 hf
  go_enter Try.func88, Try.ntmps88
  go_wp2_with fail
  rw [← HW.out]
  clear k0 k1 k2 k3
  refine LW1.out.mono ?_
  rintro e w1 ⟨rfl, bb⟩
  replace q := q.next bb
  clear bb LW1
  obtain ⟨ws, hws⟩ : ∃ z, wt v sy s = z := ⟨_, rfl⟩
  obtain ⟨wu, hwu⟩ : ∃ z, wt v sy t = z := ⟨_, rfl⟩
  have WS := hid hws
  have WU := hid hwu
  rw [hws]
  have k1 : w1.cell? ⟨w.heap.size + 1, 0, none⟩ = some (.int .i64 v) := q.b.cell 0
  have k2 : w1.cell? ⟨w.heap.size + 1, 1, none⟩ = some (.slice Y yn yc) := q.b.cell 1
  have k3 : w1.cell? ⟨w.heap.size + 1, 2, none⟩ = some (.slice R rn rc) := q.b.cell 2
  have L2 := hid (LW2.out w1 q.l)
  rw [hwu] at L2
  have Q1 := hid q
  clear q hws hwu
  go_wp2_with fail
  refine L2.out.mono ?_
  rintro e w2 ⟨rfl, bb⟩
  have q := Q1.out.next bb
  clear bb Q1 L2 k1 k2 k3
  have L3 := hid (LO.out w2 q.l)
  obtain ⟨u, hu⟩ : ∃ z, oft s t = z := ⟨_, rfl⟩
  have HU := hid hu
  rw [hu] at L3
  have Q1 := hid q
  clear q hu
  go_wp2_with fail
  refine L3.out.mono ?_
  rintro e w3 ⟨rfl, bb⟩
  have q := Q1.out.next bb
  clear bb Q1 L3
  cases u with
  | false =>
   have F := hid (show AnsI w (kwhy sg v sy rk t s) (.returned (.int .i64 0)) w3 from ⟨by rw [kw0 (.inl HU.out)], q.l⟩)
   clear q
   go_wp2
   go_ret
   exact F.out
  | true =>
   by_cases h1 : wu < ws
   ·have d1 : decide (wu < ws) = true := decide_eq_true h1
    have H1 := hid h1
    have F := hid (show AnsI w (kwhy sg v sy rk t s) (.returned (.int .i64 0)) w3 from ⟨by rw [kw0 (.inr (by rw [WS.out, WU.out]; exact H1.out))], q.l⟩)
    clear q
    go_wp2
    go_ret
    exact F.out
   have d1 : decide (wu < ws) = false := decide_eq_false h1
   by_cases h2 : ws < wu
   ·have d2 : decide (ws < wu) = true := decide_eq_true h2
    have H2 := hid h2
    have F := hid (show AnsI w (kwhy sg v sy rk t s) (.returned (.int .i64 1)) w3 from ⟨by rw [kw1 HU.out (by rw [WS.out, WU.out]; exact H2.out)], q.l⟩)
    clear q
    go_wp2
    go_ret
    exact F.out
   have d2 : decide (ws < wu) = false := decide_eq_false h2
   have HE := hid (show wt v sy t = wt v sy s by rw [WS.out, WU.out]; omega)
   have cx : w3.cell? ⟨b1, o1, none⟩ = some (.int .i64 x) := CX.out w3 q.l
   have cy : w3.cell? ⟨b2, o2, none⟩ = some (.int .i64 y) := CY.out w3 q.l
   have i0 : (0 : Int) < (m : Int) := by omega
   have i1 : (0 : Int) < (k : Int) := by omega
   have k0 : w3.cell? ⟨w.heap.size, 0, none⟩ = some (.slice A n c) := q.a.cell 0
   by_cases hx : x < 0
   ·have d3 : decide (x < 0) = true := decide_eq_true hx
    have k1 : w3.cell? ⟨w.heap.size + 1, 0, none⟩ = some (.int .i64 v) := q.b.cell 0
    have k2 : w3.cell? ⟨w.heap.size + 1, 1, none⟩ = some (.slice Y yn yc) := q.b.cell 1
    have k3 : w3.cell? ⟨w.heap.size + 1, 2, none⟩ = some (.slice R rn rc) := q.b.cell 2
    have hsx : s = [x] := by have := fo_var HFS.out (by rw [HX.out]; exact hx); rw [HX.out] at this; exact this
    have hwb : wrapB sg sy x t = decide (0 ≤ hd t) := wrap_hd OK.out HFT.out (by rw [HE.out, hsx]; simp [wt, hx]) hx (by rw [← hsx]; exact HU.out)
    have HK := hid (show kwhy sg v sy rk t s = if wrapB sg sy x t = true then 2 else 0 by
     rw [kw2 HU.out HE.out (by rw [HX.out]; exact hx), hwb]
     by_cases h : 0 ≤ hd t <;> simp [h])
    obtain ⟨bo, hbo⟩ : ∃ z, wrapB sg sy x t = z := ⟨_, rfl⟩
    rw [hbo] at HK
    have LZ := hid (fun dd => LX.out (w3.drewN dd) (below_drewN q.l dd))
    rw [hbo] at LZ
    have HQ3 := hid (fun dd => q.drewN dd)
    clear hsx hwb hbo q cy
    go_wp2_with fail
    go_region_held3 (fun w' => w'.cell? ⟨w.heap.size, 0, none⟩ = some (.slice A n c) ∧ w'.cell? ⟨w.heap.size + 1, 0, none⟩ = some (.int .i64 v) ∧ w'.cell? ⟨w.heap.size + 1, 1, none⟩ = some (.slice Y yn yc) ∧ w'.cell? ⟨w.heap.size + 1, 2, none⟩ = some (.slice R rn rc) ∧ w'.cell? ⟨b1, o1, none⟩ = some (.int .i64 x))
     (go_keep)
     (first
      | (go_at_call 121; refine (LZ.out _).mono ?_; rintro e w6 ⟨rfl, bb⟩; have q6 := (HQ3.out _).next bb; have k0 : w6.cell? ⟨w.heap.size, 0, none⟩ = some (.slice A n c) := q6.a.cell 0; have k1 : w6.cell? ⟨w.heap.size + 1, 0, none⟩ = some (.int .i64 v) := q6.b.cell 0; have k2 : w6.cell? ⟨w.heap.size + 1, 1, none⟩ = some (.slice Y yn yc) := q6.b.cell 1; have k3 : w6.cell? ⟨w.heap.size + 1, 2, none⟩ = some (.slice R rn rc) := q6.b.cell 2; have k4 : w6.cell? ⟨b1, o1, none⟩ = some (.int .i64 x) := CX.out w6 q6.l; clear HQ3 LZ))
    have QQ := hid q6.l
    clear k0 k1 k2 k3 k4 cx bb q6
    cases bo with
    | true =>
     have F := hid (show AnsI w (kwhy sg v sy rk t s) (.returned (.int .i64 2)) w6 from ⟨by rw [HK.out]; rfl, QQ.out⟩)
     go_wp2
     go_ret
     exact F.out
    | false =>
     have F := hid (show AnsI w (kwhy sg v sy rk t s) (.returned (.int .i64 0)) w6 from ⟨by rw [HK.out]; rfl, QQ.out⟩)
     go_wp2
     go_ret
     exact F.out
   have d3 : decide (x < 0) = false := decide_eq_false hx
   have HXN := hid (show ¬ hd s < 0 by rw [HX.out]; exact hx)
   by_cases hy : y < 0
   ·have d4 : decide (y < 0) = true := decide_eq_true hy
    have HYN := hid (show hd t < 0 by rw [HY.out]; exact hy)
    have F := hid (show AnsI w (kwhy sg v sy rk t s) (.returned (.int .i64 0)) w3 from ⟨by rw [kw3 HU.out HE.out HXN.out HYN.out], q.l⟩)
    clear q
    go_wp2
    go_ret
    exact F.out
   have d4 : decide (y < 0) = false := decide_eq_false hy
   have HYN := hid (show ¬ hd t < 0 by rw [HY.out]; exact hy)
   by_cases hxy : x = y
   case neg =>
    have d5 : (x != y) = true := by simp [hxy]
    have HD := hid (show hd t ≠ hd s by rw [HX.out, HY.out]; exact fun h => hxy h.symm)
    have hxm := HFS.out.sym x (by obtain ⟨a, r, e⟩ := fo_hd HFS.out; have h := HX.out; rw [e] at h ⊢; have h' : a = x := h; rw [h']; exact List.mem_cons_self ..) (by omega)
    have hym := HFT.out.sym y (by obtain ⟨a, r, e⟩ := fo_hd HFT.out; have h := HY.out; rw [e] at h ⊢; have h' : a = y := h; rw [h']; exact List.mem_cons_self ..) (by omega)
    have hxl := (ar_in (by omega) hxm).1
    have hyl := (ar_in (by omega) hym).1
    obtain ⟨a, rfl⟩ : ∃ a : Nat, x = (a : Int) := ⟨x.toNat, by omega⟩
    obtain ⟨b, rfl⟩ : ∃ b : Nat, y = (b : Int) := ⟨y.toNat, by omega⟩
    have k3 : w3.cell? ⟨w.heap.size + 1, 2, none⟩ = some (.slice R rn rc) := q.b.cell 2
    have han : a < rn := by have := HAL.out; have := HRL.out; omega
    have hbn : b < rn := by have := HAL.out; have := HRL.out; omega
    obtain ⟨br, orr, ra, rfl, zR, ca, ea⟩ := SR.out.spot han
    obtain ⟨br2, orr2, rb, e2, zR2, cb, eb⟩ := SR.out.spot hbn
    injection e2 with e2
    injection e2 with e21 e22
    subst e21 e22
    have ca' : w3.cell? ⟨br, orr + a, none⟩ = some (.int .i64 ra) := (q.l.cell (p := ⟨br, orr + a, none⟩) zR).trans ca
    have cb' : w3.cell? ⟨br, orr + b, none⟩ = some (.int .i64 rb) := (q.l.cell (p := ⟨br, orr + b, none⟩) zR).trans cb
    have HK := hid (show kwhy sg v sy rk t s = if ra < rb then 3 else 0 by
     rw [kw4 HU.out HE.out (by have := HXN.out; omega) (by have := HYN.out; omega) HD.out, HX.out, HY.out, ← ea.out, ← eb.out]
     rfl)
    have j0 : (0 : Int) ≤ (a : Int) := by omega
    have j1 : (a : Int) < (rn : Int) := by omega
    have j2 : (0 : Int) ≤ (b : Int) := by omega
    have j3 : (b : Int) < (rn : Int) := by omega
    have HQ3 := hid (fun dd => below_drewN q.l dd)
    clear ca cb ea eb q hxm hym hxl hyl hxy
    by_cases hr : ra < rb
    ·have d6 : decide (ra < rb) = true := decide_eq_true hr
     have F := hid (fun dd => show AnsI w (kwhy sg v sy rk t s) (.returned (.int .i64 3)) (w3.drewN dd) from ⟨by rw [HK.out, if_pos hr], HQ3.out dd⟩)
     go_wp2_with fail
     go_quiet (fail)
     go_wp2_with fail
     go_quiet (fail)
     go_wp2
     go_ret
     rw [World.drewN_drewN]
     exact F.out _
    ·have d6 : decide (ra < rb) = false := decide_eq_false hr
     have F := hid (fun dd => show AnsI w (kwhy sg v sy rk t s) (.returned (.int .i64 0)) (w3.drewN dd) from ⟨by rw [HK.out, if_neg hr], HQ3.out dd⟩)
     go_wp2_with fail
     go_quiet (fail)
     go_wp2_with fail
     go_quiet (fail)
     go_wp2
     go_ret
     rw [World.drewN_drewN]
     exact F.out _
   subst hxy
   have d5 : (x != x) = false := by simp
   have HD := hid (show hd t = hd s by rw [HX.out, HY.out])
   have hpz : 0 ≤ s.getD 0 0 := by have := HX.out; exact Int.not_lt.1 (by rw [show s.getD 0 0 = x from HX.out]; exact hx)
   have hqz : 0 ≤ t.getD 0 0 := by exact Int.not_lt.1 (by rw [show t.getD 0 0 = x from HY.out]; exact hx)
   have LA := hid (fun dd => LP.out (w3.drewN dd) (below_drewN q.l dd) (some ⟨b1, o1, none⟩) m mc s (GS.out.keep (Keep.below (below_drewN q.l dd) HQ.out)) hm HFS.out hpz)
   have HQ3 := hid (fun dd => q.drewN dd)
   clear q
   go_wp2_with fail
   go_quiet (fail)
   go_wp2_with fail
   refine (LA.out _).mono ?_
   rintro e w4 ⟨g1, pk, c1, ps, rfl, oP, hP, bb⟩
   have q3 := HQ3.out
   have q := (q3 _).next bb
   have oP4 := oP.lower (q3 0).l.size
   clear q3 bb LA HQ3 cx cy d1 d2 d3 d4 d5 hpz i0 i1 k0
   have k0 : w4.cell? ⟨w.heap.size, 0, none⟩ = some (.slice A n c) := q.a.cell 0
   have LB := hid (LP.out w4 q.l (some ⟨b2, o2, none⟩) k kc t (GT.out.keep (Keep.below q.l HQ.out)) hk HFT.out hqz)
   have Q4 := hid q
   clear q oP
   go_wp2_with fail
   refine LB.out.mono ?_
   rintro e w5 ⟨g2, qk, c2, qs, rfl, oQ, hQs, bb⟩
   have oQ5 := oQ.lower Q4.out.l.size
   have hl := prt_len2 hP hQs (by rw [show s.getD 0 0 = x from HX.out, show t.getD 0 0 = x from HY.out])
   have hpk : pk = qk := by rw [← oQ5.1, ← oP4.1, hl]
   subst hpk
   have hpl : ps.length = pk := oP4.1
   have hql : qs.length = pk := oQ5.1
   have hpm : pk ≤ 1048576 := by have h1 := hP.len; have h2 := flat_le (ps := ps) fun p hp => fo_pos (hP.2 p hp); have h3 := HSL.out; obtain ⟨⟨x', -, -, e, -⟩, -⟩ := hP; rw [e, List.length_cons] at h3; omega
   have S5 := hid (show KS w Q #[.slice A n c] #[.int .i64 v, .slice Y yn yc, .slice R rn rc] g1 g2 pk c1 c2 ps qs w5 from ⟨Q4.out.next bb, oP4.next bb (fun b hb => Nat.lt_of_lt_of_le (HQ.out b hb) Q4.out.l.size), oQ5⟩)
   have HPP := hid hP
   have HQQ := hid hQs
   have HPL := hid hpl
   have HQL := hid hql
   have HKW := hid (show kwhy sg v sy rk t s = if lexB (kg sg v sy rk) qs ps = true then 4 else 0 by
    rw [kw5 HU.out HE.out (by have := HXN.out; omega) (by have := HYN.out; omega) HD.out, pts_prt hP, pts_prt hQs])
   clear bb oP4 oQ oQ5 hl hP hQs LB hpl hql Q4 k0 hqz
   go_wp2_with fail
   go_loopg [13] pk (fun g i wr => ∃ j : Nat, i = .int .i64 j ∧ j + g = pk ∧ (∀ i, i < j → qs.getD i [] = ps.getD i []) ∧ KS w Q #[.slice A n c] #[.int .i64 v, .slice Y yn yc, .slice R rn rc] g1 g2 pk c1 c2 ps qs wr)
   case atStart => exact ⟨0, rfl, by omega, fun i hi => absurd hi (Nat.not_lt_zero i), S5.out⟩
   case round =>
    clear S5
    obtain ⟨j, rfl, hjg, hyes, S⟩ := hrel
    have HJ := hid hjg
    have HY2 := hid hyes
    clear hjg hyes
    have i0 : (0 : Int) ≤ (j : Int) := by omega
    by_cases hj : j < pk
    case neg =>
     have i1 : ¬ (j : Int) < (pk : Int) := by omega
     have F := hid (show AnsI w (kwhy sg v sy rk t s) (.returned (.int .i64 0)) wr from ⟨by rw [HKW.out, lex_end (fun i hi => HY2.out i (by have := HQL.out; have := HJ.out; omega))]; rfl, S.r.l⟩)
     clear S
     go_wp2
     go_ret
     exact F.out
    have i1 : (j : Int) < (pk : Int) := by omega
    obtain ⟨X, xn, xc, cx, hX⟩ := stk_at S.p hj
    obtain ⟨Z, zn, zc, cz, hZ⟩ := stk_at S.q hj
    have hjl : j < ps.length := by rw [HPL.out]; exact hj
    have hjl2 : j < qs.length := by rw [HQL.out]; exact hj
    have hxl := rdq_len hX
    have hzl := rdq_len hZ
    have hlt := part_lt HPP.out hjl
    have hlt2 := part_lt HQQ.out hjl2
    have hxn : xn ≤ 1048576 := by have := HSL.out; omega
    have hzn : zn ≤ 1048576 := by have := HTL.out; omega
    have hbQ : ∀ b, Q b → b < wr.heap.size := fun b hb => Nat.lt_of_lt_of_le (HQ.out b hb) S.r.l.size
    have sX : Seg wr wr.heap.size X xn (ps.getD j []) := shape.Rd.seg (hX.rd hbQ)
    have sZ : Seg wr wr.heap.size Z zn (qs.getD j []) := shape.Rd.seg (hZ.rd hbQ)
    have k0 : wr.cell? ⟨w.heap.size, 0, none⟩ = some (.slice A n c) := S.r.a.cell 0
    have k1 : wr.cell? ⟨w.heap.size + 1, 0, none⟩ = some (.int .i64 v) := S.r.b.cell 0
    have k2 : wr.cell? ⟨w.heap.size + 1, 1, none⟩ = some (.slice Y yn yc) := S.r.b.cell 1
    have k3 : wr.cell? ⟨w.heap.size + 1, 2, none⟩ = some (.slice R rn rc) := S.r.b.cell 2
    have zG1 : ∀ dd, g1 < (wr.drewN dd).heap.size := fun dd => (S.p.ge g1 rfl).2
    have zG2 : ∀ dd, g2 < (wr.drewN dd).heap.size := fun dd => (S.q.ge g2 rfl).2
    have HS := hid (fun dd => S.drewN dd)
    have HS2 := hid (fun dd => S.drewN dd)
    have zH1 : ∀ dd, g1 < (wr.drewN dd).heap.size := fun dd => (S.p.ge g1 rfl).2
    have zH2 : ∀ dd, g2 < (wr.drewN dd).heap.size := fun dd => (S.q.ge g2 rfl).2
    have LI := hid (fun dd => IH.out (wr.drewN dd) (below_drewN S.r.l dd) X Z xn xc zn zc (ps.getD j []) (qs.getD j []) (by have := HF.out; omega) (hX.keep fun _ _ => rfl) (hZ.keep fun _ _ => rfl) hxn hzn (part_fo HPP.out hjl) (part_fo HQQ.out hjl2))
    by_cases heq : ps.getD j [] = qs.getD j []
    ·have LQ := hid (fun dd => quiet_same (mc := xc) (kc := zc) (bo := true) (sX.drewN dd) (sZ.drewN dd) hxn hzn (decide_eq_true heq))
     have HN := hid (show ∀ i, i < j + 1 → qs.getD i [] = ps.getD i [] from fun i hi => by
      rcases Nat.lt_succ_iff_lt_or_eq.1 hi with h1 | h1
      ·exact HY2.out i h1
      ·rw [h1]; exact heq.symm)
     clear hX hZ hxl hzl hlt hlt2 S sX sZ LI heq hbQ zG1 zG2 zH1 zH2 HS2 k1 k2 k3
     go_wp2_with fail
     go_quiet ((go_at_call 123; exact Calls.quiet_of (LQ.out _)))
     go_wp2
     go_roundg (gk - 1)
     case measure => have := HJ.out; omega
     case rel => exact ⟨j + 1, by simp, by have := HJ.out; omega, HN.out, HS.out _⟩
    ·have LQ := hid (fun dd => quiet_same (mc := xc) (kc := zc) (bo := false) (sX.drewN dd) (sZ.drewN dd) hxn hzn (decide_eq_false heq))
     have HKZ := hid (show kwhy sg v sy rk t s = if 0 < kwhy sg v sy rk (qs.getD j []) (ps.getD j []) then 4 else 0 by
      rw [HKW.out, lex_at hjl2 hjl HY2.out (fun h => heq h.symm), kg_why]
      by_cases h : 0 < kwhy sg v sy rk (qs.getD j []) (ps.getD j []) <;> simp [h])
     obtain ⟨z, hz⟩ : ∃ z, kwhy sg v sy rk (qs.getD j []) (ps.getD j []) = z := ⟨_, rfl⟩
     rw [hz] at LI HKZ
     clear hX hZ hxl hzl hlt hlt2 S sX sZ heq hbQ hz zG1 zG2 HS
     go_wp2_with fail
     go_quiet ((go_at_call 123; exact Calls.quiet_of (LQ.out _)))
     go_wp2_with fail
     go_region_held3 (fun w' => w'.cell? ⟨w.heap.size, 0, none⟩ = some (.slice A n c) ∧ w'.cell? ⟨w.heap.size + 1, 0, none⟩ = some (.int .i64 v) ∧ w'.cell? ⟨w.heap.size + 1, 1, none⟩ = some (.slice Y yn yc) ∧ w'.cell? ⟨w.heap.size + 1, 2, none⟩ = some (.slice R rn rc) ∧ w'.cell? ⟨g1, j, none⟩ = some (.slice X xn xc) ∧ w'.cell? ⟨g2, j, none⟩ = some (.slice Z zn zc))
      (go_keep)
      (first
       | (go_at_call 88; refine (LI.out _).mono ?_; rintro e w6 ⟨rfl, bb⟩; have S6 := (HS2.out _).next HQ.out bb; have k0 : w6.cell? ⟨w.heap.size, 0, none⟩ = some (.slice A n c) := S6.r.a.cell 0; have k1 : w6.cell? ⟨w.heap.size + 1, 0, none⟩ = some (.int .i64 v) := S6.r.b.cell 0; have k2 : w6.cell? ⟨w.heap.size + 1, 1, none⟩ = some (.slice Y yn yc) := S6.r.b.cell 1; have k3 : w6.cell? ⟨w.heap.size + 1, 2, none⟩ = some (.slice R rn rc) := S6.r.b.cell 2; have k4 : w6.cell? ⟨g1, j, none⟩ = some (.slice X xn xc) := (bb.cell (p := ⟨g1, j, none⟩) (zH1 _)).trans cx; have k5 : w6.cell? ⟨g2, j, none⟩ = some (.slice Z zn zc) := (bb.cell (p := ⟨g2, j, none⟩) (zH2 _)).trans cz; clear HS2 LI))
     have QQ := hid S6.r.l
     clear k0 k1 k2 k3 k4 k5 cx cz bb zH1 zH2 S6
     by_cases hz0 : 0 < z
     ·have d6 : decide (0 < z) = true := decide_eq_true hz0
      have F := hid (show AnsI w (kwhy sg v sy rk t s) (.returned (.int .i64 4)) w6 from ⟨by rw [HKZ.out, if_pos hz0], QQ.out⟩)
      go_wp2
      go_ret
      exact F.out
     ·have d6 : decide (0 < z) = false := decide_eq_false hz0
      have F := hid (show AnsI w (kwhy sg v sy rk t s) (.returned (.int .i64 0)) w6 from ⟨by rw [HKZ.out, if_neg hz0], QQ.out⟩)
      go_wp2
      go_ret
      exact F.out
end kboWhyT
end
section
open Go.Lib (hid)
namespace kboArgs
open Go.RowKit base ints sig term termOk termFacts marks sym varsOf ruleSpec forest rankMath rankSpec lpoLink lpoPrec kboMath kboLink kboOft kboWt kboOk kboScale whole arity kboFun shape drawX stk partsSpec lpoMath same cursor curO segs kinds kboWhyS
set_option maxRecDepth 100000
def upto (ps : List (List Int)) (j : Nat) : Nat := 1 + (ps.take j).flatten.length
theorem upto_next {ps : List (List Int)} {j : Nat} (hj : j < ps.length) : upto ps (j + 1) = upto ps j + (ps.getD j []).length := by
 unfold upto
 rw [List.take_add_one, List.flatten_append, List.length_append, List.getD, List.getElem?_eq_getElem hj]
 simp
 omega
theorem upto_drop {sg t : List Int} {ps : List (List Int)} (h : Prt sg t ps) {j : Nat} (hj : j < ps.length) : t.drop (upto ps j) = ps.getD j [] ++ (ps.drop (j + 1)).flatten := by
 obtain ⟨⟨x, -, -, e, -⟩, -⟩ := h
 have e1 : ps.flatten = (ps.take j).flatten ++ (ps.drop j).flatten := by rw [← List.flatten_append, List.take_append_drop]
 have e2 : ps.drop j = ps.getD j [] :: ps.drop (j + 1) := by rw [List.drop_eq_getElem_cons hj, List.getD, List.getElem?_eq_getElem hj]; rfl
 rw [e, e1, upto, Nat.add_comm, List.drop_succ_cons, List.drop_left, e2, List.flatten_cons]
theorem upto_cut {sg t : List Int} {ps : List (List Int)} (h : Prt sg t ps) {j : Nat} (hj : j < ps.length) : (t.drop (upto ps j)).take (ps.getD j []).length = ps.getD j [] := by
 rw [upto_drop h hj, List.take_left]
theorem upto_le {sg t : List Int} {ps : List (List Int)} (h : Prt sg t ps) {j : Nat} (hj : j < ps.length) : upto ps j + (ps.getD j []).length ≤ t.length := by
 have h1 := congrArg List.length (upto_drop h hj)
 rw [List.length_drop, List.length_append] at h1
 have h2 := fo_pos (part_fo h hj)
 omega
theorem part_in {sg t : List Int} {ps : List (List Int)} (h : Prt sg t ps) {j : Nat} (hj : j < ps.length) (hv : ∀ x ∈ t, -24 ≤ x) : ∀ x ∈ ps.getD j [], -24 ≤ x := by
 intro x hx
 refine hv x ?_
 have h1 : x ∈ t.drop (upto ps j) := by rw [upto_drop h hj]; exact List.mem_append_left _ hx
 exact List.mem_of_mem_drop h1
theorem upto_scan {sg t : List Int} {ps : List (List Int)} (h : Prt sg t ps) {j : Nat} (hj : j < ps.length) (hv : ∀ x ∈ t, -24 ≤ x) : scan sg 1 (t.drop (upto ps j)) = some (ps.getD j []).length := by
 rw [upto_drop h hj]
 exact Go.Proofs.Ytiimbmkofpnebaa.termMath.scan_append (scan_fo (part_fo h hj) (part_in h hj hv))
theorem rdq_cap {w : World} {Q : Nat → Prop} {A : Option Addr} {n c : Nat} {t : List Int} (h : RdQ w Q sI [.slice A n c] t) : Cap A n c := by
 obtain ⟨A', n', c', e, hc, -⟩ := h
 injection e with e
 injection e with e1 e2 e3
 rw [e1, e2, e3]
 exact hc
structure CK (w : World) (cs : Array Value) (A T U : Option Addr) (n ac m mc k kc p1 p2 i j : Nat) (wr : World) : Prop where
 r : Row wr w.heap.size 96 cs
 a : Row wr p1 132 #[.slice A n ac, .slice T m mc, .int .i64 i]
 b : Row wr p2 132 #[.slice A n ac, .slice U k kc, .int .i64 j]
 ne : p1 ≠ p2
 ga : w.heap.size < p1
 gb : w.heap.size < p2
 bel : Below w.heap.size w wr
section
variable {w wr w' : World} {cs : Array Value} {A T U : Option Addr} {n ac m mc k kc p1 p2 i j i' j' : Nat}
theorem CK.next (h : CK w cs A T U n ac m mc k kc p1 p2 i j wr) (hb : Below wr.heap.size wr w') : CK w cs A T U n ac m mc k kc p1 p2 i j w' :=
 ⟨h.r.next hb, h.a.next hb, h.b.next hb, h.ne, h.ga, h.gb, next_trans h.bel hb⟩
theorem CK.moveA (h : CK w cs A T U n ac m mc k kc p1 p2 i j wr) (hg : wr.grownBy w' (some p1)) (ha : Row w' p1 132 #[.slice A n ac, .slice T m mc, .int .i64 i']) : CK w cs A T U n ac m mc k kc p1 p2 i' j w' :=
 ⟨marks.Row.away h.r hg (fun e => by injection e with e; have := h.ga; omega), ha, marks.Row.away h.b hg (fun e => by injection e with e; exact h.ne e), h.ne, h.ga, h.gb, h.bel.grown hg h.bel.size (fun z e => by injection e with e; have := h.ga; omega)⟩
theorem CK.moveB (h : CK w cs A T U n ac m mc k kc p1 p2 i j wr) (hg : wr.grownBy w' (some p2)) (hb : Row w' p2 132 #[.slice A n ac, .slice U k kc, .int .i64 j']) : CK w cs A T U n ac m mc k kc p1 p2 i j' w' :=
 ⟨marks.Row.away h.r hg (fun e => by injection e with e; have := h.gb; omega), marks.Row.away h.a hg (fun e => by injection e with e; exact h.ne e.symm), hb, h.ne, h.ga, h.gb, h.bel.grown hg h.bel.size (fun z e => by injection e with e; have := h.gb; omega)⟩
theorem CK.curA {sg t : List Int} (h : CK w cs A T U n ac m mc k kc p1 p2 i j wr) (hs : Seg w w.heap.size A n sg) (ht : Seg w w.heap.size T m t) (hi : i ≤ m) (hn : n ≤ 1048576) (hm : m ≤ 1048576) (ha : Arities sg) : Cur wr p1 A n ac T m mc sg t i :=
 ⟨h.a, (hs.below h.bel).more (Nat.le_of_lt h.ga), (ht.below h.bel).more (Nat.le_of_lt h.ga), hi, hn, hm, ha⟩
theorem CK.curB {sg t : List Int} (h : CK w cs A T U n ac m mc k kc p1 p2 i j wr) (hs : Seg w w.heap.size A n sg) (ht : Seg w w.heap.size U k t) (hj : j ≤ k) (hn : n ≤ 1048576) (hk : k ≤ 1048576) (ha : Arities sg) : Cur wr p2 A n ac U k kc sg t j :=
 ⟨h.b, (hs.below h.bel).more (Nat.le_of_lt h.gb), (ht.below h.bel).more (Nat.le_of_lt h.gb), hj, hn, hk, ha⟩
theorem CK.drewN (h : CK w cs A T U n ac m mc k kc p1 p2 i j wr) (dd : Nat) : CK w cs A T U n ac m mc k kc p1 p2 i j (wr.drewN dd) :=
 ⟨h.r.drewN dd, h.a.drewN dd, h.b.drewN dd, h.ne, h.ga, h.gb, below_drewN h.bel dd⟩
theorem ck_new (hr : Row wr w.heap.size 96 cs) (hb : Below w.heap.size w wr) (A T U : Option Addr) (n ac m mc k kc : Nat) : CK w cs A T U n ac m mc k kc wr.heap.size (wr.heap.size + 1) 0 0 ((wr.alloc (.cells #[.slice A n ac, .slice T m mc, .int .i64 0] 132)).alloc (.cells #[.slice A n ac, .slice U k kc, .int .i64 0] 132)).drew := by
 have h1 := hr.lt
 have h2 := Row.new (wr.alloc (.cells #[.slice A n ac, .slice T m mc, .int .i64 0] 132)) 132 #[.slice A n ac, .slice U k kc, .int .i64 0]
 rw [show (wr.alloc (.cells #[.slice A n ac, .slice T m mc, .int .i64 0] 132)).heap.size = wr.heap.size + 1 by simp] at h2
 exact ⟨((hr.alloc _).alloc _).drew, ((Row.new _ _ _).alloc _).drew, h2.drew, by omega, by omega, by omega, ((hb.alloc (by omega) _).alloc (by simp; omega) _).drew⟩
theorem ck_new' (hr : Row wr w.heap.size 96 cs) (hb : Below w.heap.size w wr) (A T U : Option Addr) (n ac m mc k kc : Nat) : CK w cs A T U n ac m mc k kc (wr.heap.size + 1) wr.heap.size 0 0 ((wr.alloc (.cells #[.slice A n ac, .slice U k kc, .int .i64 0] 132)).alloc (.cells #[.slice A n ac, .slice T m mc, .int .i64 0] 132)).drew := by
 have h1 := hr.lt
 have h2 := Row.new (wr.alloc (.cells #[.slice A n ac, .slice U k kc, .int .i64 0] 132)) 132 #[.slice A n ac, .slice T m mc, .int .i64 0]
 rw [show (wr.alloc (.cells #[.slice A n ac, .slice U k kc, .int .i64 0] 132)).heap.size = wr.heap.size + 1 by simp] at h2
 exact ⟨((hr.alloc _).alloc _).drew, h2.drew, ((Row.new _ _ _).alloc _).drew, by omega, by omega, by omega, ((hb.alloc (by omega) _).alloc (by simp; omega) _).drew⟩
end
set_option maxHeartbeats 8000000 in
theorem exceedsByArgs (A Y R : Option Addr) (n ac yn yc rn rc : Nat) (v : Int) (sg sy rk : List Int) (Q : Nat → Prop) (hs : Arities sg) (hn : n ≤ 1048576) (T U : Option Addr) (m k mc kc : Nat) (t s : List Int) (w : World) (hA : Seg w w.heap.size A n sg)
  (LE : ∀ (w1 : World) (bb : Below w.heap.size w w1) (T' U' : Option Addr) (m' mc' k' kc' : Nat) (p q : List Int), p.length < t.length → RdQ w1 Q sI [.slice T' m' mc'] p → RdQ w1 Q sI [.slice U' k' kc'] q → m' ≤ 1048576 → k' ≤ 1048576 → Fo sg 1 p → Fo sg 1 q → (∀ x ∈ p, -24 ≤ x) → (∀ x ∈ q, -24 ≤ x) → Calls Try.prog 144 #[.agg #[.slice A n ac, .slice R rn rc, .int .i64 v, .slice Y yn yc], .slice T' m' mc', .slice U' k' kc'] w1 (AnsB w1 (kg sg v sy rk p q)))
  (ht : RdQ w Q sI [.slice T m mc] t) (hy : RdQ w Q sI [.slice U k kc] s) (hQ : ∀ b, Q b → b < w.heap.size) (hm : m ≤ 1048576) (hk : k ≤ 1048576) (ft : Fo sg 1 t) (fy : Fo sg 1 s) (vt : ∀ x ∈ t, -24 ≤ x) (vy : ∀ x ∈ s, -24 ≤ x) (hh : (hd t < 0 ∧ hd s < 0) ∨ (0 ≤ hd t ∧ hd t = hd s)) :
  Calls Try.prog 114 #[.agg #[.slice A n ac, .slice R rn rc, .int .i64 v, .slice Y yn yc], .slice T m mc, .slice U k kc] w (AnsB w (lexB (kg sg v sy rk) (ptsC sg t) (ptsC sg s))) := by
 obtain ⟨W, hW, rA, bel⟩ := box1 w 96 #[.slice A n ac, .slice R rn rc, .int .i64 v, .slice Y yn yc]
 have htl := rdq_len ht
 have hyl := rdq_len hy
 have hm1 : 0 < m := by have := fo_pos ft; omega
 have hk1 : 0 < k := by have := fo_pos fy; omega
 have sT0 : Seg w w.heap.size T m t := shape.Rd.seg (ht.rd hQ)
 have sU0 : Seg w w.heap.size U k s := shape.Rd.seg (hy.rd hQ)
 obtain ⟨b1, o1, rfl, hb1, -⟩ := sT0.round hm1
 obtain ⟨b2, o2, rfl, hb2, -⟩ := sU0.round hk1
 obtain ⟨ps, hps⟩ : ∃ ps, ptsC sg t = ps := ⟨_, rfl⟩
 obtain ⟨qs, hqs⟩ : ∃ qs, ptsC sg s = qs := ⟨_, rfl⟩
 have hmt : hd t ∈ t := by obtain ⟨a, r, e⟩ := fo_hd ft; rw [e]; exact List.mem_cons_self ..
 have hms : hd s ∈ s := by obtain ⟨a, r, e⟩ := fo_hd fy; rw [e]; exact List.mem_cons_self ..
 obtain ⟨pk, h1, h2, h3, h4, h5⟩ : ∃ pk : Nat, ar sg (t.getD 0 0) = (pk : Int) ∧ 0 ≤ ar sg (s.getD 0 0) ∧ ps.length = pk ∧ qs.length = pk ∧ (0 < pk → Prt sg t ps ∧ Prt sg s qs) := by
  rcases hh with ⟨h, h'⟩ | ⟨h, h'⟩
  ·have e1 : ar sg (t.getD 0 0) = 0 := ar_var ⟨vt _ hmt, by have : t.getD 0 0 < 0 := h; omega⟩
   have e2 : ar sg (s.getD 0 0) = 0 := ar_var ⟨vy _ hms, by have : s.getD 0 0 < 0 := h'; omega⟩
   exact ⟨0, e1, by rw [e2]; exact Int.le_refl 0, by rw [← hps, pts_var h]; rfl, by rw [← hqs, pts_var h']; rfl, fun h0 => absurd h0 (Nat.lt_irrefl 0)⟩
  ·obtain ⟨ps', hp⟩ := prt_ex ft h
   obtain ⟨qs', hq⟩ := prt_ex fy (by rw [show s.getD 0 0 = hd s from rfl, ← h']; exact h)
   have ep : ps = ps' := by rw [← hps, pts_prt hp]
   have eq : qs = qs' := by rw [← hqs, pts_prt hq]
   subst ep eq
   have hl := prt_len2 hp hq h'
   have e3 : ar sg (s.getD 0 0) = ar sg (t.getD 0 0) := congrArg (ar sg) h'.symm
   have hp2 := hp
   obtain ⟨⟨x, hx0, hx1, ex, hxl⟩, -⟩ := hp2
   have e4 : t.getD 0 0 = x := by rw [ex]; rfl
   exact ⟨(ar sg x).toNat, by rw [e4]; omega, by rw [e3, e4]; exact hx1, hxl, by rw [← hl]; exact hxl, fun _ => ⟨hp, hq⟩⟩
 have hbd := (ar_bd hs (t.getD 0 0)).2
 rw [h1] at hbd
 have HW := hid hW
 have HT := hid ht
 have HY := hid hy
 have HQ := hid hQ
 have HS := hid hs
 have HSG := hid hA
 have HVT := hid vt
 have HVY := hid vy
 have HTL := hid htl
 have HYL := hid hyl
 have HPK := hid h1
 have HPN := hid h2
 have HPL := hid h3
 have HQL := hid h4
 have HPP := hid h5
 have IH := hid LE
 have HA := hid (fun (wx : World) (p1 p2 i j : Nat) (C : CK w #[.slice A n ac, .slice R rn rc, .int .i64 v, .slice Y yn yc] A (some ⟨b1, o1, none⟩) (some ⟨b2, o2, none⟩) n ac m mc k kc p1 p2 i j wx) (hi : i ≤ m) => C.curA hA sT0 hi hn hm hs)
 have HB := hid (fun (wx : World) (p1 p2 i j : Nat) (C : CK w #[.slice A n ac, .slice R rn rc, .int .i64 v, .slice Y yn yc] A (some ⟨b1, o1, none⟩) (some ⟨b2, o2, none⟩) n ac m mc k kc p1 p2 i j wx) (hj : j ≤ k) => C.curB hA sU0 hj hn hk hs)
 have hcT := rdq_cap ht
 have hcU := rdq_cap hy
 have cT1 := hcT.1
 have cT2 := hcT.2.1
 have cU1 := hcU.1
 have cU2 := hcU.2.1
 rw [hps, hqs]
 have k0 : W.cell? ⟨w.heap.size, 0, none⟩ = some (.slice A n ac) := rA.cell 0
 rw [hW] at k0
 clear hA ht hy hQ hs hn ft fy vt vy hh LE hps hqs h1 h2 h3 h4 h5 hmt hms sT0 sU0 hcT hcU hb1 hb2 htl hyl
 go_enter Try.func114, Try.ntmps114
 go_wp2_with fail
 rw [← HW.out]
 clear k0
 have k0 : W.cell? ⟨w.heap.size, 0, none⟩ = some (.slice A n ac) := rA.cell 0
 clear hW
 go_cut [7, 8] (fun a b wx => ∃ p1 p2, a = .pointer (some ⟨p1, 0, none⟩) ∧ b = .pointer (some ⟨p2, 0, none⟩) ∧ CK w #[.slice A n ac, .slice R rn rc, .int .i64 v, .slice Y yn yc] A (some ⟨b1, o1, none⟩) (some ⟨b2, o2, none⟩) n ac m mc k kc p1 p2 0 0 wx)
 case first =>
  have C1 := hid (ck_new rA bel A (some ⟨b1, o1, none⟩) (some ⟨b2, o2, none⟩) n ac m mc k kc)
  have C2 := hid (ck_new' rA bel A (some ⟨b1, o1, none⟩) (some ⟨b2, o2, none⟩) n ac m mc k kc)
  clear rA bel
  go_region_held3 (fun w' => w'.cell? ⟨w.heap.size, 0, none⟩ = some (.slice A n ac)) (go_keep) ((fail))
  all_goals
   go_wp2_with fail
   go_meet
   first
    | exact ⟨_, _, rfl, rfl, C1.out⟩
    | exact ⟨_, _, rfl, rfl, C2.out⟩
 case rest =>
  rename World => wc
  obtain ⟨p1, p2, rfl, rfl, C0⟩ := hcut
  have LN := hid (next p2 A n ac (some ⟨b2, o2, none⟩) k kc sg s 0 wc (HB.out wc _ _ 0 0 C0 (Nat.zero_le _)))
  have HC0 := hid C0
  clear C0 rA bel k0
  go_wp2_with fail
  refine LN.out.mono ?_
  rintro e w5 ⟨g5, ⟨-, rfl, hc5⟩ | ⟨h0, -⟩⟩
  case inr => omega
  have HC5 := hid (HC0.out.moveB g5 hc5.row)
  have LM := hid (next p1 A n ac (some ⟨b1, o1, none⟩) m mc sg t 0 w5 (HA.out w5 _ _ 0 1 HC5.out (Nat.zero_le _)))
  obtain ⟨zz, hzz⟩ : ∃ zz, ar sg (s.getD 0 0) = zz := ⟨_, rfl⟩
  rw [hzz]
  clear g5 hc5 LN HC0 hzz HPN
  go_wp2_with fail
  refine LM.out.mono ?_
  rintro e w6 ⟨g6, ⟨-, rfl, hc6⟩ | ⟨h0, -⟩⟩
  case inr => omega
  have HC6 := hid (HC5.out.moveA g6 hc6.row)
  rw [HPK.out]
  clear g6 hc6 LM HC5
  go_wp2_with fail
  go_loopg [23] pk (fun g i wr => ∃ j : Nat, i = .int .i64 j ∧ j + g = pk ∧ (∀ i, i < j → ps.getD i [] = qs.getD i []) ∧ CK w #[.slice A n ac, .slice R rn rc, .int .i64 v, .slice Y yn yc] A (some ⟨b1, o1, none⟩) (some ⟨b2, o2, none⟩) n ac m mc k kc p1 p2 (upto ps j) (upto qs j) wr)
  case atStart => exact ⟨0, rfl, by omega, fun i hi => absurd hi (Nat.not_lt_zero i), HC6.out⟩
  case round =>
   clear HC6
   obtain ⟨j, rfl, hjg, hyes, S⟩ := hrel
   have HJ := hid hjg
   have HY2 := hid hyes
   clear hjg hyes
   by_cases hj : j < pk
   case neg =>
    have i1 : ¬ (j : Int) < (pk : Int) := by omega
    have F := hid (show AnsB w (lexB (kg sg v sy rk) ps qs) (.returned (.bool false)) wr from ⟨by rw [lex_end (fun i hi => HY2.out i (by have := HPL.out; have := HJ.out; omega))], S.bel⟩)
    clear S
    go_wp2
    go_ret
    exact F.out
   have i1 : (j : Int) < (pk : Int) := by omega
   obtain ⟨HP, HQQ⟩ := HPP.out (by omega)
   have hjl : j < ps.length := by rw [HPL.out]; exact hj
   have hjl2 : j < qs.length := by rw [HQL.out]; exact hj
   have hlt := part_lt HP hjl
   have ule := upto_le HP hjl
   have ule2 := upto_le HQQ hjl2
   have u1 := fo_pos (part_fo HP hjl)
   have u2 := fo_pos (part_fo HQQ hjl2)
   rw [HTL.out] at ule
   rw [HYL.out] at ule2
   have HSA := hid (upto_scan HP hjl HVT.out)
   have HSB := hid (upto_scan HQQ hjl2 HVY.out)
   have HCA := hid (upto_cut HP hjl)
   have HCB := hid (upto_cut HQQ hjl2)
   have HNA := hid (upto_next hjl)
   have HNB := hid (upto_next hjl2)
   have HFA := hid (part_fo HP hjl)
   have HFB := hid (part_fo HQQ hjl2)
   have HIA := hid (part_in HP hjl HVT.out)
   have HIB := hid (part_in HQQ hjl2 HVY.out)
   have HLX := hid (fun hne => lex_at (g := kg sg v sy rk) hjl hjl2 HY2.out hne)
   have HNX := hid (fun (he : ps.getD j [] = qs.getD j []) => (fun i hi => by
    rcases Nat.lt_succ_iff_lt_or_eq.1 hi with h1 | h1
    ·exact HY2.out i h1
    ·rw [h1]; exact he : ∀ i, i < j + 1 → ps.getD i [] = qs.getD i []))
   obtain ⟨ua, hua⟩ : ∃ u, upto ps j = u := ⟨_, rfl⟩
   obtain ⟨ub, hub⟩ : ∃ u, upto qs j = u := ⟨_, rfl⟩
   obtain ⟨pa, hpa⟩ : ∃ u, ps.getD j [] = u := ⟨_, rfl⟩
   obtain ⟨pb, hpb⟩ : ∃ u, qs.getD j [] = u := ⟨_, rfl⟩
   rw [hua, hub] at S
   rw [hua, hpa] at HSA HCA HNA ule
   rw [hub, hpb] at HSB HCB HNB ule2
   rw [hpa] at hlt u1 HFA HIA
   rw [hpb] at u2 HFB HIB
   rw [hpa, hpb] at HLX HNX
   obtain ⟨la, hla⟩ : ∃ u, pa.length = u := ⟨_, rfl⟩
   obtain ⟨lb, hlb⟩ : ∃ u, pb.length = u := ⟨_, rfl⟩
   rw [hla] at HSA HCA HNA ule u1
   rw [hlb] at HSB HCB HNB ule2 u2
   have LA := hid ((partC p1 A n ac b1 o1 m mc sg t ua la wr (HA.out _ _ _ ua ub S (by omega)) HSA.out ule u1 cT1 cT2).mono fun e w' (r : _ ∧ _ ∧ _) => (⟨r.1, S.moveA r.2.1 r.2.2.row⟩ : e = .returned (.slice (some ⟨b1, o1 + ua, none⟩) la (mc - ua)) ∧ CK w #[.slice A n ac, .slice R rn rc, .int .i64 v, .slice Y yn yc] A (some ⟨b1, o1, none⟩) (some ⟨b2, o2, none⟩) n ac m mc k kc p1 p2 (ua + la) ub w'))
   have LB := hid (fun (wx : World) (C : CK w #[.slice A n ac, .slice R rn rc, .int .i64 v, .slice Y yn yc] A (some ⟨b1, o1, none⟩) (some ⟨b2, o2, none⟩) n ac m mc k kc p1 p2 (ua + la) ub wx) => (partC p2 A n ac b2 o2 k kc sg s ub lb wx (HB.out _ _ _ _ ub C (by omega)) HSB.out ule2 u2 cU1 cU2).mono fun e w' (r : _ ∧ _ ∧ _) => (⟨r.1, C.moveB r.2.1 r.2.2.row⟩ : e = .returned (.slice (some ⟨b2, o2 + ub, none⟩) lb (kc - ub)) ∧ CK w #[.slice A n ac, .slice R rn rc, .int .i64 v, .slice Y yn yc] A (some ⟨b1, o1, none⟩) (some ⟨b2, o2, none⟩) n ac m mc k kc p1 p2 (ua + la) (ub + lb) w'))
   have RA := hid (fun (wx : World) (bb : Below w.heap.size w wx) => (show RdQ wx Q sI [.slice (some ⟨b1, o1 + ua, none⟩) la (mc - ua)] pa by have h9 := rdq_cut (HT.out.keep (Keep.below bb HQ.out)) u1 ule; rw [HCA.out] at h9; exact h9))
   have RB := hid (fun (wx : World) (bb : Below w.heap.size w wx) => (show RdQ wx Q sI [.slice (some ⟨b2, o2 + ub, none⟩) lb (kc - ub)] pb by have h9 := rdq_cut (HY.out.keep (Keep.below bb HQ.out)) u2 ule2; rw [HCB.out] at h9; exact h9))
   have hlam : la ≤ 1048576 := by omega
   have hlbm : lb ≤ 1048576 := by omega
   have LI := hid (fun (wx : World) (bb : Below w.heap.size w wx) => IH.out wx bb (some ⟨b1, o1 + ua, none⟩) (some ⟨b2, o2 + ub, none⟩) la (mc - ua) lb (kc - ub) pa pb hlt (RA.out wx bb) (RB.out wx bb) hlam hlbm HFA.out HFB.out HIA.out HIB.out)
   have LQ := hid (fun (wx : World) (bb : Below w.heap.size w wx) => implSame (some ⟨b1, o1 + ua, none⟩) (some ⟨b2, o2 + ub, none⟩) la lb (mc - ua) (kc - ub) pa pb wx (shape.Rd.seg ((RA.out wx bb).rd fun b hb => Nat.lt_of_lt_of_le (HQ.out b hb) bb.size)) (shape.Rd.seg ((RB.out wx bb).rd fun b hb => Nat.lt_of_lt_of_le (HQ.out b hb) bb.size)) hlam hlbm)
   clear S hla hlb hpa hpb hlt hua hub u1 u2 HP HQQ
   go_wp2_with fail
   refine LA.out.mono ?_
   rintro e w7 ⟨rfl, C7⟩
   have L8 := hid (LB.out w7 C7)
   clear C7 LA
   go_wp2_with fail
   refine L8.out.mono ?_
   rintro e w8 ⟨rfl, C8⟩
   have L9 := hid (LQ.out w8 C8.bel)
   have HC8 := hid C8
   clear C8 L8 LB
   go_wp2_with fail
   refine L9.out.mono ?_
   rintro e w9 ⟨rfl, dd, rfl⟩
   have HC9 := hid (HC8.out.drewN dd)
   generalize hw9 : w8.drewN dd = w9 at *
   clear L9 HC8 hw9
   by_cases heq : pa = pb
   ·rw [decide_eq_true heq]
    have HN := hid (HNX.out heq)
    clear heq
    go_wp2
    go_roundg (gk - 1)
    case measure => have := HJ.out; omega
    case rel => exact ⟨j + 1, by simp, by have := HJ.out; omega, HN.out, by rw [HNA.out, HNB.out]; exact HC9.out⟩
   ·rw [decide_eq_false heq]
    have HV := hid (HLX.out heq)
    clear heq
    have LX := hid (LI.out w9 HC9.out.bel)
    obtain ⟨z, hz⟩ : ∃ z, kg sg v sy rk pa pb = z := ⟨_, rfl⟩
    rw [hz] at LX HV
    have m0 : w9.cell? ⟨w.heap.size, 0, none⟩ = some (.slice A n ac) := HC9.out.r.cell 0
    have m1 : w9.cell? ⟨w.heap.size, 1, none⟩ = some (.slice R rn rc) := HC9.out.r.cell 1
    have m2 : w9.cell? ⟨w.heap.size, 2, none⟩ = some (.int .i64 v) := HC9.out.r.cell 2
    have m3 : w9.cell? ⟨w.heap.size, 3, none⟩ = some (.slice Y yn yc) := HC9.out.r.cell 3
    clear hz
    go_wp2_with fail
    refine LX.out.mono ?_
    rintro e w10 ⟨rfl, bb⟩
    have F := hid (show AnsB w (lexB (kg sg v sy rk) ps qs) (.returned (.bool z)) w10 from ⟨by rw [HV.out], next_trans HC9.out.bel bb⟩)
    clear bb m0 m1 m2 m3
    go_wp2
    go_ret
    exact F.out
end kboArgs
end
section
open Go.Lib (hid)
namespace kboGrade
open Go.RowKit base ints sig term termOk termFacts marks sym varsOf ruleSpec forest rankMath rankSpec lpoLink lpoPrec kboMath kboLink kboOft kboWt kboOk kboScale whole kboFun lpoMath partsSpec
set_option maxRecDepth 100000
def gr (rk t : List Int) : Int := if hd t < 0 then -1 else rkL rk (hd t)
def AnsG (w : World) (a b : Int) (e : Ending) (w' : World) : Prop := e = .returned (.agg #[.int .i64 a, .int .i64 b]) ∧ Below w.heap.size w w'
theorem size_g : (Try.prog.info? 135).map (·.size) = some 2 := by kernel_rfl
structure Gd (w : World) (P : Nat) (ca : Array Value) (a b : Int) (wr : World) : Prop where
 s : Row wr w.heap.size 96 ca
 z : Row wr (w.heap.size + 1) 135 #[.int .i64 0, .int .i64 0]
 g : Row wr P 135 #[.int .i64 a, .int .i64 b]
 l : Below w.heap.size w wr
 p : w.heap.size + 1 < P
theorem Gd.put {w wr : World} {P : Nat} {ca : Array Value} {a b : Int} (h : Gd w P ca a b wr) (b' : Int) : Gd w P ca a b' (wr.setCell ⟨P, 1, none⟩ (.int .i64 b')) :=
 have := h.p
 ⟨h.s.far (by show ¬ _ = P; omega) _, h.z.far (by show ¬ _ = P; omega) _, h.g.put 1 _, h.l.setCell (by show _ ≤ P; omega) _, h.p⟩
theorem Gd.drewN {w wr : World} {P : Nat} {ca : Array Value} {a b : Int} (h : Gd w P ca a b wr) (d : Nat) : Gd w P ca a b (wr.drewN d) := ⟨h.s.drewN d, h.z.drewN d, h.g.drewN d, below_drewN h.l d, h.p⟩
set_option maxHeartbeats 4000000 in
theorem gradeOf (A R Y T : Option Addr) (n c rn rc yn yc m mc : Nat) (v : Int) (sg rk sy t : List Int) (w : World) (hA : Seg w w.heap.size A n sg) (hR : Seg w w.heap.size R rn rk) (hY : Seg w w.heap.size Y yn sy) (hT : Seg w w.heap.size T m t) (hm : m ≤ 1048576) (hok : wB sg v sy rk = true) (ft : Fo sg 1 t) :
  Calls Try.prog 113 #[.agg #[.slice A n c, .slice R rn rc, .int .i64 v, .slice Y yn yc], .slice T m mc] w (AnsG w (wt v sy t) (gr rk t)) := by
 obtain ⟨W, hW, rA, rZ, bel⟩ := box2 w 96 135 #[.slice A n c, .slice R rn rc, .int .i64 v, .slice Y yn yc] #[.int .i64 0, .int .i64 0]
 have HW := hid hW
 have hm1 : 0 < m := by have := Fo.pos (q := 0) ft; have := hT.1; omega
 obtain ⟨b1, o1, rfl, hb1, hx0⟩ := hT.round hm1
 obtain ⟨x, ex⟩ : ∃ x, t.getD 0 0 = x := ⟨_, rfl⟩
 rw [ex] at hx0
 have HX := hid (show hd t = x from ex)
 have CX := hid (fun (w1 : World) (bb : Below w.heap.size w w1) => (show w1.cell? ⟨b1, o1, none⟩ = some (.int .i64 x) from (bb.cell (p := ⟨b1, o1 + 0, none⟩) hb1).trans hx0))
 have hrl : rn = sg.length := by rw [← hR.1]; exact (rank_parts (prec_parts (w_parts hok).1).2).1
 have hxr : 0 ≤ x → ∃ f : Nat, x = (f : Int) ∧ f < rn := fun h0 => by
  have hmem : x ∈ t := by rw [← ex]; cases t with
   | nil => have := Fo.pos (q := 0) ft; simp at this
   | cons a r => exact List.mem_cons_self ..
  have := (ar_in h0 (ft.sym x hmem h0)).1
  exact ⟨x.toNat, by omega, by omega⟩
 have LW := hid (weigh A Y R _ n c yn yc rn rc m mc v sy t W (hY.next bel) (hT.next bel) hm (small_of hok) (low_of hok ft))
 have k0 : W.cell? ⟨w.heap.size, 0, none⟩ = some (.slice A n c) := rA.cell 0
 have k1 : W.cell? ⟨w.heap.size, 1, none⟩ = some (.slice R rn rc) := rA.cell 1
 have k2 : W.cell? ⟨w.heap.size, 2, none⟩ = some (.int .i64 v) := rA.cell 2
 have k3 : W.cell? ⟨w.heap.size, 3, none⟩ = some (.slice Y yn yc) := rA.cell 3
 rw [hW] at k0 k1 k2 k3
 clear hW hA hY hT hok ft ex hx0 hrl
 go_enter Try.func113, Try.ntmps113
 go_wp2_with fail
 rw [← HW.out]
 clear k0 k1 k2 k3
 refine LW.out.mono ?_
 rintro e w1 ⟨rfl, bb⟩
 replace rA := rA.next bb
 replace rZ := rZ.next bb
 replace bel := next_trans bel bb
 clear bb LW
 obtain ⟨z, hz⟩ : ∃ z, wt v sy t = z := ⟨_, rfl⟩
 have HZW := hid hz
 rw [hz]
 clear hz
 have hP := rZ.lt
 obtain ⟨w2, hw2, rg, bb⟩ := box_one w1 135 #[.int .i64 z, .int .i64 (-1)]
 have H2 := hid hw2
 have G0 := hid (show Gd w w1.heap.size #[.slice A n c, .slice R rn rc, .int .i64 v, .slice Y yn yc] z (-1) w2 from ⟨rA.next bb, rZ.next bb, rg, next_trans bel bb, hP⟩)
 clear hw2 bb rA rZ rg bel
 go_wp2_with (first
  | (refine rowStore rfl 135 _ _ rfl w1.heap.size #[.int .i64 z, .int .i64 (-1)] #[.int .i64 0, .int .i64 0] 135 rfl rfl (heap_alloc_new w1 _) size_g rfl (by simp [Value.oneCell']) ?_; rw [World.setRow_alloc_new]; rw [← H2.out]; refine (?_ : Hid _).out))
 refine hid ?_
 clear H2
 have cx : w2.cell? ⟨b1, o1, none⟩ = some (.int .i64 x) := CX.out w2 G0.out.l
 have i1 : (0 : Int) < (m : Int) := by omega
 by_cases hx : x < 0
 ·have d1 : decide (0 ≤ x) = false := decide_eq_false (by omega)
  have g0 : w2.cell? ⟨w1.heap.size, 0, none⟩ = some (.int .i64 z) := G0.out.g.cell 0
  have g1 : w2.cell? ⟨w1.heap.size, 1, none⟩ = some (.int .i64 (-1)) := G0.out.g.cell 1
  have F := hid (show AnsG w (wt v sy t) (gr rk t) (.returned (.agg #[.int .i64 z, .int .i64 (-1)])) (w2.setRow (w.heap.size + 1) #[.int .i64 z, .int .i64 (-1)]) from ⟨by rw [HZW.out, show gr rk t = -1 by unfold gr; rw [HX.out, if_pos hx]], below_setRow G0.out.l (by omega) G0.out.l.size⟩)
  have hz := G0.out.z
  have h3 := Row.setRow G0.out.z #[.int .i64 z, .int .i64 (-1)]
  unfold Row at hz
  have HZ := hid hz
  have H3 := hid h3
  clear hz h3 G0
  go_wp2_with (first
   | (refine rowStore rfl 135 _ _ rfl (w.heap.size + 1) #[.int .i64 z, .int .i64 (-1)] #[.int .i64 0, .int .i64 0] 135 rfl rfl HZ.out size_g rfl (by simp [Value.oneCell']) ?_))
  (try simp only [Exit.inBlock, Exit.then])
  have u0 := Row.cell H3.out 0
  have u1 := Row.cell H3.out 1
  simp at u0 u1
  exact bodyPost_ret (v := .agg #[.int .i64 z, .int .i64 (-1)]) (by simp [results, Try.results113, go_sem, u0, u1]) rfl F.out
 ·have d1 : decide (0 ≤ x) = true := decide_eq_true (by omega)
  obtain ⟨f, rfl, hf⟩ := hxr (by omega)
  obtain ⟨br, orr, r, rfl, zR, cr0, er⟩ := hR.spot hf
  have j0 : (0 : Int) ≤ (f : Int) := by omega
  have j1 : (f : Int) < (rn : Int) := by omega
  have cr : w2.cell? ⟨br, orr + f, none⟩ = some (.int .i64 r) := (G0.out.l.cell (p := ⟨br, orr + f, none⟩) zR).trans cr0
  have k1 : w2.cell? ⟨w.heap.size, 1, none⟩ = some (.slice (some ⟨br, orr, none⟩) rn rc) := G0.out.s.cell 1
  have g1 : w2.cell? ⟨w1.heap.size, 1, none⟩ = some (.int .i64 (-1)) := G0.out.g.cell 1
  have ER := hid (show gr rk t = r by unfold gr; rw [HX.out, if_neg hx]; exact er.out)
  clear cr0 er hR hxr
  go_wp2_with fail
  go_cut [5] (fun a wx => a = .pointer (some ⟨w1.heap.size, 0, none⟩) ∧ Gd w w1.heap.size #[.slice A n c, .slice (some ⟨br, orr, none⟩) rn rc, .int .i64 v, .slice Y yn yc] z r wx)
  case first =>
   have G1 := hid (fun dd => (G0.out.drewN dd).put r)
   have fr : w2.frozen? ⟨w1.heap.size, 1, none⟩ = false := G0.out.g.free 1
   have n1 : ¬ w.heap.size = w1.heap.size := by omega
   have n2 : ¬ b1 = w1.heap.size := by omega
   have n3 : ¬ br = w1.heap.size := by omega
   have n4 : ¬ w1.heap.size = w.heap.size := by omega
   have n5 : ¬ w1.heap.size = b1 := by omega
   have n6 : ¬ w1.heap.size = br := by omega
   clear G0
   go_region_held3 (fun w' => w'.cell? ⟨w.heap.size, 1, none⟩ = some (.slice (some ⟨br, orr, none⟩) rn rc) ∧ w'.cell? ⟨b1, o1, none⟩ = some (.int .i64 (f : Int)) ∧ w'.cell? ⟨br, orr + f, none⟩ = some (.int .i64 r)) (go_keep) ((fail))
   all_goals
    go_wp2_with fail
    go_meet
    exact ⟨rfl, G1.out _⟩
  case rest =>
   rename World => wc
   obtain ⟨rfl, G0'⟩ := hcut
   clear G0 cx cr k1 g1
   have G0 := hid G0'
   clear G0'
   have g0 : wc.cell? ⟨w1.heap.size, 0, none⟩ = some (.int .i64 z) := G0.out.g.cell 0
   have g1 : wc.cell? ⟨w1.heap.size, 1, none⟩ = some (.int .i64 r) := G0.out.g.cell 1
   have F := hid (show AnsG w (wt v sy t) (gr rk t) (.returned (.agg #[.int .i64 z, .int .i64 r])) (wc.setRow (w.heap.size + 1) #[.int .i64 z, .int .i64 r]) from ⟨by rw [HZW.out, ER.out], below_setRow G0.out.l (by omega) G0.out.l.size⟩)
   have hz := G0.out.z
   have h3 := Row.setRow G0.out.z #[.int .i64 z, .int .i64 r]
   unfold Row at hz
   have HZ := hid hz
   have H3 := hid h3
   clear hz h3 G0
   go_wp2_with (first
    | (refine rowStore rfl 135 _ _ rfl (w.heap.size + 1) #[.int .i64 z, .int .i64 r] #[.int .i64 0, .int .i64 0] 135 rfl rfl HZ.out size_g rfl (by simp [Value.oneCell']) ?_))
   (try simp only [Exit.inBlock, Exit.then])
   have u0 := Row.cell H3.out 0
   have u1 := Row.cell H3.out 1
   simp at u0 u1
   exact bodyPost_ret (v := .agg #[.int .i64 z, .int .i64 r]) (by simp [results, Try.results113, go_sem, u0, u1]) rfl F.out
end kboGrade
end
end Go.Proofs.Ytiimbmkofpnebaa
