/-
  MERGED: my texts PlainOf, DrawSS, SameSubst, CompMath, Filled, PlainFacts, Big, WFnPlain, one behind the other, as they are. By an AI agent.
-/
import Derived.Test.YtdeegjeopkcomaaMFnPlain3
import Derived.Deep.DeepMust
import Derived.Deep.RegionHeld3
import Derived.Deep.AppendLies
section
/-
  CONTRACTS: spec.l2Plain, spec.PlainOf, impl.PlainOf. Conditions: the slices read as lists ('Seg', 'Segs'), at most 1048576 values. By an AI agent.
-/
namespace Go.Proofs.Ytdeegjeopkcomaa.plainOf
open Go.RowKit Go.Proofs.Ytdeegjeopkcomaa.base Go.Proofs.Ytdeegjeopkcomaa.ints Go.Proofs.Ytdeegjeopkcomaa.sig Go.Proofs.Ytdeegjeopkcomaa.cursor Go.Proofs.Ytdeegjeopkcomaa.marks Go.Proofs.Ytdeegjeopkcomaa.app Go.Proofs.Ytdeegjeopkcomaa.appAt Go.Proofs.Ytdeegjeopkcomaa.sym Go.Proofs.Ytdeegjeopkcomaa.sub Go.Proofs.Ytdeegjeopkcomaa.segs Go.Proofs.Ytdeegjeopkcomaa.segsHelp Go.Proofs.Ytdeegjeopkcomaa.kinds Go.Proofs.Ytdeegjeopkcomaa.varsOf Go.Proofs.Ytdeegjeopkcomaa.fillMath Go.Proofs.Ytdeegjeopkcomaa.look Go.Proofs.Ytdeegjeopkcomaa.substOk Go.Proofs.Ytdeegjeopkcomaa.gives Go.Proofs.Ytdeegjeopkcomaa.plainMath Go.Proofs.Ytdeegjeopkcomaa.plain
set_option maxRecDepth 100000

theorem own_one {w : World} {base : Nat} {D : Option Addr} {c : Nat} {x : Int} (h : Own w base (.slice D 1 c) [x]) : ∃ g, D = some ⟨g, 0, none⟩ ∧ w.cell? ⟨g, 0, none⟩ = some (.int .i64 x) := by
  rcases own_form (n := 1) (vs := [x].map (Value.int .i64)) h with ⟨_, h1, _⟩ | ⟨g, cur, e, _, hr, _, _, _, _, hc⟩
  · omega
  · refine ⟨g, e, ?_⟩
    rw [hr.cell 0, hc 0 (by omega)]
    rfl
theorem Owns.shrink {w : World} {lo hi m n c : Nat} {A : Option Addr} {xss : List (List Int)} (h : Owns w lo hi A m c xss) (hn : n ≤ m) : Owns w lo hi A n c (xss.take n) := by
  obtain ⟨h1, ⟨vs, hr, hin, hap⟩, h3⟩ := h
  rcases own_form hr with ⟨rfl, h0, rfl, rfl⟩ | ⟨g, cur, rfl, hlo, hrow, hmc, hsz, hmax, hlen, hc⟩
  · obtain rfl : n = 0 := by omega
    simpa using Owns.nil w lo hi
  · have e1 : ∀ j, j < n → (cur.toList.take n).getD j undef = vs.getD j undef := fun j hj => by
      have := hc j (by omega)
      simp [List.getD, List.getElem?_take, hj, this]
    have e2 : ∀ j, j < n → (xss.take n).getD j [] = xss.getD j [] := fun j hj => by simp [List.getD, List.getElem?_take, hj]
    refine ⟨by rw [List.length_take, h1]; omega, ⟨_, rowsOf hrow hsz (by omega) hmax hlo, fun j hj => ?_, fun i j k hij hj a b => ?_⟩, h3⟩
    · rw [e1 j hj, e2 j hj]
      exact hin j (by omega)
    · rw [e1 i (by omega)] at a
      rw [e1 j hj] at b
      exact hap i j k hij (by omega) a b

/-- the head of l2Plain's first loop -/
def HeadL1 (w : World) (S : Option Addr) (m c : Nat) (ss : List (List Int)) (i : Value) (wr : World) : Prop :=
  ∃ (k : Nat) (A : Option Addr) (cA : Nat), k ≤ m ∧ i = .int .i64 k ∧ Owns wr (w.heap.size + 3) wr.heap.size A k cA (rowsL (givesL ss) k) ∧ Row wr w.heap.size 29 #[.slice S m c] ∧ Row wr (w.heap.size + 1) 29 #[.slice none 0 0] ∧
    Row wr (w.heap.size + 2) 29 #[.slice A k cA] ∧ Below w.heap.size w wr
theorem headL1_step {w wr w1 w5 w6 : World} {S A A' : Option Addr} {m c k cA c' : Nat} {ss : List (List Int)} (hk : k < m) (ho : Owns w6 (w.heap.size + 3) w6.heap.size A' (k + 1) c' (rowsL (givesL ss) (k + 1)))
    (r0 : Row wr w.heap.size 29 #[.slice S m c]) (r1 : Row wr (w.heap.size + 1) 29 #[.slice none 0 0]) (r2 : Row wr (w.heap.size + 2) 29 #[.slice A k cA]) (hb : Below w.heap.size w wr)
    (b1 : Below wr.heap.size wr w1) (b5 : Below w1.heap.size w1 w5) (hg : w5.grownBy w6 (blk A)) (hA : ∀ z, blk A = some z → w.heap.size + 3 ≤ z) :
    HeadL1 w S m c ss (.int .i64 ((k : Int) + 1)) (w6.setCell ⟨w.heap.size + 2, 0, none⟩ (.slice A' (k + 1) c')) := by
  have bb := next_trans b1 b5
  have q0 := Row.away (r0.next bb) hg (fun e => by have := hA _ e; omega)
  have q1 := Row.away (r1.next bb) hg (fun e => by have := hA _ e; omega)
  have q2 := Row.away (r2.next bb) hg (fun e => by have := hA _ e; omega)
  have hbb : Below w.heap.size w w6 := (hb.trans (bb.mono hb.size)).grown hg (by have := hb.size; have := bb.size; omega) (fun z hz => by have := hA z hz; omega)
  refine ⟨k + 1, A', c', hk, by simp, ?_, q0.far (by simp) _, q1.far (by simp) _, ?_, hbb.setCell (by simp) _⟩
  · have := owns_put ho q2 (by omega) 0 (.slice A' (k + 1) c')
    simpa using this
  · have := q2.put 0 (.slice A' (k + 1) c')
    simpa using this

/-- the head of the loop that shortens -/
def HeadL2 (w : World) (L : Nat → List Int) (m : Nat) (A : Option Addr) (cA : Nat) (p : Value) (wr : World) : Prop :=
  ∃ n : Nat, n ≤ m ∧ p = .pointer (some ⟨w.heap.size + 2, 0, none⟩) ∧ strip ((rowsL L m).take n) = plainL L m ∧ Owns wr (w.heap.size + 3) wr.heap.size A m cA (rowsL L m) ∧ Row wr (w.heap.size + 1) 29 #[.slice none 0 0] ∧
    Row wr (w.heap.size + 2) 29 #[.slice A n cA] ∧ Below w.heap.size w wr
def lenAt (w : World) (p : Addr) : Nat := match w.cell? p with
  | some (.slice _ n _) => n
  | _ => 0
theorem headL2_end {w wr : World} {L : Nat → List Int} {m n cA : Nat} {A : Option Addr} (hn : n ≤ m) (hs : strip ((rowsL L m).take n) = plainL L m) (ho : Owns wr (w.heap.size + 3) wr.heap.size A m cA (rowsL L m))
    (r1 : Row wr (w.heap.size + 1) 29 #[.slice none 0 0]) (hb : Below w.heap.size w wr) (hend : n = 0 ∨ (rowsL L m).getD (n - 1) [] ≠ []) :
    AnsSubst w (plainL L m) (.returned (.agg #[.slice A n cA])) (wr.setCell ⟨w.heap.size + 1, 0, none⟩ (.slice A n cA)) := by
  have e : (rowsL L m).take n = plainL L m := by
    rw [← hs]
    rcases hend with rfl | h
    · simp [strip]
    · by_cases h0 : n = 0
      · subst h0; simp [strip]
      · have := strip_last (l := rowsL L m) (q := n - 1) (by rw [rows_len]; omega) h
        rw [show n - 1 + 1 = n by omega] at this
        exact this.symm
  have h1 := Owns.shrink (owns_put ho r1 (by omega) 0 (.slice A n cA)) hn
  rw [e] at h1
  exact ⟨A, n, cA, rfl, h1.wider (by omega) (by simp), hb.setCell (by simp) _⟩

set_option maxHeartbeats 8000000 in
theorem l2Plain (S : Option Addr) (m c : Nat) (ss : List (List Int)) (w : World) (h : Segs w w.heap.size S m ss) (ht : tot ss ≤ 1048576) :
    Calls Try.prog 93 #[.agg #[.slice S m c]] w (AnsSubst w (plainL (givesL ss) m)) := by
  have HT := Lib.hid ht
  have hm : m ≤ 1048576 := tot_len h.1 ht
  have HE := Lib.hid (tot_each ht)
  clear ht
  go_enter Try.func93, Try.ntmps93
  go_wp2_with fail
  go_loopw [4] (fun i wr => HeadL1 w S m c ss i wr) (fun i _ => m - (intOf i).toNat)
  case atStart =>
    have b0 : Below w.heap.size w (((w.alloc (.cells #[.slice S m c] 29)).alloc (.cells #[.slice none 0 0] 29)).alloc (.cells #[.slice none 0 0] 29)) := (((Below.refl _ _).alloc (Nat.le_refl _) _).alloc (by simp) _).alloc (by simp; omega) _
    have q1 := Row.new (w.alloc (.cells #[.slice S m c] 29)) 29 #[.slice none 0 0]
    have q2 := Row.new ((w.alloc (.cells #[.slice S m c] 29)).alloc (.cells #[.slice none 0 0] 29)) 29 #[.slice none 0 0]
    refine ⟨0, none, 0, Nat.zero_le _, rfl, by simpa [rowsL] using Owns.nil _ _ _, ((Row.new w 29 #[.slice S m c]).alloc _).alloc _, ?_, ?_, b0⟩
    · have := q1.alloc (.cells #[.slice none 0 0] 29); simpa using this
    · simpa using q2
  case round =>
    obtain ⟨k, A, cA, hk, rfl, ho, r0, r1, r2, hb⟩ := hrel
    have c0 : wr.cell? ⟨w.heap.size, 0, none⟩ = some (.slice S m c) := r0.cell 0
    have cO : wr.cell? ⟨w.heap.size + 2, 0, none⟩ = some (.slice A k cA) := r2.cell 0
    have i0 : (0 : Int) ≤ (k : Int) := by omega
    by_cases hlt : k < m
    · have i1 : (k : Int) < (m : Int) := by omega
      have LG := Lib.hid (l2Gives S m c ss k wr ((h.below hb).more hb.size) HT.out (by omega))
      have HA : Hid (∀ z, blk A = some z → w.heap.size + 3 ≤ z) := Lib.hid (fun z hz => by
        obtain ⟨vs, hown, _⟩ := ho.row
        exact (World.ownsRow.lt hown z (by rw [blk_own]; exact hz)).1)
      have hw1 : IntKind.i64.wrap (-1 - (k : Int)) = -1 - (k : Int) := by rw [IntKind.wrap_i64]; omega
      have hrl := r2.lt
      obtain ⟨ys, hys⟩ : ∃ ys, givesL ss k = ys := ⟨_, rfl⟩
      rw [hys] at LG
      have hlen : ys.length ≤ 1048576 := by
        rw [← hys]
        unfold givesL
        split
        · simp [vt]
        · exact HE.out k
      have RS := Lib.hid (rows_succ (givesL ss) k)
      by_cases h1 : ys.length = 1
      · obtain ⟨x, rfl⟩ : ∃ x, ys = [x] := by
          match ys, h1 with
          | [x], _ => exact ⟨x, rfl⟩
        by_cases hx : x = -1 - (k : Int)
        · have RB := Lib.hid (show bare (givesL ss) k = [] by unfold bare; rw [if_pos (by rw [hys, hx]; rfl)])
          have DX : (x == -1 - (k : Int)) = true := by simp [hx]
          clear hx hys
          go_wp2_with (first
            | (go_at_call 75; go_must (refine LG.out.mono ?_; rintro e w1 ⟨D, dn, dc, rfl, od, bb⟩; obtain rfl : dn = 1 := Own.len od; obtain ⟨gD, rfl, cD⟩ := own_one od; have cO1 : w1.cell? ⟨w.heap.size + 2, 0, none⟩ = some (.slice A k cA) := (r2.next bb).cell 0; have e5 : ((w1.alloc (.cells #[] 2)).alloc (.cells #[.slice (some ⟨w1.heap.size, 0, none⟩) 0 0] 24)).cell? ⟨w1.heap.size + 1, 0, none⟩ = some (.slice (some ⟨w1.heap.size, 0, none⟩) 0 0) := (by simp); have c15 : (w1.alloc (.cells #[] 2)).cell? ⟨w.heap.size + 2, 0, none⟩ = some (.slice A k cA) := ((r2.next bb).alloc (.cells #[] 2)).cell 0; have B5 : Below w1.heap.size w1 ((w1.alloc (.cells #[] 2)).alloc (.cells #[.slice (some ⟨w1.heap.size, 0, none⟩) 0 0] 24)) := ((Below.refl _ _).alloc (Nat.le_refl _) _).alloc (by simp) _; have hz5 := B5.size; have hz1 := bb.size; have ho5 := (ho.next bb).next B5; have i5 : Inn ((w1.alloc (.cells #[] 2)).alloc (.cells #[.slice (some ⟨w1.heap.size, 0, none⟩) 0 0] 24)) wr.heap.size ((w1.alloc (.cells #[] 2)).alloc (.cells #[.slice (some ⟨w1.heap.size, 0, none⟩) 0 0] 24)).heap.size (.slice (some ⟨w1.heap.size, 0, none⟩) 0 0) [] := Inn.wider ((inn_own (own_empty w1 wr.heap.size bb.size)).next ((Below.refl _ _).alloc (Nat.le_refl _) _)) (Nat.le_refl _) (by simp); have r25 := (r2.next bb).next B5; have c25 : ((w1.alloc (.cells #[] 2)).alloc (.cells #[.slice (some ⟨w1.heap.size, 0, none⟩) 0 0] 24)).cell? ⟨w.heap.size + 2, 0, none⟩ = some (.slice A k cA) := r25.cell 0))
            | (at_builtin; go_must (refine appS1 rfl _ _ rfl (w.heap.size + 3) wr.heap.size A k cA (rowsL (givesL ss) k) rfl ho5 _ 1 (.slice (some ⟨w1.heap.size, 0, none⟩) 0 0) [] rfl e5 i5 (by omega) (by omega) (by omega) ?_; intro A' c' w6 ho6 hg6 hat6 b6; have q2 := Row.away r25 hg6 (fun e => by have := HA.out _ e; omega); have c26 : w6.cell? ⟨w.heap.size + 2, 0, none⟩ = some (.slice A k cA) := q2.cell 0; have f26 : w6.frozen? ⟨w.heap.size + 2, 0, none⟩ = false := q2.free 0)))
          have S := Lib.hid (headL1_step (ss := ss) hlt (by rw [RS.out, RB.out]; exact ho6) r0 r1 r2 hb bb B5 hg6 HA.out)
          clear ho6 hg6 hat6 b6 ho5 i5 r25 c25 c15 q2 od bb B5 r0 r1 r2 hb ho RS RB LG cO1
          go_wp2
          go_roundw
          case rel => exact S.out
          case measure => simp [intOf]; omega
        · have RB := Lib.hid (show bare (givesL ss) k = [x] by unfold bare; rw [if_neg (by rw [hys]; unfold vt; intro e; injection e with e; exact hx e), hys])
          have DX : (x == -1 - (k : Int)) = false := by simp [hx]
          clear hx hys
          go_wp2_with (first
            | (go_at_call 75; refine LG.out.mono ?_; rintro e w1 ⟨D, dn, dc, rfl, od, bb⟩; obtain rfl : dn = 1 := Own.len od; obtain ⟨gD, rfl, cD⟩ := own_one od; have cO1 : w1.cell? ⟨w.heap.size + 2, 0, none⟩ = some (.slice A k cA) := (r2.next bb).cell 0; have B5 : Below w1.heap.size w1 (w1.alloc (.cells #[.slice (some ⟨gD, 0, none⟩) 1 dc] 24)) := (Below.refl _ _).alloc (Nat.le_refl _) _; have hz5 := B5.size; have hz1 := bb.size; have ho5 := (ho.next bb).next B5; have i5 : Inn (w1.alloc (.cells #[.slice (some ⟨gD, 0, none⟩) 1 dc] 24)) wr.heap.size (w1.alloc (.cells #[.slice (some ⟨gD, 0, none⟩) 1 dc] 24)).heap.size (.slice (some ⟨gD, 0, none⟩) 1 dc) [x] := Inn.wider ((inn_own od).next ((Below.refl _ _).alloc (Nat.le_refl _) _)) (Nat.le_refl _) (by simp); have r25 := (r2.next bb).next B5; have c25 : (w1.alloc (.cells #[.slice (some ⟨gD, 0, none⟩) 1 dc] 24)).cell? ⟨w.heap.size + 2, 0, none⟩ = some (.slice A k cA) := r25.cell 0)
            | (at_builtin; refine appS1 rfl _ _ rfl (w.heap.size + 3) wr.heap.size A k cA (rowsL (givesL ss) k) rfl ho5 _ 1 (.slice (some ⟨gD, 0, none⟩) 1 dc) [x] rfl ((Row.new _ _ _).cell 0) i5 (by omega) (by omega) (by omega) ?_; intro A' c' w6 ho6 hg6 hat6 b6; have q2 := Row.away r25 hg6 (fun e => by have := HA.out _ e; omega); have c26 : w6.cell? ⟨w.heap.size + 2, 0, none⟩ = some (.slice A k cA) := q2.cell 0; have f26 : w6.frozen? ⟨w.heap.size + 2, 0, none⟩ = false := q2.free 0))
          have S := Lib.hid (headL1_step (ss := ss) hlt (by rw [RS.out, RB.out]; exact ho6) r0 r1 r2 hb bb B5 hg6 HA.out)
          clear ho6 hg6 hat6 b6 ho5 i5 r25 c25 q2 od bb B5 r0 r1 r2 hb ho RS RB LG cO1
          go_wp2
          go_roundw
          case rel => exact S.out
          case measure => simp [intOf]; omega
      · have RB := Lib.hid (show bare (givesL ss) k = ys by unfold bare; rw [if_neg (by rw [hys]; unfold vt; intro e; rw [e] at h1; exact h1 rfl), hys])
        clear hys
        go_wp2_with (first
          | (go_at_call 75; refine LG.out.mono ?_; rintro e w1 ⟨D, dn, dc, rfl, od, bb⟩; have hdn : ¬ dn = 1 := (by rw [Own.len od]; exact h1); have hdz : ¬ (dn : Int) = 1 := (by omega); have hdb : (((dn : Nat) : Int) == 1) = false := (by simp; omega); have cO1 : w1.cell? ⟨w.heap.size + 2, 0, none⟩ = some (.slice A k cA) := (r2.next bb).cell 0; have B5 : Below w1.heap.size w1 (w1.alloc (.cells #[.slice D dn dc] 24)) := (Below.refl _ _).alloc (Nat.le_refl _) _; have hz5 := B5.size; have hz1 := bb.size; have ho5 := (ho.next bb).next B5; have i5 : Inn (w1.alloc (.cells #[.slice D dn dc] 24)) wr.heap.size (w1.alloc (.cells #[.slice D dn dc] 24)).heap.size (.slice D dn dc) ys := Inn.wider ((inn_own od).next ((Below.refl _ _).alloc (Nat.le_refl _) _)) (Nat.le_refl _) (by simp); have r25 := (r2.next bb).next B5; have c25 : (w1.alloc (.cells #[.slice D dn dc] 24)).cell? ⟨w.heap.size + 2, 0, none⟩ = some (.slice A k cA) := r25.cell 0)
          | (at_builtin; refine appS1 rfl _ _ rfl (w.heap.size + 3) wr.heap.size A k cA (rowsL (givesL ss) k) rfl ho5 _ 1 (.slice D dn dc) ys rfl ((Row.new _ _ _).cell 0) i5 (by omega) (by omega) (by omega) ?_; intro A' c' w6 ho6 hg6 hat6 b6; have q2 := Row.away r25 hg6 (fun e => by have := HA.out _ e; omega); have c26 : w6.cell? ⟨w.heap.size + 2, 0, none⟩ = some (.slice A k cA) := q2.cell 0; have f26 : w6.frozen? ⟨w.heap.size + 2, 0, none⟩ = false := q2.free 0))
        have S := Lib.hid (headL1_step (ss := ss) hlt (by rw [RS.out, RB.out]; exact ho6) r0 r1 r2 hb bb B5 hg6 HA.out)
        clear ho6 hg6 hat6 b6 ho5 i5 r25 c25 q2 od bb B5 r0 r1 r2 hb ho RS RB LG cO1
        go_wp2
        go_roundw
        case rel => exact S.out
        case measure => simp [intOf]; omega
    · obtain rfl : k = m := by omega
      have HC := Lib.hid ho.cap
      have H2 : HeadL2 w (givesL ss) k A cA (.pointer (some ⟨w.heap.size + 2, 0, none⟩)) wr := ⟨k, Nat.le_refl _, rfl, by rw [List.take_of_length_le (by rw [rows_len]; exact Nat.le_refl _)]; rfl, ho, r1, r2, hb⟩
      have HH2 := Lib.hid H2
      have hc1 : cA ≤ 9223372036854775807 := ho.cap.2.1
      have hc0 : k ≤ cA := ho.cap.1
      clear H2 ho r0 r1 r2 hb cO h
      go_wp2_with fail
      go_loopw [] (fun wr => HeadL2 w (givesL ss) k A cA (.pointer (some ⟨w.heap.size + 2, 0, none⟩)) wr) (fun wr => lenAt wr ⟨w.heap.size + 2, 0, none⟩)
      case atStart => exact HH2.out
      case round =>
        obtain ⟨n, hn, -, hs, ho, r1, r2, hb⟩ := hrel
        clear HH2
        have cO : wr.cell? ⟨w.heap.size + 2, 0, none⟩ = some (.slice A n cA) := r2.cell 0
        have fO : wr.frozen? ⟨w.heap.size + 2, 0, none⟩ = false := r2.free 0
        have cR : wr.cell? ⟨w.heap.size + 1, 0, none⟩ = some (.slice none 0 0) := r1.cell 0
        have fR : wr.frozen? ⟨w.heap.size + 1, 0, none⟩ = false := r1.free 0
        by_cases h0 : n = 0
        · subst h0
          have F := Lib.hid (headL2_end hn hs ho r1 hb (.inl rfl))
          clear hs ho r1 r2 hb
          go_wp2
          exact bodyPost_ret (v := .agg #[.slice A 0 cA]) (by simp [results, Try.results93, go_sem, cR]) rfl F.out
        · obtain ⟨p, rfl⟩ : ∃ p, n = p + 1 := ⟨n - 1, by omega⟩
          obtain ⟨b, off, A', q, cq, rfl, hbb, hx, hseg, hcap⟩ := ho.segs.spot (k := p) (by omega)
          have p0 : (0 : Int) ≤ (p : Int) := by omega
          have p1 : ((p + 1 : Nat) : Int) - 1 = (p : Int) := by omega
          have p2 : (p : Int) ≤ (cA : Int) := by omega
          have p3 : (p : Int) < ((p + 1 : Nat) : Int) := by omega
          have p4 : (0 : Int) < ((p + 1 : Nat) : Int) := by omega
          have hw2 : IntKind.i64.wrap (p : Int) = (p : Int) := by rw [IntKind.wrap_i64]; omega
          by_cases hq : q = 0
          · subst hq
            have hnil : (rowsL (givesL ss) k).getD p [] = [] := List.eq_nil_of_length_eq_zero hseg.1
            have S1 : HeadL2 w (givesL ss) k (some ⟨b, off, none⟩) cA (.pointer (some ⟨w.heap.size + 2, 0, none⟩)) (wr.setCell ⟨w.heap.size + 2, 0, none⟩ (.slice (some ⟨b, off, none⟩) p cA)) := by
              refine ⟨p, by omega, rfl, by rw [← strip_drop (by rw [rows_len]; omega) hnil]; exact hs, ?_, r1.far (by simp) _, ?_, hb.setCell (by simp) _⟩
              · have := owns_put ho r2 (by omega) 0 (.slice (some ⟨b, off, none⟩) p cA)
                simpa using this
              · have := r2.put 0 (.slice (some ⟨b, off, none⟩) p cA)
                simpa using this
            have HS1 := Lib.hid S1
            have E1 : (wr.setCell ⟨w.heap.size + 2, 0, none⟩ (.slice (some ⟨b, off, none⟩) p cA)).cell? ⟨w.heap.size + 2, 0, none⟩ = some (.slice (some ⟨b, off, none⟩) p cA) := by have := (r2.put 0 (.slice (some ⟨b, off, none⟩) p cA)).cell 0; simpa using this
            have HLT := Lib.hid (show lenAt (wr.setCell ⟨w.heap.size + 2, 0, none⟩ (.slice (some ⟨b, off, none⟩) p cA)) ⟨w.heap.size + 2, 0, none⟩ < lenAt wr ⟨w.heap.size + 2, 0, none⟩ by simp only [lenAt, E1, cO]; omega)
            clear S1 E1 hs ho r1 r2 hb hseg hcap hnil
            go_wp2
            go_roundw
            case rel => exact HS1.out
            case measure => exact HLT.out
          · have hq1 : (0 : Int) < (q : Int) := by omega
            have F := Lib.hid (headL2_end hn hs ho r1 hb (.inr (fun e => by rw [show p + 1 - 1 = p by omega] at e; rw [e] at hseg; exact hq hseg.1.symm)))
            clear hs ho r1 r2 hb hseg hcap
            go_wp2
            exact bodyPost_ret (v := .agg #[.slice (some ⟨b, off, none⟩) (p + 1) cA]) (by simp [results, Try.results93, go_sem, cR]) rfl F.out

/-- what PlainOf answers -/
def plainI (sg : List Int) (ss : List (List Int)) : List (List Int) := if substOkB sg ss = true then plainL (givesL ss) ss.length else []
theorem plain_yes {sg : List Int} {ss : List (List Int)} (h : substOkB sg ss = true) : plainI sg ss = plainL (givesL ss) ss.length := by unfold plainI; rw [if_pos h]
theorem plain_no {sg : List Int} {ss : List (List Int)} (h : substOkB sg ss = false) : plainI sg ss = [] := by unfold plainI; rw [if_neg (by rw [h]; simp)]
theorem tot_le {xss : List (List Int)} {M : Nat} (h : ∀ j, (xss.getD j []).length ≤ M) : tot xss ≤ xss.length + xss.length * M := by
  have : ∀ k, k ≤ xss.length → sumL xss k ≤ k * M := fun k => by
    induction k with
    | zero => intro _; simp [sumL]
    | succ k ih =>
      intro hk
      rw [sumL_succ (by omega)]
      have h1 := ih (by omega)
      have h2 := h k
      rw [Nat.succ_mul]
      omega
  unfold tot
  have := this xss.length (Nat.le_refl _)
  omega
theorem plainI_tot {sg : List Int} {ss : List (List Int)} : tot (plainI sg ss) ≤ 1048576 := by
  cases h : substOkB sg ss with
  | false => rw [plain_no h]; simp [tot, sumL]
  | true =>
    rw [plain_yes h]
    have h1 := tot_le (plain_each (L := givesL ss) (m := ss.length) (gives_len h))
    have h2 := plain_len (givesL ss) ss.length
    have h3 := (substOk_parts h).2.1
    have h4 : (plainL (givesL ss) ss.length).length * 60 ≤ 24 * 60 := Nat.mul_le_mul_right _ (by omega)
    omega
/-- three boxes: two parameters and the result -/
theorem boxes3 (w : World) (A : Option Addr) (n c : Nat) (S : Option Addr) (m c' : Nat) : ∃ W, W = ((w.alloc (.cells #[.slice A n c] 26)).alloc (.cells #[.slice S m c'] 29)).alloc (.cells #[.slice none 0 0] 29) ∧
    Row W w.heap.size 26 #[.slice A n c] ∧ Row W (w.heap.size + 1) 29 #[.slice S m c'] ∧ Row W (w.heap.size + 2) 29 #[.slice none 0 0] ∧ Below w.heap.size w W ∧ w.heap.size + 2 < W.heap.size := by
  obtain ⟨W, hW, r1, r2, b⟩ := boxes2 w A n c S m c'
  have hz : W.heap.size = w.heap.size + 2 := by rw [hW]; simp
  refine ⟨_, rfl, ?_, ?_, ?_, ?_, ?_⟩
  · rw [← hW]; exact r1.alloc _
  · rw [← hW]; exact r2.alloc _
  · rw [← hW, ← hz]; exact Row.new _ _ _
  · rw [← hW]; exact b.alloc b.size _
  · rw [← hW]; simp; omega

set_option maxHeartbeats 2000000 in
theorem specPlainOf (A S : Option Addr) (n c m c' : Nat) (sg : List Int) (ss : List (List Int)) (w : World) (h : Seg w w.heap.size A n sg) (h' : Segs w w.heap.size S m ss) (hn : n ≤ 1048576) (ht : tot ss ≤ 1048576) :
    Calls Try.prog 46 #[.agg #[.slice A n c], .agg #[.slice S m c']] w (AnsSubst w (plainI sg ss)) := by
  obtain ⟨W, hW, rA, rS, rR, bel, hz⟩ := boxes3 w A n c S m c'
  have HW := Lib.hid hW
  have HL := Lib.hid h'.1
  have s := h.next bel
  have s1 := h'.next bel
  have L := Lib.hid (specSubstOk A S n c m c' sg ss W s s1 hn ht)
  clear hW h h'
  cases hok : substOkB sg ss with
  | false =>
    have HS := Lib.hid hok
    clear hok s s1
    go_enter Try.func46, Try.ntmps46
    go_wp2_with fail
    rw [← HW.out]
    refine L.out.mono ?_
    rintro e w1 ⟨he, bb⟩
    rw [HS.out] at he
    subst he
    have r1 := rR.next bb
    have cR : w1.cell? ⟨w.heap.size + 2, 0, none⟩ = some (.slice none 0 0) := r1.cell 0
    have fR : w1.frozen? ⟨w.heap.size + 2, 0, none⟩ = false := r1.free 0
    have F : ∀ w2, Below w.heap.size w w2 → AnsSubst w (plainI sg ss) (.returned (.agg #[.slice none 0 0])) w2 := fun w2 h2 => ⟨none, 0, 0, rfl, by rw [plain_no HS.out]; exact Owns.nil _ _ _, h2⟩
    have F1 := Lib.hid (F w1 (next_trans bel bb))
    have F2 := Lib.hid (F _ ((next_trans bel bb).setCell (by simp) (.slice none 0 0) (p := ⟨w.heap.size + 2, 0, none⟩)))
    clear bb bel rA rS rR r1 F
    go_wp2
    first
      | exact bodyPost_ret (v := .agg #[.slice none 0 0]) (by simp [results, Try.results46, go_sem, cR]) rfl F1.out
      | exact bodyPost_ret (v := .agg #[.slice none 0 0]) (by simp [results, Try.results46, go_sem, cR]) rfl F2.out
  | true =>
    have HS := Lib.hid hok
    clear hok
    go_enter Try.func46, Try.ntmps46
    go_wp2_with fail
    rw [← HW.out]
    refine L.out.mono ?_
    rintro e w1 ⟨he, bb⟩
    rw [HS.out] at he
    subst he
    have r1 := rR.next bb
    have cS : w1.cell? ⟨w.heap.size + 1, 0, none⟩ = some (.slice S m c') := (rS.next bb).cell 0
    have L2 := Lib.hid (l2Plain S m c' ss w1 (s1.next bb) ht)
    have bel1 := next_trans bel bb
    clear L s s1 rA rS
    go_wp2_with fail
    refine L2.out.mono ?_
    rintro e w2 ⟨O, on, oc, rfl, ho, b2⟩
    have r2 := r1.next b2
    have cR : w2.cell? ⟨w.heap.size + 2, 0, none⟩ = some (.slice none 0 0) := r2.cell 0
    have fR : w2.frozen? ⟨w.heap.size + 2, 0, none⟩ = false := r2.free 0
    have hz1 := r1.lt
    have F : AnsSubst w (plainI sg ss) (.returned (.agg #[.slice O on oc])) (w2.setCell ⟨w.heap.size + 2, 0, none⟩ (.slice O on oc)) :=
      ⟨O, on, oc, rfl, by rw [plain_yes HS.out, HL.out]; exact (owns_put ho r2 hz1 0 _).wider (by omega) (by simp), (next_trans bel1 b2).setCell (by simp) _⟩
    have HF := Lib.hid F
    clear F bb bel bel1 b2 rR r1 r2 ho cS L2
    go_wp2
    exact bodyPost_ret (v := .agg #[.slice O on oc]) (by simp [results, Try.results46, go_sem, cR]) rfl HF.out

set_option maxHeartbeats 2000000 in
theorem implPlainOf (A S : Option Addr) (n c m c' : Nat) (sg : List Int) (ss : List (List Int)) (w : World) (h : Seg w w.heap.size A n sg) (h' : Segs w w.heap.size S m ss) (hn : n ≤ 1048576) (ht : tot ss ≤ 1048576) :
    Calls Try.prog 26 #[.agg #[.slice A n c], .agg #[.slice S m c']] w (AnsSubst w (plainI sg ss)) := by
  obtain ⟨W, hW, rA, rS, rR, bel, hz⟩ := boxes3 w A n c S m c'
  have HW := Lib.hid hW
  have HL := Lib.hid h'.1
  have hm : m ≤ 1048576 := tot_len h'.1 ht
  have s := h.next bel
  have s1 := h'.next bel
  have L := Lib.hid (implSubstOk A S n c m c' sg ss W s s1 hn ht)
  clear hW h h'
  cases hok : substOkB sg ss with
  | false =>
    have HS := Lib.hid hok
    clear hok s s1
    go_enter Try.func26, Try.ntmps26
    go_wp2_with fail
    rw [← HW.out]
    refine L.out.mono ?_
    rintro e w1 ⟨he, bb⟩
    rw [HS.out] at he
    subst he
    have r1 := rR.next bb
    have cR : w1.cell? ⟨w.heap.size + 2, 0, none⟩ = some (.slice none 0 0) := r1.cell 0
    have fR : w1.frozen? ⟨w.heap.size + 2, 0, none⟩ = false := r1.free 0
    have F : ∀ w2, Below w.heap.size w w2 → AnsSubst w (plainI sg ss) (.returned (.agg #[.slice none 0 0])) w2 := fun w2 h2 => ⟨none, 0, 0, rfl, by rw [plain_no HS.out]; exact Owns.nil _ _ _, h2⟩
    have F1 := Lib.hid (F w1 (next_trans bel bb))
    have F2 := Lib.hid (F _ ((next_trans bel bb).setCell (by simp) (.slice none 0 0) (p := ⟨w.heap.size + 2, 0, none⟩)))
    clear bb bel rA rS rR r1 F
    go_wp2
    first
      | exact bodyPost_ret (v := .agg #[.slice none 0 0]) (by simp [results, Try.results26, go_sem, cR]) rfl F1.out
      | exact bodyPost_ret (v := .agg #[.slice none 0 0]) (by simp [results, Try.results26, go_sem, cR]) rfl F2.out
  | true =>
    have HS := Lib.hid hok
    have HP := Lib.hid (show plainL (givesL ss) 24 = plainI sg ss by rw [plain_yes hok, HL.out]; exact plain_24 (by have := (substOk_parts hok).2.1; rw [HL.out] at this; exact this) (fun i hi => gives_out (by rw [HL.out]; omega)))
    have HG := Lib.hid (gives_len hok)
    clear hok
    go_enter Try.func26, Try.ntmps26
    go_wp2_with fail
    rw [← HW.out]
    refine L.out.mono ?_
    rintro e w1 ⟨he, bb⟩
    rw [HS.out] at he
    subst he
    have r1 := rR.next bb
    have cS : w1.cell? ⟨w.heap.size + 1, 0, none⟩ = some (.slice S m c') := (rS.next bb).cell 0
    have bel1 := next_trans bel bb
    replace s1 := s1.next bb
    clear L s rA rS
    go_wp2_with fail
    refine (lookupIn S m c' w1).mono ?_
    rintro e w3 ⟨rfl, hw3⟩
    have b3 : Below w1.heap.size w1 w3 := by rw [hw3]; exact (Below.refl _ _).alloc (Nat.le_refl _) _
    have r3 : Row w3 w1.heap.size 29 #[.slice S m c'] := by rw [hw3]; exact Row.new _ _ _
    replace s1 := s1.next b3
    replace bel1 := next_trans bel1 b3
    replace r1 := r1.next b3
    have L3 := Lib.hid (plain 105 #[.pointer (some ⟨w1.heap.size, 0, none⟩)] (enters_of Try.func105 (by kernel_rfl) rfl) (givesL ss) w3 (lookSubst w1.heap.size S m c' ss w3 r3 s1 hm) (gives_pos ss) (fun i => Nat.le_trans (HG.out i) (by omega)))
    clear hw3 b3 r3 s1 cS
    go_wp2_with fail
    refine L3.out.mono ?_
    rintro e w2 ⟨O, on, oc, rfl, ho, b2⟩
    have r2 := r1.next b2
    have cR : w2.cell? ⟨w.heap.size + 2, 0, none⟩ = some (.slice none 0 0) := r2.cell 0
    have fR : w2.frozen? ⟨w.heap.size + 2, 0, none⟩ = false := r2.free 0
    have hz1 := r1.lt
    have F : AnsSubst w (plainI sg ss) (.returned (.agg #[.slice O on oc])) (w2.setCell ⟨w.heap.size + 2, 0, none⟩ (.slice O on oc)) :=
      ⟨O, on, oc, rfl, by rw [← HP.out]; exact (owns_put ho r2 hz1 0 _).wider (by omega) (by simp), (next_trans bel1 b2).setCell (by simp) _⟩
    have HF := Lib.hid F
    clear F bb bel bel1 b2 rR r1 r2 ho L3
    go_wp2
    exact bodyPost_ret (v := .agg #[.slice O on oc]) (by simp [results, Try.results26, go_sem, cR]) rfl HF.out
end Go.Proofs.Ytdeegjeopkcomaa.plainOf
end

section
/-
  CONTRACTS: spec.DrawSameSubst, DrawComposed, DrawFilled. Conditions: at most 4096 bytes. By an AI agent.
-/
namespace Go.Proofs.Ytdeegjeopkcomaa.drawSS
open Go.RowKit Go.Proofs.Ytdeegjeopkcomaa.base Go.Proofs.Ytdeegjeopkcomaa.ints Go.Proofs.Ytdeegjeopkcomaa.sig Go.Proofs.Ytdeegjeopkcomaa.term Go.Proofs.Ytdeegjeopkcomaa.cursor Go.Proofs.Ytdeegjeopkcomaa.termOk Go.Proofs.Ytdeegjeopkcomaa.marks Go.Proofs.Ytdeegjeopkcomaa.app Go.Proofs.Ytdeegjeopkcomaa.appAt Go.Proofs.Ytdeegjeopkcomaa.sym Go.Proofs.Ytdeegjeopkcomaa.segs Go.Proofs.Ytdeegjeopkcomaa.segsHelp Go.Proofs.Ytdeegjeopkcomaa.dice Go.Proofs.Ytdeegjeopkcomaa.drawSig Go.Proofs.Ytdeegjeopkcomaa.drawTerm Go.Proofs.Ytdeegjeopkcomaa.drawAny Go.Proofs.Ytdeegjeopkcomaa.drawTwo Go.Proofs.Ytdeegjeopkcomaa.drawPair Go.Proofs.Ytdeegjeopkcomaa.drawOne Go.Proofs.Ytdeegjeopkcomaa.drawSub Go.Proofs.Ytdeegjeopkcomaa.drawS Go.Proofs.Ytdeegjeopkcomaa.drawSA Go.Proofs.Ytdeegjeopkcomaa.drawVar Go.Proofs.Ytdeegjeopkcomaa.plain Go.Proofs.Ytdeegjeopkcomaa.plainOf
set_option maxRecDepth 100000

theorem OwnR.segs {w : World} {p lo n c : Nat} {A : Option Addr} {xss : List (List Int)} (h : OwnR w p lo A n c xss) : Segs w w.heap.size A n xss := by
  obtain ⟨h1, vs, hr, h3⟩ := h
  refine ⟨h1, fun hn => ?_⟩
  rcases own_form hr with ⟨_, e, _⟩ | ⟨g, cur, rfl, _, hrow, _, _, _, _, hc⟩
  · omega
  · refine ⟨g, 0, rfl, hrow.lt, fun j hj => ?_⟩
    obtain ⟨A', n', c', e, hrd, hcap, _⟩ := h3 j hj
    refine ⟨A', n', c', ?_, hrd.seg, hcap⟩
    rw [Nat.zero_add, hrow.cell j, hc j hj, e]
theorem ownR_owns {w : World} {p lo hi n c : Nat} {A : Option Addr} {xss : List (List Int)} (h : Owns w lo hi A n c xss) (hp : p < lo) : OwnR w p lo A n c xss := by
  obtain ⟨vs, hr, hin, _⟩ := h.row
  refine ⟨h.len, vs, hr, fun j hj => ?_⟩
  obtain ⟨A', c', e, ho, hcap⟩ := (hin j hj).cap
  refine ⟨A', _, c', e, Rd.of_own (by rw [← e]; exact ho) hp, hcap, fun hn e2 => ?_⟩
  rcases own_form hr with ⟨rfl, h1, _⟩ | ⟨g, cur, rfl, _, hrow, _⟩
  · omega
  · have h2 := (hin j hj).ne hrow
    rw [e, blk_own] at h2
    exact h2 e2

/-- what is known behind the first two draws: two result boxes at w.heap.size, the variables at v6 and v7 -/
structure V4 (w : World) (p : Nat) (A : Option Addr) (n c v6 v7 : Nat) (S : Option Addr) (sn sc : Nat) (sg : List Int) (B : Option Addr) (m cB : Nat) (xss : List (List Int)) (wr : World) : Prop where
  d : Dice wr p A n c
  rN : Row wr w.heap.size 26 #[.slice none 0 0]
  rP : Row wr (w.heap.size + 1) 29 #[.slice none 0 0]
  r6 : Row wr v6 26 #[.slice S sn sc]
  r7 : Row wr v7 29 #[.slice B m cB]
  s : Rd wr p wr.heap.size S sn sg
  own : OwnR wr p (p + 1) B m cB xss
  b : Below w.heap.size w wr
  hp : w.heap.size + 1 < p
  p6 : p < v6
  p7 : p < v7
section
variable {w : World} {p : Nat} {A : Option Addr} {n c v6 v7 : Nat} {S : Option Addr} {sn sc : Nat} {sg : List Int} {B : Option Addr} {m cB : Nat} {xss : List (List Int)} {wr w' : World}
theorem V4.dice (t : V4 w p A n c v6 v7 S sn sc sg B m cB xss wr) (d : Dice w' p A n c) (hg : wr.grownBy w' (some p)) : V4 w p A n c v6 v7 S sn sc sg B m cB xss w' :=
  ⟨d, Row.away t.rN hg (fun e => by injection e; have := t.hp; omega), Row.away t.rP hg (fun e => by injection e; have := t.hp; omega), Row.away t.r6 hg (fun e => by injection e; have := t.p6; omega), Row.away t.r7 hg (fun e => by injection e; have := t.p7; omega), (t.s.grown hg (Nat.le_refl _)).more hg.size, t.own.dice hg (Nat.lt_succ_self _), t.b.grown hg t.b.size (fun k hk => by injection hk; have := t.hp; omega), t.hp, t.p6, t.p7⟩
theorem V4.next (t : V4 w p A n c v6 v7 S sn sc sg B m cB xss wr) (hb : Below wr.heap.size wr w') : V4 w p A n c v6 v7 S sn sc sg B m cB xss w' :=
  ⟨t.d.next hb, t.rN.next hb, t.rP.next hb, t.r6.next hb, t.r7.next hb, (t.s.below hb (Nat.le_refl _)).more hb.size, t.own.below hb, next_trans t.b hb, t.hp, t.p6, t.p7⟩
theorem V4.drew (t : V4 w p A n c v6 v7 S sn sc sg B m cB xss wr) : V4 w p A n c v6 v7 S sn sc sg B m cB xss wr.drew := t.next ⟨rfl, rfl, rfl, Nat.le_refl _, fun _ _ => rfl⟩
end

/-- a drawn signature and two drawn substitutions -/
def AnsSS (w : World) (e : Ending) (w' : World) : Prop :=
  ∃ S sn sc sg B m cB xss C q cC yss, e = .returned (.tuple #[.agg #[.slice S sn sc], .agg #[.slice B m cB], .agg #[.slice C q cC]]) ∧ Seg w' w'.heap.size S sn sg ∧ Segs w' w'.heap.size B m xss ∧ Segs w' w'.heap.size C q yss ∧ sn ≤ 9 ∧ tot xss ≤ 1048576 ∧ tot yss ≤ 1048576 ∧ Below w.heap.size w w'
theorem ss_of {w u : World} {p : Nat} {A : Option Addr} {n c v6 v7 : Nat} {S : Option Addr} {sn sc : Nat} {sg : List Int} {B : Option Addr} {m cB : Nat} {xss : List (List Int)} {C : Option Addr} {q cC lo : Nat} {yss : List (List Int)} (t : V4 w p A n c v6 v7 S sn sc sg B m cB xss u) (rQ : Row u (w.heap.size + 2) 29 #[.slice none 0 0]) (hp : w.heap.size + 2 < p) (hc : OwnR u p lo C q cC yss) (hlo : p < lo)
    (h1 : sn ≤ 9) (h2 : tot xss ≤ 1048576) (h3 : tot yss ≤ 1048576) :
    AnsSS w (.returned (.tuple #[.agg #[.slice S sn sc], .agg #[.slice B m cB], .agg #[.slice C q cC]])) (((u.setCell ⟨w.heap.size, 0, none⟩ (.slice S sn sc)).setCell ⟨w.heap.size + 1, 0, none⟩ (.slice B m cB)).setCell ⟨w.heap.size + 2, 0, none⟩ (.slice C q cC)) := by
  have neB : ∀ N, N < p → blk B ≠ some N := fun N hN e => by have := (t.own.ge N e).1; omega
  have neC : ∀ N, N < p → blk C ≠ some N := fun N hN e => by have := (hc.ge N e).1; omega
  have s1 := Rd.other t.s (t.rN.cell 0) (.slice S sn sc)
  have o1 := OwnR.setNe t.own (neB w.heap.size (by omega)) (t.rN.cell 0) (.slice S sn sc)
  have c1 := OwnR.setNe hc (neC w.heap.size (by omega)) (t.rN.cell 0) (.slice S sn sc)
  have rP1 := t.rP.far (p := ⟨w.heap.size, 0, none⟩) (show w.heap.size + 1 ≠ w.heap.size by omega) (.slice S sn sc)
  have rQ1 := rQ.far (p := ⟨w.heap.size, 0, none⟩) (show w.heap.size + 2 ≠ w.heap.size by omega) (.slice S sn sc)
  have b1 := t.b.setCell (p := ⟨w.heap.size, 0, none⟩) (Nat.le_refl _) (.slice S sn sc)
  have s2 := Rd.other s1 (rP1.cell 0) (.slice B m cB)
  have o2 := OwnR.setNe o1 (neB (w.heap.size + 1) (by omega)) (rP1.cell 0) (.slice B m cB)
  have c2 := OwnR.setNe c1 (neC (w.heap.size + 1) (by omega)) (rP1.cell 0) (.slice B m cB)
  have rQ2 := rQ1.far (p := ⟨w.heap.size + 1, 0, none⟩) (show w.heap.size + 2 ≠ w.heap.size + 1 by omega) (.slice B m cB)
  have b2 := b1.setCell (p := ⟨w.heap.size + 1, 0, none⟩) (Nat.le_succ _) (.slice B m cB)
  have s3 := Rd.other s2 (rQ2.cell 0) (.slice C q cC)
  have o3 := OwnR.setNe o2 (neB (w.heap.size + 2) (by omega)) (rQ2.cell 0) (.slice C q cC)
  have c3 := OwnR.setNe c2 (neC (w.heap.size + 2) (by omega)) (rQ2.cell 0) (.slice C q cC)
  have b3 := b2.setCell (p := ⟨w.heap.size + 2, 0, none⟩) (by simp) (.slice C q cC)
  exact ⟨S, sn, sc, sg, B, m, cB, xss, C, q, cC, yss, rfl, s3.seg.more (by simp), OwnR.segs o3, OwnR.segs c3, h1, h2, h3, b3⟩

/-- a drawn signature, a drawn substitution, a drawn list -/
def AnsST (w : World) (e : Ending) (w' : World) : Prop :=
  ∃ S sn sc sg B m cB xss O on oc ys, e = .returned (.tuple #[.agg #[.slice S sn sc], .agg #[.slice B m cB], .slice O on oc]) ∧ Seg w' w'.heap.size S sn sg ∧ Segs w' w'.heap.size B m xss ∧ Seg w' w'.heap.size O on ys ∧ sn ≤ 9 ∧ tot xss ≤ 1048576 ∧ on ≤ 65 ∧ Below w.heap.size w w'
theorem st_of {w u : World} {p : Nat} {A : Option Addr} {n c v6 v7 : Nat} {S : Option Addr} {sn sc : Nat} {sg : List Int} {B : Option Addr} {m cB : Nat} {xss : List (List Int)} {O : Option Addr} {on oc : Nat} {ys : List Int} (t : V4 w p A n c v6 v7 S sn sc sg B m cB xss u) (hc : Rd u p u.heap.size O on ys)
    (h1 : sn ≤ 9) (h2 : tot xss ≤ 1048576) (h3 : on ≤ 65) :
    AnsST w (.returned (.tuple #[.agg #[.slice S sn sc], .agg #[.slice B m cB], .slice O on oc])) ((u.setCell ⟨w.heap.size, 0, none⟩ (.slice S sn sc)).setCell ⟨w.heap.size + 1, 0, none⟩ (.slice B m cB)) := by
  have hp := t.hp
  have neB : ∀ N, N < p → blk B ≠ some N := fun N hN e => by have := (t.own.ge N e).1; omega
  have s1 := Rd.other t.s (t.rN.cell 0) (.slice S sn sc)
  have o1 := OwnR.setNe t.own (neB w.heap.size (by omega)) (t.rN.cell 0) (.slice S sn sc)
  have c1 := Rd.other hc (t.rN.cell 0) (.slice S sn sc)
  have rP1 := t.rP.far (p := ⟨w.heap.size, 0, none⟩) (show w.heap.size + 1 ≠ w.heap.size by omega) (.slice S sn sc)
  have b1 := t.b.setCell (p := ⟨w.heap.size, 0, none⟩) (Nat.le_refl _) (.slice S sn sc)
  have s2 := Rd.other s1 (rP1.cell 0) (.slice B m cB)
  have o2 := OwnR.setNe o1 (neB (w.heap.size + 1) (by omega)) (rP1.cell 0) (.slice B m cB)
  have c2 := Rd.other c1 (rP1.cell 0) (.slice B m cB)
  have b2 := b1.setCell (p := ⟨w.heap.size + 1, 0, none⟩) (Nat.le_succ _) (.slice B m cB)
  exact ⟨S, sn, sc, sg, B, m, cB, xss, O, on, oc, ys, rfl, s2.seg.more (by simp), OwnR.segs o2, c2.seg.more (by simp), h1, h2, h3, b2⟩

/-- behind the first two draws -/
theorem v4_mk {w w2 w4 W W2 : World} {p : Nat} {A : Option Addr} {n c : Nat} {S : Option Addr} {sn sc : Nat} {sg : List Int} {B : Option Addr} {m cB : Nat} {xss : List (List Int)}
    (hp : w.heap.size + 1 < p) (rN : Row W w.heap.size 26 #[.slice none 0 0]) (rP : Row W (w.heap.size + 1) 29 #[.slice none 0 0]) (b : Below w.heap.size w W) (s : Rd W p W.heap.size S sn sg) (hW : W = w2.alloc (.cells #[.slice S sn sc] 26)) (hp2 : p < w2.heap.size)
    (own : OwnR w4 p W.heap.size B m cB xss) (d : Dice w4 p A n c) (g : W.grownBy w4 (some p)) (hW2 : W2 = w4.alloc (.cells #[.slice B m cB] 29)) : V4 w p A n c w2.heap.size w4.heap.size S sn sc sg B m cB xss W2 := by
  have r6 : Row W w2.heap.size 26 #[.slice S sn sc] := by rw [hW]; exact Row.new _ _ _
  have hz := r6.lt
  have hzg := g.size
  have bb : Below w4.heap.size w4 W2 := by rw [hW2]; exact (Below.refl _ _).alloc (Nat.le_refl _) _
  exact ⟨d.next bb, (Row.away rN g (fun e => by injection e; omega)).next bb, (Row.away rP g (fun e => by injection e; omega)).next bb, (Row.away r6 g (fun e => by injection e; omega)).next bb, by rw [hW2]; exact Row.new _ _ _, (((s.grown g (Nat.le_refl _)).more g.size).below bb (Nat.le_refl _)).more bb.size, (own.below bb).lower (by omega), next_trans (b.grown g b.size (fun k hk => by injection hk; omega)) bb, hp, hp2, by omega⟩

set_option maxHeartbeats 8000000 in
theorem drawComposed (A : Option Addr) (n c : Nat) (w : World) (h : SegB w w.heap.size A n) (hn : n ≤ 4096) :
    Calls Try.prog 19 #[.slice A n c] w (AnsSS w) := by
  obtain ⟨W0, hW0⟩ : ∃ W0, W0 = ((w.alloc (.cells #[.slice none 0 0] 26)).alloc (.cells #[.slice none 0 0] 29)).alloc (.cells #[.slice none 0 0] 29) := ⟨_, rfl⟩
  have rN : Row W0 w.heap.size 26 #[.slice none 0 0] := by rw [hW0]; exact ((Row.new _ _ _).alloc _).alloc _
  have rP : Row W0 (w.heap.size + 1) 29 #[.slice none 0 0] := by rw [hW0]; have := (Row.new (w.alloc (.cells #[.slice none 0 0] 26)) 29 #[.slice none 0 0]).alloc (.cells #[.slice none 0 0] 29); simpa using this
  have rQ : Row W0 (w.heap.size + 2) 29 #[.slice none 0 0] := by rw [hW0]; have := Row.new ((w.alloc (.cells #[.slice none 0 0] 26)).alloc (.cells #[.slice none 0 0] 29)) 29 #[.slice none 0 0]; simpa using this
  have b0 : Below w.heap.size w W0 := by rw [hW0]; exact (((Below.refl _ _).alloc (Nat.le_refl _) _).alloc (by simp) _).alloc (by simp; omega) _
  have L := Lib.hid (new_ A n c W0 (segB_below h b0) hn)
  have HW0 := Lib.hid hW0
  clear h hW0
  go_enter Try.func19, Try.ntmps19
  go_wp2_with fail
  rw [← HW0.out]
  refine L.out.mono ?_
  rintro e w1 ⟨p, rfl, hp, d1, bb⟩
  have hNp : w.heap.size + 2 < p := Nat.lt_of_lt_of_le rQ.lt hp
  replace rN := rN.next bb
  replace rP := rP.next bb
  replace rQ := rQ.next bb
  have bel := next_trans b0 bb
  have L2 := Lib.hid (drawSigAny p A n c w1 d1)
  have hp1 := d1.lt
  clear d1 bb b0 L
  go_wp2_with fail
  refine L2.out.mono ?_
  rintro e w2 ⟨S, sn, sc, sg, rfl, o2, hshort, d2, g2⟩
  have hsn : sn ≤ 9 := by rw [Own.len o2]; exact hshort
  have hp2 := d2.lt
  replace rN := Row.away rN g2 (fun e => by injection e; omega)
  replace rP := Row.away rP g2 (fun e => by injection e; omega)
  replace rQ := Row.away rQ g2 (fun e => by injection e; omega)
  have bel2 : Below w.heap.size w w2 := bel.grown g2 bel.size (fun k hk => by injection hk; omega)
  obtain ⟨W, hW⟩ : ∃ W, W = w2.alloc (.cells #[.slice S sn sc] 26) := ⟨_, rfl⟩
  have bb : Below w2.heap.size w2 W := by rw [hW]; exact (Below.refl _ _).alloc (Nat.le_refl _) _
  replace rN := rN.next bb
  replace rP := rP.next bb
  replace rQ := rQ.next bb
  have bel3 := next_trans bel2 bb
  have s3 := ((Rd.of_own o2 hp1).below bb (Nat.le_refl _)).more bb.size
  have d3 := d2.next bb
  have hp3 := d3.lt
  have c6 : W.cell? ⟨w2.heap.size, 0, none⟩ = some (.slice S sn sc) := by rw [hW]; exact (Row.new w2 26 #[.slice S sn sc]).cell 0
  have L3 := Lib.hid (drawAnyS p A n c S sn sc sg W d3 s3 (by omega))
  have HW := Lib.hid hW
  clear o2 hshort d2 d3 g2 bel bel2 L2 bb hW
  go_wp2_with fail
  rw [← HW.out]
  refine L3.out.mono ?_
  rintro e w4 ⟨B, m, cB, xss, rfl, own4, hsm, d4, g4⟩
  obtain ⟨W2, hW2⟩ : ∃ W2, W2 = w4.alloc (.cells #[.slice B m cB] 29) := ⟨_, rfl⟩
  have T := v4_mk (by omega) rN rP bel3 s3 HW.out hp2 own4 d4 g4 hW2
  have hxt := small_tot hsm own4.1 (by omega)
  have rQ2 : Row W2 (w.heap.size + 2) 29 #[.slice none 0 0] := by rw [hW2]; exact (Row.away rQ g4 (fun e => by injection e; omega)).alloc _
  have HW2 := Lib.hid hW2
  have T1 := T.drew
  have rQ3 := rQ2.drew
  have k6 : W2.cell? ⟨w2.heap.size, 0, none⟩ = some (.slice S sn sc) := T.r6.cell 0
  have k7 : W2.cell? ⟨w4.heap.size, 0, none⟩ = some (.slice B m cB) := T.r7.cell 0
  obtain ⟨v6, h6⟩ : ∃ v, w2.heap.size = v := ⟨_, rfl⟩
  obtain ⟨v7, h7⟩ : ∃ v, w4.heap.size = v := ⟨_, rfl⟩
  rw [h6, h7] at T T1
  rw [h6] at k6
  rw [h7] at k7
  have H6 := Lib.hid h6
  have H7 := Lib.hid h7
  have zl := T.r7.lt
  have z6 : ¬ v6 = w.heap.size := by have := T.hp; have := T.p6; omega
  have z7 : ¬ v7 = w.heap.size := by have := T.hp; have := T.p7; omega
  have y6 : ¬ w.heap.size = v6 := by omega
  have y7 : ¬ w.heap.size = v7 := by omega
  have z61 : ¬ v6 = w.heap.size + 1 := by have := T.hp; have := T.p6; omega
  have z71 : ¬ v7 = w.heap.size + 1 := by have := T.hp; have := T.p7; omega
  have y61 : ¬ w.heap.size + 1 = v6 := by omega
  have y71 : ¬ w.heap.size + 1 = v7 := by omega
  have z62 : ¬ v6 = w.heap.size + 2 := by have := T.p6; omega
  have z72 : ¬ v7 = w.heap.size + 2 := by have := T.p7; omega
  have y62 : ¬ w.heap.size + 2 = v6 := by omega
  have y72 : ¬ w.heap.size + 2 = v7 := by omega
  clear rN rP rQ bel3 s3 own4 d4 g4 hW2 L3 c6 T h6 h7 hp3
  go_wp2_with fail
  rw [← HW2.out, H6.out, H7.out]
  go_region_held3 (fun w' => w'.cell? ⟨v6, 0, none⟩ = some (.slice S sn sc) ∧ w'.cell? ⟨v7, 0, none⟩ = some (.slice B m cB))
    (go_keep)
    (first
      | (go_at_call 61; refine (drawAnyS p A n c S sn sc sg W2.drew T1.d T1.s (by omega)).mono ?_; rintro e w5 ⟨C, q, cC, yss, rfl, own5, hsm5, d5, g5⟩; have T2 := T1.dice d5 g5; have j6 : w5.cell? ⟨v6, 0, none⟩ = some (.slice S sn sc) := T2.r6.cell 0; have j7 : w5.cell? ⟨v7, 0, none⟩ = some (.slice B m cB) := T2.r7.cell 0; have rQ5 := Row.away rQ3 g5 (fun e => by injection e; omega); have cN5 : w5.cell? ⟨w.heap.size, 0, none⟩ = some (.slice none 0 0) := T2.rN.cell 0; have fN5 : w5.frozen? ⟨w.heap.size, 0, none⟩ = false := T2.rN.free 0; have cP5 : w5.cell? ⟨w.heap.size + 1, 0, none⟩ = some (.slice none 0 0) := T2.rP.cell 0; have fP5 : w5.frozen? ⟨w.heap.size + 1, 0, none⟩ = false := T2.rP.free 0; have cQ5 : w5.cell? ⟨w.heap.size + 2, 0, none⟩ = some (.slice none 0 0) := rQ5.cell 0; have fQ5 : w5.frozen? ⟨w.heap.size + 2, 0, none⟩ = false := rQ5.free 0; have F := Lib.hid (ss_of T2 rQ5 hNp own5 T1.d.lt hsn hxt (small_tot hsm5 own5.1 (by omega)))))
  clear T2 T1 rQ5 rQ3 rQ2 own5 d5 g5 j6 j7 k6 k7
  go_wp2
  exact bodyPost_ret (v := .tuple #[.agg #[.slice S sn sc], .agg #[.slice B m cB], .agg #[.slice C q cC]]) (by simp [results, Try.results19, go_sem, cN5, cP5, cQ5]) rfl F.out
set_option maxHeartbeats 8000000 in
theorem drawSameSubst (A : Option Addr) (n c : Nat) (w : World) (h : SegB w w.heap.size A n) (hn : n ≤ 4096) :
    Calls Try.prog 25 #[.slice A n c] w (AnsSS w) := by
  obtain ⟨W0, hW0⟩ : ∃ W0, W0 = ((w.alloc (.cells #[.slice none 0 0] 26)).alloc (.cells #[.slice none 0 0] 29)).alloc (.cells #[.slice none 0 0] 29) := ⟨_, rfl⟩
  have rN : Row W0 w.heap.size 26 #[.slice none 0 0] := by rw [hW0]; exact ((Row.new _ _ _).alloc _).alloc _
  have rP : Row W0 (w.heap.size + 1) 29 #[.slice none 0 0] := by rw [hW0]; have := (Row.new (w.alloc (.cells #[.slice none 0 0] 26)) 29 #[.slice none 0 0]).alloc (.cells #[.slice none 0 0] 29); simpa using this
  have rQ : Row W0 (w.heap.size + 2) 29 #[.slice none 0 0] := by rw [hW0]; have := Row.new ((w.alloc (.cells #[.slice none 0 0] 26)).alloc (.cells #[.slice none 0 0] 29)) 29 #[.slice none 0 0]; simpa using this
  have b0 : Below w.heap.size w W0 := by rw [hW0]; exact (((Below.refl _ _).alloc (Nat.le_refl _) _).alloc (by simp) _).alloc (by simp; omega) _
  have L := Lib.hid (new_ A n c W0 (segB_below h b0) hn)
  have HW0 := Lib.hid hW0
  clear h hW0
  go_enter Try.func25, Try.ntmps25
  go_wp2_with fail
  rw [← HW0.out]
  refine L.out.mono ?_
  rintro e w1 ⟨p, rfl, hp, d1, bb⟩
  have hNp : w.heap.size + 2 < p := Nat.lt_of_lt_of_le rQ.lt hp
  replace rN := rN.next bb
  replace rP := rP.next bb
  replace rQ := rQ.next bb
  have bel := next_trans b0 bb
  have L2 := Lib.hid (drawSigAny p A n c w1 d1)
  have hp1 := d1.lt
  clear d1 bb b0 L
  go_wp2_with fail
  refine L2.out.mono ?_
  rintro e w2 ⟨S, sn, sc, sg, rfl, o2, hshort, d2, g2⟩
  have hsn : sn ≤ 9 := by rw [Own.len o2]; exact hshort
  have hp2 := d2.lt
  replace rN := Row.away rN g2 (fun e => by injection e; omega)
  replace rP := Row.away rP g2 (fun e => by injection e; omega)
  replace rQ := Row.away rQ g2 (fun e => by injection e; omega)
  have bel2 : Below w.heap.size w w2 := bel.grown g2 bel.size (fun k hk => by injection hk; omega)
  obtain ⟨W, hW⟩ : ∃ W, W = w2.alloc (.cells #[.slice S sn sc] 26) := ⟨_, rfl⟩
  have bb : Below w2.heap.size w2 W := by rw [hW]; exact (Below.refl _ _).alloc (Nat.le_refl _) _
  replace rN := rN.next bb
  replace rP := rP.next bb
  replace rQ := rQ.next bb
  have bel3 := next_trans bel2 bb
  have s3 := ((Rd.of_own o2 hp1).below bb (Nat.le_refl _)).more bb.size
  have d3 := d2.next bb
  have hp3 := d3.lt
  have c6 : W.cell? ⟨w2.heap.size, 0, none⟩ = some (.slice S sn sc) := by rw [hW]; exact (Row.new w2 26 #[.slice S sn sc]).cell 0
  have L3 := Lib.hid (drawAnyS p A n c S sn sc sg W d3 s3 (by omega))
  have HW := Lib.hid hW
  clear o2 hshort d2 d3 g2 bel bel2 L2 bb hW
  go_wp2_with fail
  rw [← HW.out]
  refine L3.out.mono ?_
  rintro e w4 ⟨B, m, cB, xss, rfl, own4, hsm, d4, g4⟩
  obtain ⟨W2, hW2⟩ : ∃ W2, W2 = w4.alloc (.cells #[.slice B m cB] 29) := ⟨_, rfl⟩
  have T := v4_mk (by omega) rN rP bel3 s3 HW.out hp2 own4 d4 g4 hW2
  have hxt := small_tot hsm own4.1 (by omega)
  have rQ2 : Row W2 (w.heap.size + 2) 29 #[.slice none 0 0] := by rw [hW2]; exact (Row.away rQ g4 (fun e => by injection e; omega)).alloc _
  have HW2 := Lib.hid hW2
  have k6 : W2.cell? ⟨w2.heap.size, 0, none⟩ = some (.slice S sn sc) := T.r6.cell 0
  have k7 : W2.cell? ⟨w4.heap.size, 0, none⟩ = some (.slice B m cB) := T.r7.cell 0
  obtain ⟨v6, h6⟩ : ∃ v, w2.heap.size = v := ⟨_, rfl⟩
  obtain ⟨v7, h7⟩ : ∃ v, w4.heap.size = v := ⟨_, rfl⟩
  rw [h6, h7] at T
  rw [h6] at k6
  rw [h7] at k7
  have H6 := Lib.hid h6
  have H7 := Lib.hid h7
  have zl := T.r7.lt
  have z6 : ¬ v6 = w.heap.size := by have := T.hp; have := T.p6; omega
  have z7 : ¬ v7 = w.heap.size := by have := T.hp; have := T.p7; omega
  have y6 : ¬ w.heap.size = v6 := by omega
  have y7 : ¬ w.heap.size = v7 := by omega
  have z61 : ¬ v6 = w.heap.size + 1 := by have := T.hp; have := T.p6; omega
  have z71 : ¬ v7 = w.heap.size + 1 := by have := T.hp; have := T.p7; omega
  have y61 : ¬ w.heap.size + 1 = v6 := by omega
  have y71 : ¬ w.heap.size + 1 = v7 := by omega
  have z62 : ¬ v6 = w.heap.size + 2 := by have := T.p6; omega
  have z72 : ¬ v7 = w.heap.size + 2 := by have := T.p7; omega
  have y62 : ¬ w.heap.size + 2 = v6 := by omega
  have y72 : ¬ w.heap.size + 2 = v7 := by omega
  clear rN rP rQ bel3 s3 own4 d4 g4 hW2 L3 c6 h6 h7 hp3
  have L5 := Lib.hid (once p A n c 2 W2 T.d (by omega) (by omega))
  go_wp2_with fail
  rw [← HW2.out, H6.out, H7.out]
  refine L5.out.mono ?_
  rintro e w3 ⟨b, rfl, d3, g3⟩
  have T3 := T.dice d3 g3
  have rQ3 := (Row.away rQ2 g3 (fun e => by injection e; omega)).drew
  have T1 := T3.drew
  replace k6 : w3.cell? ⟨v6, 0, none⟩ = some (.slice S sn sc) := T3.r6.cell 0
  replace k7 : w3.cell? ⟨v7, 0, none⟩ = some (.slice B m cB) := T3.r7.cell 0
  clear T T3 d3 g3 L5 rQ2
  cases b with
  | true =>
    go_wp2_with fail
    go_region_held3 (fun w' => w'.cell? ⟨v6, 0, none⟩ = some (.slice S sn sc) ∧ w'.cell? ⟨v7, 0, none⟩ = some (.slice B m cB))
      (go_keep)
      (first
        | (go_at_call 46; refine (specPlainOf S B sn sc m cB sg xss w3.drew T1.s.seg (OwnR.segs T1.own) (by omega) hxt).mono ?_; rintro e w5 ⟨C, q, cC, rfl, oc5, b5⟩; have T2 := T1.next b5; have own5 := ownR_owns oc5 T1.d.lt; have j6 : w5.cell? ⟨v6, 0, none⟩ = some (.slice S sn sc) := T2.r6.cell 0; have j7 : w5.cell? ⟨v7, 0, none⟩ = some (.slice B m cB) := T2.r7.cell 0; have rQ5 := rQ3.next b5; have cN5 : w5.cell? ⟨w.heap.size, 0, none⟩ = some (.slice none 0 0) := T2.rN.cell 0; have fN5 : w5.frozen? ⟨w.heap.size, 0, none⟩ = false := T2.rN.free 0; have cP5 : w5.cell? ⟨w.heap.size + 1, 0, none⟩ = some (.slice none 0 0) := T2.rP.cell 0; have fP5 : w5.frozen? ⟨w.heap.size + 1, 0, none⟩ = false := T2.rP.free 0; have cQ5 : w5.cell? ⟨w.heap.size + 2, 0, none⟩ = some (.slice none 0 0) := rQ5.cell 0; have fQ5 : w5.frozen? ⟨w.heap.size + 2, 0, none⟩ = false := rQ5.free 0; have F := Lib.hid (ss_of T2 rQ5 hNp own5 T1.d.lt hsn hxt plainI_tot)))
    clear T2 T1 rQ5 rQ3 own5 oc5 b5 j6 j7 k6 k7
    go_wp2
    exact bodyPost_ret (v := .tuple #[.agg #[.slice S sn sc], .agg #[.slice B m cB], .agg #[.slice C q cC]]) (by simp [results, Try.results25, go_sem, cN5, cP5, cQ5]) rfl F.out
  | false =>
    go_wp2_with fail
    go_region_held3 (fun w' => w'.cell? ⟨v6, 0, none⟩ = some (.slice S sn sc) ∧ w'.cell? ⟨v7, 0, none⟩ = some (.slice B m cB))
      (go_keep)
      (first
        | (go_at_call 61; refine (drawAnyS p A n c S sn sc sg w3.drew T1.d T1.s (by omega)).mono ?_; rintro e w5 ⟨C, q, cC, yss, rfl, own5, hsm5, d5, g5⟩; have T2 := T1.dice d5 g5; have j6 : w5.cell? ⟨v6, 0, none⟩ = some (.slice S sn sc) := T2.r6.cell 0; have j7 : w5.cell? ⟨v7, 0, none⟩ = some (.slice B m cB) := T2.r7.cell 0; have rQ5 := Row.away rQ3 g5 (fun e => by injection e; omega); have cN5 : w5.cell? ⟨w.heap.size, 0, none⟩ = some (.slice none 0 0) := T2.rN.cell 0; have fN5 : w5.frozen? ⟨w.heap.size, 0, none⟩ = false := T2.rN.free 0; have cP5 : w5.cell? ⟨w.heap.size + 1, 0, none⟩ = some (.slice none 0 0) := T2.rP.cell 0; have fP5 : w5.frozen? ⟨w.heap.size + 1, 0, none⟩ = false := T2.rP.free 0; have cQ5 : w5.cell? ⟨w.heap.size + 2, 0, none⟩ = some (.slice none 0 0) := rQ5.cell 0; have fQ5 : w5.frozen? ⟨w.heap.size + 2, 0, none⟩ = false := rQ5.free 0; have F := Lib.hid (ss_of T2 rQ5 hNp own5 T1.d.lt hsn hxt (small_tot hsm5 own5.1 (by omega)))))
    clear T2 T1 rQ5 rQ3 own5 d5 g5 j6 j7 k6 k7
    go_wp2
    exact bodyPost_ret (v := .tuple #[.agg #[.slice S sn sc], .agg #[.slice B m cB], .agg #[.slice C q cC]]) (by simp [results, Try.results25, go_sem, cN5, cP5, cQ5]) rfl F.out

set_option maxHeartbeats 8000000 in
theorem drawFilled (A : Option Addr) (n c : Nat) (w : World) (h : SegB w w.heap.size A n) (hn : n ≤ 4096) :
    Calls Try.prog 18 #[.slice A n c] w (AnsST w) := by
  obtain ⟨W0, hW0⟩ : ∃ W0, W0 = (w.alloc (.cells #[.slice none 0 0] 26)).alloc (.cells #[.slice none 0 0] 29) := ⟨_, rfl⟩
  have rN : Row W0 w.heap.size 26 #[.slice none 0 0] := by rw [hW0]; exact (Row.new _ _ _).alloc _
  have rP : Row W0 (w.heap.size + 1) 29 #[.slice none 0 0] := by rw [hW0]; have := Row.new (w.alloc (.cells #[.slice none 0 0] 26)) 29 #[.slice none 0 0]; simpa using this
  have b0 : Below w.heap.size w W0 := by rw [hW0]; exact ((Below.refl _ _).alloc (Nat.le_refl _) _).alloc (by simp) _
  have L := Lib.hid (new_ A n c W0 (segB_below h b0) hn)
  have HW0 := Lib.hid hW0
  clear h hW0
  go_enter Try.func18, Try.ntmps18
  go_wp2_with fail
  rw [← HW0.out]
  refine L.out.mono ?_
  rintro e w1 ⟨p, rfl, hp, d1, bb⟩
  have hNp : w.heap.size + 1 < p := Nat.lt_of_lt_of_le rP.lt hp
  replace rN := rN.next bb
  replace rP := rP.next bb
  have bel := next_trans b0 bb
  have L2 := Lib.hid (drawSigAny p A n c w1 d1)
  have hp1 := d1.lt
  clear d1 bb b0 L
  go_wp2_with fail
  refine L2.out.mono ?_
  rintro e w2 ⟨S, sn, sc, sg, rfl, o2, hshort, d2, g2⟩
  have hsn : sn ≤ 9 := by rw [Own.len o2]; exact hshort
  have hp2 := d2.lt
  replace rN := Row.away rN g2 (fun e => by injection e; omega)
  replace rP := Row.away rP g2 (fun e => by injection e; omega)
  have bel2 : Below w.heap.size w w2 := bel.grown g2 bel.size (fun k hk => by injection hk; omega)
  obtain ⟨W, hW⟩ : ∃ W, W = w2.alloc (.cells #[.slice S sn sc] 26) := ⟨_, rfl⟩
  have bb : Below w2.heap.size w2 W := by rw [hW]; exact (Below.refl _ _).alloc (Nat.le_refl _) _
  replace rN := rN.next bb
  replace rP := rP.next bb
  have bel3 := next_trans bel2 bb
  have s3 := ((Rd.of_own o2 hp1).below bb (Nat.le_refl _)).more bb.size
  have d3 := d2.next bb
  have hp3 := d3.lt
  have c6 : W.cell? ⟨w2.heap.size, 0, none⟩ = some (.slice S sn sc) := by rw [hW]; exact (Row.new w2 26 #[.slice S sn sc]).cell 0
  have L3 := Lib.hid (drawAnyS p A n c S sn sc sg W d3 s3 (by omega))
  have HW := Lib.hid hW
  clear o2 hshort d2 d3 g2 bel bel2 L2 bb hW
  go_wp2_with fail
  rw [← HW.out]
  refine L3.out.mono ?_
  rintro e w4 ⟨B, m, cB, xss, rfl, own4, hsm, d4, g4⟩
  obtain ⟨W2, hW2⟩ : ∃ W2, W2 = w4.alloc (.cells #[.slice B m cB] 29) := ⟨_, rfl⟩
  have T := v4_mk (by omega) rN rP bel3 s3 HW.out hp2 own4 d4 g4 hW2
  have hxt := small_tot hsm own4.1 (by omega)
  have HW2 := Lib.hid hW2
  have T1 := T.drew
  have k6 : W2.cell? ⟨w2.heap.size, 0, none⟩ = some (.slice S sn sc) := T.r6.cell 0
  have k7 : W2.cell? ⟨w4.heap.size, 0, none⟩ = some (.slice B m cB) := T.r7.cell 0
  obtain ⟨v6, h6⟩ : ∃ v, w2.heap.size = v := ⟨_, rfl⟩
  obtain ⟨v7, h7⟩ : ∃ v, w4.heap.size = v := ⟨_, rfl⟩
  rw [h6, h7] at T T1
  rw [h6] at k6
  rw [h7] at k7
  have H6 := Lib.hid h6
  have H7 := Lib.hid h7
  have zl := T.r7.lt
  have z6 : ¬ v6 = w.heap.size := by have := T.hp; have := T.p6; omega
  have z7 : ¬ v7 = w.heap.size := by have := T.hp; have := T.p7; omega
  have y6 : ¬ w.heap.size = v6 := by omega
  have y7 : ¬ w.heap.size = v7 := by omega
  have z61 : ¬ v6 = w.heap.size + 1 := by have := T.hp; have := T.p6; omega
  have z71 : ¬ v7 = w.heap.size + 1 := by have := T.hp; have := T.p7; omega
  have y61 : ¬ w.heap.size + 1 = v6 := by omega
  have y71 : ¬ w.heap.size + 1 = v7 := by omega
  clear rN rP bel3 s3 own4 d4 g4 hW2 L3 c6 T h6 h7 hp3
  go_wp2_with fail
  rw [← HW2.out, H6.out, H7.out]
  go_region_held3 (fun w' => w'.cell? ⟨v6, 0, none⟩ = some (.slice S sn sc) ∧ w'.cell? ⟨v7, 0, none⟩ = some (.slice B m cB))
    (go_keep)
    (first
      | (go_at_call 62; refine (drawAny p A n c S sn sc sg W2.drew T1.d T1.s (by omega)).mono ?_; rintro e w5 ⟨O, on, oc, ys, rfl, ra, h1, h2, h3, h4, d5, g5⟩; have T2 := T1.dice d5 g5; have j6 : w5.cell? ⟨v6, 0, none⟩ = some (.slice S sn sc) := T2.r6.cell 0; have j7 : w5.cell? ⟨v7, 0, none⟩ = some (.slice B m cB) := T2.r7.cell 0; have cN5 : w5.cell? ⟨w.heap.size, 0, none⟩ = some (.slice none 0 0) := T2.rN.cell 0; have fN5 : w5.frozen? ⟨w.heap.size, 0, none⟩ = false := T2.rN.free 0; have cP5 : w5.cell? ⟨w.heap.size + 1, 0, none⟩ = some (.slice none 0 0) := T2.rP.cell 0; have fP5 : w5.frozen? ⟨w.heap.size + 1, 0, none⟩ = false := T2.rP.free 0; have F := Lib.hid (st_of (oc := oc) T2 ra hsn hxt h4)))
  clear T2 T1 ra d5 g5 j6 j7 k6 k7
  go_wp2
  exact bodyPost_ret (v := .tuple #[.agg #[.slice S sn sc], .agg #[.slice B m cB], .slice O on oc]) (by simp [results, Try.results18, go_sem, cN5, cP5]) rfl F.out
end Go.Proofs.Ytdeegjeopkcomaa.drawSS
end

section
/-
  CONTRACTS: spec.SameSubst, impl.SameSubst. Conditions: the slices read as lists ('Seg', 'Segs'), at most 1048576 values. (The regions' walks by wip/tools/reg.py.) By an AI agent.
-/
namespace Go.Proofs.Ytdeegjeopkcomaa.sameSubst
open Go.RowKit Go.Proofs.Ytdeegjeopkcomaa.base Go.Proofs.Ytdeegjeopkcomaa.ints Go.Proofs.Ytdeegjeopkcomaa.sig Go.Proofs.Ytdeegjeopkcomaa.same Go.Proofs.Ytdeegjeopkcomaa.marks Go.Proofs.Ytdeegjeopkcomaa.sym Go.Proofs.Ytdeegjeopkcomaa.segs Go.Proofs.Ytdeegjeopkcomaa.segsHelp Go.Proofs.Ytdeegjeopkcomaa.kinds Go.Proofs.Ytdeegjeopkcomaa.varsOf Go.Proofs.Ytdeegjeopkcomaa.fillMath Go.Proofs.Ytdeegjeopkcomaa.look Go.Proofs.Ytdeegjeopkcomaa.substOk Go.Proofs.Ytdeegjeopkcomaa.gives
set_option maxRecDepth 100000

/-- what SameSubst answers -/
def sameG (a b : List (List Int)) : Bool := (List.range 24).all fun i => decide (givesL a i = givesL b i)
def sameB (sg : List Int) (a b : List (List Int)) : Bool := substOkB sg a && (substOkB sg b && sameG a b)
theorem sameG_yes {a b : List (List Int)} (h : ∀ i, i < 24 → givesL a i = givesL b i) : sameG a b = true := by
  unfold sameG
  rw [List.all_eq_true]
  intro i hi
  exact decide_eq_true (h i (List.mem_range.1 hi))
theorem sameG_no {a b : List (List Int)} {i : Nat} (hi : i < 24) (h : givesL a i ≠ givesL b i) : sameG a b = false := by
  cases e : sameG a b with
  | false => rfl
  | true =>
    unfold sameG at e
    rw [List.all_eq_true] at e
    exact absurd (of_decide_eq_true (e i (List.mem_range.2 hi))) h
theorem sameG_iff {a b : List (List Int)} : sameG a b = true ↔ ∀ i, i < 24 → givesL a i = givesL b i := by
  refine ⟨fun e i hi => ?_, sameG_yes⟩
  unfold sameG at e
  rw [List.all_eq_true] at e
  exact of_decide_eq_true (e i (List.mem_range.2 hi))
theorem same_a {sg : List Int} {a b : List (List Int)} (h : substOkB sg a = false) : sameB sg a b = false := by unfold sameB; rw [h, Bool.false_and]
theorem same_b {sg : List Int} {a b : List (List Int)} (h : substOkB sg b = false) : sameB sg a b = false := by unfold sameB; rw [h, Bool.false_and, Bool.and_false]
theorem same_ab {sg : List Int} {a b : List (List Int)} (h : substOkB sg a = true) (h' : substOkB sg b = true) : sameB sg a b = sameG a b := by unfold sameB; rw [h, h', Bool.true_and, Bool.true_and]
/-- three boxes -/
theorem boxesSS (w : World) (A : Option Addr) (n c : Nat) (S : Option Addr) (m c' : Nat) (T : Option Addr) (q cq : Nat) : ∃ W, W = ((w.alloc (.cells #[.slice A n c] 26)).alloc (.cells #[.slice S m c'] 29)).alloc (.cells #[.slice T q cq] 29) ∧
    Row W w.heap.size 26 #[.slice A n c] ∧ Row W (w.heap.size + 1) 29 #[.slice S m c'] ∧ Row W (w.heap.size + 2) 29 #[.slice T q cq] ∧ Below w.heap.size w W := by
  obtain ⟨W, hW, r1, r2, b⟩ := boxes2 w A n c S m c'
  have hz : W.heap.size = w.heap.size + 2 := by rw [hW]; simp
  refine ⟨_, rfl, ?_, ?_, ?_, ?_⟩
  · rw [← hW]; exact r1.alloc _
  · rw [← hW]; exact r2.alloc _
  · rw [← hW, ← hz]; exact Row.new _ _ _
  · rw [← hW]; exact b.alloc b.size _

theorem gives_each {ss : List (List Int)} (h : ∀ j, (ss.getD j []).length ≤ 1048576) (i : Nat) : (givesL ss i).length ≤ 1048576 := by
  unfold givesL
  split
  · simp [vt]
  · exact h i
theorem lookupB (S : Option Addr) (m c : Nat) (w : World) :
    Calls Try.prog 64 #[.agg #[.slice S m c]] w fun e w' => e = .returned (.func (.func 105) #[] #[.pointer (some ⟨w.heap.size, 0, none⟩)]) ∧ Row w' w.heap.size 29 #[.slice S m c] ∧ Below w.heap.size w w' :=
  (lookupIn S m c w).mono fun _ _ ⟨he, hw⟩ => ⟨he, by rw [hw]; exact Row.new _ _ _, by rw [hw]; exact (Below.refl _ _).alloc (Nat.le_refl _) _⟩

/-- the head of both loops: the boxes of the two substitutions lie at b1 and b2 -/
def HeadSS (w : World) (b1 b2 : Nat) (S : Option Addr) (m c : Nat) (T : Option Addr) (q cq : Nat) (xa xb : List (List Int)) (i : Value) (wr : World) : Prop :=
  ∃ k : Nat, k ≤ 24 ∧ i = .int .i64 k ∧ (∀ j, j < k → givesL xa j = givesL xb j) ∧ Row wr b1 29 #[.slice S m c] ∧ Row wr b2 29 #[.slice T q cq] ∧ Below w.heap.size w wr
theorem headSS_step {w wr w2 : World} {b1 b2 m c q cq k : Nat} {S T : Option Addr} {xa xb : List (List Int)} (hk : k < 24) (h : ∀ j, j < k → givesL xa j = givesL xb j) (he : givesL xa k = givesL xb k)
    (r1 : Row wr b1 29 #[.slice S m c]) (r2 : Row wr b2 29 #[.slice T q cq]) (hb : Below w.heap.size w wr) (bb : Below wr.heap.size wr w2) : HeadSS w b1 b2 S m c T q cq xa xb (.int .i64 ((k : Int) + 1)) w2 :=
  ⟨k + 1, hk, by simp, fun j hj => by
    by_cases e : j = k
    · rw [e]; exact he
    · exact h j (by omega), r1.next bb, r2.next bb, next_trans hb bb⟩

set_option maxHeartbeats 8000000 in
theorem specSameSubst (A S T : Option Addr) (n c m c' q cq : Nat) (sg : List Int) (xa xb : List (List Int)) (w : World) (h : Seg w w.heap.size A n sg) (h' : Segs w w.heap.size S m xa) (h2 : Segs w w.heap.size T q xb) (hn : n ≤ 1048576) (ht : tot xa ≤ 1048576) (ht2 : tot xb ≤ 1048576) :
    Calls Try.prog 28 #[.agg #[.slice A n c], .agg #[.slice S m c'], .agg #[.slice T q cq]] w (AnsB w (sameB sg xa xb)) := by
  obtain ⟨W, hW, rA, rS, rT, bel⟩ := boxesSS w A n c S m c' T q cq
  have HW := Lib.hid hW
  have hm : m ≤ 1048576 := tot_len h'.1 ht
  have hq : q ≤ 1048576 := tot_len h2.1 ht2
  have HE1 := Lib.hid (tot_each ht)
  have HE2 := Lib.hid (tot_each ht2)
  have HT1 := Lib.hid ht
  have HT2 := Lib.hid ht2
  have s := h.next bel
  have s1 := h'.next bel
  have s2 := h2.next bel
  have L := Lib.hid (specSubstOk A S n c m c' sg xa W s s1 hn ht)
  clear hW ht ht2
  cases hok : substOkB sg xa with
  | false =>
    have HS := Lib.hid hok
    clear hok s s1 s2 h h' h2
    go_enter Try.func28, Try.ntmps28
    go_wp2_with fail
    rw [← HW.out]
    refine L.out.mono ?_
    rintro e w1 ⟨he, bb⟩
    rw [HS.out] at he
    subst he
    have F := Lib.hid (ansB (b := sameB sg xa xb) (a := false) (by rw [same_a HS.out]) (next_trans bel bb))
    clear bb bel rA rS rT
    go_wp2
    go_ret
    exact F.out
  | true =>
    have HS := Lib.hid hok
    clear hok
    go_enter Try.func28, Try.ntmps28
    go_wp2_with fail
    rw [← HW.out]
    refine L.out.mono ?_
    rintro e w1 ⟨he, bb⟩
    rw [HS.out] at he
    subst he
    replace s := s.next bb
    replace s1 := s1.next bb
    replace s2 := s2.next bb
    replace rA := rA.next bb
    replace rS := rS.next bb
    replace rT := rT.next bb
    replace bel := next_trans bel bb
    have cA : w1.cell? ⟨w.heap.size, 0, none⟩ = some (.slice A n c) := rA.cell 0
    have cT : w1.cell? ⟨w.heap.size + 2, 0, none⟩ = some (.slice T q cq) := rT.cell 0
    have L2 := Lib.hid (specSubstOk A T n c q cq sg xb w1 s s2 hn HT2.out)
    clear bb L
    cases hok2 : substOkB sg xb with
    | false =>
      have HS2 := Lib.hid hok2
      clear hok2 s s1 s2 h h' h2
      go_wp2_with fail
      refine L2.out.mono ?_
      rintro e w2 ⟨he, bb⟩
      rw [HS2.out] at he
      subst he
      have F := Lib.hid (ansB (b := sameB sg xa xb) (a := false) (by rw [same_b HS2.out]) (next_trans bel bb))
      clear bb bel rA rS rT cA cT L2
      go_wp2
      go_ret
      exact F.out
    | true =>
      have HS2 := Lib.hid hok2
      clear hok2
      go_wp2_with fail
      refine L2.out.mono ?_
      rintro e w2 ⟨he, bb⟩
      rw [HS2.out] at he
      subst he
      replace s1 := s1.next bb
      replace s2 := s2.next bb
      replace rS := rS.next bb
      replace rT := rT.next bb
      replace bel := next_trans bel bb
      clear bb L2 cA cT rA s
      have H0 : HeadSS w (w.heap.size + 1) (w.heap.size + 2) S m c' T q cq xa xb (.int .i64 0) w2 := ⟨0, Nat.zero_le _, rfl, fun j hj => absurd hj (Nat.not_lt_zero _), rS, rT, bel⟩
      have HH := Lib.hid H0
      clear H0 s1 s2 rS rT bel
      go_wp2_with fail
      go_loopw [7] (fun i wr => HeadSS w (w.heap.size + 1) (w.heap.size + 2) S m c' T q cq xa xb i wr) (fun i _ => 24 - (intOf i).toNat)
      case atStart => exact HH.out
      case round =>
        obtain ⟨k, hk, rfl, hlow, r1, r2, hb⟩ := hrel
        clear HH
        have HLOW := Lib.hid hlow
        clear hlow
        by_cases hlt : k < 24
        · have i0 : (0 : Int) ≤ (k : Int) := by omega
          have cS : wr.cell? ⟨w.heap.size + 1, 0, none⟩ = some (.slice S m c') := r1.cell 0
          have cT : wr.cell? ⟨w.heap.size + 2, 0, none⟩ = some (.slice T q cq) := r2.cell 0
          have LG := Lib.hid (l2Gives S m c' xa k wr.drew (((h'.below hb).more hb.size).drew) HT1.out (by omega))
          have t2 := (((h2.below hb).more hb.size).drew)
          have rd1 := r1.drew
          have rd2 := r2.drew
          have hya : (givesL xa k).length ≤ 1048576 := gives_each HE1.out k
          have hyb : (givesL xb k).length ≤ 1048576 := gives_each HE2.out k
          obtain ⟨ya, hya2⟩ : ∃ ya, givesL xa k = ya := ⟨_, rfl⟩
          rw [hya2] at LG hya
          have HYA := Lib.hid hya2
          clear hya2 h h' h2
          obtain ⟨z, hz⟩ : ∃ z, decide (ya = givesL xb k) = z := ⟨_, rfl⟩
          have HZ := Lib.hid hz
          clear hz
          go_wp2_with fail
          refine wp_region_held_drew (S := (fun w' => w'.cell? ⟨w.heap.size + 1, 0, none⟩ = some (.slice S m c') ∧ w'.cell? ⟨w.heap.size + 2, 0, none⟩ = some (.slice T q cq))) (by kernel_rfl) ⟨cS, cT⟩ (fun hHeld => ?_)
          refine wpAnyH_take (i := 0) (v := ?_) rfl (by kernel_rfl) (by kernel_rfl) (by kernel_rfl) (fun _ _ _ h => h) (Or.inl ⟨by rfl, ?_⟩) (by assumption) ?_
          rotate_left 1
          · (intro w0 hSw; (try dsimp only at hSw); go_simp; try with_reducible rfl)
          try simp only [Act.put, List.setIfInBounds_toArray, List.set_cons_zero, List.set_cons_succ, List.getElem_toArray, List.getElem_cons_zero, List.getElem_cons_succ]
          refine wpAnyH_take (i := 1) (v := ?_) rfl (by kernel_rfl) (by kernel_rfl) (by kernel_rfl) (fun _ _ _ h => h) (Or.inl ⟨by rfl, ?_⟩) (by assumption) ?_
          rotate_left 1
          · (intro w0 hSw; (try dsimp only at hSw); go_simp; try with_reducible rfl)
          try simp only [Act.put, List.setIfInBounds_toArray, List.set_cons_zero, List.set_cons_succ, List.getElem_toArray, List.getElem_cons_zero, List.getElem_cons_succ]
          refine wpAnyH_take (i := 3) (v := ?_) rfl (by kernel_rfl) (by kernel_rfl) (by kernel_rfl) (fun _ _ _ h => h) (Or.inl ⟨by rfl, ?_⟩) (by assumption) ?_
          rotate_left 1
          · (intro w0 hSw; (try dsimp only at hSw); go_simp; try with_reducible rfl)
          try simp only [Act.put, List.setIfInBounds_toArray, List.set_cons_zero, List.set_cons_succ, List.getElem_toArray, List.getElem_cons_zero, List.getElem_cons_succ]
          refine wpAnyH_take (i := 4) (v := ?_) rfl (by kernel_rfl) (by kernel_rfl) (by kernel_rfl) (fun _ _ _ h => h) (Or.inl ⟨by rfl, ?_⟩) (by assumption) ?_
          rotate_left 1
          · (intro w0 hSw; (try dsimp only at hSw); go_simp; try with_reducible rfl)
          try simp only [Act.put, List.setIfInBounds_toArray, List.set_cons_zero, List.set_cons_succ, List.getElem_toArray, List.getElem_cons_zero, List.getElem_cons_succ]
          refine wpAnyH_ready (rs := [2]) (by kernel_rfl) (by simp) (AllReadyH.cons rfl (fun K hK => ?_) AllReadyH.nil)
          go_simp
          refine LG.out.mono ?_; rintro e w3 ⟨X, xn, xc, rfl, oa, b1⟩; have u1 := rd1.next b1; have u2 := rd2.next b1; have x1 : w3.cell? ⟨w.heap.size + 1, 0, none⟩ = some (.slice S m c') := u1.cell 0; have x2 : w3.cell? ⟨w.heap.size + 2, 0, none⟩ = some (.slice T q cq) := u2.cell 0; go_wp2_with fail
          refine hK.out _ _ ?_ (fun hHeld => ?_)
          · first | assumption | (dsimp only; assumption) | exact ⟨by assumption, by assumption⟩
          clear hK K
          try simp only [Act.put, List.setIfInBounds_toArray, List.set_cons_zero, List.set_cons_succ, List.getElem_toArray, List.getElem_cons_zero, List.getElem_cons_succ]
          refine wpAnyH_ready (rs := [5]) (by kernel_rfl) (by simp) (AllReadyH.cons rfl (fun K hK => ?_) AllReadyH.nil)
          go_simp
          refine (l2Gives T q cq xb k w3 (t2.next b1) HT2.out (by omega)).mono ?_; rintro e w4 ⟨Y, yn, yc, rfl, ob, b2⟩; have oa2 := oa.next b2; have v1 := u1.next b2; have v2 := u2.next b2; have x1 : w4.cell? ⟨w.heap.size + 1, 0, none⟩ = some (.slice S m c') := v1.cell 0; have x2 : w4.cell? ⟨w.heap.size + 2, 0, none⟩ = some (.slice T q cq) := v2.cell 0; go_wp2_with fail
          refine hK.out _ _ ?_ (fun hHeld => ?_)
          · first | assumption | (dsimp only; assumption) | exact ⟨by assumption, by assumption⟩
          clear hK K
          try simp only [Act.put, List.setIfInBounds_toArray, List.set_cons_zero, List.set_cons_succ, List.getElem_toArray, List.getElem_cons_zero, List.getElem_cons_succ]
          refine wpAnyH_ready (rs := [6]) (by kernel_rfl) (by simp) (AllReadyH.cons rfl (fun K hK => ?_) AllReadyH.nil)
          go_simp
          refine (specSame X Y xn yn xc yc ya (givesL xb k) w4 (Own.seg oa2) (Own.seg ob) (by rw [Own.len oa]; exact hya) (by rw [Own.len ob]; exact hyb)).mono ?_; rintro e w5 ⟨he, d, rfl⟩; rw [HZ.out] at he; subst he; have x1 : (w4.drewN d).cell? ⟨w.heap.size + 1, 0, none⟩ = some (.slice S m c') := (v1.drewN d).cell 0; have x2 : (w4.drewN d).cell? ⟨w.heap.size + 2, 0, none⟩ = some (.slice T q cq) := (v2.drewN d).cell 0; go_wp2_with fail
          refine hK.out _ _ ?_ (fun hHeld => ?_)
          · first | assumption | (dsimp only; assumption) | exact ⟨by assumption, by assumption⟩
          clear hK K
          try simp only [Act.put, List.setIfInBounds_toArray, List.set_cons_zero, List.set_cons_succ, List.getElem_toArray, List.getElem_cons_zero, List.getElem_cons_succ]
          refine wpAnyH_take (i := 7) (v := ?_) rfl (by kernel_rfl) (by kernel_rfl) (by kernel_rfl) (fun _ _ _ h => h) (Or.inl ⟨by rfl, ?_⟩) (by assumption) ?_
          rotate_left 1
          · (intro w0 hSw; (try dsimp only at hSw); go_simp; try with_reducible rfl)
          try simp only [Act.put, List.setIfInBounds_toArray, List.set_cons_zero, List.set_cons_succ, List.getElem_toArray, List.getElem_cons_zero, List.getElem_cons_succ]
          refine wpAnyH_done (by kernel_rfl) ?_ _
          have HB : Hid (Below wr.heap.size wr (w4.drewN d)) := Lib.hid (next_trans (drew_below wr) (next_trans b1 (next_trans b2 (drewN_below _ d))))
          clear b1 b2 oa oa2 ob u1 u2 v1 v2 x1 x2 cS cT rd1 rd2 t2 LG
          cases z with
          | true =>
            have S1 := Lib.hid (headSS_step (xa := xa) (xb := xb) hlt HLOW.out (HYA.out.trans (of_decide_eq_true HZ.out)) r1 r2 hb HB.out)
            clear r1 r2 hb
            go_wp2
            go_roundw
            case rel => exact S1.out
            case measure => simp [intOf]; omega
          | false =>
            have F := Lib.hid (ansB (b := sameB sg xa xb) (a := false) (by rw [same_ab HS.out HS2.out, sameG_no hlt (by rw [HYA.out]; exact of_decide_eq_false HZ.out)]) (next_trans hb HB.out))
            clear r1 r2 hb
            go_wp2
            go_ret
            exact F.out
        · have F := Lib.hid (ansB (b := sameB sg xa xb) (a := true) (by rw [same_ab HS.out HS2.out, sameG_yes (fun i hi => HLOW.out i (by omega))]) hb)
          clear r1 r2 hb h h' h2
          go_wp2
          go_ret
          exact F.out

set_option maxHeartbeats 8000000 in
theorem implSameSubst (A S T : Option Addr) (n c m c' q cq : Nat) (sg : List Int) (xa xb : List (List Int)) (w : World) (h : Seg w w.heap.size A n sg) (h' : Segs w w.heap.size S m xa) (h2 : Segs w w.heap.size T q xb) (hn : n ≤ 1048576) (ht : tot xa ≤ 1048576) (ht2 : tot xb ≤ 1048576) :
    Calls Try.prog 27 #[.agg #[.slice A n c], .agg #[.slice S m c'], .agg #[.slice T q cq]] w (AnsB w (sameB sg xa xb)) := by
  obtain ⟨W, hW, rA, rS, rT, bel⟩ := boxesSS w A n c S m c' T q cq
  have HW := Lib.hid hW
  have hm : m ≤ 1048576 := tot_len h'.1 ht
  have hq : q ≤ 1048576 := tot_len h2.1 ht2
  have HE1 := Lib.hid (tot_each ht)
  have HE2 := Lib.hid (tot_each ht2)
  have HT1 := Lib.hid ht
  have HT2 := Lib.hid ht2
  have s := h.next bel
  have s1 := h'.next bel
  have s2 := h2.next bel
  have L := Lib.hid (implSubstOk A S n c m c' sg xa W s s1 hn ht)
  clear hW ht ht2
  cases hok : substOkB sg xa with
  | false =>
    have HS := Lib.hid hok
    clear hok s s1 s2 h h' h2
    go_enter Try.func27, Try.ntmps27
    go_wp2_with fail
    rw [← HW.out]
    refine L.out.mono ?_
    rintro e w1 ⟨he, bb⟩
    rw [HS.out] at he
    subst he
    have F := Lib.hid (ansB (b := sameB sg xa xb) (a := false) (by rw [same_a HS.out]) (next_trans bel bb))
    clear bb bel rA rS rT
    go_wp2
    go_ret
    exact F.out
  | true =>
    have HS := Lib.hid hok
    clear hok
    go_enter Try.func27, Try.ntmps27
    go_wp2_with fail
    rw [← HW.out]
    refine L.out.mono ?_
    rintro e w1 ⟨he, bb⟩
    rw [HS.out] at he
    subst he
    replace s := s.next bb
    replace s1 := s1.next bb
    replace s2 := s2.next bb
    replace rA := rA.next bb
    replace rS := rS.next bb
    replace rT := rT.next bb
    replace bel := next_trans bel bb
    have cA : w1.cell? ⟨w.heap.size, 0, none⟩ = some (.slice A n c) := rA.cell 0
    have cT : w1.cell? ⟨w.heap.size + 2, 0, none⟩ = some (.slice T q cq) := rT.cell 0
    have L2 := Lib.hid (implSubstOk A T n c q cq sg xb w1 s s2 hn HT2.out)
    clear bb L
    cases hok2 : substOkB sg xb with
    | false =>
      have HS2 := Lib.hid hok2
      clear hok2 s s1 s2 h h' h2
      go_wp2_with fail
      refine L2.out.mono ?_
      rintro e w2 ⟨he, bb⟩
      rw [HS2.out] at he
      subst he
      have F := Lib.hid (ansB (b := sameB sg xa xb) (a := false) (by rw [same_b HS2.out]) (next_trans bel bb))
      clear bb bel rA rS rT cA cT L2
      go_wp2
      go_ret
      exact F.out
    | true =>
      have HS2 := Lib.hid hok2
      clear hok2
      go_wp2_with fail
      refine L2.out.mono ?_
      rintro e w2 ⟨he, bb⟩
      rw [HS2.out] at he
      subst he
      replace s1 := s1.next bb
      replace s2 := s2.next bb
      replace rS := rS.next bb
      replace rT := rT.next bb
      replace bel := next_trans bel bb
      clear bb L2 cA cT rA s
      have cS : w2.cell? ⟨w.heap.size + 1, 0, none⟩ = some (.slice S m c') := rS.cell 0
      have cT : w2.cell? ⟨w.heap.size + 2, 0, none⟩ = some (.slice T q cq) := rT.cell 0
      have d1 := rS.drew
      have d2 := rT.drew
      have sd1 := s1.drew
      have sd2 := s2.drew
      have bd := bel.drew
      clear rS rT s1 s2 bel
      go_wp2_with fail
      refine wp_region_held_drew (S := (fun w' => w'.cell? ⟨w.heap.size + 1, 0, none⟩ = some (.slice S m c') ∧ w'.cell? ⟨w.heap.size + 2, 0, none⟩ = some (.slice T q cq))) (by kernel_rfl) ⟨cS, cT⟩ (fun hHeld => ?_)
      refine wpAnyH_take (i := 0) (v := ?_) rfl (by kernel_rfl) (by kernel_rfl) (by kernel_rfl) (fun _ _ _ h => h) (Or.inl ⟨by rfl, ?_⟩) (by assumption) ?_
      rotate_left 1
      · (intro w0 hSw; (try dsimp only at hSw); go_simp; try with_reducible rfl)
      try simp only [Act.put, List.setIfInBounds_toArray, List.set_cons_zero, List.set_cons_succ, List.getElem_toArray, List.getElem_cons_zero, List.getElem_cons_succ]
      refine wpAnyH_take (i := 2) (v := ?_) rfl (by kernel_rfl) (by kernel_rfl) (by kernel_rfl) (fun _ _ _ h => h) (Or.inl ⟨by rfl, ?_⟩) (by assumption) ?_
      rotate_left 1
      · (intro w0 hSw; (try dsimp only at hSw); go_simp; try with_reducible rfl)
      try simp only [Act.put, List.setIfInBounds_toArray, List.set_cons_zero, List.set_cons_succ, List.getElem_toArray, List.getElem_cons_zero, List.getElem_cons_succ]
      refine wpAnyH_ready (rs := [1]) (by kernel_rfl) (by simp) (AllReadyH.cons rfl (fun K hK => ?_) AllReadyH.nil)
      go_simp
      refine (lookupB S m c' w2.drew).mono ?_; rintro e w3 ⟨rfl, ra, b3⟩; have u1 := d1.next b3; have u2 := d2.next b3; have x1 : w3.cell? ⟨w.heap.size + 1, 0, none⟩ = some (.slice S m c') := u1.cell 0; have x2 : w3.cell? ⟨w.heap.size + 2, 0, none⟩ = some (.slice T q cq) := u2.cell 0; go_wp2_with fail
      refine hK.out _ _ ?_ (fun hHeld => ?_)
      · first | assumption | (dsimp only; assumption) | exact ⟨by assumption, by assumption⟩
      clear hK K
      try simp only [Act.put, List.setIfInBounds_toArray, List.set_cons_zero, List.set_cons_succ, List.getElem_toArray, List.getElem_cons_zero, List.getElem_cons_succ]
      refine wpAnyH_ready (rs := [3]) (by kernel_rfl) (by simp) (AllReadyH.cons rfl (fun K hK => ?_) AllReadyH.nil)
      go_simp
      refine (lookupB T q cq w3).mono ?_; rintro e w4 ⟨rfl, rb, b4⟩; have x1 : w4.cell? ⟨w.heap.size + 1, 0, none⟩ = some (.slice S m c') := (u1.next b4).cell 0; have x2 : w4.cell? ⟨w.heap.size + 2, 0, none⟩ = some (.slice T q cq) := (u2.next b4).cell 0; clear u1 u2; go_wp2_with fail
      refine hK.out _ _ ?_ (fun hHeld => ?_)
      · first | assumption | (dsimp only; assumption) | exact ⟨by assumption, by assumption⟩
      clear hK K
      try simp only [Act.put, List.setIfInBounds_toArray, List.set_cons_zero, List.set_cons_succ, List.getElem_toArray, List.getElem_cons_zero, List.getElem_cons_succ]
      refine wpAnyH_take (i := 4) (v := ?_) rfl (by kernel_rfl) (by kernel_rfl) (by kernel_rfl) (fun _ _ _ h => h) (Or.inl ⟨by rfl, ?_⟩) (by assumption) ?_
      rotate_left 1
      · (intro w0 hSw; (try dsimp only at hSw); go_simp; try with_reducible rfl)
      try simp only [Act.put, List.setIfInBounds_toArray, List.set_cons_zero, List.set_cons_succ, List.getElem_toArray, List.getElem_cons_zero, List.getElem_cons_succ]
      refine wpAnyH_take (i := 5) (v := ?_) rfl (by kernel_rfl) (by kernel_rfl) (by kernel_rfl) (fun _ _ _ h => h) (Or.inl ⟨by rfl, ?_⟩) (by assumption) ?_
      rotate_left 1
      · (intro w0 hSw; (try dsimp only at hSw); go_simp; try with_reducible rfl)
      try simp only [Act.put, List.setIfInBounds_toArray, List.set_cons_zero, List.set_cons_succ, List.getElem_toArray, List.getElem_cons_zero, List.getElem_cons_succ]
      refine wpAnyH_done (by kernel_rfl) ?_ _
      have H0 : HeadSS w w2.heap.size w3.heap.size S m c' T q cq xa xb (.int .i64 0) w4 := ⟨0, Nat.zero_le _, rfl, fun j hj => absurd hj (Nat.not_lt_zero _), ra.next b4, rb, next_trans (next_trans bd b3) b4⟩
      have HH := Lib.hid H0
      have G1 := Lib.hid ((sd1.next b3).next b4)
      have G2 := Lib.hid ((sd2.next b3).next b4)
      clear H0 sd1 sd2 d1 d2 bd b3 b4 ra rb cS cT x1 x2
      go_wp2_with fail
      go_loopw [24] (fun i wr => HeadSS w w2.heap.size w3.heap.size S m c' T q cq xa xb i wr) (fun i _ => 24 - (intOf i).toNat)
      case atStart => exact HH.out
      case round =>
        obtain ⟨k, hk, rfl, hlow, r1, r2, hb⟩ := hrel
        clear HH
        have HLOW := Lib.hid hlow
        clear hlow
        by_cases hlt : k < 24
        · have i0 : (0 : Int) ≤ (k : Int) := by omega
          have LA : Calls Try.prog 105 #[.int .i64 (k : Int), .pointer (some ⟨w2.heap.size, 0, none⟩)] wr (AnsLook wr.heap.size wr (givesL xa k)) := lookSubst w2.heap.size S m c' xa wr r1 ((h'.below hb).more hb.size) hm wr k (Below.refl _ _) hlt
          have t2 := (h2.below hb).more hb.size
          have hya : (givesL xa k).length ≤ 1048576 := gives_each HE1.out k
          have hyb : (givesL xb k).length ≤ 1048576 := gives_each HE2.out k
          obtain ⟨ya, hya2⟩ : ∃ ya, givesL xa k = ya := ⟨_, rfl⟩
          rw [hya2] at LA hya
          have HYA := Lib.hid hya2
          clear hya2 h h' h2
          obtain ⟨z, hz⟩ : ∃ z, decide (ya = givesL xb k) = z := ⟨_, rfl⟩
          have HZ := Lib.hid hz
          clear hz
          replace LA := Lib.hid LA
          go_wp2_with fail
          refine LA.out.mono ?_
          rintro e w5 ⟨X, xn, xc, rfl, oa, -, -, b1⟩
          have LB : Calls Try.prog 105 #[.int .i64 (k : Int), .pointer (some ⟨w3.heap.size, 0, none⟩)] w5 (AnsLook w5.heap.size w5 (givesL xb k)) := lookSubst w3.heap.size T q cq xb w5 (r2.next b1) (t2.next b1) hq w5 k (Below.refl _ _) hlt
          replace LB := Lib.hid LB
          clear t2
          go_wp2_with fail
          refine LB.out.mono ?_
          rintro e w6 ⟨Y, yn, yc, rfl, ob, -, -, b2⟩
          have oa2 := oa.next b2
          go_wp2_with fail
          refine (implSame X Y xn yn xc yc ya (givesL xb k) w6 oa2 ob (by rw [← oa.1]; exact hya) (by rw [← ob.1]; exact hyb)).mono ?_
          rintro e w7 ⟨he, d, rfl⟩
          rw [HZ.out] at he
          subst he
          have HB := Lib.hid (next_trans b1 (next_trans b2 (drewN_below _ d)))
          clear b1 b2 oa oa2 ob LA LB
          cases z with
          | true =>
            have S1 := Lib.hid (headSS_step (xa := xa) (xb := xb) hlt HLOW.out (HYA.out.trans (of_decide_eq_true HZ.out)) r1 r2 hb HB.out)
            clear r1 r2 hb
            go_wp2
            go_roundw
            case rel => exact S1.out
            case measure => simp [intOf]; omega
          | false =>
            have F := Lib.hid (ansB (b := sameB sg xa xb) (a := false) (by rw [same_ab HS.out HS2.out, sameG_no hlt (by rw [HYA.out]; exact of_decide_eq_false HZ.out)]) (next_trans hb HB.out))
            clear r1 r2 hb
            go_wp2
            go_ret
            exact F.out
        · have F := Lib.hid (ansB (b := sameB sg xa xb) (a := true) (by rw [same_ab HS.out HS2.out, sameG_yes (fun i hi => HLOW.out i (by omega))]) hb)
          clear r1 r2 hb h h' h2
          go_wp2
          go_ret
          exact F.out
end Go.Proofs.Ytdeegjeopkcomaa.sameSubst
end

section
/-
  PLAIN MATHEMATICS of Composed: what the composition gives ('compL'), whether all of it fits ('compOk'), its plain form. Conditions: none. By an AI agent.
-/
namespace Go.Proofs.Ytdeegjeopkcomaa.compMath
open Go.Proofs.Ytdeegjeopkcomaa.term Go.Proofs.Ytdeegjeopkcomaa.termOk Go.Proofs.Ytdeegjeopkcomaa.termFacts Go.Proofs.Ytdeegjeopkcomaa.segsHelp Go.Proofs.Ytdeegjeopkcomaa.fillMath Go.Proofs.Ytdeegjeopkcomaa.substOk Go.Proofs.Ytdeegjeopkcomaa.gives Go.Proofs.Ytdeegjeopkcomaa.plainMath Go.Proofs.Ytdeegjeopkcomaa.plainOf

/-- what the composition gives for a variable -/
def compL (us ss : List (List Int)) (i : Nat) : List Int := fillL (givesL us) (givesL ss i)
def compOk (us ss : List (List Int)) : Bool := (List.range 24).all fun i => decide ((compL us ss i).length ≤ 60)
/-- what Composed answers -/
def composedB (sg : List Int) (ss us : List (List Int)) : Bool := substOkB sg ss && (substOkB sg us && compOk us ss)
def composedI (sg : List Int) (ss us : List (List Int)) : List (List Int) := if composedB sg ss us = true then plainL (compL us ss) 24 else []

theorem composed_s {sg : List Int} {ss us : List (List Int)} (h : substOkB sg ss = false) : composedB sg ss us = false := by unfold composedB; rw [h, Bool.false_and]
theorem composed_u {sg : List Int} {ss us : List (List Int)} (h : substOkB sg us = false) : composedB sg ss us = false := by unfold composedB; rw [h, Bool.false_and, Bool.and_false]
theorem composed_b {sg : List Int} {ss us : List (List Int)} (h : substOkB sg ss = true) (h' : substOkB sg us = true) : composedB sg ss us = compOk us ss := by unfold composedB; rw [h, h', Bool.true_and, Bool.true_and]
theorem composed_yes {sg : List Int} {ss us : List (List Int)} (h : composedB sg ss us = true) : composedI sg ss us = plainL (compL us ss) 24 := by unfold composedI; rw [if_pos h]
theorem composed_no {sg : List Int} {ss us : List (List Int)} (h : composedB sg ss us = false) : composedI sg ss us = [] := by unfold composedI; rw [if_neg (by rw [h]; simp)]

theorem compOk_iff {us ss : List (List Int)} : compOk us ss = true ↔ ∀ i, i < 24 → (compL us ss i).length ≤ 60 := by
  unfold compOk
  rw [List.all_eq_true]
  exact ⟨fun h i hi => of_decide_eq_true (h i (List.mem_range.2 hi)), fun h i hi => decide_eq_true (h i (List.mem_range.1 hi))⟩
theorem compOk_no {us ss : List (List Int)} {i : Nat} (hi : i < 24) (h : ¬ (compL us ss i).length ≤ 60) : compOk us ss = false := by
  cases e : compOk us ss with
  | false => rfl
  | true => exact absurd (compOk_iff.1 e i hi) h
theorem comp_out {us ss : List (List Int)} {i : Nat} (h : ss.length ≤ i) (h' : us.length ≤ i) : compL us ss i = vt i := by
  unfold compL
  rw [gives_out (by omega)]
  unfold vt
  rw [fill_cons, fill_nil, List.append_nil, rep_var (by omega), show (-1 - (-1 - (i : Int))).toNat = i by omega, gives_out (by omega)]
  rfl
theorem comp_pos (us ss : List (List Int)) (i : Nat) : 1 ≤ (compL us ss i).length := by
  have h1 := fill_ge (gives_pos us) (givesL ss i)
  have h2 := gives_pos ss i
  unfold compL
  omega
theorem comp_len {sg : List Int} {us ss : List (List Int)} (h : substOkB sg ss = true) (h' : substOkB sg us = true) (i : Nat) : (compL us ss i).length ≤ 3600 := by
  have h1 := fill_len (M := 60) (by omega) (gives_len h') (givesL ss i)
  have h2 := gives_len h i
  have h3 : (givesL ss i).length * 60 ≤ 60 * 60 := Nat.mul_le_mul_right _ h2
  unfold compL
  omega

/-- the composition as a list -/
def outL (us ss : List (List Int)) (k : Nat) : List (List Int) := (List.range k).map (compL us ss)
theorem out_len (us ss : List (List Int)) (k : Nat) : (outL us ss k).length = k := by simp [outL]
theorem out_get {us ss : List (List Int)} {k i : Nat} (h : i < k) : (outL us ss k).getD i [] = compL us ss i := by simp [outL, List.getD, h]
theorem out_succ (us ss : List (List Int)) (k : Nat) : outL us ss (k + 1) = outL us ss k ++ [compL us ss k] := by simp [outL, List.range_succ]
theorem out_gives {us ss : List (List Int)} {k i : Nat} (h : i < k) : givesL (outL us ss k) i = compL us ss i := by
  have := comp_pos us ss i
  rw [gives_term (by rw [out_get h]; omega), out_get h]
theorem out_plain {us ss : List (List Int)} {k : Nat} (hk : k ≤ 24) (h : ss.length ≤ k) (h' : us.length ≤ k) : plainL (givesL (outL us ss k)) k = plainL (compL us ss) 24 := by
  rw [plain_24 hk (fun i hi => comp_out (by omega) (by omega))]
  exact plain_ext fun i hi => out_gives hi
theorem out_each {us ss : List (List Int)} {k : Nat} (hk : k ≤ 24) (h : ∀ i, i < k → (compL us ss i).length ≤ 60) : tot (outL us ss k) ≤ 1048576 := by
  have h1 := tot_le (xss := outL us ss k) (M := 60) (fun j => by
    by_cases hj : j < k
    · rw [out_get hj]; exact h j hj
    · rw [show (outL us ss k).getD j [] = [] by simp [List.getD, out_len, hj]]; simp)
  rw [out_len] at h1
  have : k * 60 ≤ 24 * 60 := Nat.mul_le_mul_right _ hk
  omega

/-- one of the lists is too long for a term -/
def anyLong (xss : List (List Int)) : Bool := xss.any fun t => decide (60 < t.length)
theorem anyLong_iff {xss : List (List Int)} : anyLong xss = true ↔ ∃ i, 60 < (xss.getD i []).length := by
  unfold anyLong
  rw [List.any_eq_true]
  refine ⟨fun ⟨t, ht, h⟩ => ?_, fun ⟨i, h⟩ => ?_⟩
  · obtain ⟨i, hi, rfl⟩ := List.getElem_of_mem ht
    exact ⟨i, by simpa [List.getD, hi] using h⟩
  · by_cases hi : i < xss.length
    · refine ⟨xss[i], List.getElem_mem hi, ?_⟩
      simpa [List.getD, hi] using h
    · rw [show xss.getD i [] = [] by simp [List.getD, hi]] at h
      simp at h
theorem anyLong_comp (us ss : List (List Int)) : anyLong (plainL (compL us ss) 24) = !compOk us ss := by
  cases h : compOk us ss with
  | true =>
    cases e : anyLong (plainL (compL us ss) 24) with
    | false => rfl
    | true =>
      obtain ⟨i, hi⟩ := anyLong_iff.1 e
      rw [plain_get] at hi
      by_cases h24 : i < 24
      · rw [rows_get h24] at hi
        have := compOk_iff.1 h i h24
        unfold bare at hi
        split at hi
        · simp at hi
        · omega
      · rw [show (rowsL (compL us ss) 24).getD i [] = [] by simp [List.getD, rows_len, h24]] at hi
        simp at hi
  | false =>
    have hn : ∃ i, i < 24 ∧ ¬ (compL us ss i).length ≤ 60 := by
      refine Classical.byContradiction fun hne => ?_
      have : compOk us ss = true := compOk_iff.2 fun i hi => Classical.byContradiction fun hl => hne ⟨i, hi, hl⟩
      rw [h] at this
      cases this
    obtain ⟨i, hi, hl⟩ := hn
    refine anyLong_iff.2 ⟨i, ?_⟩
    rw [plain_get, rows_get hi]
    unfold bare
    rw [if_neg (fun e => by rw [e] at hl; simp [vt] at hl)]
    omega
theorem composed_tot {sg : List Int} {ss us : List (List Int)} : tot (composedI sg ss us) ≤ 1048576 := by
  cases h : composedB sg ss us with
  | false => rw [composed_no h]; simp [tot, sumL]
  | true =>
    rw [composed_yes h]
    unfold composedB at h
    simp only [Bool.and_eq_true] at h
    have h1 := tot_le (plain_each (L := compL us ss) (m := 24) (comp_len h.1 h.2.1))
    have h2 := plain_len (compL us ss) 24
    have h4 : (plainL (compL us ss) 24).length * 3600 ≤ 24 * 3600 := Nat.mul_le_mul_right _ h2
    omega
end Go.Proofs.Ytdeegjeopkcomaa.compMath
end

section
/-
  CONTRACTS: spec.l2Filled, spec.Filled, impl.Filled. Conditions: the slices read as lists ('Seg', 'Segs'), at most 1048576 values. By an AI agent.
-/
namespace Go.Proofs.Ytdeegjeopkcomaa.filled
open Go.RowKit Go.Proofs.Ytdeegjeopkcomaa.base Go.Proofs.Ytdeegjeopkcomaa.ints Go.Proofs.Ytdeegjeopkcomaa.sig Go.Proofs.Ytdeegjeopkcomaa.cursor Go.Proofs.Ytdeegjeopkcomaa.term Go.Proofs.Ytdeegjeopkcomaa.termOk Go.Proofs.Ytdeegjeopkcomaa.marks Go.Proofs.Ytdeegjeopkcomaa.app Go.Proofs.Ytdeegjeopkcomaa.appAt Go.Proofs.Ytdeegjeopkcomaa.sym Go.Proofs.Ytdeegjeopkcomaa.sub Go.Proofs.Ytdeegjeopkcomaa.segs Go.Proofs.Ytdeegjeopkcomaa.segsHelp Go.Proofs.Ytdeegjeopkcomaa.termFacts Go.Proofs.Ytdeegjeopkcomaa.varsMath Go.Proofs.Ytdeegjeopkcomaa.varsOf Go.Proofs.Ytdeegjeopkcomaa.fillMath Go.Proofs.Ytdeegjeopkcomaa.look Go.Proofs.Ytdeegjeopkcomaa.shifted Go.Proofs.Ytdeegjeopkcomaa.substOk Go.Proofs.Ytdeegjeopkcomaa.gives
set_option maxRecDepth 100000

/-- a whole slice appended, at a step of a region that draws -/
theorem stepAppAll {w : World} {ops : Array Oper} {o : Oper} {a : Act} {K : Act → World → Prop} {Q : Exit → Act → World → Prop} {E : Prop} (hgd : o.guard = none) (s x : Operand)
    (ho : o.op = .call { callee := .builtin .append, args := #[s, x], argTypes := #[24, 24] })
    (base : Nat) (A : Option Addr) (n c : Nat) (xs : List Int) (hs : a.eval s = .slice A n c) (hown : Own w base (.slice A n c) xs)
    (S : Option Addr) (m c2 B : Nat) (ys : List Int) (hx : a.eval x = .slice S m c2) (hseg : Seg w B S m ys) (hm1 : 1 ≤ m) (hn : n ≤ 2097152) (hm : m ≤ 2097152) (hbase : base ≤ w.heap.size)
    (h : ∀ g' c' w', Own w' base (.slice (some ⟨g', 0, none⟩) (n + m) c') (xs ++ ys) → w.grownBy w' (blk A) → (blk A = some g' ∨ g' = w.heap.size) → g' < w'.heap.size → K (a.put o.dst (.slice (some ⟨g', 0, none⟩) (n + m) c')) w') :
    if Region.wanted o (yielded ops a.tmps) = true then Oper.wp Try.prog o a w K Q else E := by
  obtain ⟨i0, hi, hz0, hz1, hz2⟩ := info_parts info_i64
  have hl : xs.length = n := by
    obtain ⟨A', c', e⟩ := hown.slice
    exact (Value.slice.inj e).2.1.symm
  have hob : (Value.slice A n c).ownBlock = blk A := by cases A <;> rfl
  obtain ⟨b, off, e, _, hc⟩ := hseg.2 (by omega)
  subst e
  refine step_append_lies w hgd s x 24 ho base 2 i0 (.int .i64 0) 1 8 Try.underlying24 hi hz0 hz1 hz2 rfl (by decide) (.slice A n c) n (xs.map (Value.int .i64)) hs (by rw [← hl]; rw [← hl] at hown; exact hown)
    ⟨b, off, none⟩ m c2 (ys.map (Value.int .i64)) hx (by simp [hseg.1]) (fun j u hj => ?_) (fun u hu => ?_) (by omega) (by unfold maxLen; omega) (by omega) hbase w.heap.size rfl ?_
  · have hjl : j < m := by
      have := (List.getElem?_eq_some_iff.1 hj).1
      simp at this
      have := hseg.1
      omega
    have hcj := hc j hjl
    have e2 : (⟨b, off, none⟩ : Addr).add j = ⟨b, off + j, none⟩ := by unfold Addr.add; split <;> simp_all
    rw [e2, hcj, ← hj]
    have := hseg.1
    simp [List.getD, show j < ys.length by omega]
  · obtain ⟨y, _, rfl⟩ := List.mem_map.1 hu
    rfl
  · intro g' c' w' hown' hg hat hlt
    rw [← List.map_append] at hown'
    rw [hob] at hg hat
    refine h g' c' w' ?_ hg hat hlt
    have hl2 : (xs ++ ys).length = n + m := by simp [hl, hseg.1]
    unfold Own
    rw [hl2]
    exact hown'

/-- what filling answers -/
def fitsB (ss : List (List Int)) (t : List Int) : Bool := decide ((fillL (givesL ss) t).length ≤ 60)
def fitL (ss : List (List Int)) (t : List Int) : List Int := if fitsB ss t = true then fillL (givesL ss) t else []
theorem fits_no {ss : List (List Int)} {t : List Int} {k : Nat} (h : 60 < (fillL (givesL ss) (t.take k)).length) : fitsB ss t = false := by
  have e : fillL (givesL ss) t = fillL (givesL ss) (t.take k) ++ fillL (givesL ss) (t.drop k) := by rw [← fill_append, List.take_append_drop]
  unfold fitsB
  rw [e, List.length_append]
  simp
  omega

/-- the head of l2Filled's loop -/
def HeadF (w : World) (S : Option Addr) (m c mt : Nat) (ss : List (List Int)) (t : List Int) (out i : Value) (wr : World) : Prop :=
  ∃ (k : Nat) (O : Option Addr) (on oc : Nat), k ≤ mt ∧ i = .int .i64 k ∧ out = .slice O on oc ∧ on ≤ 60 ∧ Own wr (w.heap.size + 1) (.slice O on oc) (fillL (givesL ss) (t.take k)) ∧ Row wr w.heap.size 29 #[.slice S m c] ∧ Below w.heap.size w wr
theorem pairF_no {w wr : World} {ss : List (List Int)} {t : List Int} (h : fitsB ss t = false) (hb : Below w.heap.size w wr) : AnsPairO w (fitL ss t) (fitsB ss t) (.returned (.tuple #[.slice (some ⟨wr.heap.size, 0, none⟩) 0 0, .bool false])) (wr.alloc (.cells #[] 2)) :=
  ⟨_, 0, 0, by rw [h], by unfold fitL; rw [if_neg (by rw [h]; simp)]; exact own_empty wr w.heap.size hb.size, hb.alloc hb.size _⟩

set_option maxHeartbeats 8000000 in
theorem l2Filled (S A : Option Addr) (m c mt ct : Nat) (ss : List (List Int)) (t : List Int) (w : World) (h : Segs w w.heap.size S m ss) (h' : Seg w w.heap.size A mt t) (ht : tot ss ≤ 1048576) (hmt : mt ≤ 60) (hv : ∀ x ∈ t, -24 ≤ x) (hM : ∀ i, (givesL ss i).length ≤ 60) :
    Calls Try.prog 67 #[.agg #[.slice S m c], .slice A mt ct] w (AnsPairO w (fitL ss t) (fitsB ss t)) := by
  have HL := Lib.hid h'.1
  have HV := Lib.hid hv
  have HM := Lib.hid hM
  have HT := Lib.hid ht
  have S0 : HeadF w S m c mt ss t (.slice (some ⟨w.heap.size + 1, 0, none⟩) 0 0) (.int .i64 0) ((w.alloc (.cells #[.slice S m c] 29)).alloc (.cells #[] 2)) :=
    ⟨0, _, _, _, Nat.zero_le _, rfl, rfl, by omega, by have := own_empty (w.alloc (.cells #[.slice S m c] 29)) (w.heap.size + 1) (by simp); simpa [fillL] using this, (Row.new _ _ _).alloc _, ((Below.refl _ _).alloc (Nat.le_refl _) _).alloc (by simp) _⟩
  have HS0 := Lib.hid S0
  clear S0 hv hM ht
  go_enter Try.func67, Try.ntmps67
  go_wp2_with fail
  go_loopw [6, 7] (fun out i wr => HeadF w S m c mt ss t out i wr) (fun _ i _ => mt - (intOf i).toNat)
  case atStart => exact HS0.out
  case round =>
    obtain ⟨k, O, on, oc, hk, rfl, rfl, hon, ho, hr, hb⟩ := hrel
    clear HS0
    have hsz := hr.lt
    by_cases hlt : k < mt
    · obtain ⟨b, off, x, rfl, hbb, hx, ex⟩ := h'.spot hlt
      have hx1 : wr.cell? ⟨b, off + k, none⟩ = some (.int .i64 x) := (hb.cell (p := ⟨b, off + k, none⟩) hbb).trans hx
      have hbr : b < wr.heap.size := Nat.lt_of_lt_of_le hbb hb.size
      have cS : wr.cell? ⟨w.heap.size, 0, none⟩ = some (.slice S m c) := hr.cell 0
      have hmem : x ∈ t := by
        have hkl : k < t.length := by rw [HL.out]; exact hlt
        have := ex.out
        rw [← this]
        simp [List.getD, hkl]
      have hx24 : -24 ≤ x := HV.out x hmem
      have E := Lib.hid (fill_take (L := givesL ss) (t := t) (k := k) (by rw [HL.out]; exact hlt) ex.out)
      have i0 : (0 : Int) ≤ (k : Int) := by omega
      have i1 : (k : Int) < (mt : Int) := by omega
      have HN := Lib.hid (Own.len ho)
      have hx0 := hx
      clear hmem hx h' ex
      by_cases hpos : 0 ≤ x
      · have R := Lib.hid (rep_sym (L := givesL ss) hpos)
        have d1 : decide (x < 0) = false := by simp; omega
        by_cases h60 : on + 1 ≤ 60
        · go_wp2_with (at_builtin; refine app1 rfl _ _ rfl (w.heap.size + 1) O on oc (fillL (givesL ss) (t.take k)) rfl (Own.alloc ho _) wr.heap.size 1 x rfl ((Row.new _ _ _).cell 0) (by omega) (by simp; omega) ?_; intro O' oc' w2 ho2 b2)
          have S1 : HeadF w S m c mt ss t (.slice O' (on + 1) oc') (.int .i64 ((k : Int) + 1)) w2 := ⟨k + 1, O', on + 1, oc', hlt, by simp, rfl, h60, by rw [E.out, R.out]; exact ho2, (hr.alloc _).below b2 (Nat.lt_succ_self _), (hb.alloc (Nat.le_of_lt hsz) _).trans (b2.mono (Nat.le_succ _))⟩
          have HS1 := Lib.hid S1
          clear S1 ho2 b2 ho hr hb R E cS
          go_wp2
          go_roundw
          case rel => exact HS1.out
          case measure => simp [intOf]; omega
        · have NO := Lib.hid (fits_no (ss := ss) (t := t) (k := k + 1) (by rw [E.out, R.out, List.length_append, ← HN.out]; simp; omega))
          go_wp2_with (at_builtin; refine app1 rfl _ _ rfl (w.heap.size + 1) O on oc (fillL (givesL ss) (t.take k)) rfl (Own.alloc ho _) wr.heap.size 1 x rfl ((Row.new _ _ _).cell 0) (by omega) (by simp; omega) ?_; intro O' oc' w2 ho2 b2)
          have F := Lib.hid (pairF_no NO.out ((hb.alloc (Nat.le_of_lt hsz) _).trans (b2.mono (Nat.le_succ _))))
          clear ho2 b2 ho hr hb R E cS
          go_wp2
          go_ret2
          exact F.out
      · have hneg : x < 0 := by omega
        have R := Lib.hid (rep_var (L := givesL ss) hneg)
        obtain ⟨i, hi⟩ : ∃ i : Nat, (-1 - x).toNat = i := ⟨_, rfl⟩
        rw [hi] at R
        have hix : (i : Int) = -1 - x := by omega
        have LG := Lib.hid (l2Gives S m c ss i wr.drew (((h.below hb).more hb.size).drew) HT.out (by omega))
        rw [hix] at LG
        have hlen : (givesL ss i).length ≤ 60 := HM.out i
        have hlen1 : 1 ≤ (givesL ss i).length := gives_pos ss i
        obtain ⟨q, hq⟩ : ∃ q, (givesL ss i).length = q := ⟨_, rfl⟩
        rw [hq] at hlen hlen1
        have HQ := Lib.hid hq
        have hw1 : IntKind.i64.wrap (-1 - x) = -1 - x := by rw [IntKind.wrap_i64]; omega
        have hod := Own.drew ho
        have hrd := hr.drew
        have hbd := hb.drew
        clear hix hi hq h
        go_wp2_with fail
        go_region_held3 (fun w' => w'.cell? ⟨w.heap.size, 0, none⟩ = some (.slice S m c) ∧ w'.cell? ⟨b, off + k, none⟩ = some (.int .i64 x))
          (go_keep)
          (first
            | (go_at_call 75; refine LG.out.mono ?_; rintro e w1 ⟨D, dn, dc, rfl, od, bb⟩; obtain rfl : dn = q := (by rw [Own.len od]; exact HQ.out); have ho1 := Own.next hod bb; have hr1 := hrd.next bb; have hb1 := next_trans hbd bb; have cS1 : w1.cell? ⟨w.heap.size, 0, none⟩ = some (.slice S m c) := hr1.cell 0; have cX1 : w1.cell? ⟨b, off + k, none⟩ = some (.int .i64 x) := (bb.cell (p := ⟨b, off + k, none⟩) hbr).trans hx1)
            | (refine stepAppAll rfl _ _ rfl (w.heap.size + 1) O on oc (fillL (givesL ss) (t.take k)) (by rfl) ho1 D _ dc w1.heap.size (givesL ss i) (by rfl) (Own.seg od) (by omega) (by omega) (by omega) (by have := hr1.lt; omega) ?_; intro O' oc' w2 ho2 hg2 hat2 hlt2; have hr2 := Row.away hr1 hg2 (fun e => by have := (World.ownsRow.lt ho1 w.heap.size (by rw [blk_own]; exact e)).1; omega); have hb2 : Below w.heap.size w w2 := hb1.grown hg2 hb1.size (fun z hz => by have := (World.ownsRow.lt ho1 z (by rw [blk_own]; exact hz)).1; omega); have cS2 : w2.cell? ⟨w.heap.size, 0, none⟩ = some (.slice S m c) := hr2.cell 0; have cX2 : w2.cell? ⟨b, off + k, none⟩ = some (.int .i64 x) := (hb2.cell (p := ⟨b, off + k, none⟩) hbb).trans hx0))
        have hsum : (fillL (givesL ss) (t.take k) ++ givesL ss i).length = on + dn := by rw [List.length_append, ← HN.out, HQ.out]
        clear cS1 cX1 ho1 hr1 hb1 od bb hod hrd hbd LG ho hr hb cS hx1 hg2 hat2 HM HV
        by_cases h60 : on + dn ≤ 60
        · have S1 : HeadF w S m c mt ss t (.slice (some ⟨O', 0, none⟩) (on + dn) oc') (.int .i64 ((k : Int) + 1)) w2 := ⟨k + 1, _, on + dn, oc', hlt, by simp, rfl, h60, by rw [E.out, R.out]; exact ho2, hr2, hb2⟩
          have HS1 := Lib.hid S1
          clear S1 ho2 hr2 hb2 R E HQ hsum
          go_wp2
          go_roundw
          case rel => exact HS1.out
          case measure => simp [intOf]; omega
        · have NO := Lib.hid (fits_no (ss := ss) (t := t) (k := k + 1) (by rw [E.out, R.out, hsum]; omega))
          have F := Lib.hid (pairF_no NO.out hb2)
          clear ho2 hr2 hb2 R E HQ hsum
          go_wp2
          go_ret2
          exact F.out
    · have F : AnsPairO w (fitL ss t) (fitsB ss t) (.returned (.tuple #[.slice O on oc, .bool true])) wr := by
        rw [List.take_of_length_le (by rw [HL.out]; omega)] at ho
        have hB : fitsB ss t = true := by unfold fitsB; rw [← Own.len ho]; simp; omega
        exact ⟨O, on, oc, by rw [hB], by unfold fitL; rw [if_pos hB]; exact Own.lower ho (Nat.le_succ _), hb⟩
      have HF := Lib.hid F
      clear F ho hr hb h h'
      go_wp2
      go_ret2
      exact HF.out

/-- what Filled answers -/
def filledB (sg : List Int) (ss : List (List Int)) (t : List Int) : Bool := substOkB sg ss && (termOkB sg t && fitsB ss t)
def filledL (sg : List Int) (ss : List (List Int)) (t : List Int) : List Int := if filledB sg ss t = true then fillL (givesL ss) t else []
theorem filled_s {sg : List Int} {ss : List (List Int)} {t : List Int} (h : substOkB sg ss = false) : filledB sg ss t = false := by unfold filledB; rw [h, Bool.false_and]
theorem filled_t {sg : List Int} {ss : List (List Int)} {t : List Int} (h : termOkB sg t = false) : filledB sg ss t = false := by unfold filledB; rw [h, Bool.false_and, Bool.and_false]
theorem filled_b {sg : List Int} {ss : List (List Int)} {t : List Int} (h : substOkB sg ss = true) (h' : termOkB sg t = true) : filledB sg ss t = fitsB ss t := by unfold filledB; rw [h, h', Bool.true_and, Bool.true_and]
theorem filled_l {sg : List Int} {ss : List (List Int)} {t : List Int} (h : substOkB sg ss = true) (h' : termOkB sg t = true) : filledL sg ss t = fitL ss t := by unfold filledL fitL; rw [filled_b h h']
theorem filled_len (sg : List Int) (ss : List (List Int)) (t : List Int) : (filledL sg ss t).length ≤ 60 := by
  unfold filledL filledB fitsB
  split
  · rename_i h
    simp only [Bool.and_eq_true, decide_eq_true_eq] at h
    exact h.2.2
  · simp
theorem pairSF_no {w w' : World} {sg : List Int} {ss : List (List Int)} {t : List Int} {A : Option Addr} {c : Nat} (h : filledB sg ss t = false) (hb : Below w.heap.size w w') : AnsPairS w (filledL sg ss t) (filledB sg ss t) (.returned (.tuple #[.slice A 0 c, .bool false])) w' :=
  ⟨A, 0, c, by rw [h], by unfold filledL; rw [if_neg (by rw [h]; simp)]; exact ⟨rfl, fun h0 => absurd h0 (by omega)⟩, hb⟩
theorem pairOF_no {w w' : World} {sg : List Int} {ss : List (List Int)} {t : List Int} (h : filledB sg ss t = false) (hb : Below w.heap.size w w') : AnsPairO w (filledL sg ss t) (filledB sg ss t) (.returned (.tuple #[.slice none 0 0, .bool false])) w' :=
  ⟨none, 0, 0, by rw [h], by unfold filledL; rw [if_neg (by rw [h]; simp)]; exact Own.nil _ _, hb⟩

set_option maxHeartbeats 2000000 in
theorem specFilled (A S A' : Option Addr) (n c m c' q cq : Nat) (sg : List Int) (ss : List (List Int)) (t : List Int) (w : World) (h : Seg w w.heap.size A n sg) (h' : Segs w w.heap.size S m ss) (h2 : Seg w w.heap.size A' q t) (hn : n ≤ 1048576) (ht : tot ss ≤ 1048576) (hq : q ≤ 1048576) :
    Calls Try.prog 21 #[.agg #[.slice A n c], .agg #[.slice S m c'], .slice A' q cq] w (AnsPairS w (filledL sg ss t) (filledB sg ss t)) := by
  obtain ⟨W, hW, rA, rS, bel⟩ := boxes2 w A n c S m c'
  have HW := Lib.hid hW
  have HL := Lib.hid h2.1
  have s := h.next bel
  have s1 := h'.next bel
  have s2 := h2.next bel
  have L := Lib.hid (specSubstOk A S n c m c' sg ss W s s1 hn ht)
  clear hW h h' h2
  cases hok : substOkB sg ss with
  | false =>
    have HS := Lib.hid hok
    clear hok s s1 s2
    go_enter Try.func21, Try.ntmps21
    go_wp2_with fail
    rw [← HW.out]
    refine L.out.mono ?_
    rintro e w1 ⟨he, bb⟩
    rw [HS.out] at he
    subst he
    have bel1 := next_trans bel bb
    have F := Lib.hid (pairSF_no (A := some ⟨w1.heap.size, 0, none⟩) (c := 0) (filled_s (t := t) HS.out) (bel1.alloc bel1.size (.cells #[] 2)))
    clear bb bel bel1 rA rS
    go_wp2
    go_ret2
    exact F.out
  | true =>
    have HS := Lib.hid hok
    clear hok
    go_enter Try.func21, Try.ntmps21
    go_wp2_with fail
    rw [← HW.out]
    refine L.out.mono ?_
    rintro e w1 ⟨he, bb⟩
    rw [HS.out] at he
    subst he
    replace s := s.next bb
    replace s1 := s1.next bb
    replace s2 := s2.next bb
    replace rA := rA.next bb
    replace rS := rS.next bb
    replace bel := next_trans bel bb
    have cA : w1.cell? ⟨w.heap.size, 0, none⟩ = some (.slice A n c) := rA.cell 0
    have L2 := Lib.hid (specTermOk A A' n c q cq sg t w1 s s2 hn hq)
    clear bb L
    cases hok2 : termOkB sg t with
    | false =>
      have HS2 := Lib.hid hok2
      clear hok2 s s1 s2
      go_wp2_with fail
      refine L2.out.mono ?_
      rintro e w2 ⟨he, bb⟩
      rw [HS2.out] at he
      subst he
      have bel1 := next_trans bel bb
      have F := Lib.hid (pairSF_no (A := some ⟨w2.heap.size, 0, none⟩) (c := 0) (filled_t (ss := ss) HS2.out) (bel1.alloc bel1.size (.cells #[] 2)))
      clear bb bel bel1 rA rS cA L2
      go_wp2
      go_ret2
      exact F.out
    | true =>
      have HS2 := Lib.hid hok2
      have HV := Lib.hid (fun x hx => (term_mem (x := x) hok2 hx).1)
      have H60 : q ≤ 60 := by rw [← HL.out]; exact (term_len hok2).2
      clear hok2
      go_wp2_with fail
      refine L2.out.mono ?_
      rintro e w2 ⟨he, bb⟩
      rw [HS2.out] at he
      subst he
      replace s1 := s1.next bb
      replace s2 := s2.next bb
      replace bel := next_trans bel bb
      have cS : w2.cell? ⟨w.heap.size + 1, 0, none⟩ = some (.slice S m c') := (rS.next bb).cell 0
      have L3 := Lib.hid (l2Filled S A' m c' q cq ss t w2 s1 s2 ht H60 HV.out (gives_len HS.out))
      clear bb L2 s1 s2 cA rA rS
      go_wp2_with fail
      refine L3.out.mono ?_
      rintro e w3 ⟨O, on, oc, rfl, ho, bb⟩
      have F : AnsPairS w (filledL sg ss t) (filledB sg ss t) (.returned (.tuple #[.slice O on oc, .bool (fitsB ss t)])) w3 :=
        ⟨O, on, oc, by rw [filled_b HS.out HS2.out], by rw [filled_l HS.out HS2.out]; exact Own.seg ho, next_trans bel bb⟩
      have HF := Lib.hid F
      clear F ho bb bel L3 cS
      generalize fitsB ss t = z at *
      go_wp2
      go_ret2
      exact HF.out

set_option maxHeartbeats 4000000 in
theorem implFilled (A S A' : Option Addr) (n c m c' q cq : Nat) (sg : List Int) (ss : List (List Int)) (t : List Int) (w : World) (h : Seg w w.heap.size A n sg) (h' : Segs w w.heap.size S m ss) (h2 : Seg w w.heap.size A' q t) (hn : n ≤ 1048576) (ht : tot ss ≤ 1048576) (hq : q ≤ 1048576) :
    Calls Try.prog 20 #[.agg #[.slice A n c], .agg #[.slice S m c'], .slice A' q cq] w (AnsPairO w (filledL sg ss t) (filledB sg ss t)) := by
  obtain ⟨W, hW, rA, rS, bel⟩ := boxes2 w A n c S m c'
  have HW := Lib.hid hW
  have HL := Lib.hid h2.1
  have hm : m ≤ 1048576 := tot_len h'.1 ht
  have s := h.next bel
  have s1 := h'.next bel
  have s2 := h2.next bel
  have L := Lib.hid (implSubstOk A S n c m c' sg ss W s s1 hn ht)
  clear hW h h' h2
  cases hok : substOkB sg ss with
  | false =>
    have HS := Lib.hid hok
    clear hok s s1 s2
    go_enter Try.func20, Try.ntmps20
    go_wp2_with fail
    rw [← HW.out]
    refine L.out.mono ?_
    rintro e w1 ⟨he, bb⟩
    rw [HS.out] at he
    subst he
    have F := Lib.hid (pairOF_no (filled_s (t := t) HS.out) (next_trans bel bb))
    clear bb bel rA rS
    go_wp2
    go_ret2
    exact F.out
  | true =>
    have HS := Lib.hid hok
    clear hok
    go_enter Try.func20, Try.ntmps20
    go_wp2_with fail
    rw [← HW.out]
    refine L.out.mono ?_
    rintro e w1 ⟨he, bb⟩
    rw [HS.out] at he
    subst he
    replace s := s.next bb
    replace s1 := s1.next bb
    replace s2 := s2.next bb
    replace rA := rA.next bb
    replace rS := rS.next bb
    replace bel := next_trans bel bb
    have cA : w1.cell? ⟨w.heap.size, 0, none⟩ = some (.slice A n c) := rA.cell 0
    have L2 := Lib.hid (implTermOk A A' n c q cq sg t w1 s s2 hn hq)
    clear bb L
    cases hok2 : termOkB sg t with
    | false =>
      have HS2 := Lib.hid hok2
      clear hok2 s s1 s2
      go_wp2_with fail
      refine L2.out.mono ?_
      rintro e w2 ⟨he, bb⟩
      rw [HS2.out] at he
      subst he
      have F := Lib.hid (pairOF_no (filled_t (ss := ss) HS2.out) (next_trans bel bb))
      clear bb bel rA rS cA L2
      go_wp2
      go_ret2
      exact F.out
    | true =>
      have HS2 := Lib.hid hok2
      have HV := Lib.hid (fun x hx => (term_mem (x := x) hok2 hx).1)
      have H60 : q ≤ 60 := by rw [← HL.out]; exact (term_len hok2).2
      have HG := Lib.hid (gives_len HS.out)
      clear hok2
      go_wp2_with fail
      refine L2.out.mono ?_
      rintro e w2 ⟨he, bb⟩
      rw [HS2.out] at he
      subst he
      replace s1 := s1.next bb
      replace s2 := s2.next bb
      replace bel := next_trans bel bb
      have cS : w2.cell? ⟨w.heap.size + 1, 0, none⟩ = some (.slice S m c') := (rS.next bb).cell 0
      clear bb L2 cA rA rS
      go_wp2_with fail
      refine (lookupIn S m c' w2).mono ?_
      rintro e w3 ⟨rfl, hw3⟩
      have b3 : Below w2.heap.size w2 w3 := by rw [hw3]; exact (Below.refl _ _).alloc (Nat.le_refl _) _
      have r3 : Row w3 w2.heap.size 29 #[.slice S m c'] := by rw [hw3]; exact Row.new _ _ _
      replace s1 := s1.next b3
      replace s2 := s2.next b3
      replace bel := next_trans bel b3
      have L3 := Lib.hid (fill 105 #[.pointer (some ⟨w2.heap.size, 0, none⟩)] (enters_of Try.func105 (by kernel_rfl) rfl) A' q cq t _ w3 (lookSubst w2.heap.size S m c' ss w3 r3 s1 hm) s2 H60 HV.out (fun i => Nat.le_trans (HG.out i) (by omega)))
      clear hw3 b3 r3 s1 s2 cS
      go_wp2_with fail
      refine L3.out.mono ?_
      rintro e w4 ⟨O, on, oc, rfl, ho, bb⟩
      have hsize := bel.size
      replace bel := next_trans bel bb
      have ho2 := Own.lower ho hsize
      have hlen := Own.len ho
      have hon : on ≤ 245760 := by rw [hlen]; have := fill_bound (L := givesL ss) (t := t) (k := t.length) (fun i => Nat.le_trans (HG.out i) (by omega)) HL.out H60; rwa [List.take_length] at this
      have F : ∀ z : Bool, z = decide (60 < on) → AnsPairO w (filledL sg ss t) (filledB sg ss t) (.returned (.tuple #[.slice (if z then none else O) (if z then 0 else on) (if z then 0 else oc), .bool !z])) w4 := fun z hz => by
        by_cases h60 : 60 < on
        · rw [decide_eq_true h60] at hz
          subst hz
          exact pairOF_no (by rw [filled_b HS.out HS2.out]; unfold fitsB; rw [← hlen]; simp; omega) bel
        · rw [decide_eq_false h60] at hz
          subst hz
          have hb : filledB sg ss t = true := by rw [filled_b HS.out HS2.out]; unfold fitsB; rw [← hlen]; simp; omega
          exact ⟨O, on, oc, by rw [hb]; rfl, by unfold filledL; rw [if_pos hb]; exact ho2, bel⟩
      have HF := Lib.hid F
      clear F ho ho2 bb bel L3 hlen
      go_wp2_with fail
      refine (tooLong O on oc w4 (by omega)).mono ?_
      rintro e w5 ⟨rfl, rfl⟩
      obtain ⟨z, hz⟩ : ∃ z, decide (60 < on) = z := ⟨_, rfl⟩
      have G := Lib.hid (HF.out z hz.symm)
      rw [hz]
      clear HF hz
      cases z
      · go_wp2
        go_ret2
        exact G.out
      · go_wp2
        go_ret2
        exact G.out
end Go.Proofs.Ytdeegjeopkcomaa.filled
end

section
/-
  PLAIN MATHEMATICS of plain substitutions: the plain form is valid, replaces in the same way, and is unique; of compositions: they are valid and fill as one after the other. Conditions: those named. By an AI agent.
-/
namespace Go.Proofs.Ytdeegjeopkcomaa.plainFacts
open Go.RowKit Go.Proofs.Ytdeegjeopkcomaa.base Go.Proofs.Ytdeegjeopkcomaa.ints Go.Proofs.Ytdeegjeopkcomaa.sig Go.Proofs.Ytdeegjeopkcomaa.term Go.Proofs.Ytdeegjeopkcomaa.termOk Go.Proofs.Ytdeegjeopkcomaa.termFacts Go.Proofs.Ytdeegjeopkcomaa.fillMath Go.Proofs.Ytdeegjeopkcomaa.plainMath Go.Proofs.Ytdeegjeopkcomaa.plainOf Go.Proofs.Ytdeegjeopkcomaa.substOk Go.Proofs.Ytdeegjeopkcomaa.gives Go.Proofs.Ytdeegjeopkcomaa.sameSubst Go.Proofs.Ytdeegjeopkcomaa.compMath Go.Proofs.Ytdeegjeopkcomaa.filled

/-- a plain form gives what its look-up gives -/
theorem gives_plain {L : Nat → List Int} {m i : Nat} (hpos : ∀ i, 1 ≤ (L i).length) (hout : ∀ i, m ≤ i → L i = vt i) : givesL (plainL L m) i = L i := by
  have e := plain_get L m i
  by_cases h : i < m
  · rw [rows_get h] at e
    unfold bare at e
    by_cases h2 : L i = vt i
    · rw [if_pos h2] at e
      rw [gives_var (by rw [e]; rfl), h2]
    · rw [if_neg h2] at e
      rw [gives_term (by rw [e]; have := hpos i; omega), e]
  · have e0 : (rowsL L m).getD i [] = [] := by simp [List.getD, rows_len, h]
    rw [e0] at e
    rw [gives_var (by rw [e]; rfl), hout i (by omega)]
theorem plain_gives {ss : List (List Int)} (i : Nat) : givesL (plainL (givesL ss) ss.length) i = givesL ss i :=
  gives_plain (fun j => gives_pos ss j) (fun j hj => gives_out (by omega))
/-- a plain form is valid, if its look-up gives terms -/
theorem plain_valid {sg : List Int} {L : Nat → List Int} {m : Nat} (hs : sigOkB sg = true) (hm : m ≤ 24) (hok : ∀ i, i < m → termOkB sg (L i) = true) : substOkB sg (plainL L m) = true := by
  have hl := plain_len L m
  refine subst_good hs (by omega) (fun j hj => ?_)
  rw [plain_get, rows_get (by omega)]
  unfold bare goodB
  split
  · simp
  · rw [hok j (by omega)]
    simp
theorem plain_ok {sg : List Int} {ss : List (List Int)} (h : substOkB sg ss = true) : substOkB sg (plainL (givesL ss) ss.length) = true :=
  plain_valid (substOk_parts h).1 (substOk_parts h).2.1 (fun i hi => gives_ok h (by have := (substOk_parts h).2.1; omega))
theorem plain_eq_24 {ss : List (List Int)} (h : ss.length ≤ 24) : plainL (givesL ss) ss.length = plainL (givesL ss) 24 := (plain_24 h (fun i hi => gives_out (by omega))).symm
/-- two valid substitutions replace in the same way if and only if their plain forms are equal -/
theorem plain_iff {sg : List Int} {a b : List (List Int)} (ha : substOkB sg a = true) (hb : substOkB sg b = true) : sameB sg a b = decide (plainL (givesL a) a.length = plainL (givesL b) b.length) := by
  rw [same_ab ha hb]
  by_cases h : sameG a b = true
  · rw [h]
    symm
    rw [decide_eq_true_eq, plain_eq_24 (substOk_parts ha).2.1, plain_eq_24 (substOk_parts hb).2.1]
    exact plain_ext (fun i hi => sameG_iff.1 h i hi)
  · have h0 : sameG a b = false := by simpa using h
    rw [h0]
    symm
    rw [decide_eq_false_iff_not]
    intro e
    refine h (sameG_iff.2 (fun i _ => ?_))
    rw [← plain_gives (ss := a) i, ← plain_gives (ss := b) i, e]
theorem plain_self {sg : List Int} {a : List (List Int)} (ha : substOkB sg a = true) : sameB sg (plainL (givesL a) a.length) a = true := by
  rw [same_ab (plain_ok ha) ha]
  exact sameG_iff.2 (fun i _ => plain_gives i)
/-- nothing, or its last term is there -/
theorem plain_last (L : Nat → List Int) (m : Nat) : (plainL L m).length = 0 ∨ 0 < ((plainL L m).getD ((plainL L m).length - 1) []).length := by
  unfold plainL
  rcases strip_end (rowsL L m) with h | ⟨q, h1, h2⟩
  · exact .inl (by rw [h]; rfl)
  · refine .inr ?_
    rw [h1, Nat.add_sub_cancel]
    exact List.length_pos_iff.2 h2
/-- the composition, as a substitution -/
theorem comp_gives {sg : List Int} {ss us : List (List Int)} (h : composedB sg ss us = true) (i : Nat) : givesL (composedI sg ss us) i = if i < 24 then compL us ss i else vt i := by
  rw [composed_yes h]
  have hs : substOkB sg ss = true := by unfold composedB at h; simp at h; exact h.1
  have hu : substOkB sg us = true := by unfold composedB at h; simp at h; exact h.2.1
  have e : compL us ss = fun i => compL us ss i := rfl
  have h1 := gives_plain (L := compL us ss) (m := 24) (i := i) (fun j => comp_pos us ss j) (fun j hj => comp_out (by have := (substOk_parts hs).2.1; omega) (by have := (substOk_parts hu).2.1; omega))
  rw [h1]
  split
  · rfl
  · rename_i h2
    exact comp_out (by have := (substOk_parts hs).2.1; omega) (by have := (substOk_parts hu).2.1; omega)
theorem comp_ok {sg : List Int} {ss us : List (List Int)} (h : composedB sg ss us = true) : substOkB sg (composedI sg ss us) = true := by
  have hs : substOkB sg ss = true := by unfold composedB at h; simp at h; exact h.1
  have hu : substOkB sg us = true := by unfold composedB at h; simp at h; exact h.2.1
  have hc : compOk us ss = true := by unfold composedB at h; simp at h; exact h.2.2
  rw [composed_yes h]
  refine plain_valid (substOk_parts hs).1 (Nat.le_refl _) (fun i hi => ?_)
  unfold compL
  refine fill_term (gives_ok hs hi) (fun x hx h0 => gives_ok hu ?_) (compOk_iff.1 hc i hi)
  have := term_mem (gives_ok hs hi) hx
  omega
/-- filling by the composition is filling twice -/
theorem comp_fill {sg : List Int} {ss us : List (List Int)} {t : List Int} (h : composedB sg ss us = true) (ht : termOkB sg t = true) : fillL (givesL (composedI sg ss us)) t = fillL (givesL us) (fillL (givesL ss) t) := by
  rw [fill_fill]
  refine fill_ext (fun x hx h0 => ?_)
  rw [comp_gives h]
  have := term_mem ht hx
  rw [if_pos (by omega)]
  rfl
/-- both ways give the same -/
theorem comp_facts {sg : List Int} {ss us : List (List Int)} {t : List Int} (h : composedB sg ss us = true) (h1 : filledB sg ss t = true) (h2 : filledB sg us (filledL sg ss t) = true) :
    substOkB sg (composedI sg ss us) = true ∧ filledB sg (composedI sg ss us) t = true ∧ filledL sg (composedI sg ss us) t = filledL sg us (filledL sg ss t) := by
  have a1 : termOkB sg t = true := by unfold filledB at h1; simp at h1; exact h1.2.1
  have e1 : filledL sg ss t = fillL (givesL ss) t := by unfold filledL; rw [if_pos h1]
  have e2 : filledL sg us (filledL sg ss t) = fillL (givesL us) (fillL (givesL ss) t) := by unfold filledL; rw [if_pos (by have := h2; unfold filledL at this; exact this), if_pos h1]
  have a2 : fitsB us (filledL sg ss t) = true := by unfold filledB at h2; simp at h2; exact h2.2.2
  have hb : filledB sg (composedI sg ss us) t = true := by
    rw [filled_b (comp_ok h) a1]
    unfold fitsB at a2 ⊢
    rw [comp_fill h a1, ← e1]
    exact a2
  refine ⟨comp_ok h, hb, ?_⟩
  rw [e2]
  unfold filledL
  rw [if_pos hb]
  exact comp_fill h a1
end Go.Proofs.Ytdeegjeopkcomaa.plainFacts
end

section
/-
  CONTRACT: laws.big: more than 4096 bytes. Conditions: none. By an AI agent.
-/
namespace Go.Proofs.Ytdeegjeopkcomaa.bigs
open Go.RowKit Go.Proofs.Ytdeegjeopkcomaa.base Go.Proofs.Ytdeegjeopkcomaa.ints

theorem bigAns (A : Option Addr) (n c : Nat) (b : Bool) (w : World) (hb : decide (4096 < n) = b) (hn : n ≤ 9223372036854775807) : Calls Try.prog 17 #[.slice A n c] w fun e w' => w = w' ∧ e = .returned (.bool b) := by
  cases b with
  | true =>
    have h : (4096 : Int) < (n : Int) := by have := of_decide_eq_true hb; omega
    clear hb
    go_enter Try.func17, Try.ntmps17
    go_wp2
    go_ret
    exact ⟨rfl, rfl⟩
  | false =>
    have h : ¬ (4096 : Int) < (n : Int) := by have := of_decide_eq_false hb; omega
    have h2 : decide (4096 < n) = false := hb
    clear hb
    go_enter Try.func17, Try.ntmps17
    go_wp2
    go_ret
    exact ⟨rfl, rfl⟩
end Go.Proofs.Ytdeegjeopkcomaa.bigs
end

section
/-
  THE WALK of laws.FnPlain: it returns true, whatever the bytes, and writes nothing that was there. Conditions: the slice holds bytes. By an AI agent.
-/
namespace Go.Proofs.Ytdeegjeopkcomaa.wFnPlain
open Go.RowKit Go.Proofs.Ytdeegjeopkcomaa.base Go.Proofs.Ytdeegjeopkcomaa.ints Go.Proofs.Ytdeegjeopkcomaa.sig Go.Proofs.Ytdeegjeopkcomaa.same Go.Proofs.Ytdeegjeopkcomaa.term Go.Proofs.Ytdeegjeopkcomaa.cursor Go.Proofs.Ytdeegjeopkcomaa.termOk Go.Proofs.Ytdeegjeopkcomaa.marks Go.Proofs.Ytdeegjeopkcomaa.app Go.Proofs.Ytdeegjeopkcomaa.sym Go.Proofs.Ytdeegjeopkcomaa.segs Go.Proofs.Ytdeegjeopkcomaa.segsHelp Go.Proofs.Ytdeegjeopkcomaa.segsMark Go.Proofs.Ytdeegjeopkcomaa.dice Go.Proofs.Ytdeegjeopkcomaa.drawVar Go.Proofs.Ytdeegjeopkcomaa.drawSS Go.Proofs.Ytdeegjeopkcomaa.varsOf Go.Proofs.Ytdeegjeopkcomaa.substOk Go.Proofs.Ytdeegjeopkcomaa.gives Go.Proofs.Ytdeegjeopkcomaa.plainMath Go.Proofs.Ytdeegjeopkcomaa.plain Go.Proofs.Ytdeegjeopkcomaa.plainOf Go.Proofs.Ytdeegjeopkcomaa.sameSubst Go.Proofs.Ytdeegjeopkcomaa.plainFacts Go.Proofs.Ytdeegjeopkcomaa.bigs

/-- what stands after the draws: variables at v, v + 1, v + 2 -/
structure G3 (w : World) (v : Nat) (S : Option Addr) (sn sc : Nat) (sg : List Int) (B : Option Addr) (m cB : Nat) (xa : List (List Int)) (C : Option Addr) (q cC : Nat) (xb : List (List Int)) (wr : World) : Prop where
  s : Seg wr wr.heap.size S sn sg
  a : Segs wr wr.heap.size B m xa
  b : Segs wr wr.heap.size C q xb
  r3 : Row wr v 26 #[.slice S sn sc]
  r4 : Row wr (v + 1) 29 #[.slice B m cB]
  r5 : Row wr (v + 2) 29 #[.slice C q cC]
  bel : Below w.heap.size w wr
/-- the two plain forms, their variables at v6 and v7 -/
structure PQ (v6 v7 : Nat) (P : Option Addr) (pn pc : Nat) (ps : List (List Int)) (Q : Option Addr) (qn qc : Nat) (qs : List (List Int)) (wr : World) : Prop where
  p : Segs wr wr.heap.size P pn ps
  q : Segs wr wr.heap.size Q qn qs
  r6 : Row wr v6 29 #[.slice P pn pc]
  r7 : Row wr v7 29 #[.slice Q qn qc]
section
variable {w : World} {v : Nat} {S : Option Addr} {sn sc : Nat} {sg : List Int} {B : Option Addr} {m cB : Nat} {xa : List (List Int)} {C : Option Addr} {q cC : Nat} {xb : List (List Int)} {wr w' : World} {v6 v7 : Nat} {P : Option Addr} {pn pc : Nat} {ps : List (List Int)} {Q : Option Addr} {qn qc : Nat} {qs : List (List Int)}
theorem G3.next (f : G3 w v S sn sc sg B m cB xa C q cC xb wr) (hb : Below wr.heap.size wr w') : G3 w v S sn sc sg B m cB xa C q cC xb w' :=
  ⟨f.s.next hb, f.a.next hb, f.b.next hb, f.r3.next hb, f.r4.next hb, f.r5.next hb, next_trans f.bel hb⟩
theorem PQ.next (f : PQ v6 v7 P pn pc ps Q qn qc qs wr) (hb : Below wr.heap.size wr w') : PQ v6 v7 P pn pc ps Q qn qc qs w' := ⟨f.p.next hb, f.q.next hb, f.r6.next hb, f.r7.next hb⟩
end
theorem below_alloc (w : World) (x : Obj) : Below w.heap.size w (w.alloc x) := (Below.refl _ _).alloc (Nat.le_refl _) _
theorem below_drewN (w : World) (d : Nat) : Below w.heap.size w (w.drewN d) := ⟨rfl, rfl, rfl, Nat.le_refl _, fun _ _ => rfl⟩
theorem below_drew (w : World) : Below w.heap.size w w.drew := ⟨rfl, rfl, rfl, Nat.le_refl _, fun _ _ => rfl⟩

/-- the head of the loop over the terms -/
def HeadA (w : World) (v v6 v7 : Nat) (S : Option Addr) (sn sc : Nat) (sg : List Int) (B : Option Addr) (m cB : Nat) (xa : List (List Int)) (C : Option Addr) (q cC : Nat) (xb : List (List Int)) (P : Option Addr) (pn pc : Nat) (ps : List (List Int)) (Q : Option Addr) (qn qc : Nat) (qs : List (List Int)) (al i : Value) (wr : World) : Prop :=
  ∃ (k : Nat) (z : Bool), k ≤ pn ∧ i = .int .i64 k ∧ al = .bool z ∧ (z = true → pn = qn ∧ ∀ j, j < k → ps.getD j [] = qs.getD j []) ∧ (z = false → ps ≠ qs) ∧ G3 w v S sn sc sg B m cB xa C q cC xb wr ∧ PQ v6 v7 P pn pc ps Q qn qc qs wr

set_option maxRecDepth 100000 in
set_option maxHeartbeats 8000000 in
theorem law (A : Option Addr) (n c : Nat) (_ : List Int) (w : World) (h : SegB w w.heap.size A n) (hN : n ≤ 9223372036854775807) :
    Calls Try.prog 4 #[.slice A n c] w (Fine w) := by
  by_cases hbig : n ≤ 4096
  · have LB := Lib.hid (bigAns A n c false w (by simp; omega) hN)
    go_enter Try.func4, Try.ntmps4
    go_wp2_with fail
    refine LB.out.mono ?_
    rintro e w' ⟨rfl, rfl⟩
    clear LB
    go_wp2_with fail
    refine (drawSameSubst A n c w h hbig).mono ?_
    rintro e w2 ⟨S, sn, sc, sg, B, m, cB, xa, C, q, cC, xb, rfl, s1, s2, s3, hsn, hat, hbt, b2⟩
    obtain ⟨v, hv⟩ : ∃ v, w2.heap.size = v := ⟨_, rfl⟩
    obtain ⟨W, hW⟩ : ∃ W, W = ((w2.alloc (.cells #[.slice S sn sc] 26)).alloc (.cells #[.slice B m cB] 29)).alloc (.cells #[.slice C q cC] 29) := ⟨_, rfl⟩
    have bb : Below w2.heap.size w2 W := by rw [hW]; exact ((below_alloc _ _).trans ((below_alloc _ _).mono (by simp))).trans ((below_alloc _ _).mono (by simp; omega))
    have T : G3 w v S sn sc sg B m cB xa C q cC xb W := by
      refine ⟨s1.next bb, s2.next bb, s3.next bb, ?_, ?_, ?_, next_trans b2 bb⟩
      · rw [hW, ← hv]; exact ((Row.new _ _ _).alloc _).alloc _
      · rw [hW, ← hv]; have := (Row.new (w2.alloc (.cells #[.slice S sn sc] 26)) 29 #[.slice B m cB]).alloc (.cells #[.slice C q cC] 29); simpa using this
      · rw [hW, ← hv]; have := Row.new ((w2.alloc (.cells #[.slice S sn sc] 26)).alloc (.cells #[.slice B m cB] 29)) 29 #[.slice C q cC]; simpa using this
    obtain ⟨ps, hps⟩ : ∃ z, plainI sg xa = z := ⟨_, rfl⟩
    obtain ⟨qs, hqs⟩ : ∃ z, plainI sg xb = z := ⟨_, rfl⟩
    obtain ⟨b, hb⟩ : ∃ z, sameB sg xa xb = z := ⟨_, rfl⟩
    have HP := Lib.hid hps
    have HQ := Lib.hid hqs
    have HB := Lib.hid hb
    have HBB := Lib.hid (show (b != b) = false by simp)
    have hpt : tot ps ≤ 1048576 := by rw [← hps]; exact plainI_tot
    have HW := Lib.hid hW
    have HV := Lib.hid hv
    clear h s1 s2 s3 b2 bb hW hv hps hqs hb
    go_wp2_with fail
    rw [← HW.out, HV.out]
    refine (implPlainOf S B sn sc m cB sg xa _ T.s T.a (by omega) hat).mono ?_
    rintro e w3 ⟨P, pn, pc, rfl, oP, bb⟩
    rw [HP.out] at oP
    replace T := T.next bb
    obtain ⟨v6, h6⟩ : ∃ v, w3.heap.size = v := ⟨_, rfl⟩
    obtain ⟨W3, hW3⟩ : ∃ W, W = w3.alloc (.cells #[.slice P pn pc] 29) := ⟨_, rfl⟩
    have bb3 : Below w3.heap.size w3 W3 := by rw [hW3]; exact below_alloc _ _
    have r6 : Row W3 v6 29 #[.slice P pn pc] := by rw [hW3, ← h6]; exact Row.new _ _ _
    have sP := (oP.segs).next bb3
    replace T := T.next bb3
    have k3 : (w3.alloc (.cells #[.slice P pn pc] 29)).cell? ⟨v, 0, none⟩ = some (.slice S sn sc) := by rw [← hW3]; exact T.r3.cell 0
    have k5 : (w3.alloc (.cells #[.slice P pn pc] 29)).cell? ⟨v + 2, 0, none⟩ = some (.slice C q cC) := by rw [← hW3]; exact T.r5.cell 0
    have HW3 := Lib.hid hW3
    have H6 := Lib.hid h6
    clear bb bb3 oP hW3 h6 HW
    go_wp2_with fail
    rw [← HW3.out, H6.out]
    refine (implPlainOf S C sn sc q cC sg xb _ T.s T.b (by omega) hbt).mono ?_
    rintro e w4 ⟨Q, qn, qc, rfl, oQ, bb⟩
    rw [HQ.out] at oQ
    replace T := T.next bb
    replace sP := sP.next bb
    replace r6 := r6.next bb
    obtain ⟨v7, h7⟩ : ∃ v, w4.heap.size = v := ⟨_, rfl⟩
    obtain ⟨W4, hW4⟩ : ∃ W, W = w4.alloc (.cells #[.slice Q qn qc] 29) := ⟨_, rfl⟩
    have bb4 : Below w4.heap.size w4 W4 := by rw [hW4]; exact below_alloc _ _
    have U : PQ v6 v7 P pn pc ps Q qn qc qs W4 := ⟨sP.next bb4, (oQ.segs).next bb4, r6.next bb4, by rw [hW4, ← h7]; exact Row.new _ _ _⟩
    replace T := T.next bb4
    clear k3 k5
    have k3 : (w4.alloc (.cells #[.slice Q qn qc] 29)).cell? ⟨v, 0, none⟩ = some (.slice S sn sc) := by rw [← hW4]; exact T.r3.cell 0
    have k4 : (w4.alloc (.cells #[.slice Q qn qc] 29)).cell? ⟨v + 1, 0, none⟩ = some (.slice B m cB) := by rw [← hW4]; exact T.r4.cell 0
    have k5 : (w4.alloc (.cells #[.slice Q qn qc] 29)).cell? ⟨v + 2, 0, none⟩ = some (.slice C q cC) := by rw [← hW4]; exact T.r5.cell 0
    have HW4 := Lib.hid hW4
    have H7 := Lib.hid h7
    clear bb bb4 oQ sP r6 hW4 h7 HW3
    go_wp2_with fail
    rw [← HW4.out, H7.out]
    refine (implSameSubst S B C sn sc m cB q cC sg xa xb _ T.s T.a T.b (by omega) hat hbt).mono ?_
    rintro e w5 ⟨he, bb⟩
    rw [HB.out] at he
    subst he
    replace T := T.next bb
    replace U := U.next bb
    clear bb k3 k4 k5 HW4
    have c3 : w5.cell? ⟨v, 0, none⟩ = some (.slice S sn sc) := T.r3.cell 0
    have c4 : w5.cell? ⟨v + 1, 0, none⟩ = some (.slice B m cB) := T.r4.cell 0
    have c5 : w5.cell? ⟨v + 2, 0, none⟩ = some (.slice C q cC) := T.r5.cell 0
    go_wp2_with fail
    refine (specSameSubst S B C sn sc m cB q cC sg xa xb _ T.s T.a T.b (by omega) hat hbt).mono ?_
    rintro e w6 ⟨he, bb⟩
    rw [HB.out] at he
    subst he
    replace T := T.next bb
    replace U := U.next bb
    clear bb c3 c4 c5
    have c3 : w6.cell? ⟨v, 0, none⟩ = some (.slice S sn sc) := T.r3.cell 0
    have c4 : w6.cell? ⟨v + 1, 0, none⟩ = some (.slice B m cB) := T.r4.cell 0
    have ebb := HBB.out
    go_wp2_with fail
    refine (specSubstOk S B sn sc m cB sg xa _ T.s T.a (by omega) hat).mono ?_
    rintro e w7 ⟨he, bb⟩
    replace T := T.next bb
    replace U := U.next bb
    clear bb c3 c4 ebb
    cases hok : substOkB sg xa with
    | false =>
      rw [hok] at he
      subst he
      have hb0 : b = false := by rw [← HB.out]; exact same_a hok
      subst hb0
      have TB := Lib.hid T.bel
      clear T U hok
      go_wp2
      go_ret
      exact ⟨rfl, TB.out⟩
    | true =>
      rw [hok] at he
      subst he
      have c3 : w7.cell? ⟨v, 0, none⟩ = some (.slice S sn sc) := T.r3.cell 0
      have c5 : w7.cell? ⟨v + 2, 0, none⟩ = some (.slice C q cC) := T.r5.cell 0
      have HOK := Lib.hid hok
      clear hok
      go_wp2_with fail
      refine (specSubstOk S C sn sc q cC sg xb _ T.s T.b (by omega) hbt).mono ?_
      rintro e w8 ⟨he, bb⟩
      replace T := T.next bb
      replace U := U.next bb
      clear bb c3 c5
      cases hok2 : substOkB sg xb with
      | false =>
        rw [hok2] at he
        subst he
        have hb0 : b = false := by rw [← HB.out]; exact same_b hok2
        subst hb0
        have TB := Lib.hid T.bel
        clear T U hok2
        go_wp2
        go_ret
        exact ⟨rfl, TB.out⟩
      | true =>
        rw [hok2] at he
        subst he
        have hp : ps = plainL (givesL xa) xa.length := by rw [← HP.out]; exact plain_yes HOK.out
        have hq : qs = plainL (givesL xb) xb.length := by rw [← HQ.out]; exact plain_yes hok2
        have HEQ := Lib.hid (show b = decide (ps = qs) by rw [← HB.out, plain_iff HOK.out hok2, hp, hq])
        have HSE := Lib.hid (show sameB sg ps xa = true by rw [hp]; exact plain_self HOK.out)
        have HLA := Lib.hid (show ps.length = 0 ∨ 0 < (ps.getD (ps.length - 1) []).length by rw [hp]; exact plain_last _ _)
        have HPE := Lib.hid (fun (i : Nat) => (show (ps.getD i []).length ≤ 60 by rw [hp]; exact plain_each (gives_len HOK.out) i))
        have HQE := Lib.hid (fun (i : Nat) => (show (qs.getD i []).length ≤ 60 by rw [hq]; exact plain_each (gives_len hok2) i))
        have hpn : pn ≤ 1048576 := by have := U.p.1; have : ps.length ≤ tot ps := by unfold tot; omega
                                      omega
        have HPL := Lib.hid U.p.1
        have HQL := Lib.hid U.q.1
        have c6 : w8.cell? ⟨v6, 0, none⟩ = some (.slice P pn pc) := U.r6.cell 0
        have c7 : w8.cell? ⟨v7, 0, none⟩ = some (.slice Q qn qc) := U.r7.cell 0
        obtain ⟨z0, hz0⟩ : ∃ z, ((pn : Int) == (qn : Int)) = z := ⟨_, rfl⟩
        have H0 : HeadA w v v6 v7 S sn sc sg B m cB xa C q cC xb P pn pc ps Q qn qc qs (.bool z0) (.int .i64 0) w8 :=
          ⟨0, z0, Nat.zero_le _, rfl, rfl, fun hz => ⟨by rw [hz] at hz0; have := of_decide_eq_true hz0; omega, fun j hj => absurd hj (Nat.not_lt_zero _)⟩, fun hz e => by
            rw [hz] at hz0
            have h1 := of_decide_eq_false hz0
            have h2 := HPL.out
            have h3 := HQL.out
            rw [e] at h2
            omega, T, U⟩
        have HH := Lib.hid H0
        clear H0 hp hq hok2 T U
        go_wp2_with fail
        go_loopw [9, 10] (fun al i wr => HeadA w v v6 v7 S sn sc sg B m cB xa C q cC xb P pn pc ps Q qn qc qs al i wr) (fun _ i _ => pn - (intOf i).toNat)
        case atStart => exact HH.out
        case round =>
          obtain ⟨k, z, hk, rfl, rfl, hz1, hz2, T, U⟩ := hrel
          clear HH c6 c7 hz0
          have c6 : wr.cell? ⟨v6, 0, none⟩ = some (.slice P pn pc) := U.r6.cell 0
          have c7 : wr.cell? ⟨v7, 0, none⟩ = some (.slice Q qn qc) := U.r7.cell 0
          by_cases hgo : k < pn ∧ z = true
          · obtain ⟨hlt, rfl⟩ := hgo
            obtain ⟨hpq, hlow⟩ := hz1 rfl
            subst hpq
            obtain ⟨bp, fp, A1, n1, k1, hPe, -, hcp, sp, -⟩ := U.p.spot hlt
            obtain ⟨bq, fq, A2, n2, k2, hQe, -, hcq, sq, -⟩ := U.q.spot hlt
            have hPe2 := hPe
            have hQe2 := hQe
            subst hPe2
            subst hQe2
            have h1 : n1 ≤ 60 := by rw [← sp.1]; exact HPE.out k
            have h2 : n2 ≤ 60 := by rw [← sq.1]; exact HQE.out k
            have i0 : (0 : Int) ≤ (k : Int) := by omega
            have i1 : (k : Int) < (pn : Int) := by omega
            obtain ⟨xp, hxp⟩ : ∃ z, ps.getD k [] = z := ⟨_, rfl⟩
            obtain ⟨xq, hxq⟩ : ∃ z, qs.getD k [] = z := ⟨_, rfl⟩
            rw [hxp] at sp
            rw [hxq] at sq
            obtain ⟨z', hz'⟩ : ∃ z', decide (xp = xq) = z' := ⟨_, rfl⟩
            have next : ∀ wz, Below wr.heap.size wr wz → HeadA w v v6 v7 S sn sc sg B m cB xa C q cC xb (some ⟨bp, fp, none⟩) pn pc ps (some ⟨bq, fq, none⟩) pn qc qs (.bool z') (.int .i64 ((k : Int) + 1)) wz := fun wz hbz =>
              ⟨k + 1, z', hlt, by simp, rfl, fun hz => ⟨rfl, fun j hj => by
                by_cases e : j = k
                · subst e
                  rw [hxp, hxq]
                  exact of_decide_eq_true (hz'.trans hz)
                · exact hlow j (by omega)⟩, fun hz e => by
                  have := of_decide_eq_false (hz'.trans hz)
                  exact this (by rw [← hxp, ← hxq, e]), T.next hbz, U.next hbz⟩
            have NX := Lib.hid next
            have HZ' := Lib.hid hz'
            have sp1 := sp.next (below_drew wr)
            have sq1 := sq.next (below_drew wr)
            clear next hz' hz1 hz2 hlow T U sp sq hxp hxq hPe hQe
            go_wp2_with fail
            go_region_held3 (fun w' => w'.cell? ⟨v6, 0, none⟩ = some (.slice (some ⟨bp, fp, none⟩) pn pc) ∧ w'.cell? ⟨v7, 0, none⟩ = some (.slice (some ⟨bq, fq, none⟩) pn qc) ∧ w'.cell? ⟨bp, fp + k, none⟩ = some (.slice A1 n1 k1) ∧ w'.cell? ⟨bq, fq + k, none⟩ = some (.slice A2 n2 k2))
              (go_keep)
              (first
                | (go_at_call 22; refine (implSame A1 A2 n1 n2 k1 k2 xp xq _ sp1 sq1 (by omega) (by omega)).mono ?_; rintro e w9 ⟨he, d, hw⟩; rw [HZ'.out] at he; subst he; have bb : Below wr.heap.size wr w9 := hw ▸ next_trans (below_drew wr) (below_drewN _ d); have hd1 : w9.cell? ⟨v6, 0, none⟩ = some (.slice (some ⟨bp, fp, none⟩) pn pc) := hw ▸ c6; have hd2 : w9.cell? ⟨v7, 0, none⟩ = some (.slice (some ⟨bq, fq, none⟩) pn qc) := hw ▸ c7; have hd3 : w9.cell? ⟨bp, fp + k, none⟩ = some (.slice A1 n1 k1) := hw ▸ hcp; have hd4 : w9.cell? ⟨bq, fq + k, none⟩ = some (.slice A2 n2 k2) := hw ▸ hcq))
            have S1 := Lib.hid (NX.out (wr.drewN (1 + d)) (below_drewN wr (1 + d)))
            clear NX bb sp1 sq1 hd1 hd2 hd3 hd4 c6 c7 hcp hcq hw
            go_wp2
            go_roundw
            case rel => exact S1.out
            case measure => simp [intOf]; omega
          · have hfin : z = b := by
              rw [HEQ.out]
              cases z with
              | true =>
                obtain ⟨hpq, hlow⟩ := hz1 rfl
                have hkp : k = pn := by
                  by_cases e : k < pn
                  · exact absurd ⟨e, rfl⟩ hgo
                  · omega
                symm
                rw [decide_eq_true_eq]
                exact lists_same HPL.out (HQL.out.trans hpq.symm) (fun j hj => hlow j (by omega))
              | false =>
                symm
                rw [decide_eq_false_iff_not]
                exact hz2 rfl
            subst hfin
            have ezz : (z == z) = true := by simp
            have c3 : wr.cell? ⟨v, 0, none⟩ = some (.slice S sn sc) := T.r3.cell 0
            have c4 : wr.cell? ⟨v + 1, 0, none⟩ = some (.slice B m cB) := T.r4.cell 0
            have LS := Lib.hid (implSameSubst S P B sn sc pn pc m cB sg ps xa wr T.s U.p T.a (by omega) hpt hat)
            have rest : ∀ w9, Below wr.heap.size wr w9 → G3 w v S sn sc sg B m cB xa C q cC xb w9 ∧ PQ v6 v7 P pn pc ps Q qn qc qs w9 := fun w9 hb9 => ⟨T.next hb9, U.next hb9⟩
            have RST := Lib.hid rest
            clear T U hz1 hz2 rest
            have stop : ∀ (g : (k : Int) < (pn : Int) → z = false), True := fun _ => trivial
            by_cases hlt : (k : Int) < (pn : Int)
            · have hzf : z = false := by
                cases z with
                | true => exact absurd ⟨by omega, rfl⟩ hgo
                | false => rfl
              subst hzf
              clear hgo stop
              go_wp2_with fail
              refine LS.out.mono ?_
              rintro e w9 ⟨he, bb⟩
              rw [HSE.out] at he
              subst he
              obtain ⟨T, U⟩ := RST.out _ bb
              have c6' : w9.cell? ⟨v6, 0, none⟩ = some (.slice P pn pc) := U.r6.cell 0
              have hp0 : ((pn : Int) == 0) = false := by simp; omega
              have hlast := (HLA.out).resolve_left (by rw [HPL.out]; omega)
              obtain ⟨bp, fp, A1, n1, k1, rfl, -, hcp, sp, -⟩ := U.p.spot (k := pn - 1) (by omega)
              rw [HPL.out, sp.1] at hlast
              have i0 : (0 : Int) ≤ (pn : Int) - 1 := by omega
              have i1 : (pn : Int) - 1 < (pn : Int) := by omega
              have ecast : ((pn : Int) - 1) = ((pn - 1 : Nat) : Int) := by omega
              have i2 : (0 : Int) < (n1 : Int) := by omega
              have TB := Lib.hid T.bel
              clear T U sp RST LS c6 c7 c3 c4 bb hlast
              go_wp2
              go_ret
              exact ⟨by rw [decide_eq_true (show 0 < n1 by omega)]; rfl, TB.out⟩
            · clear hgo stop
              go_wp2_with fail
              refine LS.out.mono ?_
              rintro e w9 ⟨he, bb⟩
              rw [HSE.out] at he
              subst he
              obtain ⟨T, U⟩ := RST.out _ bb
              have c6' : w9.cell? ⟨v6, 0, none⟩ = some (.slice P pn pc) := U.r6.cell 0
              by_cases hp0 : pn = 0
              · subst hp0
                have TB := Lib.hid T.bel
                clear T U RST LS c6 c7 c3 c4 bb
                go_wp2
                go_ret
                exact ⟨rfl, TB.out⟩
              · have hp0' : ((pn : Int) == 0) = false := by simp; omega
                have hlast := (HLA.out).resolve_left (by rw [HPL.out]; omega)
                obtain ⟨bp, fp, A1, n1, k1, rfl, -, hcp, sp, -⟩ := U.p.spot (k := pn - 1) (by omega)
                rw [HPL.out, sp.1] at hlast
                have i0 : (0 : Int) ≤ (pn : Int) - 1 := by omega
                have i1 : (pn : Int) - 1 < (pn : Int) := by omega
                have ecast : ((pn : Int) - 1) = ((pn - 1 : Nat) : Int) := by omega
                have i2 : (0 : Int) < (n1 : Int) := by omega
                have TB := Lib.hid T.bel
                clear T U sp RST LS c6 c7 c3 c4 bb hlast
                go_wp2
                go_ret
                exact ⟨by rw [decide_eq_true (show 0 < n1 by omega)]; rfl, TB.out⟩
  · have LB := Lib.hid (bigAns A n c true w (by simp; omega) hN)
    clear h
    go_enter Try.func4, Try.ntmps4
    go_wp2_with fail
    refine LB.out.mono ?_
    rintro e w' ⟨rfl, rfl⟩
    clear LB
    go_wp2
    go_ret
    exact ⟨rfl, Below.refl _ _⟩
end Go.Proofs.Ytdeegjeopkcomaa.wFnPlain
end
