/-
  CONTRACTS: spec.l2Plain, spec.PlainOf, impl.PlainOf. Conditions: the slices read as lists ('Seg', 'Segs'), at most 1048576 values. By an AI agent.
-/
import Derived.Test.YtdeegjeopkcomaaPlain
import Derived.Test.YtdeegjeopkcomaaGives
import Derived.Deep.DeepMust
namespace Go.Proofs.Ytdeegjeopkcomaa.plainOf
open Go.RowKit Go.Proofs.Ytdeegjeopkcomaa.base Go.Proofs.Ytdeegjeopkcomaa.ints Go.Proofs.Ytdeegjeopkcomaa.sig Go.Proofs.Ytdeegjeopkcomaa.cursor Go.Proofs.Ytdeegjeopkcomaa.marks Go.Proofs.Ytdeegjeopkcomaa.app Go.Proofs.Ytdeegjeopkcomaa.appAt Go.Proofs.Ytdeegjeopkcomaa.sym Go.Proofs.Ytdeegjeopkcomaa.sub Go.Proofs.Ytdeegjeopkcomaa.segs Go.Proofs.Ytdeegjeopkcomaa.segsHelp Go.Proofs.Ytdeegjeopkcomaa.kinds Go.Proofs.Ytdeegjeopkcomaa.varsOf Go.Proofs.Ytdeegjeopkcomaa.fillMath Go.Proofs.Ytdeegjeopkcomaa.look Go.Proofs.Ytdeegjeopkcomaa.substOk Go.Proofs.Ytdeegjeopkcomaa.gives Go.Proofs.Ytdeegjeopkcomaa.plainMath Go.Proofs.Ytdeegjeopkcomaa.plain
set_option maxRecDepth 100000

theorem own_one {w : World} {base : Nat} {D : Option Addr} {c : Nat} {x : Int} (h : Own w base (.slice D 1 c) [x]) : ∃ g, D = some ⟨g, 0, none⟩ ∧ w.cell? ⟨g, 0, none⟩ = some (.int .i64 x) := by
  rcases own_form (n := 1) (vs := [x].map (Value.int .i64)) h with ⟨_, h1, _⟩ | ⟨g, cur, e, _, hr, _, _, _, _, hc⟩
  · omega
  · refine ⟨g, e, ?_⟩
    rw [hr.cell 0, hc 0 (by omega)]
    rfl
theorem Owns.shrink {w : World} {lo hi m n c : Nat} {A : Option Addr} {xss : List (List Int)} (h : Owns w lo hi A m c xss) (hn : n ≤ m) : Owns w lo hi A n c (xss.take n) := by
  obtain ⟨h1, ⟨vs, hr, hin, hap⟩, h3⟩ := h
  rcases own_form hr with ⟨rfl, h0, rfl, rfl⟩ | ⟨g, cur, rfl, hlo, hrow, hmc, hsz, hmax, hlen, hc⟩
  · obtain rfl : n = 0 := by omega
    simpa using Owns.nil w lo hi
  · have e1 : ∀ j, j < n → (cur.toList.take n).getD j undef = vs.getD j undef := fun j hj => by
      have := hc j (by omega)
      simp [List.getD, List.getElem?_take, hj, this]
    have e2 : ∀ j, j < n → (xss.take n).getD j [] = xss.getD j [] := fun j hj => by simp [List.getD, List.getElem?_take, hj]
    refine ⟨by rw [List.length_take, h1]; omega, ⟨_, rowsOf hrow hsz (by omega) hmax hlo, fun j hj => ?_, fun i j k hij hj a b => ?_⟩, h3⟩
    · rw [e1 j hj, e2 j hj]
      exact hin j (by omega)
    · rw [e1 i (by omega)] at a
      rw [e1 j hj] at b
      exact hap i j k hij (by omega) a b

/-- the head of l2Plain's first loop -/
def HeadL1 (w : World) (S : Option Addr) (m c : Nat) (ss : List (List Int)) (i : Value) (wr : World) : Prop :=
  ∃ (k : Nat) (A : Option Addr) (cA : Nat), k ≤ m ∧ i = .int .i64 k ∧ Owns wr (w.heap.size + 3) wr.heap.size A k cA (rowsL (givesL ss) k) ∧ Row wr w.heap.size 29 #[.slice S m c] ∧ Row wr (w.heap.size + 1) 29 #[.slice none 0 0] ∧
    Row wr (w.heap.size + 2) 29 #[.slice A k cA] ∧ Below w.heap.size w wr
theorem headL1_step {w wr w1 w5 w6 : World} {S A A' : Option Addr} {m c k cA c' : Nat} {ss : List (List Int)} (hk : k < m) (ho : Owns w6 (w.heap.size + 3) w6.heap.size A' (k + 1) c' (rowsL (givesL ss) (k + 1)))
    (r0 : Row wr w.heap.size 29 #[.slice S m c]) (r1 : Row wr (w.heap.size + 1) 29 #[.slice none 0 0]) (r2 : Row wr (w.heap.size + 2) 29 #[.slice A k cA]) (hb : Below w.heap.size w wr)
    (b1 : Below wr.heap.size wr w1) (b5 : Below w1.heap.size w1 w5) (hg : w5.grownBy w6 (blk A)) (hA : ∀ z, blk A = some z → w.heap.size + 3 ≤ z) :
    HeadL1 w S m c ss (.int .i64 ((k : Int) + 1)) (w6.setCell ⟨w.heap.size + 2, 0, none⟩ (.slice A' (k + 1) c')) := by
  have bb := next_trans b1 b5
  have q0 := Row.away (r0.next bb) hg (fun e => by have := hA _ e; omega)
  have q1 := Row.away (r1.next bb) hg (fun e => by have := hA _ e; omega)
  have q2 := Row.away (r2.next bb) hg (fun e => by have := hA _ e; omega)
  have hbb : Below w.heap.size w w6 := (hb.trans (bb.mono hb.size)).grown hg (by have := hb.size; have := bb.size; omega) (fun z hz => by have := hA z hz; omega)
  refine ⟨k + 1, A', c', hk, by simp, ?_, q0.far (by simp) _, q1.far (by simp) _, ?_, hbb.setCell (by simp) _⟩
  · have := owns_put ho q2 (by omega) 0 (.slice A' (k + 1) c')
    simpa using this
  · have := q2.put 0 (.slice A' (k + 1) c')
    simpa using this

/-- the head of the loop that shortens -/
def HeadL2 (w : World) (L : Nat → List Int) (m : Nat) (A : Option Addr) (cA : Nat) (p : Value) (wr : World) : Prop :=
  ∃ n : Nat, n ≤ m ∧ p = .pointer (some ⟨w.heap.size + 2, 0, none⟩) ∧ strip ((rowsL L m).take n) = plainL L m ∧ Owns wr (w.heap.size + 3) wr.heap.size A m cA (rowsL L m) ∧ Row wr (w.heap.size + 1) 29 #[.slice none 0 0] ∧
    Row wr (w.heap.size + 2) 29 #[.slice A n cA] ∧ Below w.heap.size w wr
def lenAt (w : World) (p : Addr) : Nat := match w.cell? p with
  | some (.slice _ n _) => n
  | _ => 0
theorem headL2_end {w wr : World} {L : Nat → List Int} {m n cA : Nat} {A : Option Addr} (hn : n ≤ m) (hs : strip ((rowsL L m).take n) = plainL L m) (ho : Owns wr (w.heap.size + 3) wr.heap.size A m cA (rowsL L m))
    (r1 : Row wr (w.heap.size + 1) 29 #[.slice none 0 0]) (hb : Below w.heap.size w wr) (hend : n = 0 ∨ (rowsL L m).getD (n - 1) [] ≠ []) :
    AnsSubst w (plainL L m) (.returned (.agg #[.slice A n cA])) (wr.setCell ⟨w.heap.size + 1, 0, none⟩ (.slice A n cA)) := by
  have e : (rowsL L m).take n = plainL L m := by
    rw [← hs]
    rcases hend with rfl | h
    · simp [strip]
    · by_cases h0 : n = 0
      · subst h0; simp [strip]
      · have := strip_last (l := rowsL L m) (q := n - 1) (by rw [rows_len]; omega) h
        rw [show n - 1 + 1 = n by omega] at this
        exact this.symm
  have h1 := Owns.shrink (owns_put ho r1 (by omega) 0 (.slice A n cA)) hn
  rw [e] at h1
  exact ⟨A, n, cA, rfl, h1.wider (by omega) (by simp), hb.setCell (by simp) _⟩

set_option maxHeartbeats 8000000 in
theorem l2Plain (S : Option Addr) (m c : Nat) (ss : List (List Int)) (w : World) (h : Segs w w.heap.size S m ss) (ht : tot ss ≤ 1048576) :
    Calls Try.prog 93 #[.agg #[.slice S m c]] w (AnsSubst w (plainL (givesL ss) m)) := by
  have HT := Lib.hid ht
  have hm : m ≤ 1048576 := tot_len h.1 ht
  have HE := Lib.hid (tot_each ht)
  clear ht
  go_enter Try.func93, Try.ntmps93
  go_wp2_with fail
  go_loopw [4] (fun i wr => HeadL1 w S m c ss i wr) (fun i _ => m - (intOf i).toNat)
  case atStart =>
    have b0 : Below w.heap.size w (((w.alloc (.cells #[.slice S m c] 29)).alloc (.cells #[.slice none 0 0] 29)).alloc (.cells #[.slice none 0 0] 29)) := (((Below.refl _ _).alloc (Nat.le_refl _) _).alloc (by simp) _).alloc (by simp; omega) _
    have q1 := Row.new (w.alloc (.cells #[.slice S m c] 29)) 29 #[.slice none 0 0]
    have q2 := Row.new ((w.alloc (.cells #[.slice S m c] 29)).alloc (.cells #[.slice none 0 0] 29)) 29 #[.slice none 0 0]
    refine ⟨0, none, 0, Nat.zero_le _, rfl, by simpa [rowsL] using Owns.nil _ _ _, ((Row.new w 29 #[.slice S m c]).alloc _).alloc _, ?_, ?_, b0⟩
    · have := q1.alloc (.cells #[.slice none 0 0] 29); simpa using this
    · simpa using q2
  case round =>
    obtain ⟨k, A, cA, hk, rfl, ho, r0, r1, r2, hb⟩ := hrel
    have c0 : wr.cell? ⟨w.heap.size, 0, none⟩ = some (.slice S m c) := r0.cell 0
    have cO : wr.cell? ⟨w.heap.size + 2, 0, none⟩ = some (.slice A k cA) := r2.cell 0
    have i0 : (0 : Int) ≤ (k : Int) := by omega
    by_cases hlt : k < m
    · have i1 : (k : Int) < (m : Int) := by omega
      have LG := Lib.hid (l2Gives S m c ss k wr ((h.below hb).more hb.size) HT.out (by omega))
      have HA : Hid (∀ z, blk A = some z → w.heap.size + 3 ≤ z) := Lib.hid (fun z hz => by
        obtain ⟨vs, hown, _⟩ := ho.row
        exact (World.ownsRow.lt hown z (by rw [blk_own]; exact hz)).1)
      have hw1 : IntKind.i64.wrap (-1 - (k : Int)) = -1 - (k : Int) := by rw [IntKind.wrap_i64]; omega
      have hrl := r2.lt
      obtain ⟨ys, hys⟩ : ∃ ys, givesL ss k = ys := ⟨_, rfl⟩
      rw [hys] at LG
      have hlen : ys.length ≤ 1048576 := by
        rw [← hys]
        unfold givesL
        split
        · simp [vt]
        · exact HE.out k
      have RS := Lib.hid (rows_succ (givesL ss) k)
      by_cases h1 : ys.length = 1
      · obtain ⟨x, rfl⟩ : ∃ x, ys = [x] := by
          match ys, h1 with
          | [x], _ => exact ⟨x, rfl⟩
        by_cases hx : x = -1 - (k : Int)
        · have RB := Lib.hid (show bare (givesL ss) k = [] by unfold bare; rw [if_pos (by rw [hys, hx]; rfl)])
          have DX : (x == -1 - (k : Int)) = true := by simp [hx]
          clear hx hys
          go_wp2_with (first
            | (go_at_call 75; go_must (refine LG.out.mono ?_; rintro e w1 ⟨D, dn, dc, rfl, od, bb⟩; obtain rfl : dn = 1 := Own.len od; obtain ⟨gD, rfl, cD⟩ := own_one od; have cO1 : w1.cell? ⟨w.heap.size + 2, 0, none⟩ = some (.slice A k cA) := (r2.next bb).cell 0; have e5 : ((w1.alloc (.cells #[] 2)).alloc (.cells #[.slice (some ⟨w1.heap.size, 0, none⟩) 0 0] 24)).cell? ⟨w1.heap.size + 1, 0, none⟩ = some (.slice (some ⟨w1.heap.size, 0, none⟩) 0 0) := (by simp); have c15 : (w1.alloc (.cells #[] 2)).cell? ⟨w.heap.size + 2, 0, none⟩ = some (.slice A k cA) := ((r2.next bb).alloc (.cells #[] 2)).cell 0; have B5 : Below w1.heap.size w1 ((w1.alloc (.cells #[] 2)).alloc (.cells #[.slice (some ⟨w1.heap.size, 0, none⟩) 0 0] 24)) := ((Below.refl _ _).alloc (Nat.le_refl _) _).alloc (by simp) _; have hz5 := B5.size; have hz1 := bb.size; have ho5 := (ho.next bb).next B5; have i5 : Inn ((w1.alloc (.cells #[] 2)).alloc (.cells #[.slice (some ⟨w1.heap.size, 0, none⟩) 0 0] 24)) wr.heap.size ((w1.alloc (.cells #[] 2)).alloc (.cells #[.slice (some ⟨w1.heap.size, 0, none⟩) 0 0] 24)).heap.size (.slice (some ⟨w1.heap.size, 0, none⟩) 0 0) [] := Inn.wider ((inn_own (own_empty w1 wr.heap.size bb.size)).next ((Below.refl _ _).alloc (Nat.le_refl _) _)) (Nat.le_refl _) (by simp); have r25 := (r2.next bb).next B5; have c25 : ((w1.alloc (.cells #[] 2)).alloc (.cells #[.slice (some ⟨w1.heap.size, 0, none⟩) 0 0] 24)).cell? ⟨w.heap.size + 2, 0, none⟩ = some (.slice A k cA) := r25.cell 0))
            | (at_builtin; go_must (refine appS1 rfl _ _ rfl (w.heap.size + 3) wr.heap.size A k cA (rowsL (givesL ss) k) rfl ho5 _ 1 (.slice (some ⟨w1.heap.size, 0, none⟩) 0 0) [] rfl e5 i5 (by omega) (by omega) (by omega) ?_; intro A' c' w6 ho6 hg6 hat6 b6; have q2 := Row.away r25 hg6 (fun e => by have := HA.out _ e; omega); have c26 : w6.cell? ⟨w.heap.size + 2, 0, none⟩ = some (.slice A k cA) := q2.cell 0; have f26 : w6.frozen? ⟨w.heap.size + 2, 0, none⟩ = false := q2.free 0)))
          have S := Lib.hid (headL1_step (ss := ss) hlt (by rw [RS.out, RB.out]; exact ho6) r0 r1 r2 hb bb B5 hg6 HA.out)
          clear ho6 hg6 hat6 b6 ho5 i5 r25 c25 c15 q2 od bb B5 r0 r1 r2 hb ho RS RB LG cO1
          go_wp2
          go_roundw
          case rel => exact S.out
          case measure => simp [intOf]; omega
        · have RB := Lib.hid (show bare (givesL ss) k = [x] by unfold bare; rw [if_neg (by rw [hys]; unfold vt; intro e; injection e with e; exact hx e), hys])
          have DX : (x == -1 - (k : Int)) = false := by simp [hx]
          clear hx hys
          go_wp2_with (first
            | (go_at_call 75; refine LG.out.mono ?_; rintro e w1 ⟨D, dn, dc, rfl, od, bb⟩; obtain rfl : dn = 1 := Own.len od; obtain ⟨gD, rfl, cD⟩ := own_one od; have cO1 : w1.cell? ⟨w.heap.size + 2, 0, none⟩ = some (.slice A k cA) := (r2.next bb).cell 0; have B5 : Below w1.heap.size w1 (w1.alloc (.cells #[.slice (some ⟨gD, 0, none⟩) 1 dc] 24)) := (Below.refl _ _).alloc (Nat.le_refl _) _; have hz5 := B5.size; have hz1 := bb.size; have ho5 := (ho.next bb).next B5; have i5 : Inn (w1.alloc (.cells #[.slice (some ⟨gD, 0, none⟩) 1 dc] 24)) wr.heap.size (w1.alloc (.cells #[.slice (some ⟨gD, 0, none⟩) 1 dc] 24)).heap.size (.slice (some ⟨gD, 0, none⟩) 1 dc) [x] := Inn.wider ((inn_own od).next ((Below.refl _ _).alloc (Nat.le_refl _) _)) (Nat.le_refl _) (by simp); have r25 := (r2.next bb).next B5; have c25 : (w1.alloc (.cells #[.slice (some ⟨gD, 0, none⟩) 1 dc] 24)).cell? ⟨w.heap.size + 2, 0, none⟩ = some (.slice A k cA) := r25.cell 0)
            | (at_builtin; refine appS1 rfl _ _ rfl (w.heap.size + 3) wr.heap.size A k cA (rowsL (givesL ss) k) rfl ho5 _ 1 (.slice (some ⟨gD, 0, none⟩) 1 dc) [x] rfl ((Row.new _ _ _).cell 0) i5 (by omega) (by omega) (by omega) ?_; intro A' c' w6 ho6 hg6 hat6 b6; have q2 := Row.away r25 hg6 (fun e => by have := HA.out _ e; omega); have c26 : w6.cell? ⟨w.heap.size + 2, 0, none⟩ = some (.slice A k cA) := q2.cell 0; have f26 : w6.frozen? ⟨w.heap.size + 2, 0, none⟩ = false := q2.free 0))
          have S := Lib.hid (headL1_step (ss := ss) hlt (by rw [RS.out, RB.out]; exact ho6) r0 r1 r2 hb bb B5 hg6 HA.out)
          clear ho6 hg6 hat6 b6 ho5 i5 r25 c25 q2 od bb B5 r0 r1 r2 hb ho RS RB LG cO1
          go_wp2
          go_roundw
          case rel => exact S.out
          case measure => simp [intOf]; omega
      · have RB := Lib.hid (show bare (givesL ss) k = ys by unfold bare; rw [if_neg (by rw [hys]; unfold vt; intro e; rw [e] at h1; exact h1 rfl), hys])
        clear hys
        go_wp2_with (first
          | (go_at_call 75; refine LG.out.mono ?_; rintro e w1 ⟨D, dn, dc, rfl, od, bb⟩; have hdn : ¬ dn = 1 := (by rw [Own.len od]; exact h1); have hdz : ¬ (dn : Int) = 1 := (by omega); have hdb : (((dn : Nat) : Int) == 1) = false := (by simp; omega); have cO1 : w1.cell? ⟨w.heap.size + 2, 0, none⟩ = some (.slice A k cA) := (r2.next bb).cell 0; have B5 : Below w1.heap.size w1 (w1.alloc (.cells #[.slice D dn dc] 24)) := (Below.refl _ _).alloc (Nat.le_refl _) _; have hz5 := B5.size; have hz1 := bb.size; have ho5 := (ho.next bb).next B5; have i5 : Inn (w1.alloc (.cells #[.slice D dn dc] 24)) wr.heap.size (w1.alloc (.cells #[.slice D dn dc] 24)).heap.size (.slice D dn dc) ys := Inn.wider ((inn_own od).next ((Below.refl _ _).alloc (Nat.le_refl _) _)) (Nat.le_refl _) (by simp); have r25 := (r2.next bb).next B5; have c25 : (w1.alloc (.cells #[.slice D dn dc] 24)).cell? ⟨w.heap.size + 2, 0, none⟩ = some (.slice A k cA) := r25.cell 0)
          | (at_builtin; refine appS1 rfl _ _ rfl (w.heap.size + 3) wr.heap.size A k cA (rowsL (givesL ss) k) rfl ho5 _ 1 (.slice D dn dc) ys rfl ((Row.new _ _ _).cell 0) i5 (by omega) (by omega) (by omega) ?_; intro A' c' w6 ho6 hg6 hat6 b6; have q2 := Row.away r25 hg6 (fun e => by have := HA.out _ e; omega); have c26 : w6.cell? ⟨w.heap.size + 2, 0, none⟩ = some (.slice A k cA) := q2.cell 0; have f26 : w6.frozen? ⟨w.heap.size + 2, 0, none⟩ = false := q2.free 0))
        have S := Lib.hid (headL1_step (ss := ss) hlt (by rw [RS.out, RB.out]; exact ho6) r0 r1 r2 hb bb B5 hg6 HA.out)
        clear ho6 hg6 hat6 b6 ho5 i5 r25 c25 q2 od bb B5 r0 r1 r2 hb ho RS RB LG cO1
        go_wp2
        go_roundw
        case rel => exact S.out
        case measure => simp [intOf]; omega
    · obtain rfl : k = m := by omega
      have HC := Lib.hid ho.cap
      have H2 : HeadL2 w (givesL ss) k A cA (.pointer (some ⟨w.heap.size + 2, 0, none⟩)) wr := ⟨k, Nat.le_refl _, rfl, by rw [List.take_of_length_le (by rw [rows_len]; exact Nat.le_refl _)]; rfl, ho, r1, r2, hb⟩
      have HH2 := Lib.hid H2
      have hc1 : cA ≤ 9223372036854775807 := ho.cap.2.1
      have hc0 : k ≤ cA := ho.cap.1
      clear H2 ho r0 r1 r2 hb cO h
      go_wp2_with fail
      go_loopw [] (fun wr => HeadL2 w (givesL ss) k A cA (.pointer (some ⟨w.heap.size + 2, 0, none⟩)) wr) (fun wr => lenAt wr ⟨w.heap.size + 2, 0, none⟩)
      case atStart => exact HH2.out
      case round =>
        obtain ⟨n, hn, -, hs, ho, r1, r2, hb⟩ := hrel
        clear HH2
        have cO : wr.cell? ⟨w.heap.size + 2, 0, none⟩ = some (.slice A n cA) := r2.cell 0
        have fO : wr.frozen? ⟨w.heap.size + 2, 0, none⟩ = false := r2.free 0
        have cR : wr.cell? ⟨w.heap.size + 1, 0, none⟩ = some (.slice none 0 0) := r1.cell 0
        have fR : wr.frozen? ⟨w.heap.size + 1, 0, none⟩ = false := r1.free 0
        by_cases h0 : n = 0
        · subst h0
          have F := Lib.hid (headL2_end hn hs ho r1 hb (.inl rfl))
          clear hs ho r1 r2 hb
          go_wp2
          exact bodyPost_ret (v := .agg #[.slice A 0 cA]) (by simp [results, Try.results93, go_sem, cR]) rfl F.out
        · obtain ⟨p, rfl⟩ : ∃ p, n = p + 1 := ⟨n - 1, by omega⟩
          obtain ⟨b, off, A', q, cq, rfl, hbb, hx, hseg, hcap⟩ := ho.segs.spot (k := p) (by omega)
          have p0 : (0 : Int) ≤ (p : Int) := by omega
          have p1 : ((p + 1 : Nat) : Int) - 1 = (p : Int) := by omega
          have p2 : (p : Int) ≤ (cA : Int) := by omega
          have p3 : (p : Int) < ((p + 1 : Nat) : Int) := by omega
          have p4 : (0 : Int) < ((p + 1 : Nat) : Int) := by omega
          have hw2 : IntKind.i64.wrap (p : Int) = (p : Int) := by rw [IntKind.wrap_i64]; omega
          by_cases hq : q = 0
          · subst hq
            have hnil : (rowsL (givesL ss) k).getD p [] = [] := List.eq_nil_of_length_eq_zero hseg.1
            have S1 : HeadL2 w (givesL ss) k (some ⟨b, off, none⟩) cA (.pointer (some ⟨w.heap.size + 2, 0, none⟩)) (wr.setCell ⟨w.heap.size + 2, 0, none⟩ (.slice (some ⟨b, off, none⟩) p cA)) := by
              refine ⟨p, by omega, rfl, by rw [← strip_drop (by rw [rows_len]; omega) hnil]; exact hs, ?_, r1.far (by simp) _, ?_, hb.setCell (by simp) _⟩
              · have := owns_put ho r2 (by omega) 0 (.slice (some ⟨b, off, none⟩) p cA)
                simpa using this
              · have := r2.put 0 (.slice (some ⟨b, off, none⟩) p cA)
                simpa using this
            have HS1 := Lib.hid S1
            have E1 : (wr.setCell ⟨w.heap.size + 2, 0, none⟩ (.slice (some ⟨b, off, none⟩) p cA)).cell? ⟨w.heap.size + 2, 0, none⟩ = some (.slice (some ⟨b, off, none⟩) p cA) := by have := (r2.put 0 (.slice (some ⟨b, off, none⟩) p cA)).cell 0; simpa using this
            have HLT := Lib.hid (show lenAt (wr.setCell ⟨w.heap.size + 2, 0, none⟩ (.slice (some ⟨b, off, none⟩) p cA)) ⟨w.heap.size + 2, 0, none⟩ < lenAt wr ⟨w.heap.size + 2, 0, none⟩ by simp only [lenAt, E1, cO]; omega)
            clear S1 E1 hs ho r1 r2 hb hseg hcap hnil
            go_wp2
            go_roundw
            case rel => exact HS1.out
            case measure => exact HLT.out
          · have hq1 : (0 : Int) < (q : Int) := by omega
            have F := Lib.hid (headL2_end hn hs ho r1 hb (.inr (fun e => by rw [show p + 1 - 1 = p by omega] at e; rw [e] at hseg; exact hq hseg.1.symm)))
            clear hs ho r1 r2 hb hseg hcap
            go_wp2
            exact bodyPost_ret (v := .agg #[.slice (some ⟨b, off, none⟩) (p + 1) cA]) (by simp [results, Try.results93, go_sem, cR]) rfl F.out

/-- what PlainOf answers -/
def plainI (sg : List Int) (ss : List (List Int)) : List (List Int) := if substOkB sg ss = true then plainL (givesL ss) ss.length else []
theorem plain_yes {sg : List Int} {ss : List (List Int)} (h : substOkB sg ss = true) : plainI sg ss = plainL (givesL ss) ss.length := by unfold plainI; rw [if_pos h]
theorem plain_no {sg : List Int} {ss : List (List Int)} (h : substOkB sg ss = false) : plainI sg ss = [] := by unfold plainI; rw [if_neg (by rw [h]; simp)]
theorem tot_le {xss : List (List Int)} {M : Nat} (h : ∀ j, (xss.getD j []).length ≤ M) : tot xss ≤ xss.length + xss.length * M := by
  have : ∀ k, k ≤ xss.length → sumL xss k ≤ k * M := fun k => by
    induction k with
    | zero => intro _; simp [sumL]
    | succ k ih =>
      intro hk
      rw [sumL_succ (by omega)]
      have h1 := ih (by omega)
      have h2 := h k
      rw [Nat.succ_mul]
      omega
  unfold tot
  have := this xss.length (Nat.le_refl _)
  omega
theorem plainI_tot {sg : List Int} {ss : List (List Int)} : tot (plainI sg ss) ≤ 1048576 := by
  cases h : substOkB sg ss with
  | false => rw [plain_no h]; simp [tot, sumL]
  | true =>
    rw [plain_yes h]
    have h1 := tot_le (plain_each (L := givesL ss) (m := ss.length) (gives_len h))
    have h2 := plain_len (givesL ss) ss.length
    have h3 := (substOk_parts h).2.1
    have h4 : (plainL (givesL ss) ss.length).length * 60 ≤ 24 * 60 := Nat.mul_le_mul_right _ (by omega)
    omega
/-- three boxes: two parameters and the result -/
theorem boxes3 (w : World) (A : Option Addr) (n c : Nat) (S : Option Addr) (m c' : Nat) : ∃ W, W = ((w.alloc (.cells #[.slice A n c] 26)).alloc (.cells #[.slice S m c'] 29)).alloc (.cells #[.slice none 0 0] 29) ∧
    Row W w.heap.size 26 #[.slice A n c] ∧ Row W (w.heap.size + 1) 29 #[.slice S m c'] ∧ Row W (w.heap.size + 2) 29 #[.slice none 0 0] ∧ Below w.heap.size w W ∧ w.heap.size + 2 < W.heap.size := by
  obtain ⟨W, hW, r1, r2, b⟩ := boxes2 w A n c S m c'
  have hz : W.heap.size = w.heap.size + 2 := by rw [hW]; simp
  refine ⟨_, rfl, ?_, ?_, ?_, ?_, ?_⟩
  · rw [← hW]; exact r1.alloc _
  · rw [← hW]; exact r2.alloc _
  · rw [← hW, ← hz]; exact Row.new _ _ _
  · rw [← hW]; exact b.alloc b.size _
  · rw [← hW]; simp; omega

set_option maxHeartbeats 2000000 in
theorem specPlainOf (A S : Option Addr) (n c m c' : Nat) (sg : List Int) (ss : List (List Int)) (w : World) (h : Seg w w.heap.size A n sg) (h' : Segs w w.heap.size S m ss) (hn : n ≤ 1048576) (ht : tot ss ≤ 1048576) :
    Calls Try.prog 46 #[.agg #[.slice A n c], .agg #[.slice S m c']] w (AnsSubst w (plainI sg ss)) := by
  obtain ⟨W, hW, rA, rS, rR, bel, hz⟩ := boxes3 w A n c S m c'
  have HW := Lib.hid hW
  have HL := Lib.hid h'.1
  have s := h.next bel
  have s1 := h'.next bel
  have L := Lib.hid (specSubstOk A S n c m c' sg ss W s s1 hn ht)
  clear hW h h'
  cases hok : substOkB sg ss with
  | false =>
    have HS := Lib.hid hok
    clear hok s s1
    go_enter Try.func46, Try.ntmps46
    go_wp2_with fail
    rw [← HW.out]
    refine L.out.mono ?_
    rintro e w1 ⟨he, bb⟩
    rw [HS.out] at he
    subst he
    have r1 := rR.next bb
    have cR : w1.cell? ⟨w.heap.size + 2, 0, none⟩ = some (.slice none 0 0) := r1.cell 0
    have fR : w1.frozen? ⟨w.heap.size + 2, 0, none⟩ = false := r1.free 0
    have F : ∀ w2, Below w.heap.size w w2 → AnsSubst w (plainI sg ss) (.returned (.agg #[.slice none 0 0])) w2 := fun w2 h2 => ⟨none, 0, 0, rfl, by rw [plain_no HS.out]; exact Owns.nil _ _ _, h2⟩
    have F1 := Lib.hid (F w1 (next_trans bel bb))
    have F2 := Lib.hid (F _ ((next_trans bel bb).setCell (by simp) (.slice none 0 0) (p := ⟨w.heap.size + 2, 0, none⟩)))
    clear bb bel rA rS rR r1 F
    go_wp2
    first
      | exact bodyPost_ret (v := .agg #[.slice none 0 0]) (by simp [results, Try.results46, go_sem, cR]) rfl F1.out
      | exact bodyPost_ret (v := .agg #[.slice none 0 0]) (by simp [results, Try.results46, go_sem, cR]) rfl F2.out
  | true =>
    have HS := Lib.hid hok
    clear hok
    go_enter Try.func46, Try.ntmps46
    go_wp2_with fail
    rw [← HW.out]
    refine L.out.mono ?_
    rintro e w1 ⟨he, bb⟩
    rw [HS.out] at he
    subst he
    have r1 := rR.next bb
    have cS : w1.cell? ⟨w.heap.size + 1, 0, none⟩ = some (.slice S m c') := (rS.next bb).cell 0
    have L2 := Lib.hid (l2Plain S m c' ss w1 (s1.next bb) ht)
    have bel1 := next_trans bel bb
    clear L s s1 rA rS
    go_wp2_with fail
    refine L2.out.mono ?_
    rintro e w2 ⟨O, on, oc, rfl, ho, b2⟩
    have r2 := r1.next b2
    have cR : w2.cell? ⟨w.heap.size + 2, 0, none⟩ = some (.slice none 0 0) := r2.cell 0
    have fR : w2.frozen? ⟨w.heap.size + 2, 0, none⟩ = false := r2.free 0
    have hz1 := r1.lt
    have F : AnsSubst w (plainI sg ss) (.returned (.agg #[.slice O on oc])) (w2.setCell ⟨w.heap.size + 2, 0, none⟩ (.slice O on oc)) :=
      ⟨O, on, oc, rfl, by rw [plain_yes HS.out, HL.out]; exact (owns_put ho r2 hz1 0 _).wider (by omega) (by simp), (next_trans bel1 b2).setCell (by simp) _⟩
    have HF := Lib.hid F
    clear F bb bel bel1 b2 rR r1 r2 ho cS L2
    go_wp2
    exact bodyPost_ret (v := .agg #[.slice O on oc]) (by simp [results, Try.results46, go_sem, cR]) rfl HF.out

set_option maxHeartbeats 2000000 in
theorem implPlainOf (A S : Option Addr) (n c m c' : Nat) (sg : List Int) (ss : List (List Int)) (w : World) (h : Seg w w.heap.size A n sg) (h' : Segs w w.heap.size S m ss) (hn : n ≤ 1048576) (ht : tot ss ≤ 1048576) :
    Calls Try.prog 26 #[.agg #[.slice A n c], .agg #[.slice S m c']] w (AnsSubst w (plainI sg ss)) := by
  obtain ⟨W, hW, rA, rS, rR, bel, hz⟩ := boxes3 w A n c S m c'
  have HW := Lib.hid hW
  have HL := Lib.hid h'.1
  have hm : m ≤ 1048576 := tot_len h'.1 ht
  have s := h.next bel
  have s1 := h'.next bel
  have L := Lib.hid (implSubstOk A S n c m c' sg ss W s s1 hn ht)
  clear hW h h'
  cases hok : substOkB sg ss with
  | false =>
    have HS := Lib.hid hok
    clear hok s s1
    go_enter Try.func26, Try.ntmps26
    go_wp2_with fail
    rw [← HW.out]
    refine L.out.mono ?_
    rintro e w1 ⟨he, bb⟩
    rw [HS.out] at he
    subst he
    have r1 := rR.next bb
    have cR : w1.cell? ⟨w.heap.size + 2, 0, none⟩ = some (.slice none 0 0) := r1.cell 0
    have fR : w1.frozen? ⟨w.heap.size + 2, 0, none⟩ = false := r1.free 0
    have F : ∀ w2, Below w.heap.size w w2 → AnsSubst w (plainI sg ss) (.returned (.agg #[.slice none 0 0])) w2 := fun w2 h2 => ⟨none, 0, 0, rfl, by rw [plain_no HS.out]; exact Owns.nil _ _ _, h2⟩
    have F1 := Lib.hid (F w1 (next_trans bel bb))
    have F2 := Lib.hid (F _ ((next_trans bel bb).setCell (by simp) (.slice none 0 0) (p := ⟨w.heap.size + 2, 0, none⟩)))
    clear bb bel rA rS rR r1 F
    go_wp2
    first
      | exact bodyPost_ret (v := .agg #[.slice none 0 0]) (by simp [results, Try.results26, go_sem, cR]) rfl F1.out
      | exact bodyPost_ret (v := .agg #[.slice none 0 0]) (by simp [results, Try.results26, go_sem, cR]) rfl F2.out
  | true =>
    have HS := Lib.hid hok
    have HP := Lib.hid (show plainL (givesL ss) 24 = plainI sg ss by rw [plain_yes hok, HL.out]; exact plain_24 (by have := (substOk_parts hok).2.1; rw [HL.out] at this; exact this) (fun i hi => gives_out (by rw [HL.out]; omega)))
    have HG := Lib.hid (gives_len hok)
    clear hok
    go_enter Try.func26, Try.ntmps26
    go_wp2_with fail
    rw [← HW.out]
    refine L.out.mono ?_
    rintro e w1 ⟨he, bb⟩
    rw [HS.out] at he
    subst he
    have r1 := rR.next bb
    have cS : w1.cell? ⟨w.heap.size + 1, 0, none⟩ = some (.slice S m c') := (rS.next bb).cell 0
    have bel1 := next_trans bel bb
    replace s1 := s1.next bb
    clear L s rA rS
    go_wp2_with fail
    refine (lookupIn S m c' w1).mono ?_
    rintro e w3 ⟨rfl, hw3⟩
    have b3 : Below w1.heap.size w1 w3 := by rw [hw3]; exact (Below.refl _ _).alloc (Nat.le_refl _) _
    have r3 : Row w3 w1.heap.size 29 #[.slice S m c'] := by rw [hw3]; exact Row.new _ _ _
    replace s1 := s1.next b3
    replace bel1 := next_trans bel1 b3
    replace r1 := r1.next b3
    have L3 := Lib.hid (plain 105 #[.pointer (some ⟨w1.heap.size, 0, none⟩)] (enters_of Try.func105 (by kernel_rfl) rfl) (givesL ss) w3 (lookSubst w1.heap.size S m c' ss w3 r3 s1 hm) (gives_pos ss) (fun i => Nat.le_trans (HG.out i) (by omega)))
    clear hw3 b3 r3 s1 cS
    go_wp2_with fail
    refine L3.out.mono ?_
    rintro e w2 ⟨O, on, oc, rfl, ho, b2⟩
    have r2 := r1.next b2
    have cR : w2.cell? ⟨w.heap.size + 2, 0, none⟩ = some (.slice none 0 0) := r2.cell 0
    have fR : w2.frozen? ⟨w.heap.size + 2, 0, none⟩ = false := r2.free 0
    have hz1 := r1.lt
    have F : AnsSubst w (plainI sg ss) (.returned (.agg #[.slice O on oc])) (w2.setCell ⟨w.heap.size + 2, 0, none⟩ (.slice O on oc)) :=
      ⟨O, on, oc, rfl, by rw [← HP.out]; exact (owns_put ho r2 hz1 0 _).wider (by omega) (by simp), (next_trans bel1 b2).setCell (by simp) _⟩
    have HF := Lib.hid F
    clear F bb bel bel1 b2 rR r1 r2 ho L3
    go_wp2
    exact bodyPost_ret (v := .agg #[.slice O on oc]) (by simp [results, Try.results26, go_sem, cR]) rfl HF.out
end Go.Proofs.Ytdeegjeopkcomaa.plainOf
