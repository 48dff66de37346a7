/-
  CONTRACTS: spec.l1Into, l2Vars, VarsOf, GroundIn; impl.VarsOf, GroundIn. Conditions: the slices read as lists ('Seg'), at most 1048576 numbers. By an AI agent.
-/
import Derived.Test.YtdeegjeopkcomaaVarsMath
import Derived.Test.YtdeegjeopkcomaaTermFacts
import Derived.Test.YtdeegjeopkcomaaCopy
namespace Go.Proofs.Ytdeegjeopkcomaa.varsOf
open Go.RowKit Go.Proofs.Ytdeegjeopkcomaa.base Go.Proofs.Ytdeegjeopkcomaa.ints Go.Proofs.Ytdeegjeopkcomaa.sig Go.Proofs.Ytdeegjeopkcomaa.term Go.Proofs.Ytdeegjeopkcomaa.termOk Go.Proofs.Ytdeegjeopkcomaa.marks Go.Proofs.Ytdeegjeopkcomaa.app Go.Proofs.Ytdeegjeopkcomaa.sym Go.Proofs.Ytdeegjeopkcomaa.sub Go.Proofs.Ytdeegjeopkcomaa.segs Go.Proofs.Ytdeegjeopkcomaa.sorted Go.Proofs.Ytdeegjeopkcomaa.varsMath Go.Proofs.Ytdeegjeopkcomaa.termFacts
set_option maxRecDepth 100000

/-- a slice that reads as these numbers -/
def AnsInto (w : World) (ys : List Int) (e : Ending) (w' : World) : Prop := ∃ b off n c, e = .returned (.slice (some ⟨b, off, none⟩) n c) ∧ Seg w' w'.heap.size (some ⟨b, off, none⟩) n ys ∧ n ≤ c ∧ c ≤ 9223372036854775807 ∧ Below w.heap.size w w'

theorem Seg.pre {w : World} {B n k : Nat} {A : Option Addr} {xs : List Int} (h : Seg w B A n xs) (hk : k ≤ n) : Seg w B A k (xs.take k) := by
  refine ⟨by have := h.1; simp; omega, fun h0 => ?_⟩
  obtain ⟨b, off, e, hb, hc⟩ := h.2 (by omega)
  refine ⟨b, off, e, hb, fun j hj => ?_⟩
  rw [hc j (by omega)]
  simp [List.getD, List.getElem?_take, hj]
theorem Seg.post {w : World} {B n k b off : Nat} {xs : List Int} (h : Seg w B (some ⟨b, off, none⟩) n xs) (hk : k ≤ n) : Seg w B (some ⟨b, off + k, none⟩) (n - k) (xs.drop k) := by
  have h1 := Seg.cut (a := k) (j := n - k) h (by omega)
  rw [List.take_of_length_le (by have := h.1; simp; omega)] at h1
  exact h1
theorem into_ans {w w' : World} {base : Nat} {A : Option Addr} {n c : Nat} {xs ys : List Int} (h : Own w' base (.slice A n c) ys) (hn : 1 ≤ n) (e : ys = xs) (hb : Below w.heap.size w w') : AnsInto w xs (.returned (.slice A n c)) w' := by
  subst e
  have hl := Own.len h
  rcases own_form (n := n) (vs := ys.map (Value.int .i64)) (by rw [hl]; rw [hl] at h; exact h) with ⟨_, e, _⟩ | ⟨g, cur, rfl, _, _, h1, _, h3, _⟩
  · omega
  · exact ⟨g, 0, n, c, rfl, Own.seg h, h1, h3, hb⟩

def HeadInto (n : Nat) (xs : List Int) (x : Int) (i : Value) : Prop := ∃ k : Nat, k ≤ n ∧ i = .int .i64 k ∧ ∀ j, j < k → xs.getD j 0 < x

set_option maxHeartbeats 4000000 in
theorem l1Into (b off n c : Nat) (xs : List Int) (x : Int) (w : World) (h : Seg w w.heap.size (some ⟨b, off, none⟩) n xs) (hc1 : n ≤ c) (hc2 : c ≤ 9223372036854775807) (hn : n ≤ 1048576) :
    Calls Try.prog 116 #[.slice (some ⟨b, off, none⟩) n c, .int .i64 x] w (AnsInto w (into xs x)) := by
  have HX := Lib.hid h.1
  go_enter Try.func116, Try.ntmps116
  go_wp2
  go_loop [5] (fun i => HeadInto n xs x i) (fun i => n - (intOf i).toNat)
  case atStart => exact ⟨0, Nat.zero_le _, rfl, fun j hj => absurd hj (Nat.not_lt_zero _)⟩
  case round =>
    obtain ⟨k, hk, rfl, hlow⟩ := hrel
    have HLOW := Lib.hid hlow
    clear hlow
    have i1 : (0 : Int) ≤ (k : Int) := by omega
    have i2 : (k : Int) ≤ (n : Int) := by omega
    have i3 : (k : Int) ≤ (c : Int) := by omega
    have i4 : (n : Int) ≤ (c : Int) := by omega
    have L := Lib.hid (copyInts (some ⟨b, off, none⟩) k c (xs.take k) w (Seg.pre h hk) (fun e => by cases e) (by omega))
    by_cases hlt : k < n
    · obtain ⟨b', off', y, e, -, hy, ey⟩ := h.spot hlt
      injection e with e
      injection e with e1 e2
      subst e1 e2
      have i5 : (k : Int) < (n : Int) := by omega
      by_cases hyx : y < x
      · have S : HeadInto n xs x (.int .i64 ((k : Int) + 1)) := ⟨k + 1, hlt, by simp, fun j hj => by
          by_cases e : j = k
          · subst e; rw [ey.out]; exact hyx
          · exact HLOW.out j (by omega)⟩
        replace S := Lib.hid S
        clear h ey L
        go_wp2
        go_round
        case rel => exact S.out
        case measure => simp [intOf]; omega
      · by_cases hye : y = x
        · have F : AnsInto w (into xs x) (.returned (.slice (some ⟨b, off, none⟩) n c)) w := by
            rw [into_at (by rw [HX.out]; exact hlt) HLOW.out (ey.out.trans hye)]
            exact ⟨b, off, n, c, rfl, h, hc1, hc2, Below.refl _ _⟩
          have HF := Lib.hid F
          have d1 : (y == x) = true := by simp [hye]
          have d2 : decide (y < x) = false := by simp; omega
          clear F h ey L hye hyx
          go_wp2
          go_ret
          exact HF.out
        · have hck : ¬ c = k := by omega
          have E := Lib.hid (into_mid (xs := xs) (n := x) (k := k) (by rw [HX.out]; exact hlt) HLOW.out (by rw [ey.out]; omega))
          have d1 : (y == x) = false := by simp [hye]
          have d2 : decide (y < x) = false := by simp; omega
          have hp := Seg.post h hk
          clear h ey hye hyx
          go_wp2_with fail
          refine L.out.mono ?_
          rintro e w1 ⟨D, dn, dc, rfl, o1, b1⟩
          have hdn : dn = k := by rw [Own.len o1]; have := HX.out; simp; omega
          subst hdn
          clear L
          go_wp2_with (first
            | (at_builtin; refine app1 rfl (.tmp 37) (.tmp 39) rfl w.heap.size D dn dc (xs.take dn) rfl (Own.alloc o1 _) w1.heap.size 1 x rfl ((Row.new _ _ _).cell 0) (by omega) (by simp; exact Nat.le_trans b1.size (Nat.le_succ _)) ?_; intro O' oc' w2 o2 b2; have hp2 := hp.below ((b1.alloc b1.size _).trans b2))
            | (at_builtin; refine appAll rfl (.tmp 41) (.tmp 44) rfl w.heap.size O' (dn + 1) oc' _ rfl o2 (some ⟨b, off + dn, none⟩) (n - dn) (c - dn) w.heap.size (xs.drop dn) rfl hp2 (fun e => by cases e) (by omega) (by omega) (by have h1 := b1.size; have h2 := b2.size; simp at h2; omega) ?_; intro Q' qc' w3 o3 b3))
          have F := Lib.hid (into_ans (xs := into xs x) o3 (by omega) E.out.symm (((b1.alloc b1.size _).trans b2).trans b3))
          clear o1 o2 o3 b1 b2 b3 hp hp2 E
          go_wp2
          go_ret
          exact F.out
    · have ek : k = n := by omega
      subst ek
      have E := Lib.hid (into_end (xs := xs) (n := x) (fun j hj => HLOW.out j (by rw [HX.out] at hj; exact hj)))
      have ET := Lib.hid (show xs.take k = xs from List.take_of_length_le (by rw [HX.out]; exact Nat.le_refl _))
      have d0 : decide (k < k) = false := by simp
      by_cases hck : c = k
      · subst hck
        have hp := Seg.pre h (Nat.zero_le _)
        clear h
        go_wp2_with fail
        refine L.out.mono ?_
        rintro e w1 ⟨D, dn, dc, rfl, o1, b1⟩
        rw [ET.out] at o1
        have hdn : dn = c := by rw [Own.len o1]; exact HX.out
        subst hdn
        clear L
        go_wp2_with (first
          | (at_builtin; refine app1 rfl (.tmp 37) (.tmp 39) rfl w.heap.size D dn dc xs rfl (Own.alloc o1 _) w1.heap.size 1 x rfl ((Row.new _ _ _).cell 0) (by omega) (by simp; exact Nat.le_trans b1.size (Nat.le_succ _)) ?_; intro O' oc' w2 o2 b2; have hp2 := hp.below ((b1.alloc b1.size _).trans b2))
          | (at_builtin; refine appAll rfl (.tmp 41) (.tmp 44) rfl w.heap.size O' (dn + 1) oc' _ rfl o2 (some ⟨b, off, none⟩) 0 0 w.heap.size (xs.take 0) rfl hp2 (fun e => by cases e) (by omega) (by omega) (by have h1 := b1.size; have h2 := b2.size; simp at h2; omega) ?_; intro Q' qc' w3 o3 b3))
        have F := Lib.hid (into_ans (xs := into xs x) o3 (by omega) (by rw [E.out]; simp) (((b1.alloc b1.size _).trans b2).trans b3))
        clear o1 o2 o3 b1 b2 b3 hp hp2 E
        go_wp2
        go_ret
        exact F.out
      · have hp := Seg.post h (Nat.le_refl _)
        rw [Nat.sub_self] at hp
        clear h
        go_wp2_with fail
        refine L.out.mono ?_
        rintro e w1 ⟨D, dn, dc, rfl, o1, b1⟩
        rw [ET.out] at o1
        have hdn : dn = k := by rw [Own.len o1]; exact HX.out
        subst hdn
        clear L
        go_wp2_with (first
          | (at_builtin; refine app1 rfl (.tmp 37) (.tmp 39) rfl w.heap.size D dn dc xs rfl (Own.alloc o1 _) w1.heap.size 1 x rfl ((Row.new _ _ _).cell 0) (by omega) (by simp; exact Nat.le_trans b1.size (Nat.le_succ _)) ?_; intro O' oc' w2 o2 b2; have hp2 := hp.below ((b1.alloc b1.size _).trans b2))
          | (at_builtin; refine appAll rfl (.tmp 41) (.tmp 44) rfl w.heap.size O' (dn + 1) oc' _ rfl o2 (some ⟨b, off + dn, none⟩) 0 (c - dn) w.heap.size (xs.drop dn) rfl hp2 (fun e => by cases e) (by omega) (by omega) (by have h1 := b1.size; have h2 := b2.size; simp at h2; omega) ?_; intro Q' qc' w3 o3 b3))
        have F := Lib.hid (into_ans (xs := into xs x) o3 (by omega) (by rw [E.out, List.drop_eq_nil_of_le (by rw [HX.out]; exact Nat.le_refl _)]; simp) (((b1.alloc b1.size _).trans b2).trans b3))
        clear o1 o2 o3 b1 b2 b3 hp hp2 E
        go_wp2
        go_ret
        exact F.out
end Go.Proofs.Ytdeegjeopkcomaa.varsOf
