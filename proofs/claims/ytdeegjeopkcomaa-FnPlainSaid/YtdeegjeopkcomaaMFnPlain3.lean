/-
  MERGED: my texts Plain, DrawSub, DrawS, DrawSA, Shifted, DrawVar, Vars, VarsOf, SubstOk, Gives, one behind the other, as they are. By an AI agent.
-/
import Derived.Test.YtdeegjeopkcomaaMFnPlain2
import Derived.Deep.AppendLies
import Derived.Deep.RegionHeld3
import Derived.Deep.QuietTactic
import Derived.BigQuiet
section
/-
  CONTRACTS: append of one list to a slice of slices of the call's own; impl's (lookup).plain over whatever look-up. Conditions: replacements of 1 to 4096 numbers. By an AI agent.
-/
namespace Go.Proofs.Ytdeegjeopkcomaa.plain
open Go.RowKit Go.Proofs.Ytdeegjeopkcomaa.base Go.Proofs.Ytdeegjeopkcomaa.ints Go.Proofs.Ytdeegjeopkcomaa.cursor Go.Proofs.Ytdeegjeopkcomaa.same Go.Proofs.Ytdeegjeopkcomaa.marks Go.Proofs.Ytdeegjeopkcomaa.app Go.Proofs.Ytdeegjeopkcomaa.appAt Go.Proofs.Ytdeegjeopkcomaa.sym Go.Proofs.Ytdeegjeopkcomaa.sub Go.Proofs.Ytdeegjeopkcomaa.segs Go.Proofs.Ytdeegjeopkcomaa.segsHelp Go.Proofs.Ytdeegjeopkcomaa.kinds Go.Proofs.Ytdeegjeopkcomaa.fillMath Go.Proofs.Ytdeegjeopkcomaa.look Go.Proofs.Ytdeegjeopkcomaa.plainMath
set_option maxRecDepth 100000

theorem Inn.none_ (w : World) (lo hi : Nat) : Inn w lo hi (.slice none 0 0) [] := ⟨none, 0, rfl, Own.nil _ _, fun k hk => by cases hk⟩
theorem inn_own {w : World} {lo : Nat} {A : Option Addr} {n c : Nat} {xs : List Int} (h : Own w lo (.slice A n c) xs) : Inn w lo w.heap.size (.slice A n c) xs := by
  have hl := Own.len h
  subst hl
  exact ⟨A, c, rfl, h, fun k hk => (World.ownsRow.lt h k (by rw [blk_own]; exact hk)).2⟩

set_option maxHeartbeats 1000000 in
/-- append of one list -/
theorem appS1 {w : World} {ops : Array Oper} {rest : List Oper} {o : Oper} {a : Act} {Q : Exit → Act → World → Prop} (hgd : o.guard = none) (s x : Operand)
    (ho : o.op = .call { callee := .builtin .append, args := #[s, x], argTypes := #[27, 27] })
    (lo mid : Nat) (A : Option Addr) (n c : Nat) (xss : List (List Int)) (hs : a.eval s = .slice A n c) (hown : Owns w lo mid A n c xss)
    (g c2 : Nat) (v : Value) (ys : List Int) (hx : a.eval x = .slice (some ⟨g, 0, none⟩) 1 c2) (hy : w.cell? ⟨g, 0, none⟩ = some v) (hv : Inn w mid w.heap.size v ys) (hn : n ≤ 1048576) (hlo : lo ≤ mid) (hmid : mid ≤ w.heap.size)
    (h : ∀ A' c' w', Owns w' lo w'.heap.size A' (n + 1) c' (xss ++ [ys]) → w.grownBy w' (blk A) → (blk A' = blk A ∨ blk A' = some w.heap.size) → Below lo w w' → wpList Try.prog ops Q rest (a.put o.dst (.slice A' (n + 1) c')) w') : wpList Try.prog ops Q (o :: rest) a w := by
  obtain ⟨i0, hi, hz0, hz1, hz2⟩ := info_parts info_list
  obtain ⟨hlen, ⟨vs, hr, hin, hap⟩, htop⟩ := hown
  have hvl : vs.length = n := by have := hr.1; omega
  have hvc : v.oneCell' = true := by obtain ⟨A1, c1, rfl, _⟩ := hv; rfl
  refine wpList_append_own_at w hgd s x 27 ho lo 24 i0 (.slice none 0 0) 1 24 Try.underlying27 hi hz0 hz1 hz2 rfl (by decide) (.slice A n c) n vs hs hr
    ⟨g, 0, none⟩ 1 c2 [v] hx rfl (fun j u hj => ?_) (fun u hu => ?_) (by unfold maxLen; omega) (by omega) (by omega) ?_
  · match j, hj with
    | 0, hj => simp at hj; subst hj; simpa [Addr.add] using hy
  · simp at hu; subst hu; exact hvc
  · intro v' w' hown' hg _ hat
    have hform : ∃ A' c', v' = .slice A' (n + 1) c' := by
      rcases hown'.2 with ⟨_, h0⟩ | ⟨g', cap, cur, e, _⟩
      · omega
      · exact ⟨_, _, e⟩
    obtain ⟨A', c', rfl⟩ := hform
    rw [blk_own] at hg
    rw [blk_own, blk_own] at hat
    have hsz := hg.size
    have hne : ∀ {u : Value} {zs : List Int} {l2 h2 : Nat}, Inn w l2 h2 u zs → u.ownBlock = none ∨ u.ownBlock ≠ blk A := fun {u zs l2 h2} hu => by
      rcases own_form hr with ⟨rfl, _⟩ | ⟨g', cur, rfl, _, hrow, _⟩
      · cases e : u.ownBlock with
        | none => exact .inl rfl
        | some z => exact .inr (fun e2 => by cases e2)
      · exact .inr (hu.ne hrow)
    have hget : ∀ j, j < n → (vs ++ [v]).getD j undef = vs.getD j undef := fun j hj => by simp [List.getD, List.getElem?_append_left (show j < vs.length by omega)]
    have hget2 : ∀ j, j < n → (xss ++ [ys]).getD j [] = xss.getD j [] := fun j hj => by simp [List.getD, List.getElem?_append_left (show j < xss.length by omega)]
    have hnew : (vs ++ [v]).getD n undef = v := by simp [List.getD, ← hvl]
    have hnew2 : (xss ++ [ys]).getD n [] = ys := by simp [List.getD, ← hlen]
    refine h A' c' w' ⟨by simp [hlen], ⟨vs ++ [v], hown', fun j hj => ?_, fun i j k hij hj e1 e2 => ?_⟩, fun k hk => (World.ownsRow.lt hown' k (by rw [blk_own]; exact hk)).2⟩ hg hat ?_
    · by_cases e : j = n
      · subst e
        rw [hnew, hnew2]
        exact (hv.kept hg (hne hv)).wider (by omega) (by omega)
      · rw [hget j (by omega), hget2 j (by omega)]
        exact ((hin j (by omega)).kept hg (hne (hin j (by omega)))).wider (Nat.le_refl _) (by omega)
    · by_cases e : j = n
      · subst e
        rw [hget i hij] at e1
        rw [hnew] at e2
        have h1 := ((hin i hij).blk k e1).2.1
        have h2 := (hv.blk k e2).1
        omega
      · rw [hget i (by omega)] at e1
        rw [hget j (by omega)] at e2
        exact hap i j k hij (by omega) e1 e2
    · refine (Below.refl lo w).grown hg (by omega) (fun k hk => ?_)
      exact (World.ownsRow.lt hr k (by rw [blk_own]; exact hk)).1

/-- a substitution of the call's own -/
def AnsSubst (w : World) (xss : List (List Int)) (e : Ending) (w' : World) : Prop := ∃ A n c, e = .returned (.agg #[.slice A n c]) ∧ Owns w' w.heap.size w'.heap.size A n c xss ∧ Below w.heap.size w w'

/-- the head of plain's loop -/
def HeadP (w : World) (L : Nat → List Int) (terms i : Value) (wr : World) : Prop :=
  ∃ (k : Nat) (A : Option Addr) (n c : Nat), k ≤ 24 ∧ i = .int .i64 k ∧ terms = .slice A n c ∧ n ≤ k ∧ Owns wr (w.heap.size + 1) wr.heap.size A n c (plainL L k) ∧ Row wr w.heap.size 29 #[.slice none 0 0] ∧ Below w.heap.size w wr
/-- a list in another row stays -/
theorem Seg.away {w w' : World} {A : Option Addr} {n : Nat} {xs : List Int} {r : Option Nat} (h : Seg w w.heap.size A n xs) (hg : w.grownBy w' r) (hne : ∀ k, blk A = some k → r ≠ some k) : Seg w' w'.heap.size A n xs :=
  ⟨h.1, fun hn => by
    obtain ⟨b, off, e, hb, hc⟩ := h.2 hn
    refine ⟨b, off, e, Nat.lt_of_lt_of_le hb hg.size, fun j hj => ?_⟩
    exact (World.cell?_of_block (hg.block b hb (fun e2 => hne b (by rw [e]; rfl) e2.symm))).trans (hc j hj)⟩
/-- the head of the loop that pads: mid: where the round began, top: where the loop did -/
def HeadQ (w : World) (mid top : Nat) (L : Nat → List Int) (k : Nat) (A1 : Option Addr) (n1 : Nat) (ys : List Int) (terms : Value) (wr : World) : Prop :=
  ∃ (A : Option Addr) (n c : Nat), terms = .slice A n c ∧ n ≤ k ∧ (plainL L k).length ≤ n ∧ Owns wr (w.heap.size + 1) wr.heap.size A n c (plainL L k ++ List.replicate (n - (plainL L k).length) []) ∧ (∀ q, blk A = some q → q < mid ∨ top ≤ q) ∧
    Seg wr wr.heap.size A1 n1 ys ∧ Row wr w.heap.size 29 #[.slice none 0 0] ∧ Below w.heap.size w wr ∧ top ≤ wr.heap.size
def lenOf (v : Value) : Nat := match v with
  | .slice _ n _ => n
  | _ => 0

set_option maxHeartbeats 16000000 in
theorem plain (g : Nat) (lb : Array Value) (eg : ∀ args w, (callFunc g args).run Try.prog w = .ok (.enter g args) w) (L : Nat → List Int) (w : World)
    (hL : Looks g lb w L 24) (h1 : ∀ i, 1 ≤ (L i).length) (hM : ∀ i, (L i).length ≤ 4096) :
    Calls Try.prog 70 #[.func (.func g) #[] lb] w (AnsSubst w (plainL L 24)) := by
  have H1 := Lib.hid h1
  have HM := Lib.hid hM
  have HK := Lib.hid hL
  have S0 : HeadP w L (.slice none 0 0) (.int .i64 0) (w.alloc (.cells #[.slice none 0 0] 29)) :=
    ⟨0, none, 0, 0, by omega, rfl, rfl, Nat.le_refl _, by simpa [plainL, rowsL, strip] using Owns.nil (w.alloc (.cells #[.slice none 0 0] 29)) (w.heap.size + 1) (w.alloc (.cells #[.slice none 0 0] 29)).heap.size, Row.new _ _ _, (Below.refl _ _).alloc (Nat.le_refl _) _⟩
  have HS0 := Lib.hid S0
  clear S0 h1 hM hL
  go_enter Try.func70, Try.ntmps70
  go_wp2
  go_loopw [3, 6] (fun terms i wr => HeadP w L terms i wr) (fun _ i _ => 24 - (intOf i).toNat)
  case atStart => exact HS0.out
  case round =>
    obtain ⟨k, A, n, c, hk, rfl, rfl, hnk, ho, hr, hb⟩ := hrel
    clear HS0
    obtain ⟨wo, rfl⟩ : ∃ wo : World, wo = wr := ⟨_, rfl⟩
    by_cases hlt : k < 24
    · have hcall := HK.out wo k hb hlt
      have hLk : (L k).length ≤ 4096 := HM.out k
      have hL1 : 1 ≤ (L k).length := H1.out k
      obtain ⟨ys, hys⟩ : ∃ ys, L k = ys := ⟨_, rfl⟩
      rw [hys] at hcall hLk hL1
      have HY := Lib.hid hys
      have HC := Lib.hid hcall
      clear hys hcall
      have hsz := hb.size
      have hrlt := hr.lt
      by_cases hsame : ys = [-1 - (k : Int)]
      · have DS := Lib.hid (decide_eq_true hsame)
        go_wp2_with (first
          | (go_at_fn g; refine HC.out.mono ?_; rintro e w1 ⟨A1, n1, c1, rfl, s1, cap1, far1, bb1⟩; have hn1 : n1 ≤ 4096 := (by rw [← s1.1]; exact hLk))
          | (go_at_call 81; refine (varTerm (k : Int) _ (by omega) (by omega)).mono ?_; rintro e w2 ⟨A2, n2, c2, rfl, o2, bb2⟩; have hn2 : n2 ≤ 1048576 := (by rw [Own.len o2]; simp))
          | (go_at_call 22; refine (implSame A1 A2 n1 n2 c1 c2 ys [-1 - (k : Int)] w2 (s1.next bb2) (Own.seg o2) (by omega) hn2).mono ?_; rintro e w3 ⟨he, d, rfl⟩; rw [DS.out] at he; subst he))
        have bb3 : Below wo.heap.size wo (w2.drewN d) := below_drewN (next_trans bb1 bb2) d
        have hs3 := bb3.size
        have S : HeadP w L (.slice A n c) (.int .i64 ((k : Int) + 1)) (w2.drewN d) := ⟨k + 1, A, n, c, hlt, by simp, rfl, by omega, by rw [plain_same (HY.out.trans hsame)]; exact (ho.next bb3).wider (Nat.le_refl _) hs3, hr.next bb3, hb.trans (bb3.mono hsz)⟩
        have HS := Lib.hid S
        clear S bb3 hs3 s1 cap1 far1 bb1 o2 bb2 ho hr hb HC HY hsame DS
        go_wp2
        go_roundw
        case rel => exact HS.out
        case measure => simp [intOf]; omega
      · have DS := Lib.hid (decide_eq_false hsame)
        have HNE := Lib.hid hsame
        clear hsame
        go_wp2_with (first
          | (go_at_fn g; refine HC.out.mono ?_; rintro e w1 ⟨A1, n1, c1, rfl, s1, cap1, far1, bb1⟩; have hn1 : n1 ≤ 4096 := (by rw [← s1.1]; exact hLk))
          | (go_at_call 81; refine (varTerm (k : Int) _ (by omega) (by omega)).mono ?_; rintro e w2 ⟨A2, n2, c2, rfl, o2, bb2⟩; have hn2 : n2 ≤ 1048576 := (by rw [Own.len o2]; simp))
          | (go_at_call 22; refine (implSame A1 A2 n1 n2 c1 c2 ys [-1 - (k : Int)] w2 (s1.next bb2) (Own.seg o2) (by omega) hn2).mono ?_; rintro e w3 ⟨he, hd⟩; rw [DS.out] at he; subst he; have bb3 : Below w2.heap.size w2 w3 := (by obtain ⟨d, rfl⟩ := hd; exact drewN_below _ _)))
        have bbo := next_trans (next_trans bb1 bb2) bb3
        have s3 := (s1.next bb2).next bb3
        have hs3 := bbo.size
        have h12 := bb2.size
        have h23 := bb3.size
        have hn1' : 1 ≤ n1 := by rw [← s1.1]; exact hL1
        have hA1 : ∀ q, blk A1 = some q → q < w.heap.size ∨ (wo.heap.size ≤ q ∧ q < w3.heap.size) := fun q hq => by
          rcases far1 q hq with h | h
          · exact .inl h
          · refine .inr ⟨h, ?_⟩
            obtain ⟨b, off, e, hb', _⟩ := s1.2 (by omega)
            rw [e] at hq
            have : b = q := Option.some.inj hq
            omega
        have Q0 : HeadQ w wo.heap.size w3.heap.size L k A1 n1 ys (.slice A n c) w3 := by
          have hl := ho.len
          refine ⟨A, n, c, rfl, hnk, by omega, ?_, fun q hq => .inl (ho.top q hq), s3, hr.next bbo, hb.trans (bbo.mono hsz), Nat.le_refl _⟩
          rw [show n - (plainL L k).length = 0 by omega, List.replicate_zero, List.append_nil]
          exact (ho.next bbo).wider (Nat.le_refl _) hs3
        have HQ0 := Lib.hid Q0
        have HA1 := Lib.hid hA1
        clear Q0 hA1 bbo s3 s1 cap1 far1 bb1 o2 bb2 bb3 ho hr hb HC DS hd
        go_loopw [3] (fun terms wr => HeadQ w wo.heap.size w3.heap.size L k A1 n1 ys terms wr) (fun terms _ => k - lenOf terms)
        case atStart => exact HQ0.out
        case round =>
          obtain ⟨A, n, c, rfl, hnk, hpn, ho, hloc, s1, hr, hb, htop⟩ := hrel
          clear HQ0
          have hrl := hr.lt
          have hne : ∀ q, blk A1 = some q → blk A ≠ some q := fun q hq e => by
            have h1 := HA1.out q hq
            have h2 := hloc q e
            obtain ⟨vs, hown, _⟩ := ho.row
            have h3 := (World.ownsRow.lt hown q (by rw [blk_own]; exact e)).1
            omega
          have hneB : blk A ≠ some w.heap.size := fun e => by
            obtain ⟨vs, hown, _⟩ := ho.row
            have h3 := (World.ownsRow.lt hown _ (by rw [blk_own]; exact e)).1
            omega
          by_cases hlt2 : n < k
          · have ho1 := ho.next (w' := wr.alloc (.cells #[.slice none 0 0] 24)) ((Below.refl _ _).alloc (Nat.le_refl _) _)
            have hr1 := hr.alloc (.cells #[.slice none 0 0] 24)
            have s1a := s1.next (w' := wr.alloc (.cells #[.slice none 0 0] 24)) ((Below.refl _ _).alloc (Nat.le_refl _) _)
            go_wp2_with (at_builtin; refine appS1 rfl _ _ rfl (w.heap.size + 1) wr.heap.size A n c _ rfl ho1 wr.heap.size 1 (.slice none 0 0) [] rfl ((Row.new _ _ _).cell 0) (Inn.none_ _ _ _) (by omega) (by omega) (by simp) ?_; intro A' c' w5 ho5 hg5 hat5 b5)
            have S : HeadQ w wo.heap.size w3.heap.size L k A1 n1 ys (.slice A' (n + 1) c') w5 := by
              refine ⟨A', n + 1, c', rfl, hlt2, by omega, ?_, fun q hq => ?_, Seg.away s1a hg5 hne, Row.away hr1 hg5 hneB, (hb.alloc (by omega) _).trans (b5.mono (by omega)), ?_⟩
              · rw [show n + 1 - (plainL L k).length = (n - (plainL L k).length) + 1 by omega, List.replicate_succ', ← List.append_assoc]
                exact ho5
              · rcases hat5 with h | h
                · exact hloc q (by rw [← h]; exact hq)
                · rw [h] at hq
                  injection hq with hq
                  simp at hq
                  omega
              · have := hg5.size; simp at this; omega
            have HS := Lib.hid S
            clear S ho5 hg5 hat5 b5 ho1 hr1 s1a ho hloc s1 hr hb hne hneB
            go_wp2
            go_roundw
            case rel => exact HS.out
            case measure => simp [lenOf]; omega
          · have hkn : n = k := by omega
            subst hkn
            obtain ⟨b1, off1, e1, _, _⟩ := s1.2 (by omega)
            subst e1
            rw [plain_pad] at ho
            have LC := Lib.hid (cloneInts b1 off1 n1 c1 ys wr s1 (by omega))
            go_wp2_with (first
              | (go_at_call 106; refine LC.out.mono ?_; rintro e w5 ⟨A5, n5, c5, rfl, o5, bb5⟩; have z5 := bb5.size; have ho5 := (ho.next bb5).next (w' := w5.alloc (.cells #[.slice A5 n5 c5] 24)) ((Below.refl _ _).alloc (Nat.le_refl _) _); have i5 := (inn_own o5).next (w' := w5.alloc (.cells #[.slice A5 n5 c5] 24)) ((Below.refl _ _).alloc (Nat.le_refl _) _); have i6 := Inn.wider i5 (Nat.le_refl _) (show w5.heap.size ≤ (w5.alloc (.cells #[.slice A5 n5 c5] 24)).heap.size by simp); have r5 := (hr.next bb5).alloc (.cells #[.slice A5 n5 c5] 24))
              | (at_builtin; refine appS1 rfl _ _ rfl (w.heap.size + 1) wr.heap.size A n c _ rfl ho5 w5.heap.size 1 (.slice A5 n5 c5) ys rfl ((Row.new _ _ _).cell 0) i6 (by omega) (by omega) (by simp; omega) ?_; intro A' c' w6 ho6 hg6 hat6 b6))
            have S : HeadP w L (.slice A' (n + 1) c') (.int .i64 ((n : Int) + 1)) w6 := by
              refine ⟨n + 1, A', n + 1, c', hlt, by simp, rfl, Nat.le_refl _, ?_, Row.away r5 hg6 hneB, ((hb.trans (bb5.mono (by omega))).alloc (by omega) _).trans (b6.mono (by omega))⟩
              rw [plain_new (by rw [HY.out]; exact HNE.out) (by rw [HY.out]; exact hL1), HY.out]
              exact ho6
            have HS := Lib.hid S
            clear S ho6 hg6 hat6 b6 ho5 i5 i6 r5 o5 bb5 ho hloc s1 hr hb hne hneB LC
            go_wp2
            go_roundw
            case rel => exact HS.out
            case measure => simp [intOf]; omega
    · have hk24 : k = 24 := by omega
      subst hk24
      have hcell : wo.cell? ⟨w.heap.size, 0, none⟩ = some (.slice none 0 0) := hr.cell 0
      have hfr : wo.frozen? ⟨w.heap.size, 0, none⟩ = false := hr.free 0
      have F : AnsSubst w (plainL L 24) (.returned (.agg #[.slice A n c])) (wo.setCell ⟨w.heap.size, 0, none⟩ (.slice A n c)) :=
        ⟨A, n, c, rfl, (owns_put ho hr (Nat.lt_succ_self _) 0 _).wider (by omega) (by simp), hb.setCell (Nat.le_refl _) _⟩
      have HF := Lib.hid F
      clear F ho hr hb
      go_wp2
      exact bodyPost_ret (v := .agg #[.slice A n c]) (by simp [results, Try.results70, go_sem, hcell]) rfl HF.out
end Go.Proofs.Ytdeegjeopkcomaa.plain
end

section
/-
  WORDS for a substitution that is being drawn: its row is the call's own, its terms may be read and lie outside the cursor's block. Conditions: none; plain lemmas. By an AI agent.
-/
namespace Go.Proofs.Ytdeegjeopkcomaa.drawSub
open Go.RowKit Go.Proofs.Ytdeegjeopkcomaa.base Go.Proofs.Ytdeegjeopkcomaa.ints Go.Proofs.Ytdeegjeopkcomaa.sig Go.Proofs.Ytdeegjeopkcomaa.cursor Go.Proofs.Ytdeegjeopkcomaa.marks Go.Proofs.Ytdeegjeopkcomaa.app Go.Proofs.Ytdeegjeopkcomaa.appAt Go.Proofs.Ytdeegjeopkcomaa.sym Go.Proofs.Ytdeegjeopkcomaa.segs Go.Proofs.Ytdeegjeopkcomaa.segsHelp Go.Proofs.Ytdeegjeopkcomaa.dice Go.Proofs.Ytdeegjeopkcomaa.drawSig Go.Proofs.Ytdeegjeopkcomaa.drawTerm Go.Proofs.Ytdeegjeopkcomaa.drawAny Go.Proofs.Ytdeegjeopkcomaa.drawPair Go.Proofs.Ytdeegjeopkcomaa.drawOne

/-- an element: a slice that reads as ys, outside block p and outside row r -/
def Elem (w : World) (p : Nat) (r : Option Nat) (v : Value) (ys : List Int) : Prop :=
  ∃ A' n' c', v = .slice A' n' c' ∧ Rd w p w.heap.size A' n' ys ∧ Cap A' n' c' ∧ (0 < n' → blk A' ≠ r)

/-- the row is the call's own, the elements may be read -/
def OwnR (w : World) (p lo : Nat) (A : Option Addr) (n c : Nat) (xss : List (List Int)) : Prop :=
  xss.length = n ∧ ∃ vs : List Value, w.ownsRow lo 24 1 (.slice A n c) n vs ∧ ∀ j, j < n → Elem w p (blk A) (vs.getD j undef) (xss.getD j [])

section
variable {w w' : World} {p lo n c : Nat} {A : Option Addr} {xss : List (List Int)} {r : Option Nat} {v : Value} {ys : List Int}
theorem Elem.below (h : Elem w p r v ys) (hb : Below w.heap.size w w') : Elem w' p r v ys := by
  obtain ⟨A', n', c', e, hr, hc, hne⟩ := h
  exact ⟨A', n', c', e, (hr.below hb (Nat.le_refl _)).more hb.size, hc, hne⟩
theorem Elem.dice (h : Elem w p r v ys) (hg : w.grownBy w' (some p)) : Elem w' p r v ys := by
  obtain ⟨A', n', c', e, hr, hc, hne⟩ := h
  exact ⟨A', n', c', e, (hr.grown hg (Nat.le_refl _)).more hg.size, hc, hne⟩
theorem OwnR.nil (w : World) (p lo : Nat) : OwnR w p lo none 0 0 [] := ⟨rfl, [], ⟨rfl, .inl ⟨rfl, rfl⟩⟩, fun j hj => absurd hj (Nat.not_lt_zero _)⟩
theorem OwnR.below (h : OwnR w p lo A n c xss) (hb : Below w.heap.size w w') : OwnR w' p lo A n c xss := by
  obtain ⟨h1, vs, h2, h3⟩ := h
  exact ⟨h1, vs, World.ownsRow.kept h2 ⟨hb.os, hb.tape, hb.output, hb.size, fun k hk _ => hb.block k hk⟩ (row := none) (by cases (Value.slice A n c).ownBlock <;> simp), fun j hj => (h3 j hj).below hb⟩
theorem OwnR.dice (h : OwnR w p lo A n c xss) (hg : w.grownBy w' (some p)) (hp : p < lo) : OwnR w' p lo A n c xss := by
  obtain ⟨h1, vs, h2, h3⟩ := h
  refine ⟨h1, vs, World.ownsRow.kept h2 hg ?_, fun j hj => (h3 j hj).dice hg⟩
  cases e : (Value.slice A n c).ownBlock with
  | none => exact .inl rfl
  | some k =>
    refine .inr (fun e2 => ?_)
    have := (World.ownsRow.lt h2 k e).1
    injection e2 with e2
    omega
theorem OwnR.lower {lo' : Nat} (h : OwnR w p lo A n c xss) (h1 : lo' ≤ lo) : OwnR w p lo' A n c xss := by
  obtain ⟨h3, vs, ho, h4⟩ := h
  refine ⟨h3, vs, ⟨ho.1, ?_⟩, h4⟩
  rcases ho.2 with q2 | ⟨g, cap, cur, hv, hg, q⟩
  · exact .inl q2
  · exact .inr ⟨g, cap, cur, hv, by omega, q⟩
theorem OwnR.ge (h : OwnR w p lo A n c xss) : ∀ k, blk A = some k → lo ≤ k ∧ k < w.heap.size := fun k hk => by
  obtain ⟨_, vs, ho, _⟩ := h
  exact World.ownsRow.lt ho k (by rw [blk_own]; exact hk)
theorem OwnR.cap (h : OwnR w p lo A n c xss) : Cap A n c := by
  obtain ⟨_, vs, hr, _⟩ := h
  rcases own_form hr with ⟨rfl, h1, rfl, _⟩ | ⟨g, cur, rfl, _, _, h1, h2, h3, _⟩
  · exact ⟨by omega, by omega, fun _ => rfl⟩
  · exact ⟨h1, h3, fun e => by cases e⟩

/-- one more -/
theorem ownR_app {vs : List Value} {A' : Option Addr} {c' : Nat} (hl : xss.length = n) (hr : w.ownsRow lo 24 1 (.slice A n c) n vs) (hin : ∀ j, j < n → Elem w p (blk A) (vs.getD j undef) (xss.getD j [])) (hv : Elem w p (blk A) v ys)
    (hown' : w'.ownsRow lo 24 1 (.slice A' (n + 1) c') (n + 1) (vs ++ [v])) (hg : w.grownBy w' (blk A)) (hat : blk A' = blk A ∨ blk A' = some w.heap.size) : OwnR w' p lo A' (n + 1) c' (xss ++ [ys]) := by
  have hvl : vs.length = n := by have := hr.1; omega
  have keep : ∀ {u : Value} {zs : List Int}, Elem w p (blk A) u zs → Elem w' p (blk A') u zs := fun {u zs} hu => by
    obtain ⟨B, m, q, e, hrd, hc, hne⟩ := hu
    refine ⟨B, m, q, e, ⟨hrd.1, fun hm => ?_⟩, hc, fun hm => ?_⟩
    · obtain ⟨b, off, e1, hb, hbp, hcell⟩ := hrd.2 hm
      have h1 := hne hm
      rw [e1] at h1
      refine ⟨b, off, e1, Nat.lt_of_lt_of_le hb hg.size, hbp, fun j hj => ?_⟩
      rw [World.cell?_of_block (a := ⟨b, off + j, none⟩) (hg.block b hb h1)]
      exact hcell j hj
    · obtain ⟨b, off, e1, hb, hbp, _⟩ := hrd.2 hm
      rcases hat with e2 | e2
      · rw [e2]; exact hne hm
      · rw [e2, e1]
        intro e3
        have e4 : b = w.heap.size := by injection e3
        omega
  refine ⟨by simp [hl], vs ++ [v], hown', fun j hj => ?_⟩
  by_cases e : j = n
  · subst e
    rw [show (vs ++ [v]).getD j undef = v by simp [List.getD, ← hvl], show (xss ++ [ys]).getD j [] = ys by simp [List.getD, ← hl]]
    exact keep hv
  · rw [show (vs ++ [v]).getD j undef = vs.getD j undef by simp [List.getD, List.getElem?_append_left (show j < vs.length by omega)], show (xss ++ [ys]).getD j [] = xss.getD j [] by simp [List.getD, List.getElem?_append_left (show j < xss.length by omega)]]
    exact keep (hin j (by omega))
end

/-- append of one list, in a walk -/
theorem appR1 {w : World} {ops : Array Oper} {rest : List Oper} {o : Oper} {a : Act} {Q : Exit → Act → World → Prop} (hgd : o.guard = none) (s x : Operand)
    (ho : o.op = .call { callee := .builtin .append, args := #[s, x], argTypes := #[27, 27] })
    (p lo : Nat) (A : Option Addr) (n c : Nat) (xss : List (List Int)) (hs : a.eval s = .slice A n c) (hown : OwnR w p lo A n c xss)
    (g c2 : Nat) (v : Value) (ys : List Int) (hx : a.eval x = .slice (some ⟨g, 0, none⟩) 1 c2) (hy : w.cell? ⟨g, 0, none⟩ = some v) (hv : Elem w p (blk A) v ys) (hn : n ≤ 1048576) (hlo : lo ≤ w.heap.size)
    (h : ∀ A' c' w', OwnR w' p lo A' (n + 1) c' (xss ++ [ys]) → w.grownBy w' (blk A) → (blk A' = blk A ∨ blk A' = some w.heap.size) → Below lo w w' → wpList Try.prog ops Q rest (a.put o.dst (.slice A' (n + 1) c')) w') : wpList Try.prog ops Q (o :: rest) a w := by
  obtain ⟨i0, hi, hz0, hz1, hz2⟩ := info_parts info_list
  obtain ⟨hlen, vs, hr, hin⟩ := hown
  have hvl : vs.length = n := by have := hr.1; omega
  have hvc : v.oneCell' = true := by obtain ⟨A1, n1, c1, rfl, _⟩ := hv; rfl
  refine wpList_append_own_at w hgd s x 27 ho lo 24 i0 (.slice none 0 0) 1 24 Try.underlying27 hi hz0 hz1 hz2 rfl (by decide) (.slice A n c) n vs hs hr
    ⟨g, 0, none⟩ 1 c2 [v] hx rfl (fun j u hj => ?_) (fun u hu => ?_) (by unfold maxLen; omega) (by omega) hlo ?_
  · match j, hj with
    | 0, hj => simp at hj; subst hj; simpa [Addr.add] using hy
  · simp at hu; subst hu; exact hvc
  · intro v' w' hown' hg _ hat
    have hform : ∃ A' c', v' = .slice A' (n + 1) c' := by
      rcases hown'.2 with ⟨_, h0⟩ | ⟨g', cap, cur, e, _⟩
      · omega
      · exact ⟨_, _, e⟩
    obtain ⟨A', c', rfl⟩ := hform
    rw [blk_own] at hg
    rw [blk_own, blk_own] at hat
    exact h A' c' w' (ownR_app hlen hr hin hv hown' hg hat) hg hat ((Below.refl lo w).grown hg hlo (fun k hk => (World.ownsRow.lt hr k (by rw [blk_own]; exact hk)).1))

/-- append of one list, at a step of a region that draws -/
theorem stepR1 {w : World} {ops : Array Oper} {o : Oper} {a : Act} {K : Act → World → Prop} {Q : Exit → Act → World → Prop} {E : Prop} (hgd : o.guard = none) (s x : Operand)
    (ho : o.op = .call { callee := .builtin .append, args := #[s, x], argTypes := #[27, 27] })
    (p lo : Nat) (A : Option Addr) (n c : Nat) (xss : List (List Int)) (hs : a.eval s = .slice A n c) (hown : OwnR w p lo A n c xss)
    (g c2 : Nat) (v : Value) (ys : List Int) (hx : a.eval x = .slice (some ⟨g, 0, none⟩) 1 c2) (hy : w.cell? ⟨g, 0, none⟩ = some v) (hv : Elem w p (blk A) v ys) (hn : n ≤ 1048576) (hlo : lo ≤ w.heap.size)
    (h : ∀ g' c' w', OwnR w' p lo (some ⟨g', 0, none⟩) (n + 1) c' (xss ++ [ys]) → w.grownBy w' (blk A) → (blk A = some g' ∨ g' = w.heap.size) → g' < w'.heap.size → K (a.put o.dst (.slice (some ⟨g', 0, none⟩) (n + 1) c')) w') :
    if Region.wanted o (yielded ops a.tmps) = true then Oper.wp Try.prog o a w K Q else E := by
  obtain ⟨i0, hi, hz0, hz1, hz2⟩ := info_parts info_list
  obtain ⟨hlen, vs, hr, hin⟩ := hown
  have hvl : vs.length = n := by have := hr.1; omega
  have hvc : v.oneCell' = true := by obtain ⟨A1, n1, c1, rfl, _⟩ := hv; rfl
  refine step_append_lies w hgd s x 27 ho lo 24 i0 (.slice none 0 0) 1 24 Try.underlying27 hi hz0 hz1 hz2 rfl (by decide) (.slice A n c) n vs hs hr
    ⟨g, 0, none⟩ 1 c2 [v] hx rfl (fun j u hj => ?_) (fun u hu => ?_) (by omega) (by unfold maxLen; omega) (by omega) hlo w.heap.size rfl ?_
  · match j, hj with
    | 0, hj => simp at hj; subst hj; simpa [Addr.add] using hy
  · simp at hu; subst hu; exact hvc
  · intro g' c' w' hown' hg hat hlt
    rw [blk_own] at hg hat
    exact h g' c' w' (ownR_app hlen hr hin hv hown' hg (hat.imp (fun e => e.symm) (fun e => by rw [← e]; rfl))) hg hat hlt

/-- a drawn substitution: at most M terms, each of at most L numbers -/
def Small (M L m : Nat) (xss : List (List Int)) : Prop := m ≤ M ∧ ∀ j, (xss.getD j []).length ≤ L
theorem small_nil (M L : Nat) : Small M L 0 [] := ⟨Nat.zero_le _, fun j => by simp⟩
theorem small_app {M M' L m : Nat} {xss : List (List Int)} {ys : List Int} (h : Small M L m xss) (hl : xss.length = m) (hy : ys.length ≤ L) (hM : m + 1 ≤ M') : Small M' L (m + 1) (xss ++ [ys]) :=
  ⟨hM, fun j => by
    rcases Nat.lt_trichotomy j m with h1 | h1 | h1
    · have := h.2 j
      simpa [List.getD, List.getElem?_append_left (show j < xss.length by omega)] using this
    · subst h1
      simpa [List.getD, ← hl] using hy
    · simp [List.getD, show xss.length + 1 ≤ j by omega]⟩
theorem small_wider {M L M' L' m : Nat} {xss : List (List Int)} (h : Small M L m xss) (h1 : M ≤ M') (h2 : L ≤ L') : Small M' L' m xss := ⟨Nat.le_trans h.1 h1, fun j => Nat.le_trans (h.2 j) h2⟩
theorem small_tot {M L m : Nat} {xss : List (List Int)} (h : Small M L m xss) (hl : xss.length = m) (hb : M + M * L ≤ 1048576) : tot xss ≤ 1048576 := by
  have h1 : ∀ k, sumL xss k ≤ k * L := fun k => by
    induction k with
    | zero => simp [sumL]
    | succ k ih =>
      by_cases hk : k < xss.length
      · rw [sumL_succ hk, Nat.add_mul]
        have := h.2 k
        omega
      · have e : sumL xss (k + 1) = sumL xss k := by
          unfold sumL
          rw [List.take_of_length_le (show xss.length ≤ k + 1 by omega), List.take_of_length_le (show xss.length ≤ k by omega)]
        rw [e, Nat.add_mul]
        omega
  unfold tot
  have h2 := h1 xss.length
  have h3 : xss.length * L ≤ M * L := Nat.mul_le_mul_right _ (by rw [hl]; exact h.1)
  have h4 := h.1
  omega

def AnsSub (w : World) (p : Nat) (A : Option Addr) (n c M L : Nat) (e : Ending) (w' : World) : Prop :=
  ∃ B m cB xss, e = .returned (.agg #[.slice B m cB]) ∧ OwnR w' p w.heap.size B m cB xss ∧ Small M L m xss ∧ Dice w' p A n c ∧ w.grownBy w' (some p)
end Go.Proofs.Ytdeegjeopkcomaa.drawSub
end

section
/-
  CONTRACT: spec.l2Draw: a drawn substitution. Conditions: a drawing cursor, a valid signature. By an AI agent.
-/
namespace Go.Proofs.Ytdeegjeopkcomaa.drawS
open Go.RowKit Go.Proofs.Ytdeegjeopkcomaa.base Go.Proofs.Ytdeegjeopkcomaa.ints Go.Proofs.Ytdeegjeopkcomaa.sig Go.Proofs.Ytdeegjeopkcomaa.term Go.Proofs.Ytdeegjeopkcomaa.cursor Go.Proofs.Ytdeegjeopkcomaa.termOk Go.Proofs.Ytdeegjeopkcomaa.marks Go.Proofs.Ytdeegjeopkcomaa.app Go.Proofs.Ytdeegjeopkcomaa.appAt Go.Proofs.Ytdeegjeopkcomaa.sym Go.Proofs.Ytdeegjeopkcomaa.segs Go.Proofs.Ytdeegjeopkcomaa.segsHelp Go.Proofs.Ytdeegjeopkcomaa.dice Go.Proofs.Ytdeegjeopkcomaa.drawSig Go.Proofs.Ytdeegjeopkcomaa.drawTerm Go.Proofs.Ytdeegjeopkcomaa.drawAny Go.Proofs.Ytdeegjeopkcomaa.drawPair Go.Proofs.Ytdeegjeopkcomaa.drawOne Go.Proofs.Ytdeegjeopkcomaa.drawSub
set_option maxRecDepth 100000

theorem grown_over {w a b : World} {B : Nat} {r : Option Nat} (g : w.grownBy a r) (hb : Below B a b) (hB : w.heap.size ≤ B) : w.grownBy b r :=
  ⟨hb.os.trans g.os, hb.tape.trans g.tape, hb.output.trans g.output, Nat.le_trans g.size hb.size, fun k hk hne => (hb.block k (by omega)).trans (g.block k hk hne)⟩
theorem OwnR.set {w : World} {p lo N n c : Nat} {A : Option Addr} {xss : List (List Int)} {a : Option Addr} {l k : Nat} (h : OwnR w p lo A n c xss) (hN : N < lo) (hc : w.cell? ⟨N, 0, none⟩ = some (.slice a l k)) (u : Value) : OwnR (w.setCell ⟨N, 0, none⟩ u) p lo A n c xss := by
  obtain ⟨h1, vs, h2, h3⟩ := h
  refine ⟨h1, vs, World.ownsRow.kept h2 (grown_put (World.grownBy.refl w _) 0 u) ?_, fun j hj => ?_⟩
  · cases e : (Value.slice A n c).ownBlock with
    | none => exact .inl rfl
    | some z =>
      refine .inr (fun e2 => ?_)
      have := (World.ownsRow.lt h2 z e).1
      injection e2 with e2
      omega
  · obtain ⟨A', n', c', e, hr, hcap, hne⟩ := h3 j hj
    exact ⟨A', n', c', e, (Rd.other hr hc u).more (by simp), hcap, hne⟩

/-- what is known while a substitution is drawn: the signature's box at w.heap.size, the result's behind it, the variable at o -/
structure DD (w : World) (p : Nat) (A : Option Addr) (n c : Nat) (S : Option Addr) (sn sc : Nat) (sg : List Int) (o : Nat) (B : Option Addr) (m cB : Nat) (xss : List (List Int)) (wr : World) : Prop where
  d : Dice wr p A n c
  rS : Row wr w.heap.size 26 #[.slice S sn sc]
  rR : Row wr (w.heap.size + 1) 29 #[.slice none 0 0]
  rO : Row wr o 29 #[.slice B m cB]
  own : OwnR wr p (o + 1) B m cB xss
  s : Rd wr p w.heap.size S sn sg
  g : w.grownBy wr (some p)
  hp : p < w.heap.size
  ho : w.heap.size + 1 < o
section
variable {w : World} {p : Nat} {A : Option Addr} {n c : Nat} {S : Option Addr} {sn sc : Nat} {sg : List Int} {o : Nat} {B : Option Addr} {m cB : Nat} {xss : List (List Int)} {wr w' : World}
theorem DD.dice (t : DD w p A n c S sn sc sg o B m cB xss wr) (d : Dice w' p A n c) (hg : wr.grownBy w' (some p)) : DD w p A n c S sn sc sg o B m cB xss w' :=
  ⟨d, Row.away t.rS hg (fun e => by injection e; have := t.hp; omega), Row.away t.rR hg (fun e => by injection e; have := t.hp; omega), Row.away t.rO hg (fun e => by injection e; have := t.hp; have := t.ho; omega), t.own.dice hg (by have := t.hp; have := t.ho; omega), t.s.grown hg t.g.size, grown_trans t.g hg, t.hp, t.ho⟩
theorem DD.next (t : DD w p A n c S sn sc sg o B m cB xss wr) (hb : Below wr.heap.size wr w') : DD w p A n c S sn sc sg o B m cB xss w' :=
  ⟨t.d.next hb, t.rS.next hb, t.rR.next hb, t.rO.next hb, t.own.below hb, t.s.below hb t.g.size, grown_over t.g hb t.g.size, t.hp, t.ho⟩
theorem DD.drew (t : DD w p A n c S sn sc sg o B m cB xss wr) : DD w p A n c S sn sc sg o B m cB xss wr.drew := t.next ⟨rfl, rfl, rfl, Nat.le_refl _, fun _ _ => rfl⟩
/-- a new value of the variable -/
theorem DD.put {B' : Option Addr} {m' cB' : Nat} {yss : List (List Int)} (t : DD w p A n c S sn sc sg o B m cB xss wr) (hb : Below (o + 1) wr w') (ho : OwnR w' p (o + 1) B' m' cB' yss) : DD w p A n c S sn sc sg o B' m' cB' yss (w'.setCell ⟨o, 0, none⟩ (.slice B' m' cB')) := by
  have h1 := t.hp
  have h2 := t.ho
  have hO := t.rO.below hb (Nat.lt_succ_self _)
  have hS := Below.setCell (Below.refl o w') (p := ⟨o, 0, none⟩) (Nat.le_refl _) (.slice B' m' cB')
  have hb2 : Below o wr (w'.setCell ⟨o, 0, none⟩ (.slice B' m' cB')) := (hb.mono (Nat.le_succ _)).trans hS
  exact ⟨t.d.keep (hb2.mono (by omega)), t.rS.below hb2 (by omega), t.rR.below hb2 (by omega), hO.put 0 _, OwnR.set ho (Nat.lt_succ_self _) (hO.cell 0) _, t.s.below hb2 (by omega), grown_over t.g hb2 (by omega), h1, h2⟩
theorem DD.result {M L : Nat} (t : DD w p A n c S sn sc sg o B m cB xss wr) (hs : Small M L m xss) : AnsSub w p A n c M L (.returned (.agg #[.slice B m cB])) (wr.setCell ⟨w.heap.size + 1, 0, none⟩ (.slice B m cB)) := by
  have h1 := t.hp
  have h2 := t.ho
  have hS := Below.setCell (Below.refl (w.heap.size + 1) wr) (p := ⟨w.heap.size + 1, 0, none⟩) (Nat.le_refl _) (.slice B m cB)
  exact ⟨B, m, cB, xss, rfl, (OwnR.set t.own (by omega) (t.rR.cell 0) _).lower (by omega), hs, t.d.keep (hS.mono (by omega)), grown_over t.g hS (by omega)⟩
end

/-- the head of the loop -/
def HeadD (w : World) (p : Nat) (A : Option Addr) (n c : Nat) (S : Option Addr) (sn sc : Nat) (sg : List Int) (o : Nat) (num : Value) (wr : World) : Prop :=
  ∃ (k : Nat) (B : Option Addr) (m cB : Nat) (xss : List (List Int)), num = .int .i64 k ∧ m + k ≤ 3 ∧ Small 3 16 m xss ∧ DD w p A n c S sn sc sg o B m cB xss wr
theorem elem_nil {w : World} {p : Nat} {r : Option Nat} {g : Nat} : Elem w p r (.slice (some ⟨g, 0, none⟩) 0 0) [] := ⟨_, 0, 0, rfl, Rd.none_, ⟨Nat.le_refl _, by omega, fun e => by cases e⟩, fun h => absurd h (by omega)⟩

set_option maxHeartbeats 4000000 in
theorem draw (p : Nat) (A : Option Addr) (n c : Nat) (S : Option Addr) (sn sc : Nat) (sg : List Int) (w : World) (hd : Dice w p A n c) (hr : Rd w p w.heap.size S sn sg) (hs : Arities sg) (hn1 : 1 ≤ sn) (hn2 : sn ≤ 256) :
    Calls Try.prog 101 #[.pointer (some ⟨p, 0, none⟩), .agg #[.slice S sn sc]] w (AnsSub w p A n c 3 16) := by
  obtain ⟨W, hW⟩ : ∃ W, W = ((w.alloc (.cells #[.slice S sn sc] 26)).alloc (.cells #[.slice none 0 0] 29)).alloc (.cells #[.slice none 0 0] 29) := ⟨_, rfl⟩
  have T : DD w p A n c S sn sc sg (w.heap.size + 2) none 0 0 [] W := by
    have b1 : Below w.heap.size w W := by rw [hW]; exact (((Below.refl _ _).alloc (Nat.le_refl _) _).alloc (by simp) _).alloc (by simp; omega) _
    refine ⟨hd.next b1, ?_, ?_, ?_, OwnR.nil _ _ _, hr.below b1 (Nat.le_refl _), grown_below b1 _, hd.lt, by omega⟩
    · rw [hW]; exact ((Row.new _ _ _).alloc _).alloc _
    · rw [hW]; have := (Row.new (w.alloc (.cells #[.slice S sn sc] 26)) 29 #[.slice none 0 0]).alloc (.cells #[.slice none 0 0] 29); simpa using this
    · rw [hW]; have := Row.new ((w.alloc (.cells #[.slice S sn sc] 26)).alloc (.cells #[.slice none 0 0] 29)) 29 #[.slice none 0 0]; simpa using this
  have HW := Lib.hid hW
  have hp := hd.lt
  have L1 := Lib.hid (below p A n c 4 W T.d (by omega) (by omega))
  clear hW hd hr
  go_enter Try.func101, Try.ntmps101
  go_wp2_with fail
  rw [← HW.out]
  refine L1.out.mono ?_
  rintro e w1 ⟨x, rfl, x0, x1, d1, g1⟩
  obtain ⟨k0, rfl⟩ := Int.eq_ofNat_of_zero_le x0
  have H0 : HeadD w p A n c S sn sc sg (w.heap.size + 2) (.int .i64 (k0 : Int)) w1 := ⟨k0, none, 0, 0, [], rfl, by omega, small_nil _ _, T.dice d1 g1⟩
  have HH := Lib.hid H0
  clear H0 T d1 g1 L1 HW
  go_wp2_with fail
  go_loopw [6] (fun num wr => HeadD w p A n c S sn sc sg (w.heap.size + 2) num wr) (fun num _ => (intOf num).toNat)
  case atStart => exact HH.out
  case round =>
    obtain ⟨k, B, m, cB, xss, rfl, hmk, hsm, T⟩ := hrel
    clear HH
    have ze1 : ¬ w.heap.size + 2 = w.heap.size + 1 := by omega
    by_cases hk : 0 < k
    · have i0 : (0 : Int) < (k : Int) := by omega
      have B1 : Below wr.heap.size wr (wr.alloc (.cells #[] 2)) := (Below.refl _ _).alloc (Nat.le_refl _) _
      have T1 := T.next B1
      have zwr := T.g.size
      clear T B1
      go_wp2_with fail
      refine (once p A n c 3 _ T1.d (by omega) (by omega)).mono ?_
      rintro e w2 ⟨b, rfl, d2, g2⟩
      have T2 := T1.dice d2 g2
      clear T1 d2 g2
      have finish : ∀ (wz : World) (v : Value) (ys : List Int), DD w p A n c S sn sc sg (w.heap.size + 2) B m cB xss wz → Elem wz p (blk B) v ys → ys.length ≤ 16 → ∀ (wt : World) (B' : Option Addr) (cB' : Nat), OwnR wt p (w.heap.size + 3) B' (m + 1) cB' (xss ++ [ys]) → Below (w.heap.size + 3) wz wt → HeadD w p A n c S sn sc sg (w.heap.size + 2) (.int .i64 ((k : Int) - 1)) (wt.setCell ⟨w.heap.size + 2, 0, none⟩ (.slice B' (m + 1) cB')) :=
        fun wz v ys t el hy wt B' cB' ho hb => ⟨k - 1, B', m + 1, cB', xss ++ [ys], by rw [show ((k - 1 : Nat) : Int) = (k : Int) - 1 by omega], by omega, small_app hsm t.own.1 hy (by omega), t.put hb ho⟩
      have FIN := Lib.hid finish
      clear finish
      cases b with
      | true =>
        have B3 : Below w2.heap.size w2 (w2.alloc (.cells #[.slice (some ⟨wr.heap.size, 0, none⟩) 0 0] 24)) := (Below.refl _ _).alloc (Nat.le_refl _) _
        have T3 := T2.next B3
        have cO : w2.cell? ⟨w.heap.size + 2, 0, none⟩ = some (.slice B m cB) := T2.rO.cell 0
        have zlt := T2.rO.lt
        clear B3
        go_wp2_with (at_builtin; go_must (refine appR1 rfl _ _ rfl p (w.heap.size + 3) B m cB xss rfl T3.own _ 1 (.slice (some ⟨wr.heap.size, 0, none⟩) 0 0) [] rfl ((Row.new _ _ _).cell 0) elem_nil (by omega) (by simp; omega) ?_; intro A' cA' w6 ho6 hg6 hat6 b6; have q2 := T3.rO.below b6 (by omega); have c6 : w6.cell? ⟨w.heap.size + 2, 0, none⟩ = some (.slice B m cB) := q2.cell 0; have f6 : w6.frozen? ⟨w.heap.size + 2, 0, none⟩ = false := q2.free 0))
        have S1 := Lib.hid (FIN.out _ (.slice (some ⟨wr.heap.size, 0, none⟩) 0 0) [] T3 elem_nil (by simp) w6 A' cA' ho6 b6)
        clear ho6 hg6 hat6 b6 T3 T2 q2 cO FIN
        go_wp2
        go_roundw
        case rel => exact S1.out
        case measure => simp [intOf]; omega
      | false =>
        have T3 := T2.drew
        have cS : w2.cell? ⟨w.heap.size, 0, none⟩ = some (.slice S sn sc) := T2.rS.cell 0
        clear T2
        go_wp2_with fail
        go_region_held3 (fun w' => w'.cell? ⟨w.heap.size, 0, none⟩ = some (.slice S sn sc))
          (go_keep)
          (first
            | (go_at_call 78; refine (below p A n c 3 _ T3.d (by omega) (by omega)).mono ?_; rintro e u1 ⟨x, rfl, x0, x1, d1, g1⟩; have T4 := T3.dice d1 g1; have cS2 : u1.cell? ⟨w.heap.size, 0, none⟩ = some (.slice S sn sc) := T4.rS.cell 0; have hw : IntKind.i64.wrap (1 + x) = 1 + x := by rw [IntKind.wrap_i64]; omega)
            | (go_at_call 103; refine (drawTerm p A n c S sn sc sg 3 hs (by omega) (by omega) (by omega) (by omega) 2 (1 + x) u1 T4.d (T4.s.more T4.g.size) (by omega) (by clear hw; omega) (by clear hw; omega)).mono ?_; rintro e u2 ⟨O, on, oc, ys, rfl, o2, h1, h2, d2, g2⟩; have T5 := T4.dice d2 g2; have cS3 : u2.cell? ⟨w.heap.size, 0, none⟩ = some (.slice S sn sc) := T5.rS.cell 0))
        have hyl : ys.length ≤ 16 := by rw [← Own.len o2]; exact h2
        have zu1 := T4.rO.lt
        have cO : u2.cell? ⟨w.heap.size + 2, 0, none⟩ = some (.slice B m cB) := T5.rO.cell 0
        have zlt := T5.rO.lt
        have EL : Elem u2 p (blk B) (.slice O on oc) ys := ⟨O, on, oc, rfl, Rd.of_own o2 (by omega), ⟨(Own.cap o2).1, (Own.cap o2).2, Own.none_cap o2⟩, fun _ e => by
          obtain ⟨gg, rfl⟩ := Own.some_ o2 h1
          have h3 := Own.ge o2 gg rfl
          have h4 := (T4.own.ge gg (by rw [← e]; rfl)).2
          omega⟩
        have B3 : Below u2.heap.size u2 (u2.alloc (.cells #[.slice O on oc] 24)) := (Below.refl _ _).alloc (Nat.le_refl _) _
        have T6 := T5.next B3
        have EL2 := EL.below B3
        clear hw T3 T4 T5 EL B3 d1 g1 d2 g2 cS cS2 cS3 o2 x0 x1
        go_wp2_with (at_builtin; go_must (refine appR1 rfl _ _ rfl p (w.heap.size + 3) B m cB xss rfl T6.own _ 1 (.slice O on oc) ys rfl ((Row.new _ _ _).cell 0) EL2 (by omega) (by simp; omega) ?_; intro A' cA' w6 ho6 hg6 hat6 b6; have q2 := T6.rO.below b6 (by omega); have c6 : w6.cell? ⟨w.heap.size + 2, 0, none⟩ = some (.slice B m cB) := q2.cell 0; have f6 : w6.frozen? ⟨w.heap.size + 2, 0, none⟩ = false := q2.free 0))
        have S1 := Lib.hid (FIN.out _ _ ys T6 EL2 hyl w6 A' cA' ho6 b6)
        clear ho6 hg6 hat6 b6 T6 EL2 q2 cO FIN
        go_wp2
        go_roundw
        case rel => exact S1.out
        case measure => simp [intOf]; omega
    · have i1 : ¬ (0 : Int) < (k : Int) := by omega
      have cO : wr.cell? ⟨w.heap.size + 2, 0, none⟩ = some (.slice B m cB) := T.rO.cell 0
      have cR : wr.cell? ⟨w.heap.size + 1, 0, none⟩ = some (.slice none 0 0) := T.rR.cell 0
      have fR : wr.frozen? ⟨w.heap.size + 1, 0, none⟩ = false := T.rR.free 0
      have F := Lib.hid (T.result hsm)
      clear T
      go_wp2
      exact bodyPost_ret (v := .agg #[.slice B m cB]) (by simp [results, Try.results101, go_sem, cR]) rfl F.out
end Go.Proofs.Ytdeegjeopkcomaa.drawS
end

section
/-
  CONTRACT: spec.l2DrawAny: a drawn substitution, bent sometimes. Conditions: a drawing cursor. By an AI agent.
-/
namespace Go.Proofs.Ytdeegjeopkcomaa.drawSA
open Go.RowKit Go.Proofs.Ytdeegjeopkcomaa.base Go.Proofs.Ytdeegjeopkcomaa.ints Go.Proofs.Ytdeegjeopkcomaa.sig Go.Proofs.Ytdeegjeopkcomaa.term Go.Proofs.Ytdeegjeopkcomaa.cursor Go.Proofs.Ytdeegjeopkcomaa.termOk Go.Proofs.Ytdeegjeopkcomaa.marks Go.Proofs.Ytdeegjeopkcomaa.app Go.Proofs.Ytdeegjeopkcomaa.appAt Go.Proofs.Ytdeegjeopkcomaa.sym Go.Proofs.Ytdeegjeopkcomaa.segs Go.Proofs.Ytdeegjeopkcomaa.segsHelp Go.Proofs.Ytdeegjeopkcomaa.dice Go.Proofs.Ytdeegjeopkcomaa.drawSig Go.Proofs.Ytdeegjeopkcomaa.drawTerm Go.Proofs.Ytdeegjeopkcomaa.drawAny Go.Proofs.Ytdeegjeopkcomaa.drawPair Go.Proofs.Ytdeegjeopkcomaa.drawOne Go.Proofs.Ytdeegjeopkcomaa.drawSub Go.Proofs.Ytdeegjeopkcomaa.drawS
set_option maxRecDepth 100000

theorem OwnR.setNe {w : World} {p lo N n c : Nat} {A : Option Addr} {xss : List (List Int)} {a : Option Addr} {l k : Nat} (h : OwnR w p lo A n c xss) (hN : blk A ≠ some N) (hc : w.cell? ⟨N, 0, none⟩ = some (.slice a l k)) (u : Value) : OwnR (w.setCell ⟨N, 0, none⟩ u) p lo A n c xss := by
  obtain ⟨h1, vs, h2, h3⟩ := h
  refine ⟨h1, vs, World.ownsRow.kept h2 (grown_put (World.grownBy.refl w _) 0 u) (.inr (by rw [blk_own]; exact hN)), fun j hj => ?_⟩
  obtain ⟨A', n', c', e, hr, hcap, hne⟩ := h3 j hj
  exact ⟨A', n', c', e, (Rd.other hr hc u).more (by simp), hcap, hne⟩

/-- ahead of the variable -/
structure D0 (w : World) (p : Nat) (A : Option Addr) (n c : Nat) (S : Option Addr) (sn sc : Nat) (sg : List Int) (wr : World) : Prop where
  d : Dice wr p A n c
  rS : Row wr w.heap.size 26 #[.slice S sn sc]
  rR : Row wr (w.heap.size + 1) 29 #[.slice none 0 0]
  s : Rd wr p w.heap.size S sn sg
  g : w.grownBy wr (some p)
  hp : p < w.heap.size
/-- with the variable, at o -/
structure DA (w : World) (p : Nat) (A : Option Addr) (n c : Nat) (S : Option Addr) (sn sc : Nat) (sg : List Int) (o : Nat) (B : Option Addr) (m cB : Nat) (xss : List (List Int)) (wr : World) : Prop where
  z : D0 w p A n c S sn sc sg wr
  rO : Row wr o 29 #[.slice B m cB]
  own : OwnR wr p (w.heap.size + 2) B m cB xss
  hB : blk B ≠ some o
  ho : w.heap.size + 1 < o
section
variable {w : World} {p : Nat} {A : Option Addr} {n c : Nat} {S : Option Addr} {sn sc : Nat} {sg : List Int} {o : Nat} {B : Option Addr} {m cB : Nat} {xss : List (List Int)} {wr w' : World}
theorem D0.dice (t : D0 w p A n c S sn sc sg wr) (d : Dice w' p A n c) (hg : wr.grownBy w' (some p)) : D0 w p A n c S sn sc sg w' :=
  ⟨d, Row.away t.rS hg (fun e => by injection e; have := t.hp; omega), Row.away t.rR hg (fun e => by injection e; have := t.hp; omega), t.s.grown hg t.g.size, grown_trans t.g hg, t.hp⟩
theorem D0.next (t : D0 w p A n c S sn sc sg wr) (hb : Below wr.heap.size wr w') : D0 w p A n c S sn sc sg w' :=
  ⟨t.d.next hb, t.rS.next hb, t.rR.next hb, t.s.below hb t.g.size, grown_over t.g hb t.g.size, t.hp⟩
theorem D0.over {o : Nat} (t : D0 w p A n c S sn sc sg wr) (hb : Below (w.heap.size + 2) wr w') : D0 w p A n c S sn sc sg w' :=
  ⟨t.d.keep (hb.mono (by have := t.hp; omega)), t.rS.below hb (by omega), t.rR.below hb (by omega), t.s.below hb (by omega), grown_over t.g hb (by omega), t.hp⟩
theorem DA.dice (t : DA w p A n c S sn sc sg o B m cB xss wr) (d : Dice w' p A n c) (hg : wr.grownBy w' (some p)) : DA w p A n c S sn sc sg o B m cB xss w' :=
  ⟨t.z.dice d hg, Row.away t.rO hg (fun e => by injection e; have := t.z.hp; have := t.ho; omega), t.own.dice hg (by have := t.z.hp; omega), t.hB, t.ho⟩
theorem DA.next (t : DA w p A n c S sn sc sg o B m cB xss wr) (hb : Below wr.heap.size wr w') : DA w p A n c S sn sc sg o B m cB xss w' :=
  ⟨t.z.next hb, t.rO.next hb, t.own.below hb, t.hB, t.ho⟩
theorem DA.alloc (t : DA w p A n c S sn sc sg o B m cB xss wr) (x : Obj) : DA w p A n c S sn sc sg o B m cB xss (wr.alloc x) := t.next ((Below.refl _ _).alloc (Nat.le_refl _) _)
theorem DA.drew (t : DA w p A n c S sn sc sg o B m cB xss wr) : DA w p A n c S sn sc sg o B m cB xss wr.drew := t.next ⟨rfl, rfl, rfl, Nat.le_refl _, fun _ _ => rfl⟩
/-- a new value of the variable -/
theorem DA.put {B' : Option Addr} {m' cB' : Nat} {yss : List (List Int)} (t : DA w p A n c S sn sc sg o B m cB xss wr) (hg : wr.grownBy w' (blk B)) (ho : OwnR w' p (w.heap.size + 2) B' m' cB' yss) (hat : blk B' = blk B ∨ blk B' = some wr.heap.size) : DA w p A n c S sn sc sg o B' m' cB' yss (w'.setCell ⟨o, 0, none⟩ (.slice B' m' cB')) := by
  have h2 := t.ho
  have hz := t.rO.lt
  have hge := t.own.ge
  have hO := Row.away t.rO hg t.hB
  have hb : Below (w.heap.size + 2) wr w' := (Below.refl _ _).grown hg (by omega) (fun k hk => (hge k hk).1)
  have hb2 : Below (w.heap.size + 2) wr (w'.setCell ⟨o, 0, none⟩ (.slice B' m' cB')) := hb.setCell (p := ⟨o, 0, none⟩) (by show w.heap.size + 2 ≤ o; omega) _
  have hB' : blk B' ≠ some o := by
    rcases hat with e | e
    · rw [e]; exact t.hB
    · rw [e]; intro e2; injection e2; omega
  exact ⟨D0.over (o := o) t.z hb2, hO.put 0 _, OwnR.setNe ho hB' (hO.cell 0) _, hB', h2⟩
theorem DA.result {M L : Nat} (t : DA w p A n c S sn sc sg o B m cB xss wr) (hs : Small M L m xss) : AnsSub w p A n c M L (.returned (.agg #[.slice B m cB])) (wr.setCell ⟨w.heap.size + 1, 0, none⟩ (.slice B m cB)) := by
  have h1 := t.z.hp
  have hS := Below.setCell (Below.refl (w.heap.size + 1) wr) (p := ⟨w.heap.size + 1, 0, none⟩) (Nat.le_refl _) (.slice B m cB)
  have hne : blk B ≠ some (w.heap.size + 1) := fun e => by have := (t.own.ge _ e).1; omega
  exact ⟨B, m, cB, xss, rfl, (OwnR.setNe t.own hne (t.z.rR.cell 0) _).lower (by omega), hs, t.z.d.keep (hS.mono (by omega)), grown_over t.z.g hS (by omega)⟩
theorem D0.empty {M L : Nat} (t : D0 w p A n c S sn sc sg wr) : AnsSub w p A n c M L (.returned (.agg #[.slice none 0 0])) (wr.setCell ⟨w.heap.size + 1, 0, none⟩ (.slice none 0 0)) := by
  have h1 := t.hp
  have hS := Below.setCell (Below.refl (w.heap.size + 1) wr) (p := ⟨w.heap.size + 1, 0, none⟩) (Nat.le_refl _) (.slice none 0 0)
  exact ⟨none, 0, 0, [], rfl, OwnR.nil _ _ _, small_nil _ _, t.d.keep (hS.mono (by omega)), grown_over t.g hS (by omega)⟩
end
theorem elem_new {w : World} {p N : Nat} {r : Option Nat} {O : Option Addr} {on oc : Nat} {ys : List Int} (h : Rd w p w.heap.size O on ys) (h1 : on ≤ oc) (h2 : oc ≤ 9223372036854775807) (h3 : O = none → oc = 0) (hnew : ∀ k, blk O = some k → N ≤ k) (hr : ∀ k, r = some k → k < N) : Elem w p r (.slice O on oc) ys :=
  ⟨O, on, oc, rfl, h, ⟨h1, h2, h3⟩, fun hn e => by
    obtain ⟨b, off, e1, _⟩ := h.2 hn
    have e2 : blk O = some b := by rw [e1]; rfl
    have q1 := hnew b e2
    have q2 := hr b (by rw [← e]; exact e2)
    omega⟩
theorem one_own (w : World) (y : Int) : Own (w.alloc (.cells #[.int .i64 y] 2)) w.heap.size (.slice (some ⟨w.heap.size, 0, none⟩) 1 1) [y] :=
  Own.of_row (Row.new _ _ _) rfl rfl (Nat.le_refl _) (by omega) (Nat.le_refl _) (fun j hj => by
    have : j = 0 := by omega
    subst this
    rfl)
theorem rep_nil (k j : Nat) : (List.replicate k ([] : List Int)).getD j [] = [] := by
  rw [List.getD_eq_getElem?_getD, List.getElem?_replicate]
  split <;> rfl
/-- k empty terms -/
theorem ownR_made {w : World} {p lo k : Nat} (hlo : lo ≤ w.heap.size) (hk : k ≤ 1048576) : OwnR (w.alloc (.cells (madeCells #[.slice none 0 0] k) 24)) p lo (some ⟨w.heap.size, 0, none⟩) k k (List.replicate k []) := by
  refine ⟨by simp, _, rowsOf (Row.new _ _ _) (size_madeCells _ _) (Nat.le_refl _) (by omega) hlo, fun j hj => ?_⟩
  have e : ((madeCells #[Value.slice none 0 0] k).toList.take k).getD j undef = .slice none 0 0 := by
    simp [madeCells, List.getD, hj, Nat.mod_one]
  rw [e, rep_nil k j]
  exact ⟨none, 0, 0, rfl, Rd.none_, ⟨Nat.le_refl _, by omega, fun _ => rfl⟩, fun h => absurd h (by omega)⟩
theorem small_made {k L : Nat} (hk : k ≤ 25) : Small 25 L k (List.replicate k []) := ⟨hk, fun j => by
  rw [rep_nil k j]
  simp⟩

set_option maxHeartbeats 8000000 in
theorem drawAnyS (p : Nat) (A : Option Addr) (n c : Nat) (S : Option Addr) (sn sc : Nat) (sg : List Int) (w : World) (hd : Dice w p A n c) (hr : Rd w p w.heap.size S sn sg) (hsn : sn ≤ 256) :
    Calls Try.prog 61 #[.pointer (some ⟨p, 0, none⟩), .agg #[.slice S sn sc]] w (AnsSub w p A n c 25 65) := by
  obtain ⟨W, hW⟩ : ∃ W, W = (w.alloc (.cells #[.slice S sn sc] 26)).alloc (.cells #[.slice none 0 0] 29) := ⟨_, rfl⟩
  have T : D0 w p A n c S sn sc sg W := by
    have b1 : Below w.heap.size w W := by rw [hW]; exact ((Below.refl _ _).alloc (Nat.le_refl _) _).alloc (by simp) _
    refine ⟨hd.next b1, ?_, ?_, hr.below b1 (Nat.le_refl _), grown_below b1 _, hd.lt⟩
    · rw [hW]; exact (Row.new _ _ _).alloc _
    · rw [hW]; have := Row.new (w.alloc (.cells #[.slice S sn sc] 26)) 29 #[.slice none 0 0]; simpa using this
  have HW := Lib.hid hW
  have hp := hd.lt
  have hsl := Lib.hid hr.1
  have L1 := Lib.hid (specSigOk S sn sc sg W (T.s.more T.g.size).seg (by omega))
  have cS : W.cell? ⟨w.heap.size, 0, none⟩ = some (.slice S sn sc) := T.rS.cell 0
  have zw : ¬ w.heap.size + 1 = w.heap.size := by omega
  clear hW hd hr
  go_enter Try.func61, Try.ntmps61
  go_wp2_with fail
  rw [← HW.out]
  refine L1.out.mono ?_
  rintro e u0 ⟨he, bb⟩
  replace T := T.next bb
  clear bb L1 cS HW
  cases hok : sigOkB sg with
  | false =>
    rw [hok] at he
    subst he
    have cR : u0.cell? ⟨w.heap.size + 1, 0, none⟩ = some (.slice none 0 0) := T.rR.cell 0
    have fR : u0.frozen? ⟨w.heap.size + 1, 0, none⟩ = false := T.rR.free 0
    have F := Lib.hid (T.empty (M := 25) (L := 65))
    clear T hok
    go_wp2
    exact bodyPost_ret (v := .agg #[.slice none 0 0]) (by simp [results, Try.results61, go_sem, cR]) rfl F.out
  | true =>
    rw [hok] at he
    subst he
    have hars := (sig_arities hok).1
    have hl1 := (sig_arities hok).2.1
    have L2 := Lib.hid (draw p A n c S sn sc sg u0 T.d (T.s.more T.g.size) hars (by rw [← hsl.out]; exact hl1) hsn)
    have cS : u0.cell? ⟨w.heap.size, 0, none⟩ = some (.slice S sn sc) := T.rS.cell 0
    clear hok hl1
    go_wp2_with fail
    refine L2.out.mono ?_
    rintro e w2 ⟨B, m, cB, xss, rfl, own2, hsm, d2, g2⟩
    have zu := T.rR.lt
    have zB := own2.ge
    have T2 := T.dice d2 g2
    obtain ⟨o, ho⟩ : ∃ o, w2.heap.size = o := ⟨_, rfl⟩
    obtain ⟨W3, hW3⟩ : ∃ W3, W3 = w2.alloc (.cells #[.slice B m cB] 29) := ⟨_, rfl⟩
    have T3 : DA w p A n c S sn sc sg o B m cB xss W3 := by
      have bb : Below w2.heap.size w2 W3 := by rw [hW3]; exact (Below.refl _ _).alloc (Nat.le_refl _) _
      exact ⟨T2.next bb, by rw [hW3, ← ho]; exact Row.new _ _ _, (own2.below bb).lower (by omega), fun e => by have := (zB _ e).2; omega, by have := T2.rR.lt; omega⟩
    have HW3 := Lib.hid hW3
    have HO := Lib.hid ho
    have L3 := Lib.hid (once p A n c 12 W3 T3.z.d (by omega) (by omega))
    have hml := Lib.hid own2.1
    clear T T2 own2 d2 g2 L2 cS hW3 ho zB zu
    go_wp2_with fail
    rw [← HW3.out, HO.out]
    refine L3.out.mono ?_
    rintro e w4 ⟨b, rfl, d4, g4⟩
    have T4 := T3.dice d4 g4
    clear T3 d4 g4 L3 HW3 HO
    have zo := T4.ho
    have zne1 : ¬ o = w.heap.size + 1 := by omega
    have zne2 : ¬ w.heap.size + 1 = o := by omega
    have zne3 : ¬ o = w.heap.size := by omega
    cases b with
    | false =>
      have cO : w4.cell? ⟨o, 0, none⟩ = some (.slice B m cB) := T4.rO.cell 0
      have cR : w4.cell? ⟨w.heap.size + 1, 0, none⟩ = some (.slice none 0 0) := T4.z.rR.cell 0
      have fR : w4.frozen? ⟨w.heap.size + 1, 0, none⟩ = false := T4.z.rR.free 0
      have F := Lib.hid (T4.result (small_wider hsm (show 3 ≤ 25 by omega) (show 16 ≤ 65 by omega)))
      clear T4
      go_wp2
      exact bodyPost_ret (v := .agg #[.slice B m cB]) (by simp [results, Try.results61, go_sem, cR]) rfl F.out
    | true =>
      have L4 := Lib.hid (below p A n c 3 w4 T4.z.d (by omega) (by omega))
      go_wp2_with fail
      refine L4.out.mono ?_
      rintro e w5 ⟨x, rfl, x0, x1, d5, g5⟩
      have T5 := T4.dice d5 g5
      clear T4 d5 g5 L4
      have cO : w5.cell? ⟨o, 0, none⟩ = some (.slice B m cB) := T5.rO.cell 0
      have hm3 := hsm.1
      by_cases hx0 : x = 0
      · subst hx0
        have T6 := T5.drew
        have cS : w5.cell? ⟨w.heap.size, 0, none⟩ = some (.slice S sn sc) := T5.z.rS.cell 0
        clear x0 x1
        go_wp2_with fail
        go_region_law (first
          | (refine stepR1 rfl _ _ rfl p (w.heap.size + 2) B m cB xss (by simp [Act.eval, Act.put]) (T7.alloc _).own w7.heap.size 1 (.slice O on oc) ys (by simp [Act.eval, Act.put]) ((Row.new _ _ _).cell 0) (EL.below ((Below.refl _ _).alloc (Nat.le_refl _) _)) (by omega) (by simp; omega) ?_; intro O' oc' w8 ho8 hg8 hat8 hlt8; have r8 := Row.away (T7.alloc _).rO hg8 T7.hB; have cV8 : w8.cell? ⟨o, 0, none⟩ = some (.slice B m cB) := r8.cell 0; have fV8 : w8.frozen? ⟨o, 0, none⟩ = false := r8.free 0)
          | (go_simp; go_at_call 62; refine (drawAnyN p A n c S sn sc sg _ T6.z.d (T6.z.s.more T6.z.g.size) (by omega)).mono ?_; rintro e w7 ⟨O, on, oc, ys, rfl, ra, h1, h2, h3, h4, d7, g7, hnew⟩; have T7 := T6.dice d7 g7; have EL : Elem w7 p (blk B) (.slice O on oc) ys := elem_new ra h1 h2 h3 hnew (fun k hk => (T6.own.ge k hk).2); have cV7 : w7.cell? ⟨o, 0, none⟩ = some (.slice B m cB) := T7.rO.cell 0; have zV7 : o < w7.heap.size := T7.rO.lt; have zW7 : w.heap.size + 1 < w7.heap.size := T7.z.rR.lt))
        all_goals
          have T8 := DA.put (T7.alloc (.cells #[.slice O on oc] 24)) hg8 ho8 (hat8.elim (fun h => .inl h.symm) (fun h => .inr (by rw [h]; rfl)))
          have F := Lib.hid (T8.result (small_app (M' := 25) (small_wider hsm (Nat.le_refl _) (show 16 ≤ 65 by omega)) hml.out (by rw [ra.1]; exact h4) (by omega)))
          have cR8 : (w8.setCell ⟨o, 0, none⟩ (.slice (some ⟨O', 0, none⟩) (m + 1) oc')).cell? ⟨w.heap.size + 1, 0, none⟩ = some (.slice none 0 0) := T8.z.rR.cell 0
          have fR8 : (w8.setCell ⟨o, 0, none⟩ (.slice (some ⟨O', 0, none⟩) (m + 1) oc')).frozen? ⟨w.heap.size + 1, 0, none⟩ = false := T8.z.rR.free 0
          clear T8 T7 T6 T5 ho8 hg8 hat8 hlt8 r8 d7 g7 cV7 EL ra
          go_wp2
          exact bodyPost_ret (v := .agg #[.slice (some ⟨O', 0, none⟩) (m + 1) oc']) (by simp [results, Try.results61, go_sem, cR8]) rfl F.out
      · by_cases hx1 : x = 1
        · subst hx1
          clear x0 x1 hx0
          have L6 := Lib.hid (below p A n c 2 w5 T5.z.d (by omega) (by omega))
          go_wp2_with fail
          refine L6.out.mono ?_
          rintro e w6 ⟨y, rfl, y0, y1, d6, g6⟩
          have T6 := T5.dice d6 g6
          obtain ⟨k, rfl⟩ := Int.eq_ofNat_of_zero_le y0
          have hmk : ∀ W : World, (Instr.makeSlice 27 (.int .i64 (24 + (k : Int))) (.int .i64 (24 + (k : Int)))).run Try.prog W = .ok (.slice (some ⟨W.heap.size, 0, none⟩) (24 + k) (24 + k)) (W.alloc (.cells (madeCells #[.slice none 0 0] (24 + k)) 24)) := fun W => by
            have := run_make_lists (24 + k) (by omega) W
            rwa [show ((24 + k : Nat) : Int) = 24 + (k : Int) by simp] at this
          have zO := T6.rO.lt
          have zR := T6.z.rR.lt
          have T7 := T6.put (w' := w6.alloc (.cells (madeCells #[.slice none 0 0] (24 + k)) 24)) (World.grownBy_alloc _ _ _) (ownR_made (p := p) (lo := w.heap.size + 2) (k := 24 + k) (by omega) (by omega)) (.inr rfl)
          have F := T7.result (small_made (L := 65) (show 24 + k ≤ 25 by omega))
          have cO6 : w6.cell? ⟨o, 0, none⟩ = some (.slice B m cB) := T6.rO.cell 0
          have fO6 : w6.frozen? ⟨o, 0, none⟩ = false := T6.rO.free 0
          have cR6 : w6.cell? ⟨w.heap.size + 1, 0, none⟩ = some (.slice none 0 0) := T6.z.rR.cell 0
          have fR6 : w6.frozen? ⟨w.heap.size + 1, 0, none⟩ = false := T6.z.rR.free 0
          rw [World.setCell_alloc_past (hn := zO), World.setCell_alloc_past (hn := by simp; omega)] at F
          have HF := Lib.hid F
          clear F T7 T6 T5 d6 g6 L6 cO
          go_wp2
          exact bodyPost_ret (v := .agg #[.slice (some ⟨w6.heap.size, 0, none⟩) (24 + k) (24 + k)]) (by simp [results, Try.results61, go_sem, cR6, zR, zne1, zne2]) rfl HF.out
        · have hx2 : x = 2 := by omega
          subst hx2
          have T6 := T5.drew
          clear x0 x1 hx0 hx1
          go_wp2_with fail
          go_region_law (first
            | (refine stepR1 rfl _ _ rfl p (w.heap.size + 2) B m cB xss (by simp [Act.eval, Act.put]) ((T7.alloc _).alloc _).own (w7.heap.size + 1) 1 (.slice (some ⟨w7.heap.size, 0, none⟩) 1 1) [y] (by simp [Act.eval, Act.put]) c77 (EL.below ((Below.refl _ _).alloc (Nat.le_refl _) _)) (by omega) (by simp; omega) ?_; intro O' oc' w8 ho8 hg8 hat8 hlt8; have r8 := Row.away ((T7.alloc _).alloc _).rO hg8 T7.hB; have cV8 : w8.cell? ⟨o, 0, none⟩ = some (.slice B m cB) := r8.cell 0; have fV8 : w8.frozen? ⟨o, 0, none⟩ = false := r8.free 0)
            | (go_simp; go_at_call 102; refine (odd p A n c _ T6.z.d).mono ?_; rintro e w7 ⟨y, rfl, d7, g7⟩; have T7 := T6.dice d7 g7; have EL : Elem (w7.alloc (.cells #[.int .i64 y] 2)) p (blk B) (.slice (some ⟨w7.heap.size, 0, none⟩) 1 1) [y] := ⟨_, 1, 1, rfl, Rd.of_own (one_own w7 y) T7.z.d.lt, ⟨Nat.le_refl _, by omega, fun e => by cases e⟩, fun _ e => absurd (T7.own.ge w7.heap.size (by rw [← e]; rfl)).2 (Nat.lt_irrefl _)⟩; have c77 : ((w7.alloc (.cells #[.int .i64 y] 2)).alloc (.cells #[.slice (some ⟨w7.heap.size, 0, none⟩) 1 1] 24)).cell? ⟨w7.heap.size + 1, 0, none⟩ = some (.slice (some ⟨w7.heap.size, 0, none⟩) 1 1) := (by simp); have cV7 : w7.cell? ⟨o, 0, none⟩ = some (.slice B m cB) := T7.rO.cell 0; have zV7 : o < w7.heap.size := T7.rO.lt; have zW7 : w.heap.size + 1 < w7.heap.size := T7.z.rR.lt))
          all_goals
            have T8 := DA.put ((T7.alloc (.cells #[.int .i64 y] 2)).alloc (.cells #[.slice (some ⟨w7.heap.size, 0, none⟩) 1 1] 24)) hg8 ho8 (hat8.elim (fun h => .inl h.symm) (fun h => .inr (by rw [h]; rfl)))
            have F := Lib.hid (T8.result (small_app (M' := 25) (small_wider hsm (Nat.le_refl _) (show 16 ≤ 65 by omega)) hml.out (by simp) (by omega)))
            have cR8 : (w8.setCell ⟨o, 0, none⟩ (.slice (some ⟨O', 0, none⟩) (m + 1) oc')).cell? ⟨w.heap.size + 1, 0, none⟩ = some (.slice none 0 0) := T8.z.rR.cell 0
            have fR8 : (w8.setCell ⟨o, 0, none⟩ (.slice (some ⟨O', 0, none⟩) (m + 1) oc')).frozen? ⟨w.heap.size + 1, 0, none⟩ = false := T8.z.rR.free 0
            clear T8 T7 T6 T5 ho8 hg8 hat8 hlt8 r8 d7 g7 cV7 EL
            go_wp2
            exact bodyPost_ret (v := .agg #[.slice (some ⟨O', 0, none⟩) (m + 1) oc']) (by simp [results, Try.results61, go_sem, cR8]) rfl F.out
end Go.Proofs.Ytdeegjeopkcomaa.drawSA
end

section
/-
  CONTRACTS: spec.Shifted, impl.Shifted and its closure. Conditions: the slices read as lists ('Seg'), at most 1048576 numbers. By an AI agent.
-/
namespace Go.Proofs.Ytdeegjeopkcomaa.shifted
open Go.RowKit Go.Proofs.Ytdeegjeopkcomaa.base Go.Proofs.Ytdeegjeopkcomaa.ints Go.Proofs.Ytdeegjeopkcomaa.sig Go.Proofs.Ytdeegjeopkcomaa.term Go.Proofs.Ytdeegjeopkcomaa.termOk Go.Proofs.Ytdeegjeopkcomaa.marks Go.Proofs.Ytdeegjeopkcomaa.app Go.Proofs.Ytdeegjeopkcomaa.sym Go.Proofs.Ytdeegjeopkcomaa.segs Go.Proofs.Ytdeegjeopkcomaa.termFacts Go.Proofs.Ytdeegjeopkcomaa.varsMath Go.Proofs.Ytdeegjeopkcomaa.fillMath Go.Proofs.Ytdeegjeopkcomaa.look
set_option maxRecDepth 100000

/-- a list and a bool: the list reads as ys -/
def AnsPairS (w : World) (ys : List Int) (b : Bool) (e : Ending) (w' : World) : Prop := ∃ A n c, e = .returned (.tuple #[.slice A n c, .bool b]) ∧ Seg w' w'.heap.size A n ys ∧ Below w.heap.size w w'
/-- a list and a bool: the list is new -/
def AnsPairO (w : World) (ys : List Int) (b : Bool) (e : Ending) (w' : World) : Prop := ∃ A n c, e = .returned (.tuple #[.slice A n c, .bool b]) ∧ Own w' w.heap.size (.slice A n c) ys ∧ Below w.heap.size w w'

theorem shifted_no {sg t : List Int} {k : Int} (h : termOkB sg t = false ∨ ¬ (0 ≤ k ∧ k ≤ 24) ∨ shiftB k t = false) : shiftedB sg t k = false := by
  unfold shiftedB
  rcases h with h | h | h
  · rw [h]; rfl
  · rw [decide_eq_false h, Bool.and_false, Bool.false_and]
  · rw [h, Bool.and_false]
theorem shifted_yes {sg t : List Int} {k : Int} (h1 : termOkB sg t = true) (h2 : 0 ≤ k ∧ k ≤ 24) (h3 : shiftB k t = true) : shiftedB sg t k = true := by unfold shiftedB; rw [h1, h3, decide_eq_true h2]; rfl
theorem pairS_no {w w' : World} {sg t : List Int} {k : Int} {A : Option Addr} {c : Nat} (h : shiftedB sg t k = false) (hb : Below w.heap.size w w') : AnsPairS w (shiftedL sg t k) (shiftedB sg t k) (.returned (.tuple #[.slice A 0 c, .bool false])) w' :=
  ⟨A, 0, c, by rw [h], by unfold shiftedL; rw [if_neg (by rw [h]; simp)]; exact Seg.empty, hb⟩

/-- the head of the loop of spec.Shifted -/
def HeadSh (w : World) (m : Nat) (t : List Int) (k : Int) (out i : Value) (wr : World) : Prop :=
  ∃ (j : Nat) (O : Option Addr) (on oc : Nat), j ≤ m ∧ i = .int .i64 j ∧ out = .slice O on oc ∧ Own wr w.heap.size (.slice O on oc) (shiftL k (t.take j)) ∧ (∀ q, q < j → -24 ≤ sh k (t.getD q 0)) ∧ Below w.heap.size w wr

set_option maxHeartbeats 4000000 in
theorem specShifted (A A' : Option Addr) (n c m c' : Nat) (sg t : List Int) (k : Int) (w : World) (h : Seg w w.heap.size A n sg) (h' : Seg w w.heap.size A' m t) (hn : n ≤ 1048576) (hm : m ≤ 1048576) (_ : -9223372036854775808 ≤ k) (_ : k ≤ 9223372036854775807) :
    Calls Try.prog 57 #[.agg #[.slice A n c], .slice A' m c', .int .i64 k] w (AnsPairS w (shiftedL sg t k) (shiftedB sg t k)) := by
  obtain ⟨W, hW⟩ : ∃ W, W = w.alloc (.cells #[.slice A n c] 26) := ⟨_, rfl⟩
  have bel : Below w.heap.size w W := by rw [hW]; exact (Below.refl _ _).alloc (Nat.le_refl _) _
  have s := (h.below bel).more bel.size
  have s' := (h'.below bel).more bel.size
  have HW := Lib.hid hW
  have HL := Lib.hid h'.1
  have L := Lib.hid (specTermOk A A' n c m c' sg t W s s' hn hm)
  clear hW h s
  cases hok : termOkB sg t with
  | false =>
    have HS := Lib.hid hok
    clear hok s' h'
    go_enter Try.func57, Try.ntmps57
    go_wp2_with fail
    rw [← HW.out]
    refine L.out.mono ?_
    rintro e w1 ⟨he, bb⟩
    rw [HS.out] at he
    subst he
    have F := Lib.hid (pairS_no (A := some ⟨w1.heap.size, 0, none⟩) (c := 0) (shifted_no (k := k) (.inl HS.out)) ((next_trans bel bb).alloc (next_trans bel bb).size (.cells #[] 2)))
    clear bb bel
    go_wp2
    go_ret2
    exact F.out
  | true =>
    have HS := Lib.hid hok
    have HV := Lib.hid (fun x hx => term_mem (x := x) hok hx)
    clear hok s'
    by_cases hk : 0 ≤ k ∧ k ≤ 24
    · go_enter Try.func57, Try.ntmps57
      go_wp2_with fail
      rw [← HW.out]
      refine L.out.mono ?_
      rintro e w1 ⟨he, bb⟩
      rw [HS.out] at he
      subst he
      replace bel := next_trans bel bb
      clear bb L
      go_wp2_with fail
      refine (inYes _ _ _ _ hk).mono ?_
      rintro e w' ⟨rfl, rfl⟩
      obtain ⟨hk0, hk1⟩ := hk
      have S0 : HeadSh w m t k (.slice (some ⟨w1.heap.size, 0, none⟩) 0 0) (.int .i64 0) (w1.alloc (.cells #[] 2)) := ⟨0, _, 0, 0, Nat.zero_le _, rfl, rfl, by simpa [shiftL] using own_empty w1 w.heap.size bel.size, fun q hq => absurd hq (Nat.not_lt_zero _), bel.alloc bel.size _⟩
      have HS0 := Lib.hid S0
      clear S0 bel
      go_wp2_with fail
      go_loopw [8, 9] (fun out i wr => HeadSh w m t k out i wr) (fun _ i _ => m - (intOf i).toNat)
      case atStart => exact HS0.out
      case round =>
        obtain ⟨j, O, on, oc, hj, rfl, rfl, ho, hlow, hb⟩ := hrel
        have HLOW := Lib.hid hlow
        clear HS0 hlow
        have hon : on ≤ m := by rw [Own.len ho, shift_len]; simp; omega
        by_cases hlt : j < m
        · obtain ⟨b, off, x, rfl, hbb, hx, ex⟩ := h'.spot hlt
          have hx1 : wr.cell? ⟨b, off + j, none⟩ = some (.int .i64 x) := (hb.cell (p := ⟨b, off + j, none⟩) hbb).trans hx
          have hmem : x ∈ t := by
            have hkl : j < t.length := by rw [HL.out]; exact hlt
            have := ex.out
            rw [← this]
            simp [List.getD, hkl]
          have hx24 := HV.out x hmem
          obtain ⟨hxa, hxb⟩ := hx24
          have hsz := hb.size
          have E := Lib.hid (shift_take (k := k) (t := t) (j := j) (by rw [HL.out]; exact hlt) ex.out)
          clear hx h'
          by_cases hneg : x < 0
          · have R : sh k x = x - k := by unfold sh; rw [if_pos hneg]
            by_cases hlo : x - k < -24
            · have F := Lib.hid (pairS_no (A := some ⟨wr.heap.size, 0, none⟩) (c := 0) (shifted_no (sg := sg) (k := k) (.inr (.inr (shiftB_no hmem (by rw [R]; exact hlo))))) (hb.alloc hb.size (.cells #[] 2)))
              clear ho hb ex hmem E R
              go_wp2
              go_ret2
              exact F.out
            · have RH := Lib.hid R
              clear R
              go_wp2_with (at_builtin; refine app1 rfl _ _ rfl w.heap.size O on oc (shiftL k (t.take j)) rfl (Own.alloc ho _) wr.heap.size 1 (x - k) rfl ((Row.new _ _ _).cell 0) (by omega) (by simp; omega) ?_; intro O' oc' w2 ho2 b2)
              have S : HeadSh w m t k (.slice O' (on + 1) oc') (.int .i64 ((j : Int) + 1)) w2 := ⟨j + 1, O', on + 1, oc', hlt, by simp, rfl, by rw [E.out, RH.out]; exact ho2, fun q hq => by
                by_cases e : q = j
                · subst e; rw [ex.out, RH.out]; omega
                · exact HLOW.out q (by omega), (hb.alloc hsz _).trans b2⟩
              replace S := Lib.hid S
              clear ho2 b2 ho hb E ex hmem
              go_wp2
              go_roundw
              case rel => exact S.out
              case measure => simp [intOf]; omega
          · have RH := Lib.hid (show sh k x = x by unfold sh; rw [if_neg hneg])
            have d1 : decide (x < 0) = false := by simp; omega
            have d2 : decide (x < -24) = false := by simp; omega
            go_wp2_with (at_builtin; refine app1 rfl _ _ rfl w.heap.size O on oc (shiftL k (t.take j)) rfl (Own.alloc ho _) wr.heap.size 1 x rfl ((Row.new _ _ _).cell 0) (by omega) (by simp; omega) ?_; intro O' oc' w2 ho2 b2)
            have S : HeadSh w m t k (.slice O' (on + 1) oc') (.int .i64 ((j : Int) + 1)) w2 := ⟨j + 1, O', on + 1, oc', hlt, by simp, rfl, by rw [E.out, RH.out]; exact ho2, fun q hq => by
              by_cases e : q = j
              · subst e; rw [ex.out, RH.out]; omega
              · exact HLOW.out q (by omega), (hb.alloc hsz _).trans b2⟩
            replace S := Lib.hid S
            clear ho2 b2 ho hb E ex hmem
            go_wp2
            go_roundw
            case rel => exact S.out
            case measure => simp [intOf]; omega
        · have hB : shiftedB sg t k = true := shifted_yes HS.out ⟨hk0, hk1⟩ (shiftB_yes (fun q hq => HLOW.out q (by rw [HL.out] at hq; omega)))
          have F : AnsPairS w (shiftedL sg t k) (shiftedB sg t k) (.returned (.tuple #[.slice O on oc, .bool true])) wr := by
            rw [List.take_of_length_le (by rw [HL.out]; omega)] at ho
            exact ⟨O, on, oc, by rw [hB], by unfold shiftedL; rw [if_pos hB]; exact Own.seg ho, hb⟩
          have HF := Lib.hid F
          clear F ho hb h' hB
          go_wp2
          go_ret2
          exact HF.out
    · go_enter Try.func57, Try.ntmps57
      go_wp2_with fail
      rw [← HW.out]
      refine L.out.mono ?_
      rintro e w1 ⟨he, bb⟩
      rw [HS.out] at he
      subst he
      replace bel := next_trans bel bb
      clear bb L
      go_wp2_with fail
      refine (inNo _ _ _ _ hk).mono ?_
      rintro e w' ⟨rfl, rfl⟩
      have F := Lib.hid (pairS_no (A := some ⟨w1.heap.size, 0, none⟩) (c := 0) (shifted_no (sg := sg) (t := t) (k := k) (.inr (.inl hk))) (bel.alloc bel.size (.cells #[] 2)))
      clear bel hk
      go_wp2
      go_ret2
      exact F.out

/-- the closure of impl.Shifted -/
theorem lookShift (B : Nat) (k : Int) (w : World) (hr : Row w B 2 #[.int .i64 k]) (h0 : 0 ≤ k) (h1 : k ≤ 24) :
    Looks 98 #[.pointer (some ⟨B, 0, none⟩)] w (fun i => vt (i + k.toNat)) 24 := by
  intro W i hb hi
  have cB : W.cell? ⟨B, 0, none⟩ = some (.int .i64 k) := (hr.next hb).cell 0
  have L := Lib.hid (varTerm ((i : Int) + k) W (by omega) (by omega))
  have E := Lib.hid (show [-1 - ((i : Int) + k)] = vt (i + k.toNat) by unfold vt; rw [show (((i + k.toNat : Nat)) : Int) = (i : Int) + k by omega])
  clear hr hb
  show Calls Try.prog 98 #[.int .i64 (i : Int), .pointer (some ⟨B, 0, none⟩)] W _
  go_enter Try.func98, Try.ntmps98
  go_wp2_with fail
  refine L.out.mono ?_
  rintro e w1 ⟨A, n, c, rfl, ho, bb⟩
  rw [E.out] at ho
  have F : AnsLook w.heap.size W (vt (i + k.toNat)) (.returned (.slice A n c)) w1 := look_new ho bb
  have HF := Lib.hid F
  clear F ho bb L cB
  go_wp2
  go_ret
  exact HF.out

theorem pairO_no {w w' : World} {sg t : List Int} {k : Int} (h : shiftedB sg t k = false) (hb : Below w.heap.size w w') : AnsPairO w (shiftedL sg t k) (shiftedB sg t k) (.returned (.tuple #[.slice none 0 0, .bool false])) w' :=
  ⟨none, 0, 0, by rw [h], by unfold shiftedL; rw [if_neg (by rw [h]; simp)]; exact Own.nil _ _, hb⟩
theorem vt_len (i : Nat) : (vt i).length = 1 := rfl

set_option maxHeartbeats 4000000 in
theorem implShifted (A A' : Option Addr) (n c m c' : Nat) (sg t : List Int) (k : Int) (w : World) (h : Seg w w.heap.size A n sg) (h' : Seg w w.heap.size A' m t) (hn : n ≤ 1048576) (hm : m ≤ 1048576) (_ : -9223372036854775808 ≤ k) (_ : k ≤ 9223372036854775807) :
    Calls Try.prog 58 #[.agg #[.slice A n c], .slice A' m c', .int .i64 k] w (AnsPairO w (shiftedL sg t k) (shiftedB sg t k)) := by
  obtain ⟨W, hW⟩ : ∃ W, W = (w.alloc (.cells #[.slice A n c] 26)).alloc (.cells #[.int .i64 k] 2) := ⟨_, rfl⟩
  have rA : Row W w.heap.size 26 #[.slice A n c] := by rw [hW]; have := (Row.new w 26 #[.slice A n c]).alloc (.cells #[.int .i64 k] 2); simpa using this
  have rK : Row W (w.heap.size + 1) 2 #[.int .i64 k] := by rw [hW]; have := Row.new (w.alloc (.cells #[.slice A n c] 26)) 2 #[.int .i64 k]; simpa using this
  have bel : Below w.heap.size w W := by rw [hW]; exact ((Below.refl _ _).alloc (Nat.le_refl _) _).alloc (by simp) _
  have s := (h.below bel).more bel.size
  have s' := (h'.below bel).more bel.size
  have HW := Lib.hid hW
  have HL := Lib.hid h'.1
  have L := Lib.hid (implTermOk A A' n c m c' sg t W s s' hn hm)
  clear hW h h'
  cases hok : termOkB sg t with
  | false =>
    have HS := Lib.hid hok
    clear hok s' s
    go_enter Try.func58, Try.ntmps58
    go_wp2_with fail
    rw [← HW.out]
    refine L.out.mono ?_
    rintro e w1 ⟨he, bb⟩
    rw [HS.out] at he
    subst he
    have F := Lib.hid (pairO_no (shifted_no (k := k) (.inl HS.out)) (next_trans bel bb))
    clear bb bel rA rK
    go_wp2
    go_ret2
    exact F.out
  | true =>
    have HS := Lib.hid hok
    have HV := Lib.hid (fun x hx => (term_mem (x := x) hok hx).1)
    have H60 : m ≤ 60 := by rw [← HL.out]; exact (term_len hok).2
    clear hok
    by_cases hk : 0 ≤ k ∧ k ≤ 24
    · obtain ⟨hk0, hk1⟩ := hk
      have hmf : ∀ (fn : Fn) (first cap : Array Value) (w : World), (Instr.makeFunc fn first cap).run Try.prog w = .ok (.func fn first cap) w := fun _ _ _ _ => rfl
      go_enter Try.func58, Try.ntmps58
      go_wp2_with fail
      rw [← HW.out]
      refine L.out.mono ?_
      rintro e w1 ⟨he, bb⟩
      rw [HS.out] at he
      subst he
      replace bel := next_trans bel bb
      replace rA := rA.next bb
      replace rK := rK.next bb
      replace s := s.next bb
      replace s' := s'.next bb
      have cK : w1.cell? ⟨w.heap.size + 1, 0, none⟩ = some (.int .i64 k) := rK.cell 0
      have L2 := Lib.hid (fill 98 #[.pointer (some ⟨w.heap.size + 1, 0, none⟩)] (enters_of Try.func98 (by kernel_rfl) rfl) A' m c' t _ w1 (lookShift (w.heap.size + 1) k w1 rK hk0 hk1) s' H60 HV.out (fun i => by simp [vt_len]))
      clear bb L s'
      go_wp2_with fail
      refine L2.out.mono ?_
      rintro e w2 ⟨O, on, oc, rfl, ho, bb⟩
      have hsh : fillL (fun i => vt (i + k.toNat)) t = shiftL k t := by rw [shift_fill, show ((k.toNat : Nat) : Int) = k by omega]
      rw [hsh] at ho
      have hon : on ≤ 60 := by rw [Own.len ho, shift_len, HL.out]; exact H60
      replace rA := rA.next bb
      have cA : w2.cell? ⟨w.heap.size, 0, none⟩ = some (.slice A n c) := rA.cell 0
      have L3 := Lib.hid (implTermOk A O n c on oc sg (shiftL k t) w2 (s.next bb) (Own.seg ho) hn (by omega))
      have EO := Lib.hid (show termOkB sg (shiftL k t) = shiftB k t by have := shift_ok (k := k.toNat) HS.out; rw [show ((k.toNat : Nat) : Int) = k by omega] at this; exact this)
      have bel2 := next_trans bel bb
      have ho2 := Own.lower ho (show w.heap.size ≤ w1.heap.size from bel.size)
      clear bb L2 hsh ho rK cK s
      cases hsb : shiftB k t with
      | false =>
        have HB := Lib.hid hsb
        clear hsb
        go_wp2_with fail
        refine L3.out.mono ?_
        rintro e w3 ⟨he, bb⟩
        rw [EO.out, HB.out] at he
        subst he
        have F := Lib.hid (pairO_no (shifted_no (sg := sg) (k := k) (.inr (.inr HB.out))) (next_trans bel2 bb))
        clear bb bel2 bel rA cA ho2 hmf L3
        go_wp2
        go_ret2
        exact F.out
      | true =>
        have HB := Lib.hid hsb
        clear hsb
        go_wp2_with fail
        refine L3.out.mono ?_
        rintro e w3 ⟨he, bb⟩
        rw [EO.out, HB.out] at he
        subst he
        have hB : shiftedB sg t k = true := shifted_yes HS.out ⟨hk0, hk1⟩ HB.out
        have F : AnsPairO w (shiftedL sg t k) (shiftedB sg t k) (.returned (.tuple #[.slice O on oc, .bool true])) w3 := ⟨O, on, oc, by rw [hB], by unfold shiftedL; rw [if_pos hB]; exact ho2.next bb, next_trans bel2 bb⟩
        have HF := Lib.hid F
        clear F bb bel2 bel rA cA ho2 hmf L3 hB
        go_wp2
        go_ret2
        exact HF.out
    · by_cases hk0 : k < 0
      · go_enter Try.func58, Try.ntmps58
        go_wp2_with fail
        rw [← HW.out]
        refine L.out.mono ?_
        rintro e w1 ⟨he, bb⟩
        rw [HS.out] at he
        subst he
        have cK : w1.cell? ⟨w.heap.size + 1, 0, none⟩ = some (.int .i64 k) := (rK.next bb).cell 0
        have F := Lib.hid (pairO_no (shifted_no (sg := sg) (t := t) (k := k) (.inr (.inl hk))) (next_trans bel bb))
        clear bb bel rA rK hk
        go_wp2
        go_ret2
        exact F.out
      · have hk1 : 24 < k := by omega
        go_enter Try.func58, Try.ntmps58
        go_wp2_with fail
        rw [← HW.out]
        refine L.out.mono ?_
        rintro e w1 ⟨he, bb⟩
        rw [HS.out] at he
        subst he
        have cK : w1.cell? ⟨w.heap.size + 1, 0, none⟩ = some (.int .i64 k) := (rK.next bb).cell 0
        have F := Lib.hid (pairO_no (shifted_no (sg := sg) (t := t) (k := k) (.inr (.inl hk))) (next_trans bel bb))
        clear bb bel rA rK hk
        go_wp2
        go_ret2
        exact F.out
end Go.Proofs.Ytdeegjeopkcomaa.shifted
end

section
/-
  CONTRACT: spec.DrawVariantIn: a drawn signature and two drawn lists. Conditions: at most 4096 bytes. By an AI agent.
-/
namespace Go.Proofs.Ytdeegjeopkcomaa.drawVar
open Go.RowKit Go.Proofs.Ytdeegjeopkcomaa.base Go.Proofs.Ytdeegjeopkcomaa.ints Go.Proofs.Ytdeegjeopkcomaa.sig Go.Proofs.Ytdeegjeopkcomaa.term Go.Proofs.Ytdeegjeopkcomaa.cursor Go.Proofs.Ytdeegjeopkcomaa.termOk Go.Proofs.Ytdeegjeopkcomaa.marks Go.Proofs.Ytdeegjeopkcomaa.app Go.Proofs.Ytdeegjeopkcomaa.sym Go.Proofs.Ytdeegjeopkcomaa.dice Go.Proofs.Ytdeegjeopkcomaa.drawSig Go.Proofs.Ytdeegjeopkcomaa.drawTerm Go.Proofs.Ytdeegjeopkcomaa.drawAny Go.Proofs.Ytdeegjeopkcomaa.drawTwo Go.Proofs.Ytdeegjeopkcomaa.drawPair Go.Proofs.Ytdeegjeopkcomaa.drawOne Go.Proofs.Ytdeegjeopkcomaa.fillMath Go.Proofs.Ytdeegjeopkcomaa.shifted

theorem Seg.other {w : World} {B N : Nat} {O : Option Addr} {on : Nat} {xs : List Int} {a : Option Addr} {l k : Nat} (h : Seg w B O on xs) (hN : w.cell? ⟨N, 0, none⟩ = some (.slice a l k)) (u : Value) : Seg (w.setCell ⟨N, 0, none⟩ u) B O on xs :=
  ⟨h.1, fun hn => by
    obtain ⟨b, off, e, hb, hc⟩ := h.2 hn
    refine ⟨b, off, e, hb, fun j hj => ?_⟩
    rw [World.cell?_setCell_other w _ _ _ (fun e => by have := hc j hj; rw [← e, hN] at this; cases this)]
    exact hc j hj⟩

/-- what is known in the course of the draw: the result's box at w.heap.size, the signature's variable at v -/
structure V3 (w : World) (p : Nat) (A : Option Addr) (n c v : Nat) (S : Option Addr) (sn sc : Nat) (sg : List Int) (O : Option Addr) (on : Nat) (xs : List Int) (wr : World) : Prop where
  d : Dice wr p A n c
  rN : Row wr w.heap.size 26 #[.slice none 0 0]
  rV : Row wr v 26 #[.slice S sn sc]
  s : Rd wr p wr.heap.size S sn sg
  o : Rd wr p wr.heap.size O on xs
  b : Below w.heap.size w wr
  hp : w.heap.size < p
  pv : p < v
section
variable {w : World} {p : Nat} {A : Option Addr} {n c v : Nat} {S : Option Addr} {sn sc : Nat} {sg : List Int} {O : Option Addr} {on : Nat} {xs : List Int} {wr w' : World}
theorem V3.dice (t : V3 w p A n c v S sn sc sg O on xs wr) (d : Dice w' p A n c) (hg : wr.grownBy w' (some p)) : V3 w p A n c v S sn sc sg O on xs w' :=
  ⟨d, Row.away t.rN hg (fun e => by injection e; have := t.hp; omega), Row.away t.rV hg (fun e => by injection e; have := t.pv; omega), (t.s.grown hg (Nat.le_refl _)).more hg.size, (t.o.grown hg (Nat.le_refl _)).more hg.size, t.b.grown hg t.b.size (fun k hk => by injection hk; have := t.hp; omega), t.hp, t.pv⟩
theorem V3.next (t : V3 w p A n c v S sn sc sg O on xs wr) (hb : Below wr.heap.size wr w') : V3 w p A n c v S sn sc sg O on xs w' :=
  ⟨t.d.next hb, t.rN.next hb, t.rV.next hb, (t.s.below hb (Nat.le_refl _)).more hb.size, (t.o.below hb (Nat.le_refl _)).more hb.size, next_trans t.b hb, t.hp, t.pv⟩
theorem V3.drew (t : V3 w p A n c v S sn sc sg O on xs wr) : V3 w p A n c v S sn sc sg O on xs wr.drew := t.next ⟨rfl, rfl, rfl, Nat.le_refl _, fun _ _ => rfl⟩
end

/-- a drawn signature and two drawn lists -/
def AnsTri (w : World) (e : Ending) (w' : World) : Prop :=
  ∃ S sn sc sg O on oc xs Q qn qc ys, e = .returned (.tuple #[.agg #[.slice S sn sc], .slice O on oc, .slice Q qn qc]) ∧ Seg w' w'.heap.size S sn sg ∧ Seg w' w'.heap.size O on xs ∧ Seg w' w'.heap.size Q qn ys ∧ sn ≤ 9 ∧ on ≤ 65 ∧ qn ≤ 65 ∧ Below w.heap.size w w'
theorem tri_of {w u : World} {p : Nat} {A : Option Addr} {n c v : Nat} {S : Option Addr} {sn sc : Nat} {sg : List Int} {O : Option Addr} {on oc : Nat} {xs : List Int} {Q : Option Addr} {qn qc : Nat} {ys : List Int} (t : V3 w p A n c v S sn sc sg O on xs u) (hq : Seg u u.heap.size Q qn ys)
    (h1 : sn ≤ 9) (h2 : on ≤ 65) (h3 : qn ≤ 65) : AnsTri w (.returned (.tuple #[.agg #[.slice S sn sc], .slice O on oc, .slice Q qn qc])) (u.setCell ⟨w.heap.size, 0, none⟩ (.slice S sn sc)) :=
  ⟨S, sn, sc, sg, O, on, oc, xs, Q, qn, qc, ys, rfl, (Seg.other t.s.seg (t.rN.cell 0) _).more (by simp), (Seg.other t.o.seg (t.rN.cell 0) _).more (by simp), (Seg.other hq (t.rN.cell 0) _).more (by simp), h1, h2, h3, t.b.setCell (Nat.le_refl _) _⟩

theorem segB_below {w w' : World} {A : Option Addr} {n : Nat} (h : SegB w w.heap.size A n) (hb : Below w.heap.size w w') : SegB w' w'.heap.size A n := fun hp => by
  obtain ⟨b, off, e, hbb, hc⟩ := h hp
  refine ⟨b, off, e, Nat.lt_of_lt_of_le hbb hb.size, fun j hj => ?_⟩
  obtain ⟨x, x0, x1, hx⟩ := hc j hj
  exact ⟨x, x0, x1, (hb.cell (p := ⟨b, off + j, none⟩) hbb).trans hx⟩

set_option maxHeartbeats 4000000 in
theorem drawVariantIn (A : Option Addr) (n c : Nat) (w : World) (h : SegB w w.heap.size A n) (hn : n ≤ 4096) :
    Calls Try.prog 30 #[.slice A n c] w (AnsTri w) := by
  obtain ⟨W0, hW0⟩ : ∃ W0, W0 = w.alloc (.cells #[.slice none 0 0] 26) := ⟨_, rfl⟩
  have rN : Row W0 w.heap.size 26 #[.slice none 0 0] := by rw [hW0]; exact Row.new _ _ _
  have b0 : Below w.heap.size w W0 := by rw [hW0]; exact (Below.refl _ _).alloc (Nat.le_refl _) _
  have L := Lib.hid (new_ A n c W0 (segB_below h b0) hn)
  have HW0 := Lib.hid hW0
  clear h hW0
  go_enter Try.func30, Try.ntmps30
  go_wp2_with fail
  rw [← HW0.out]
  refine L.out.mono ?_
  rintro e w1 ⟨p, rfl, hp, d1, bb⟩
  have hNp : w.heap.size < p := Nat.lt_of_lt_of_le rN.lt hp
  replace rN := rN.next bb
  have bel := next_trans b0 bb
  have L2 := Lib.hid (drawOne p A n c w1 d1)
  clear d1 bb b0 L
  go_wp2_with fail
  refine L2.out.mono ?_
  rintro e w2 ⟨S, sn, sc, sg, O, on, oc, xs, rfl, rs, ro, hsn, hon, -, -, d2, g2⟩
  replace rN := Row.away rN g2 (fun e => by injection e; omega)
  have bel2 : Below w.heap.size w w2 := bel.grown g2 bel.size (fun k hk => by injection hk; omega)
  obtain ⟨v, hv⟩ : ∃ v, w2.heap.size = v := ⟨_, rfl⟩
  obtain ⟨W, hW⟩ : ∃ W, W = w2.alloc (.cells #[.slice S sn sc] 26) := ⟨_, rfl⟩
  have hpv := d2.lt
  have T : V3 w p A n c v S sn sc sg O on xs W := by
    have bb : Below w2.heap.size w2 W := by rw [hW]; exact (Below.refl _ _).alloc (Nat.le_refl _) _
    exact ⟨d2.next bb, rN.next bb, by rw [hW, ← hv]; exact Row.new _ _ _, (rs.below bb (Nat.le_refl _)).more bb.size, (ro.below bb (Nat.le_refl _)).more bb.size, next_trans bel2 bb, hNp, by omega⟩
  have HW := Lib.hid hW
  have HV := Lib.hid hv
  have cV : W.cell? ⟨v, 0, none⟩ = some (.slice S sn sc) := T.rV.cell 0
  clear bel bel2 g2 rs ro d2 L2 rN hW hv hpv
  go_wp2_with fail
  rw [← HW.out, HV.out]
  refine (once p A n c 2 W T.d (by omega) (by omega)).mono ?_
  rintro e w3 ⟨b, rfl, d3, g3⟩
  replace T := T.dice d3 g3
  clear d3 g3 cV
  have zNv : w.heap.size < v := by have := T.hp; have := T.pv; omega
  have zne1 : ¬ v = w.heap.size := by omega
  have zne2 : ¬ w.heap.size = v := by omega
  have cV : w3.cell? ⟨v, 0, none⟩ = some (.slice S sn sc) := T.rV.cell 0
  cases b with
  | true =>
    have T1 := T.drew
    go_wp2_with fail
    go_region_held3 (fun w' => w'.cell? ⟨v, 0, none⟩ = some (.slice S sn sc))
      (go_keep)
      (first
        | (go_at_call 62; refine (drawAny p A n c S sn sc sg w3.drew T1.d T1.s (by omega)).mono ?_; rintro e w4 ⟨Q, qn, qc, ys, rfl, ra, h1, h2, h3, h4, d4, g4⟩; have T2 := T1.dice d4 g4; have cV4 : w4.cell? ⟨v, 0, none⟩ = some (.slice S sn sc) := T2.rV.cell 0; have cN4 : w4.cell? ⟨w.heap.size, 0, none⟩ = some (.slice none 0 0) := T2.rN.cell 0; have fN4 : w4.frozen? ⟨w.heap.size, 0, none⟩ = false := T2.rN.free 0; have F := Lib.hid (tri_of (oc := oc) (qc := qc) T2 ra.seg hsn hon h4)))
    clear cV4 T2 ra d4 g4 T1 T
    go_wp2
    exact bodyPost_ret (v := .tuple #[.agg #[.slice S sn sc], .slice O on oc, .slice Q qn qc]) (by simp [results, Try.results30, go_sem, cN4]) rfl F.out
  | false =>
    have T1 := T.drew
    go_wp2_with fail
    go_region_held3 (fun w' => w'.cell? ⟨v, 0, none⟩ = some (.slice S sn sc))
      (go_keep)
      (first
        | (go_at_call 78; refine (below p A n c 3 w3.drew T1.d (by omega) (by omega)).mono ?_; rintro e w4 ⟨y, rfl, y0, y1, d4, g4⟩; have T2 := T1.dice d4 g4; have cV4 : w4.cell? ⟨v, 0, none⟩ = some (.slice S sn sc) := T2.rV.cell 0)
        | (go_at_call 57; refine (specShifted S O sn sc on oc sg xs y w4 T2.s.seg T2.o.seg (by omega) (by omega) (by omega) (by omega)).mono ?_; rintro e w5 ⟨Q, qn, qc, rfl, rq, b5⟩; have T3 := T2.next b5; have cV5 : w5.cell? ⟨v, 0, none⟩ = some (.slice S sn sc) := T3.rV.cell 0))
    have hqn : qn ≤ 65 := by
      have e1 := rq.1
      have e2 := T3.o.1
      unfold shiftedL at e1
      split at e1
      · rw [shift_len] at e1; omega
      · simp at e1; omega
    have cN5 : w5.cell? ⟨w.heap.size, 0, none⟩ = some (.slice none 0 0) := T3.rN.cell 0
    have fN5 : w5.frozen? ⟨w.heap.size, 0, none⟩ = false := T3.rN.free 0
    have F := Lib.hid (tri_of (oc := oc) (qc := qc) T3 rq hsn hon hqn)
    clear cV4 T3 T2 d4 g4 T1 T b5 rq
    go_wp2
    exact bodyPost_ret (v := .tuple #[.agg #[.slice S sn sc], .slice O on oc, .slice Q qn qc]) (by simp [results, Try.results30, go_sem, cN5]) rfl F.out
end Go.Proofs.Ytdeegjeopkcomaa.drawVar
end

section
/-
  CONTRACTS: spec.l1Into, l2Vars, VarsOf, GroundIn; impl.VarsOf, GroundIn. Conditions: the slices read as lists ('Seg'), at most 1048576 numbers. By an AI agent.
-/
namespace Go.Proofs.Ytdeegjeopkcomaa.varsOf
open Go.RowKit Go.Proofs.Ytdeegjeopkcomaa.base Go.Proofs.Ytdeegjeopkcomaa.ints Go.Proofs.Ytdeegjeopkcomaa.sig Go.Proofs.Ytdeegjeopkcomaa.term Go.Proofs.Ytdeegjeopkcomaa.termOk Go.Proofs.Ytdeegjeopkcomaa.marks Go.Proofs.Ytdeegjeopkcomaa.app Go.Proofs.Ytdeegjeopkcomaa.sym Go.Proofs.Ytdeegjeopkcomaa.sub Go.Proofs.Ytdeegjeopkcomaa.segs Go.Proofs.Ytdeegjeopkcomaa.sorted Go.Proofs.Ytdeegjeopkcomaa.varsMath Go.Proofs.Ytdeegjeopkcomaa.termFacts
set_option maxRecDepth 100000

/-- a slice that reads as these numbers -/
def AnsInto (w : World) (ys : List Int) (e : Ending) (w' : World) : Prop := ∃ b off n c, e = .returned (.slice (some ⟨b, off, none⟩) n c) ∧ Seg w' w'.heap.size (some ⟨b, off, none⟩) n ys ∧ n ≤ c ∧ c ≤ 9223372036854775807 ∧ Below w.heap.size w w'

theorem Seg.pre {w : World} {B n k : Nat} {A : Option Addr} {xs : List Int} (h : Seg w B A n xs) (hk : k ≤ n) : Seg w B A k (xs.take k) := by
  refine ⟨by have := h.1; simp; omega, fun h0 => ?_⟩
  obtain ⟨b, off, e, hb, hc⟩ := h.2 (by omega)
  refine ⟨b, off, e, hb, fun j hj => ?_⟩
  rw [hc j (by omega)]
  simp [List.getD, List.getElem?_take, hj]
theorem Seg.post {w : World} {B n k b off : Nat} {xs : List Int} (h : Seg w B (some ⟨b, off, none⟩) n xs) (hk : k ≤ n) : Seg w B (some ⟨b, off + k, none⟩) (n - k) (xs.drop k) := by
  have h1 := Seg.cut (a := k) (j := n - k) h (by omega)
  rw [List.take_of_length_le (by have := h.1; simp; omega)] at h1
  exact h1
theorem into_ans {w w' : World} {base : Nat} {A : Option Addr} {n c : Nat} {xs ys : List Int} (h : Own w' base (.slice A n c) ys) (hn : 1 ≤ n) (e : ys = xs) (hb : Below w.heap.size w w') : AnsInto w xs (.returned (.slice A n c)) w' := by
  subst e
  have hl := Own.len h
  rcases own_form (n := n) (vs := ys.map (Value.int .i64)) (by rw [hl]; rw [hl] at h; exact h) with ⟨_, e, _⟩ | ⟨g, cur, rfl, _, _, h1, _, h3, _⟩
  · omega
  · exact ⟨g, 0, n, c, rfl, Own.seg h, h1, h3, hb⟩

def HeadInto (n : Nat) (xs : List Int) (x : Int) (i : Value) : Prop := ∃ k : Nat, k ≤ n ∧ i = .int .i64 k ∧ ∀ j, j < k → xs.getD j 0 < x

set_option maxHeartbeats 4000000 in
theorem l1Into (b off n c : Nat) (xs : List Int) (x : Int) (w : World) (h : Seg w w.heap.size (some ⟨b, off, none⟩) n xs) (hc1 : n ≤ c) (hc2 : c ≤ 9223372036854775807) (hn : n ≤ 1048576) :
    Calls Try.prog 116 #[.slice (some ⟨b, off, none⟩) n c, .int .i64 x] w (AnsInto w (into xs x)) := by
  have HX := Lib.hid h.1
  go_enter Try.func116, Try.ntmps116
  go_wp2
  go_loop [5] (fun i => HeadInto n xs x i) (fun i => n - (intOf i).toNat)
  case atStart => exact ⟨0, Nat.zero_le _, rfl, fun j hj => absurd hj (Nat.not_lt_zero _)⟩
  case round =>
    obtain ⟨k, hk, rfl, hlow⟩ := hrel
    have HLOW := Lib.hid hlow
    clear hlow
    have i1 : (0 : Int) ≤ (k : Int) := by omega
    have i2 : (k : Int) ≤ (n : Int) := by omega
    have i3 : (k : Int) ≤ (c : Int) := by omega
    have i4 : (n : Int) ≤ (c : Int) := by omega
    have L := Lib.hid (copyInts (some ⟨b, off, none⟩) k c (xs.take k) w (Seg.pre h hk) (fun e => by cases e) (by omega))
    by_cases hlt : k < n
    · obtain ⟨b', off', y, e, -, hy, ey⟩ := h.spot hlt
      injection e with e
      injection e with e1 e2
      subst e1 e2
      have i5 : (k : Int) < (n : Int) := by omega
      by_cases hyx : y < x
      · have S : HeadInto n xs x (.int .i64 ((k : Int) + 1)) := ⟨k + 1, hlt, by simp, fun j hj => by
          by_cases e : j = k
          · subst e; rw [ey.out]; exact hyx
          · exact HLOW.out j (by omega)⟩
        replace S := Lib.hid S
        clear h ey L
        go_wp2
        go_round
        case rel => exact S.out
        case measure => simp [intOf]; omega
      · by_cases hye : y = x
        · have F : AnsInto w (into xs x) (.returned (.slice (some ⟨b, off, none⟩) n c)) w := by
            rw [into_at (by rw [HX.out]; exact hlt) HLOW.out (ey.out.trans hye)]
            exact ⟨b, off, n, c, rfl, h, hc1, hc2, Below.refl _ _⟩
          have HF := Lib.hid F
          have d1 : (y == x) = true := by simp [hye]
          have d2 : decide (y < x) = false := by simp; omega
          clear F h ey L hye hyx
          go_wp2
          go_ret
          exact HF.out
        · have hck : ¬ c = k := by omega
          have E := Lib.hid (into_mid (xs := xs) (n := x) (k := k) (by rw [HX.out]; exact hlt) HLOW.out (by rw [ey.out]; omega))
          have d1 : (y == x) = false := by simp [hye]
          have d2 : decide (y < x) = false := by simp; omega
          have hp := Seg.post h hk
          clear h ey hye hyx
          go_wp2_with fail
          refine L.out.mono ?_
          rintro e w1 ⟨D, dn, dc, rfl, o1, b1⟩
          have hdn : dn = k := by rw [Own.len o1]; have := HX.out; simp; omega
          subst hdn
          clear L
          go_wp2_with (first
            | (at_builtin; refine app1 rfl (.tmp 37) (.tmp 39) rfl w.heap.size D dn dc (xs.take dn) rfl (Own.alloc o1 _) w1.heap.size 1 x rfl ((Row.new _ _ _).cell 0) (by omega) (by simp; exact Nat.le_trans b1.size (Nat.le_succ _)) ?_; intro O' oc' w2 o2 b2; have hp2 := hp.below ((b1.alloc b1.size _).trans b2))
            | (at_builtin; refine appAll rfl (.tmp 41) (.tmp 44) rfl w.heap.size O' (dn + 1) oc' _ rfl o2 (some ⟨b, off + dn, none⟩) (n - dn) (c - dn) w.heap.size (xs.drop dn) rfl hp2 (fun e => by cases e) (by omega) (by omega) (by have h1 := b1.size; have h2 := b2.size; simp at h2; omega) ?_; intro Q' qc' w3 o3 b3))
          have F := Lib.hid (into_ans (xs := into xs x) o3 (by omega) E.out.symm (((b1.alloc b1.size _).trans b2).trans b3))
          clear o1 o2 o3 b1 b2 b3 hp hp2 E
          go_wp2
          go_ret
          exact F.out
    · have ek : k = n := by omega
      subst ek
      have E := Lib.hid (into_end (xs := xs) (n := x) (fun j hj => HLOW.out j (by rw [HX.out] at hj; exact hj)))
      have ET := Lib.hid (show xs.take k = xs from List.take_of_length_le (by rw [HX.out]; exact Nat.le_refl _))
      have d0 : decide (k < k) = false := by simp
      by_cases hck : c = k
      · subst hck
        have hp := Seg.pre h (Nat.zero_le _)
        clear h
        go_wp2_with fail
        refine L.out.mono ?_
        rintro e w1 ⟨D, dn, dc, rfl, o1, b1⟩
        rw [ET.out] at o1
        have hdn : dn = c := by rw [Own.len o1]; exact HX.out
        subst hdn
        clear L
        go_wp2_with (first
          | (at_builtin; refine app1 rfl (.tmp 37) (.tmp 39) rfl w.heap.size D dn dc xs rfl (Own.alloc o1 _) w1.heap.size 1 x rfl ((Row.new _ _ _).cell 0) (by omega) (by simp; exact Nat.le_trans b1.size (Nat.le_succ _)) ?_; intro O' oc' w2 o2 b2; have hp2 := hp.below ((b1.alloc b1.size _).trans b2))
          | (at_builtin; refine appAll rfl (.tmp 41) (.tmp 44) rfl w.heap.size O' (dn + 1) oc' _ rfl o2 (some ⟨b, off, none⟩) 0 0 w.heap.size (xs.take 0) rfl hp2 (fun e => by cases e) (by omega) (by omega) (by have h1 := b1.size; have h2 := b2.size; simp at h2; omega) ?_; intro Q' qc' w3 o3 b3))
        have F := Lib.hid (into_ans (xs := into xs x) o3 (by omega) (by rw [E.out]; simp) (((b1.alloc b1.size _).trans b2).trans b3))
        clear o1 o2 o3 b1 b2 b3 hp hp2 E
        go_wp2
        go_ret
        exact F.out
      · have hp := Seg.post h (Nat.le_refl _)
        rw [Nat.sub_self] at hp
        clear h
        go_wp2_with fail
        refine L.out.mono ?_
        rintro e w1 ⟨D, dn, dc, rfl, o1, b1⟩
        rw [ET.out] at o1
        have hdn : dn = k := by rw [Own.len o1]; exact HX.out
        subst hdn
        clear L
        go_wp2_with (first
          | (at_builtin; refine app1 rfl (.tmp 37) (.tmp 39) rfl w.heap.size D dn dc xs rfl (Own.alloc o1 _) w1.heap.size 1 x rfl ((Row.new _ _ _).cell 0) (by omega) (by simp; exact Nat.le_trans b1.size (Nat.le_succ _)) ?_; intro O' oc' w2 o2 b2; have hp2 := hp.below ((b1.alloc b1.size _).trans b2))
          | (at_builtin; refine appAll rfl (.tmp 41) (.tmp 44) rfl w.heap.size O' (dn + 1) oc' _ rfl o2 (some ⟨b, off + dn, none⟩) 0 (c - dn) w.heap.size (xs.drop dn) rfl hp2 (fun e => by cases e) (by omega) (by omega) (by have h1 := b1.size; have h2 := b2.size; simp at h2; omega) ?_; intro Q' qc' w3 o3 b3))
        have F := Lib.hid (into_ans (xs := into xs x) o3 (by omega) (by rw [E.out, List.drop_eq_nil_of_le (by rw [HX.out]; exact Nat.le_refl _)]; simp) (((b1.alloc b1.size _).trans b2).trans b3))
        clear o1 o2 o3 b1 b2 b3 hp hp2 E
        go_wp2
        go_ret
        exact F.out
end Go.Proofs.Ytdeegjeopkcomaa.varsOf
end

section
/-
  CONTRACTS: spec.l2Vars, VarsOf, GroundIn; impl.VarsOf, GroundIn. Conditions: the slices read as lists ('Seg'), at most 1048576 numbers. By an AI agent.
-/
namespace Go.Proofs.Ytdeegjeopkcomaa.varsOf
open Go.RowKit Go.Proofs.Ytdeegjeopkcomaa.base Go.Proofs.Ytdeegjeopkcomaa.ints Go.Proofs.Ytdeegjeopkcomaa.sig Go.Proofs.Ytdeegjeopkcomaa.term Go.Proofs.Ytdeegjeopkcomaa.termOk Go.Proofs.Ytdeegjeopkcomaa.marks Go.Proofs.Ytdeegjeopkcomaa.app Go.Proofs.Ytdeegjeopkcomaa.sym Go.Proofs.Ytdeegjeopkcomaa.sub Go.Proofs.Ytdeegjeopkcomaa.segs Go.Proofs.Ytdeegjeopkcomaa.sorted Go.Proofs.Ytdeegjeopkcomaa.varsMath Go.Proofs.Ytdeegjeopkcomaa.termFacts
set_option maxRecDepth 100000

/-- the head of the loop over the numbers -/
def HeadVars (w : World) (m : Nat) (t : List Int) (out i : Value) (wr : World) : Prop :=
  ∃ (k b off n c : Nat), k ≤ m ∧ i = .int .i64 k ∧ out = .slice (some ⟨b, off, none⟩) n c ∧ Seg wr wr.heap.size (some ⟨b, off, none⟩) n (vars (t.take k)) ∧ n ≤ c ∧ c ≤ 9223372036854775807 ∧ n ≤ m ∧ Below w.heap.size w wr
theorem vars_seg_len {t : List Int} {m k n : Nat} {w : World} {B : Nat} {A : Option Addr} (hm : t.length = m) (h : Seg w B A n (vars (t.take k))) : n ≤ m := by
  have h1 := vars_len (t.take k)
  have h2 := h.1
  simp at h1
  omega

set_option maxHeartbeats 1000000 in
theorem l2Vars (A : Option Addr) (m c : Nat) (t : List Int) (w : World) (h : Seg w w.heap.size A m t) (hm : m ≤ 1048576) (hv : ∀ x ∈ t, -24 ≤ x) :
    Calls Try.prog 96 #[.slice A m c] w (AnsInto w (vars t)) := by
  have HL := Lib.hid h.1
  have HV := Lib.hid hv
  clear hv
  have S0 : HeadVars w m t (.slice (some ⟨w.heap.size, 0, none⟩) 0 0) (.int .i64 0) (w.alloc (.cells #[] 2)) :=
    ⟨0, _, _, 0, 0, Nat.zero_le _, rfl, rfl, ⟨rfl, fun h => absurd h (Nat.lt_irrefl _)⟩, Nat.le_refl _, by omega, Nat.zero_le _, (Below.refl _ _).alloc (Nat.le_refl _) _⟩
  have HS0 := Lib.hid S0
  clear S0
  go_enter Try.func96, Try.ntmps96
  go_wp2_with fail
  go_loopw [3, 4] (fun out i wr => HeadVars w m t out i wr) (fun _ i _ => m - (intOf i).toNat)
  case atStart => exact HS0.out
  case round =>
    obtain ⟨k, b, off, n, cc, hk, rfl, rfl, hs, hc1, hc2, hnm, hb⟩ := hrel
    clear HS0
    by_cases hlt : k < m
    · obtain ⟨b', off', x, rfl, hbb, hx, ex⟩ := h.spot hlt
      have hx1 : wr.cell? ⟨b', off' + k, none⟩ = some (.int .i64 x) := (hb.cell (p := ⟨b', off' + k, none⟩) hbb).trans hx
      have hmem : x ∈ t := by
        have hkl : k < t.length := by rw [HL.out]; exact hlt
        have := ex.out
        rw [← this]
        simp [List.getD, hkl]
      have hx24 : -24 ≤ x := HV.out x hmem
      clear hmem
      by_cases hneg : x < 0
      · have E := Lib.hid (vars_yes (t := t) (k := k) (by rw [HL.out]; exact hlt) ex.out hneg)
        have L := Lib.hid (l1Into b off n cc _ (-1 - x) wr hs hc1 hc2 (by omega))
        clear hs hx ex h
        go_wp2_with fail
        refine L.out.mono ?_
        rintro e w1 ⟨b1, off1, n1, c1, rfl, s1, h1, h2, bb⟩
        rw [← E.out] at s1
        have h3 := vars_seg_len HL.out s1
        have S : HeadVars w m t (.slice (some ⟨b1, off1, none⟩) n1 c1) (.int .i64 ((k : Int) + 1)) w1 := ⟨k + 1, b1, off1, n1, c1, hlt, by simp, rfl, s1, h1, h2, h3, next_trans hb bb⟩
        replace S := Lib.hid S
        clear s1 bb hb L h1 h2 h3 hx1
        go_wp2
        go_roundw
        case rel => exact S.out
        case measure => simp [intOf]; omega
      · rw [← vars_no (t := t) (k := k) (by rw [HL.out]; exact hlt) ex.out hneg] at hs
        have S : HeadVars w m t (.slice (some ⟨b, off, none⟩) n cc) (.int .i64 ((k : Int) + 1)) wr := ⟨k + 1, b, off, n, cc, hlt, by simp, rfl, hs, hc1, hc2, hnm, hb⟩
        replace S := Lib.hid S
        clear hs hb hx ex h hc1 hc2
        go_wp2
        go_roundw
        case rel => exact S.out
        case measure => simp [intOf]; omega
    · have F : AnsInto w (vars t) (.returned (.slice (some ⟨b, off, none⟩) n cc)) wr := by
        rw [List.take_of_length_le (by rw [HL.out]; omega)] at hs
        exact ⟨b, off, n, cc, rfl, hs, hc1, hc2, hb⟩
      have HF := Lib.hid F
      clear F hs hb h
      go_wp2
      go_ret
      exact HF.out

/-- a slice that reads as these numbers, with its bounds -/
def AnsSeg (w : World) (ys : List Int) (e : Ending) (w' : World) : Prop := ∃ A n c, e = .returned (.slice A n c) ∧ Seg w' w'.heap.size A n ys ∧ Below w.heap.size w w'

set_option maxHeartbeats 1000000 in
theorem specVarsOf (A A' : Option Addr) (n c m c' : Nat) (sg t : List Int) (w : World) (h : Seg w w.heap.size A n sg) (h' : Seg w w.heap.size A' m t) (hn : n ≤ 1048576) (hm : m ≤ 1048576) :
    Calls Try.prog 50 #[.agg #[.slice A n c], .slice A' m c'] w (AnsSeg w (varsI sg t)) := by
  obtain ⟨W, hW⟩ : ∃ W, W = w.alloc (.cells #[.slice A n c] 26) := ⟨_, rfl⟩
  have rA : Row W w.heap.size 26 #[.slice A n c] := by rw [hW]; exact Row.new _ _ _
  have bel : Below w.heap.size w W := by rw [hW]; exact (Below.refl _ _).alloc (Nat.le_refl _) _
  have s := (h.below bel).more bel.size
  have s' := (h'.below bel).more bel.size
  have HW := Lib.hid hW
  have L := Lib.hid (specTermOk A A' n c m c' sg t W s s' hn hm)
  clear hW h h' s
  cases hok : termOkB sg t with
  | false =>
    have HS := Lib.hid hok
    clear hok s'
    go_enter Try.func50, Try.ntmps50
    go_wp2_with fail
    rw [← HW.out]
    refine L.out.mono ?_
    rintro e w1 ⟨he, bb⟩
    rw [HS.out] at he
    subst he
    have F : AnsSeg w (varsI sg t) (.returned (.slice (some ⟨w1.heap.size, 0, none⟩) 0 0)) (w1.alloc (.cells #[] 2)) :=
      ⟨_, 0, 0, rfl, by unfold varsI; rw [if_neg (by rw [HS.out]; simp)]; exact Seg.empty, (next_trans bel bb).alloc (next_trans bel bb).size _⟩
    have HF := Lib.hid F
    clear F bb bel rA
    go_wp2
    go_ret
    exact HF.out
  | true =>
    have HS := Lib.hid hok
    have HV := Lib.hid (fun x hx => (term_mem (x := x) hok hx).1)
    clear hok
    go_enter Try.func50, Try.ntmps50
    go_wp2_with fail
    rw [← HW.out]
    refine L.out.mono ?_
    rintro e w1 ⟨he, bb⟩
    rw [HS.out] at he
    subst he
    have L2 := Lib.hid (l2Vars A' m c' t w1 (s'.next bb) hm HV.out)
    clear L
    go_wp2_with fail
    refine L2.out.mono ?_
    rintro e w2 ⟨b, off, n2, c2, rfl, s2, -, -, b2⟩
    have F : AnsSeg w (varsI sg t) (.returned (.slice (some ⟨b, off, none⟩) n2 c2)) w2 := ⟨_, _, _, rfl, by unfold varsI; rw [if_pos HS.out]; exact s2, next_trans (next_trans bel bb) b2⟩
    have HF := Lib.hid F
    clear F s2 b2 bb bel rA s' L2
    go_wp2
    go_ret
    exact HF.out

/-- the head of the loop that collects -/
def HeadNegs (w : World) (A : Option Addr) (n c m : Nat) (t : List Int) (out i : Value) (wr : World) : Prop :=
  ∃ (k : Nat) (O : Option Addr) (on oc : Nat), k ≤ m ∧ i = .int .i64 k ∧ out = .slice O on oc ∧ Own wr (w.heap.size + 1) (.slice O on oc) (negs (t.take k)) ∧ Row wr w.heap.size 26 #[.slice A n c] ∧ Below w.heap.size w wr

set_option maxHeartbeats 2000000 in
theorem implVarsOf (A A' : Option Addr) (n c m c' : Nat) (sg t : List Int) (w : World) (h : Seg w w.heap.size A n sg) (h' : Seg w w.heap.size A' m t) (hn : n ≤ 1048576) (hm : m ≤ 1048576) :
    Calls Try.prog 36 #[.agg #[.slice A n c], .slice A' m c'] w (AnsList w (varsI sg t)) := by
  obtain ⟨W, hW⟩ : ∃ W, W = w.alloc (.cells #[.slice A n c] 26) := ⟨_, rfl⟩
  have rA : Row W w.heap.size 26 #[.slice A n c] := by rw [hW]; exact Row.new _ _ _
  have bel : Below w.heap.size w W := by rw [hW]; exact (Below.refl _ _).alloc (Nat.le_refl _) _
  have s := (h.below bel).more bel.size
  have s' := (h'.below bel).more bel.size
  have HW := Lib.hid hW
  have HL := Lib.hid h'.1
  have L := Lib.hid (implTermOk A A' n c m c' sg t W s s' hn hm)
  clear hW h s
  cases hok : termOkB sg t with
  | false =>
    have HS := Lib.hid hok
    clear hok s' h'
    go_enter Try.func36, Try.ntmps36
    go_wp2_with fail
    rw [← HW.out]
    refine L.out.mono ?_
    rintro e w1 ⟨he, bb⟩
    rw [HS.out] at he
    subst he
    have F : AnsList w (varsI sg t) (.returned (.slice none 0 0)) w1 := ⟨_, _, _, rfl, by unfold varsI; rw [if_neg (by rw [HS.out]; simp)]; exact Own.nil _ _, next_trans bel bb⟩
    have HF := Lib.hid F
    clear F bb bel rA
    go_wp2
    go_ret
    exact HF.out
  | true =>
    have HS := Lib.hid hok
    have HV := Lib.hid (fun x hx => (term_mem (x := x) hok hx).1)
    clear hok s'
    go_enter Try.func36, Try.ntmps36
    go_wp2_with fail
    rw [← HW.out]
    refine L.out.mono ?_
    rintro e w1 ⟨he, bb⟩
    rw [HS.out] at he
    subst he
    have S0 : HeadNegs w A n c m t (.slice none 0 0) (.int .i64 0) w1 := ⟨0, _, _, _, Nat.zero_le _, rfl, rfl, by simpa [negs] using Own.nil w1 (w.heap.size + 1), rA.next bb, next_trans bel bb⟩
    have HS0 := Lib.hid S0
    clear S0 bb bel rA L
    go_wp2_with fail
    go_loopw [5, 14] (fun out i wr => HeadNegs w A n c m t out i wr) (fun _ i _ => m - (intOf i).toNat)
    case atStart => exact HS0.out
    case round =>
      obtain ⟨k, O, on, oc, hk, rfl, rfl, ho, hr, hb⟩ := hrel
      clear HS0
      have hon : on ≤ m := by have h1 := Own.len ho; have h2 := negs_len (t.take k); simp at h2; have h3 := HL.out; omega
      by_cases hlt : k < m
      · obtain ⟨b, off, x, rfl, hbb, hx, ex⟩ := h'.spot hlt
        have hx1 : wr.cell? ⟨b, off + k, none⟩ = some (.int .i64 x) := (hb.cell (p := ⟨b, off + k, none⟩) hbb).trans hx
        have hsz := hr.lt
        have hmem : x ∈ t := by
          have hkl : k < t.length := by rw [HL.out]; exact hlt
          have := ex.out
          rw [← this]
          simp [List.getD, hkl]
        have hx24 : -24 ≤ x := HV.out x hmem
        clear hmem hx h'
        by_cases hneg : x < 0
        · have E := Lib.hid (negs_yes (t := t) (k := k) (by rw [HL.out]; exact hlt) ex.out hneg)
          clear ex
          go_wp2_with (at_builtin; refine app1 rfl _ _ rfl (w.heap.size + 1) O on oc (negs (t.take k)) rfl (Own.alloc ho _) wr.heap.size 1 (-1 - x) rfl ((Row.new _ _ _).cell 0) (by omega) (by simp; omega) ?_; intro O' oc' w2 ho2 b2)
          have S : HeadNegs w A n c m t (.slice O' (on + 1) oc') (.int .i64 ((k : Int) + 1)) w2 := ⟨k + 1, O', on + 1, oc', hlt, by simp, rfl, by rw [E.out]; exact ho2, ((hr.alloc _).below b2 (Nat.lt_succ_self _)), ((hb.alloc (Nat.le_of_lt hsz) _).trans (b2.mono (Nat.le_succ _)))⟩
          replace S := Lib.hid S
          clear ho2 b2 ho hr hb
          go_wp2
          go_roundw
          case rel => exact S.out
          case measure => simp [intOf]; omega
        · rw [← negs_no (t := t) (k := k) (by rw [HL.out]; exact hlt) ex.out hneg] at ho
          have S : HeadNegs w A n c m t (.slice O on oc) (.int .i64 ((k : Int) + 1)) wr := ⟨k + 1, O, on, oc, hlt, by simp, rfl, ho, hr, hb⟩
          replace S := Lib.hid S
          clear ho hr hb ex
          go_wp2
          go_roundw
          case rel => exact S.out
          case measure => simp [intOf]; omega
      · rw [List.take_of_length_le (by rw [HL.out]; omega)] at ho
        have hge := Own.ge ho
        have hsz := hr.lt
        have L2 := Lib.hid (sortOwn (w.heap.size + 1) O on oc (negs t) wr ho (by omega))
        clear ho hr h'
        go_wp2_with fail
        refine L2.out.mono ?_
        rintro e w2 ⟨rfl, o2, g2⟩
        have b2 := hb.grown g2 hb.size (fun k hk => by have := hge k hk; omega)
        have L3 := Lib.hid (compactOwn (w.heap.size + 1) O on oc (up (negs t)) w2 o2 (by omega))
        clear o2 g2 L2 hb
        go_wp2_with fail
        refine L3.out.mono ?_
        rintro e w3 ⟨c3, rfl, o3, g3⟩
        have b3 := b2.grown g3 b2.size (fun k hk => by have := hge k hk; omega)
        have F : AnsList w (varsI sg t) (.returned (.slice O (Lib.compact (up (negs t))).length c3)) w3 := ⟨O, _, c3, rfl, by unfold varsI; rw [if_pos HS.out, ← sorted_vars t]; exact Own.lower o3 (Nat.le_succ _), b3⟩
        have HF := Lib.hid F
        clear F o3 g3 b2 b3 L3 hge
        go_wp2
        go_ret
        exact HF.out

/-! ### GroundIn -/
def groundB (sg t : List Int) : Bool := termOkB sg t && decide ((vars t).length = 0)
def AnsB (w : World) (b : Bool) (e : Ending) (w' : World) : Prop := e = .returned (.bool b) ∧ Below w.heap.size w w'
theorem ansB {w w' : World} {a b : Bool} (h : a = b) (hb : Below w.heap.size w w') : AnsB w b (.returned (.bool a)) w' := ⟨by rw [h], hb⟩

set_option maxHeartbeats 1000000 in
theorem specGroundIn (A A' : Option Addr) (n c m c' : Nat) (sg t : List Int) (w : World) (h : Seg w w.heap.size A n sg) (h' : Seg w w.heap.size A' m t) (hn : n ≤ 1048576) (hm : m ≤ 1048576) :
    Calls Try.prog 55 #[.agg #[.slice A n c], .slice A' m c'] w (AnsB w (groundB sg t)) := by
  obtain ⟨W, hW⟩ : ∃ W, W = w.alloc (.cells #[.slice A n c] 26) := ⟨_, rfl⟩
  have bel : Below w.heap.size w W := by rw [hW]; exact (Below.refl _ _).alloc (Nat.le_refl _) _
  have s := (h.below bel).more bel.size
  have s' := (h'.below bel).more bel.size
  have HW := Lib.hid hW
  have L := Lib.hid (specTermOk A A' n c m c' sg t W s s' hn hm)
  clear hW h h' s
  cases hok : termOkB sg t with
  | false =>
    have HS := Lib.hid hok
    clear hok s'
    go_enter Try.func55, Try.ntmps55
    go_wp2_with fail
    rw [← HW.out]
    refine L.out.mono ?_
    rintro e w1 ⟨he, bb⟩
    rw [HS.out] at he
    subst he
    have F := Lib.hid (ansB (b := groundB sg t) (a := false) (by unfold groundB; rw [HS.out]; rfl) (next_trans bel bb))
    clear bb bel
    go_wp2
    go_ret
    exact F.out
  | true =>
    have HS := Lib.hid hok
    have HV := Lib.hid (fun x hx => (term_mem (x := x) hok hx).1)
    clear hok
    go_enter Try.func55, Try.ntmps55
    go_wp2_with fail
    rw [← HW.out]
    refine L.out.mono ?_
    rintro e w1 ⟨he, bb⟩
    rw [HS.out] at he
    subst he
    have L2 := Lib.hid (l2Vars A' m c' t w1 (s'.next bb) hm HV.out)
    clear L
    go_wp2_with fail
    refine L2.out.mono ?_
    rintro e w2 ⟨b, off, n2, c2, rfl, s2, -, -, b2⟩
    have F := fun a ha => ansB (b := groundB sg t) (a := a) ha (next_trans (next_trans bel bb) b2)
    have hl := s2.1
    by_cases h0 : n2 = 0
    · subst h0
      have HF := Lib.hid (F true (by unfold groundB; rw [HS.out, hl]; rfl))
      clear F s2 b2 bb bel s' L2 hl
      go_wp2
      go_ret
      exact HF.out
    · have HF := Lib.hid (F false (by unfold groundB; rw [HS.out, hl]; simp [h0]))
      have e0 : ((n2 : Int) == 0) = false := by simp; omega
      clear F s2 b2 bb bel s' L2 hl
      go_wp2
      go_ret
      exact HF.out

set_option maxHeartbeats 1000000 in
theorem implGroundIn (A A' : Option Addr) (n c m c' : Nat) (sg t : List Int) (w : World) (h : Seg w w.heap.size A n sg) (h' : Seg w w.heap.size A' m t) (hn : n ≤ 1048576) (hm : m ≤ 1048576) :
    Calls Try.prog 39 #[.agg #[.slice A n c], .slice A' m c'] w (AnsB w (groundB sg t)) := by
  obtain ⟨W, hW⟩ : ∃ W, W = w.alloc (.cells #[.slice A n c] 26) := ⟨_, rfl⟩
  have rA : Row W w.heap.size 26 #[.slice A n c] := by rw [hW]; exact Row.new _ _ _
  have bel : Below w.heap.size w W := by rw [hW]; exact (Below.refl _ _).alloc (Nat.le_refl _) _
  have s := (h.below bel).more bel.size
  have s' := (h'.below bel).more bel.size
  have HW := Lib.hid hW
  have L := Lib.hid (implTermOk A A' n c m c' sg t W s s' hn hm)
  clear hW h h'
  cases hok : termOkB sg t with
  | false =>
    have HS := Lib.hid hok
    clear hok s s'
    go_enter Try.func39, Try.ntmps39
    go_wp2_with fail
    rw [← HW.out]
    refine L.out.mono ?_
    rintro e w1 ⟨he, bb⟩
    rw [HS.out] at he
    subst he
    have F := Lib.hid (ansB (b := groundB sg t) (a := false) (by unfold groundB; rw [HS.out]; rfl) (next_trans bel bb))
    clear bb bel rA
    go_wp2
    go_ret
    exact F.out
  | true =>
    have HS := Lib.hid hok
    clear hok
    go_enter Try.func39, Try.ntmps39
    go_wp2_with fail
    rw [← HW.out]
    refine L.out.mono ?_
    rintro e w1 ⟨he, bb⟩
    rw [HS.out] at he
    subst he
    have L2 := Lib.hid (implVarsOf A A' n c m c' sg t w1 (s.next bb) (s'.next bb) hn hm)
    have cA : w1.cell? ⟨w.heap.size, 0, none⟩ = some (.slice A n c) := (rA.next bb).cell 0
    clear L
    go_wp2_with fail
    refine L2.out.mono ?_
    rintro e w2 ⟨A2, n2, c2, rfl, o2, b2⟩
    have F := fun a ha => ansB (b := groundB sg t) (a := a) ha (next_trans (next_trans bel bb) b2)
    have hl := Own.len o2
    rw [show varsI sg t = vars t from if_pos HS.out] at hl
    by_cases h0 : n2 = 0
    · subst h0
      have HF := Lib.hid (F true (by unfold groundB; rw [HS.out, ← hl]; rfl))
      clear F o2 b2 bb bel s s' L2 hl cA rA
      go_wp2
      go_ret
      exact HF.out
    · have HF := Lib.hid (F false (by unfold groundB; rw [HS.out, ← hl]; simp [h0]))
      have e0 : ((n2 : Int) == 0) = false := by simp; omega
      clear F o2 b2 bb bel s s' L2 hl cA rA
      go_wp2
      go_ret
      exact HF.out
end Go.Proofs.Ytdeegjeopkcomaa.varsOf
end

section
/-
  CONTRACTS: spec.SubstOk, impl.SubstOk, spec.l2Gives, impl.lookupIn and what it returns. Conditions: the slices read as lists ('Seg', 'Segs'), at most 1048576 values. By an AI agent.
-/
namespace Go.Proofs.Ytdeegjeopkcomaa.substOk
open Go.RowKit Go.Proofs.Ytdeegjeopkcomaa.base Go.Proofs.Ytdeegjeopkcomaa.ints Go.Proofs.Ytdeegjeopkcomaa.sig Go.Proofs.Ytdeegjeopkcomaa.term Go.Proofs.Ytdeegjeopkcomaa.termOk Go.Proofs.Ytdeegjeopkcomaa.marks Go.Proofs.Ytdeegjeopkcomaa.app Go.Proofs.Ytdeegjeopkcomaa.sym Go.Proofs.Ytdeegjeopkcomaa.sub Go.Proofs.Ytdeegjeopkcomaa.segs Go.Proofs.Ytdeegjeopkcomaa.segsHelp Go.Proofs.Ytdeegjeopkcomaa.termFacts Go.Proofs.Ytdeegjeopkcomaa.varsMath Go.Proofs.Ytdeegjeopkcomaa.varsOf Go.Proofs.Ytdeegjeopkcomaa.fillMath Go.Proofs.Ytdeegjeopkcomaa.look
set_option maxRecDepth 100000

/-- nothing, or a term -/
def goodB (sg t : List Int) : Bool := decide (t.length = 0) || termOkB sg t
/-- a valid substitution -/
def substOkB (sg : List Int) (ss : List (List Int)) : Bool := sigOkB sg && (decide (ss.length ≤ 24) && ss.all (goodB sg))
theorem substOk_parts {sg : List Int} {ss : List (List Int)} (h : substOkB sg ss = true) : sigOkB sg = true ∧ ss.length ≤ 24 ∧ ∀ j, j < ss.length → goodB sg (ss.getD j []) = true := by
  unfold substOkB at h
  simp only [Bool.and_eq_true, decide_eq_true_eq, List.all_eq_true] at h
  refine ⟨h.1, h.2.1, fun j hj => ?_⟩
  have := h.2.2 (ss[j]) (List.getElem_mem hj)
  simpa [List.getD, hj] using this
theorem subst_sig {sg : List Int} {ss : List (List Int)} (h : sigOkB sg = false) : substOkB sg ss = false := by unfold substOkB; rw [h, Bool.false_and]
theorem subst_long {sg : List Int} {ss : List (List Int)} (h : ¬ ss.length ≤ 24) : substOkB sg ss = false := by unfold substOkB; rw [decide_eq_false h, Bool.false_and, Bool.and_false]
theorem subst_bad {sg : List Int} {ss : List (List Int)} {k : Nat} (hk : k < ss.length) (h : goodB sg (ss.getD k []) = false) : substOkB sg ss = false := by
  have : ss.all (goodB sg) = false := by
    rw [List.all_eq_false]
    refine ⟨ss[k], List.getElem_mem hk, ?_⟩
    have e : ss.getD k [] = ss[k] := by simp [List.getD, hk]
    rw [e] at h
    simp [h]
  unfold substOkB
  rw [this, Bool.and_false, Bool.and_false]
theorem subst_good {sg : List Int} {ss : List (List Int)} (h : sigOkB sg = true) (hl : ss.length ≤ 24) (hg : ∀ j, j < ss.length → goodB sg (ss.getD j []) = true) : substOkB sg ss = true := by
  have : ss.all (goodB sg) = true := by
    rw [List.all_eq_true]
    intro x hx
    obtain ⟨j, hj, rfl⟩ := List.getElem_of_mem hx
    have := hg j hj
    simpa [List.getD, hj] using this
  unfold substOkB
  rw [this, h, decide_eq_true hl]
  rfl

/-- the first k elements are good -/
def HeadSO (w : World) (A : Option Addr) (n c : Nat) (S : Option Addr) (m c' : Nat) (sg : List Int) (ss : List (List Int)) (i : Value) (wr : World) : Prop :=
  ∃ k : Nat, k ≤ m ∧ i = .int .i64 k ∧ (∀ j, j < k → goodB sg (ss.getD j []) = true) ∧ Row wr w.heap.size 26 #[.slice A n c] ∧ Row wr (w.heap.size + 1) 29 #[.slice S m c'] ∧ Below w.heap.size w wr
theorem headSO_step {w wr : World} {A : Option Addr} {n c : Nat} {S : Option Addr} {m c' : Nat} {sg : List Int} {ss : List (List Int)} {k : Nat} (hk : k < m) (hlow : ∀ j, j < k → goodB sg (ss.getD j []) = true) (hg : goodB sg (ss.getD k []) = true)
    (r1 : Row wr w.heap.size 26 #[.slice A n c]) (r2 : Row wr (w.heap.size + 1) 29 #[.slice S m c']) (hb : Below w.heap.size w wr) : HeadSO w A n c S m c' sg ss (.int .i64 ((k : Int) + 1)) wr :=
  ⟨k + 1, hk, by simp, fun j hj => by
    by_cases e : j = k
    · subst e; exact hg
    · exact hlow j (by omega), r1, r2, hb⟩

/-- the two boxes of the parameters -/
theorem boxes2 (w : World) (A : Option Addr) (n c : Nat) (S : Option Addr) (m c' : Nat) : ∃ W, W = (w.alloc (.cells #[.slice A n c] 26)).alloc (.cells #[.slice S m c'] 29) ∧
    Row W w.heap.size 26 #[.slice A n c] ∧ Row W (w.heap.size + 1) 29 #[.slice S m c'] ∧ Below w.heap.size w W := by
  refine ⟨_, rfl, ?_, ?_, ?_⟩
  · have := (Row.new w 26 #[.slice A n c]).alloc (.cells #[.slice S m c'] 29)
    simpa using this
  · have := Row.new (w.alloc (.cells #[.slice A n c] 26)) 29 #[.slice S m c']
    simpa using this
  · exact ((Below.refl _ _).alloc (Nat.le_refl _) _).alloc (by simp) _

set_option maxHeartbeats 4000000 in
theorem specSubstOk (A S : Option Addr) (n c m c' : Nat) (sg : List Int) (ss : List (List Int)) (w : World) (h : Seg w w.heap.size A n sg) (h' : Segs w w.heap.size S m ss) (hn : n ≤ 1048576) (ht : tot ss ≤ 1048576) :
    Calls Try.prog 29 #[.agg #[.slice A n c], .agg #[.slice S m c']] w (AnsB w (substOkB sg ss)) := by
  obtain ⟨W, hW, rA, rS, bel⟩ := boxes2 w A n c S m c'
  have HW := Lib.hid hW
  have HL := Lib.hid h'.1
  have hm : m ≤ 1048576 := tot_len h'.1 ht
  have HT := Lib.hid (tot_each ht)
  have L := Lib.hid (specSigOk A n c sg W (h.next bel) hn)
  have cS : W.cell? ⟨w.heap.size + 1, 0, none⟩ = some (.slice S m c') := rS.cell 0
  clear hW ht
  cases hsig : sigOkB sg with
  | false =>
    have HS := Lib.hid hsig
    clear hsig h h'
    go_enter Try.func29, Try.ntmps29
    go_wp2_with fail
    rw [← HW.out]
    refine L.out.mono ?_
    rintro e w1 ⟨he, bb⟩
    rw [HS.out] at he
    subst he
    have F := Lib.hid (ansB (b := substOkB sg ss) (a := false) (by rw [subst_sig HS.out]) (next_trans bel bb))
    clear bb bel rA rS cS
    go_wp2
    go_ret
    exact F.out
  | true =>
    have HS := Lib.hid hsig
    clear hsig
    by_cases h24 : m ≤ 24
    · go_enter Try.func29, Try.ntmps29
      go_wp2_with fail
      rw [← HW.out]
      refine L.out.mono ?_
      rintro e w1 ⟨he, bb⟩
      rw [HS.out] at he
      subst he
      have H0 : HeadSO w A n c S m c' sg ss (.int .i64 0) w1 := ⟨0, Nat.zero_le _, rfl, fun j hj => absurd hj (Nat.not_lt_zero _), rA.next bb, rS.next bb, next_trans bel bb⟩
      have HH := Lib.hid H0
      have cS1 : w1.cell? ⟨w.heap.size + 1, 0, none⟩ = some (.slice S m c') := (rS.next bb).cell 0
      clear H0 bb bel rA rS cS L
      go_wp2_with fail
      go_loopw [5] (fun i wr => HeadSO w A n c S m c' sg ss i wr) (fun i _ => m - (intOf i).toNat)
      case atStart => exact HH.out
      case round =>
        obtain ⟨k, hk, rfl, hlow, r1, r2, hb⟩ := hrel
        have HLOW := Lib.hid hlow
        clear hlow HH cS1
        have cS : wr.cell? ⟨w.heap.size + 1, 0, none⟩ = some (.slice S m c') := r2.cell 0
        have cA : wr.cell? ⟨w.heap.size, 0, none⟩ = some (.slice A n c) := r1.cell 0
        by_cases hlt : k < m
        · obtain ⟨b, off, A', n', cc, rfl, hbB, hx, hseg, hcap⟩ := h'.spot hlt
          have hx1 : wr.cell? ⟨b, off + k, none⟩ = some (.slice A' n' cc) := (hb.cell (p := ⟨b, off + k, none⟩) hbB).trans hx
          have hn' : n' ≤ 1048576 := by rw [← hseg.1]; exact HT.out k
          have HG := Lib.hid hseg.1
          have i0 : (0 : Int) ≤ (k : Int) := by omega
          have i1 : (k : Int) < (m : Int) := by omega
          have hbr : b < wr.heap.size := Nat.lt_of_lt_of_le hbB hb.size
          have r1d := r1.drew
          have r2d := r2.drew
          have hbd := hb.drew
          by_cases hz : n' = 0
          · subst hz
            have S1 : ∀ d : Nat, HeadSO w A n c (some ⟨b, off, none⟩) m c' sg ss (.int .i64 ((k : Int) + 1)) (wr.drewN d) := fun d => headSO_step hlt HLOW.out (by unfold goodB; rw [HG.out]; rfl) (r1.drewN d) (r2.drewN d) (below_drewN hb d)
            have HS1 := Lib.hid S1
            clear S1 r1 r2 hb hx hseg hcap r1d r2d hbd h h'
            go_wp2_with fail
            go_quiet (fail)
            go_wp2
            go_roundw
            case rel => exact HS1.out _
            case measure => simp [intOf]; omega
          · have hpos : 0 < n' := by omega
            have i2 : (0 : Int) < (n' : Int) := by omega
            have LT := Lib.hid (specTermOk A A' n c n' cc sg (ss.getD k []) wr.drew ((h.next hb).drew) (((hseg.below hb).more hb.size).drew) hn hn')
            have hne1 := World.new_ne wr _ cS
            cases hok : termOkB sg (ss.getD k []) with
            | false =>
              have HO := Lib.hid hok
              clear hok hx hseg hcap h h' r1 r2 hb
              go_wp2_with fail
              go_region_held3 (fun w' => w'.cell? ⟨w.heap.size + 1, 0, none⟩ = some (.slice (some ⟨b, off, none⟩) m c') ∧ w'.cell? ⟨w.heap.size, 0, none⟩ = some (.slice A n c) ∧ w'.cell? ⟨b, off + k, none⟩ = some (.slice A' n' cc))
                (go_keep)
                (first
                  | (go_at_call 35; refine LT.out.mono ?_; rintro e w2 ⟨he, bb⟩; rw [HO.out] at he; subst he; have cA2 : w2.cell? ⟨w.heap.size, 0, none⟩ = some (.slice A n c) := (r1d.next bb).cell 0; have cS2 : w2.cell? ⟨w.heap.size + 1, 0, none⟩ = some (.slice (some ⟨b, off, none⟩) m c') := (r2d.next bb).cell 0; have cX2 : w2.cell? ⟨b, off + k, none⟩ = some (.slice A' n' cc) := (bb.cell (p := ⟨b, off + k, none⟩) hbr).trans hx1; have F := Lib.hid (ansB (b := substOkB sg ss) (a := false) (by rw [subst_bad (k := k) (by rw [HL.out]; exact hlt) (by unfold goodB; rw [HO.out, HG.out]; simp; omega)]) (next_trans hbd bb))))
              clear r1d r2d hbd LT cA2 cS2 cX2 hx1 cA cS
              go_wp2
              go_ret
              exact F.out
            | true =>
              have HO := Lib.hid hok
              clear hok hx hseg hcap h h' r1 r2 hb
              go_wp2_with fail
              go_region_held3 (fun w' => w'.cell? ⟨w.heap.size + 1, 0, none⟩ = some (.slice (some ⟨b, off, none⟩) m c') ∧ w'.cell? ⟨w.heap.size, 0, none⟩ = some (.slice A n c) ∧ w'.cell? ⟨b, off + k, none⟩ = some (.slice A' n' cc))
                (go_keep)
                (first
                  | (go_at_call 35; refine LT.out.mono ?_; rintro e w2 ⟨he, bb⟩; rw [HO.out] at he; subst he; have cA2 : w2.cell? ⟨w.heap.size, 0, none⟩ = some (.slice A n c) := (r1d.next bb).cell 0; have cS2 : w2.cell? ⟨w.heap.size + 1, 0, none⟩ = some (.slice (some ⟨b, off, none⟩) m c') := (r2d.next bb).cell 0; have cX2 : w2.cell? ⟨b, off + k, none⟩ = some (.slice A' n' cc) := (bb.cell (p := ⟨b, off + k, none⟩) hbr).trans hx1; have F := Lib.hid (headSO_step (sg := sg) (ss := ss) hlt HLOW.out (by unfold goodB; rw [HO.out, Bool.or_true]) (r1d.next bb) (r2d.next bb) (next_trans hbd bb))))
              clear r1d r2d hbd LT cA2 cS2 cX2 hx1 cA cS
              go_wp2
              go_roundw
              case rel => exact F.out
              case measure => simp [intOf]; omega
        · have F := Lib.hid (ansB (b := substOkB sg ss) (a := true) (by rw [subst_good HS.out (by rw [HL.out]; exact h24) (fun j hj => HLOW.out j (by rw [HL.out] at hj; omega))]) hb)
          clear r1 r2 hb h h'
          go_wp2
          go_ret
          exact F.out
    · have i1 : (24 : Int) < (m : Int) := by omega
      go_enter Try.func29, Try.ntmps29
      go_wp2_with fail
      rw [← HW.out]
      refine L.out.mono ?_
      rintro e w1 ⟨he, bb⟩
      rw [HS.out] at he
      subst he
      have cS1 : w1.cell? ⟨w.heap.size + 1, 0, none⟩ = some (.slice S m c') := (rS.next bb).cell 0
      have F := Lib.hid (ansB (b := substOkB sg ss) (a := false) (by rw [subst_long (by rw [HL.out]; exact h24)]) (next_trans bel bb))
      clear bb bel rA rS cS h h' L
      go_wp2
      go_ret
      exact F.out
end Go.Proofs.Ytdeegjeopkcomaa.substOk
end

section
/-
  CONTRACTS: impl.SubstOk, spec.l2Gives, impl.lookupIn and what it returns, impl.tooLong. Conditions: the slices read as lists ('Seg', 'Segs'), at most 1048576 values. By an AI agent.
-/
namespace Go.Proofs.Ytdeegjeopkcomaa.gives
open Go.RowKit Go.Proofs.Ytdeegjeopkcomaa.base Go.Proofs.Ytdeegjeopkcomaa.ints Go.Proofs.Ytdeegjeopkcomaa.sig Go.Proofs.Ytdeegjeopkcomaa.term Go.Proofs.Ytdeegjeopkcomaa.termOk Go.Proofs.Ytdeegjeopkcomaa.marks Go.Proofs.Ytdeegjeopkcomaa.app Go.Proofs.Ytdeegjeopkcomaa.sym Go.Proofs.Ytdeegjeopkcomaa.sub Go.Proofs.Ytdeegjeopkcomaa.segs Go.Proofs.Ytdeegjeopkcomaa.segsHelp Go.Proofs.Ytdeegjeopkcomaa.termFacts Go.Proofs.Ytdeegjeopkcomaa.varsMath Go.Proofs.Ytdeegjeopkcomaa.varsOf Go.Proofs.Ytdeegjeopkcomaa.fillMath Go.Proofs.Ytdeegjeopkcomaa.look Go.Proofs.Ytdeegjeopkcomaa.substOk
set_option maxRecDepth 100000

set_option maxHeartbeats 4000000 in
theorem implSubstOk (A S : Option Addr) (n c m c' : Nat) (sg : List Int) (ss : List (List Int)) (w : World) (h : Seg w w.heap.size A n sg) (h' : Segs w w.heap.size S m ss) (hn : n ≤ 1048576) (ht : tot ss ≤ 1048576) :
    Calls Try.prog 24 #[.agg #[.slice A n c], .agg #[.slice S m c']] w (AnsB w (substOkB sg ss)) := by
  obtain ⟨W, hW, rA, rS, bel⟩ := boxes2 w A n c S m c'
  have HW := Lib.hid hW
  have HL := Lib.hid h'.1
  have hm : m ≤ 1048576 := tot_len h'.1 ht
  have HT := Lib.hid (tot_each ht)
  have L := Lib.hid (implSigOk A n c sg W (h.next bel) hn)
  have cS : W.cell? ⟨w.heap.size + 1, 0, none⟩ = some (.slice S m c') := rS.cell 0
  clear hW ht
  cases hsig : sigOkB sg with
  | false =>
    have HS := Lib.hid hsig
    clear hsig h h'
    go_enter Try.func24, Try.ntmps24
    go_wp2_with fail
    rw [← HW.out]
    refine L.out.mono ?_
    rintro e w1 ⟨he, bb⟩
    rw [HS.out] at he
    subst he
    have F := Lib.hid (ansB (b := substOkB sg ss) (a := false) (by rw [subst_sig HS.out]) (next_trans bel bb))
    clear bb bel rA rS cS
    go_wp2
    go_ret
    exact F.out
  | true =>
    have HS := Lib.hid hsig
    clear hsig
    by_cases h24 : m ≤ 24
    · go_enter Try.func24, Try.ntmps24
      go_wp2_with fail
      rw [← HW.out]
      refine L.out.mono ?_
      rintro e w1 ⟨he, bb⟩
      rw [HS.out] at he
      subst he
      have H0 : HeadSO w A n c S m c' sg ss (.int .i64 0) w1 := ⟨0, Nat.zero_le _, rfl, fun j hj => absurd hj (Nat.not_lt_zero _), rA.next bb, rS.next bb, next_trans bel bb⟩
      have HH := Lib.hid H0
      have cS1 : w1.cell? ⟨w.heap.size + 1, 0, none⟩ = some (.slice S m c') := (rS.next bb).cell 0
      clear H0 bb bel rA rS cS L
      go_wp2_with fail
      go_loopw [19] (fun i wr => HeadSO w A n c S m c' sg ss i wr) (fun i _ => m - (intOf i).toNat)
      case atStart => exact HH.out
      case round =>
        obtain ⟨k, hk, rfl, hlow, r1, r2, hb⟩ := hrel
        have HLOW := Lib.hid hlow
        clear hlow HH cS1
        have cA : wr.cell? ⟨w.heap.size, 0, none⟩ = some (.slice A n c) := r1.cell 0
        by_cases hlt : k < m
        · obtain ⟨b, off, A', n', cc, rfl, hbB, hx, hseg, hcap⟩ := h'.spot hlt
          have hx1 : wr.cell? ⟨b, off + k, none⟩ = some (.slice A' n' cc) := (hb.cell (p := ⟨b, off + k, none⟩) hbB).trans hx
          have hn' : n' ≤ 1048576 := by rw [← hseg.1]; exact HT.out k
          have HG := Lib.hid hseg.1
          by_cases hz : n' = 0
          · subst hz
            have S1 : HeadSO w A n c (some ⟨b, off, none⟩) m c' sg ss (.int .i64 ((k : Int) + 1)) wr := headSO_step hlt HLOW.out (by unfold goodB; rw [HG.out]; rfl) r1 r2 hb
            have HS1 := Lib.hid S1
            clear S1 r1 r2 hb hx hseg hcap h h'
            go_wp2
            go_roundw
            case rel => exact HS1.out
            case measure => simp [intOf]; omega
          · have hpos : 0 < n' := by omega
            have LT := Lib.hid (implTermOk A A' n c n' cc sg (ss.getD k []) wr (h.next hb) ((hseg.below hb).more hb.size) hn hn')
            cases hok : termOkB sg (ss.getD k []) with
            | false =>
              have HO := Lib.hid hok
              clear hok hx hseg hcap h h'
              go_wp2_with fail
              refine LT.out.mono ?_
              rintro e w2 ⟨he, bb⟩
              rw [HO.out] at he
              subst he
              have F := Lib.hid (ansB (b := substOkB sg ss) (a := false) (by rw [subst_bad (k := k) (by rw [HL.out]; exact hlt) (by unfold goodB; rw [HO.out, HG.out]; simp; omega)]) (next_trans hb bb))
              clear r1 r2 hb LT hx1 cA bb
              go_wp2
              go_ret
              exact F.out
            | true =>
              have HO := Lib.hid hok
              clear hok hx hseg hcap h h'
              go_wp2_with fail
              refine LT.out.mono ?_
              rintro e w2 ⟨he, bb⟩
              rw [HO.out] at he
              subst he
              have F := Lib.hid (headSO_step (sg := sg) (ss := ss) hlt HLOW.out (by unfold goodB; rw [HO.out, Bool.or_true]) (r1.next bb) (r2.next bb) (next_trans hb bb))
              clear r1 r2 hb LT hx1 cA bb
              go_wp2
              go_roundw
              case rel => exact F.out
              case measure => simp [intOf]; omega
        · have F := Lib.hid (ansB (b := substOkB sg ss) (a := true) (by rw [subst_good HS.out (by rw [HL.out]; exact h24) (fun j hj => HLOW.out j (by rw [HL.out] at hj; omega))]) hb)
          clear r1 r2 hb h h'
          go_wp2
          go_ret
          exact F.out
    · have i1 : (24 : Int) < (m : Int) := by omega
      go_enter Try.func24, Try.ntmps24
      go_wp2_with fail
      rw [← HW.out]
      refine L.out.mono ?_
      rintro e w1 ⟨he, bb⟩
      rw [HS.out] at he
      subst he
      have cS1 : w1.cell? ⟨w.heap.size + 1, 0, none⟩ = some (.slice S m c') := (rS.next bb).cell 0
      have F := Lib.hid (ansB (b := substOkB sg ss) (a := false) (by rw [subst_long (by rw [HL.out]; exact h24)]) (next_trans bel bb))
      clear bb bel rA rS cS h h' L
      go_wp2
      go_ret
      exact F.out

/-! ### what a substitution gives for a variable -/
def givesL (ss : List (List Int)) (i : Nat) : List Int := if (ss.getD i []).length = 0 then vt i else ss.getD i []
theorem gives_var {ss : List (List Int)} {i : Nat} (h : (ss.getD i []).length = 0) : givesL ss i = vt i := by unfold givesL; rw [if_pos h]
theorem gives_term {ss : List (List Int)} {i : Nat} (h : ¬ (ss.getD i []).length = 0) : givesL ss i = ss.getD i [] := by unfold givesL; rw [if_neg h]
theorem gives_out {ss : List (List Int)} {i : Nat} (h : ¬ i < ss.length) : givesL ss i = vt i := gives_var (by simp [List.getD, h])
theorem gives_ok {sg : List Int} {ss : List (List Int)} (h : substOkB sg ss = true) {i : Nat} (hi : i < 24) : termOkB sg (givesL ss i) = true := by
  obtain ⟨h1, h2, h3⟩ := substOk_parts h
  by_cases hl : i < ss.length
  · have h4 := h3 i hl
    by_cases hz : (ss.getD i []).length = 0
    · rw [gives_var hz]; exact var_term h1 hi
    · rw [gives_term hz]
      unfold goodB at h4
      rw [decide_eq_false hz, Bool.false_or] at h4
      exact h4
  · rw [gives_out hl]; exact var_term h1 hi
theorem gives_len {sg : List Int} {ss : List (List Int)} (h : substOkB sg ss = true) (i : Nat) : (givesL ss i).length ≤ 60 := by
  by_cases hi : i < ss.length
  · have h2 := (substOk_parts h).2.1
    exact (term_len (gives_ok h (show i < 24 by omega))).2
  · rw [gives_out hi]; simp [vt]
theorem gives_pos (ss : List (List Int)) (i : Nat) : 1 ≤ (givesL ss i).length := by
  unfold givesL
  split
  · simp [vt]
  · omega

set_option maxHeartbeats 2000000 in
theorem l2Gives (S : Option Addr) (m c : Nat) (ss : List (List Int)) (i : Nat) (w : World) (h : Segs w w.heap.size S m ss) (ht : tot ss ≤ 1048576) (hi : i ≤ 1048576) :
    Calls Try.prog 75 #[.agg #[.slice S m c], .int .i64 (i : Int)] w (AnsList w (givesL ss i)) := by
  have hm : m ≤ 1048576 := tot_len h.1 ht
  have HT := Lib.hid (tot_each ht)
  have HL := Lib.hid h.1
  clear ht
  have bel : Below w.heap.size w (w.alloc (.cells #[.slice S m c] 29)) := (Below.refl _ _).alloc (Nat.le_refl _) _
  have i0 : (0 : Int) ≤ (i : Int) := by omega
  have var : ∀ (hv : givesL ss i = vt i), AnsList w (givesL ss i) (.returned (.slice (some ⟨w.heap.size + 1, 0, none⟩) 1 1)) ((w.alloc (.cells #[.slice S m c] 29)).alloc (.cells #[.int .i64 (-1 - (i : Int))] 2)) := fun hv => by
    refine ⟨_, 1, 1, rfl, ?_, bel.alloc (by simp) _⟩
    rw [hv]
    have := Own.of_row (base := w.heap.size) (n := 1) (c := 1) (xs := vt i) (Row.new (w.alloc (.cells #[.slice S m c] 29)) 2 #[.int .i64 (-1 - (i : Int))]) rfl rfl (Nat.le_refl _) (by omega) (by simp) (fun j hj => by
      have e : j = 0 := by omega
      subst e
      rfl)
    simpa using this
  have VAR := Lib.hid var
  clear var
  by_cases hlt : i < m
  · obtain ⟨b, off, A', n', cc, rfl, hbB, hx, hseg, hcap⟩ := h.spot hlt
    have hx1 : (w.alloc (.cells #[.slice (some ⟨b, off, none⟩) m c] 29)).cell? ⟨b, off + i, none⟩ = some (.slice A' n' cc) := (bel.cell (p := ⟨b, off + i, none⟩) hbB).trans hx
    by_cases hz : n' = 0
    · subst hz
      have F := Lib.hid (VAR.out (gives_var hseg.1))
      clear h hseg hcap hx bel VAR
      go_enter Try.func75, Try.ntmps75
      go_wp2
      go_ret
      exact F.out
    · have hpos : 0 < n' := by omega
      have E := Lib.hid (gives_term (ss := ss) (i := i) (by rw [hseg.1]; exact hz))
      have L := Lib.hid (copyInts A' n' cc _ _ ((hseg.below bel).more bel.size) hcap.2.2 (by rw [← hseg.1]; exact HT.out i))
      clear h hseg hcap hx VAR
      go_enter Try.func75, Try.ntmps75
      go_wp2_with fail
      refine L.out.mono ?_
      rintro e w1 ⟨D, dn, dc, rfl, o1, b1⟩
      have F : AnsList w (givesL ss i) (.returned (.slice D dn dc)) w1 := ⟨D, dn, dc, rfl, by rw [E.out]; exact Own.lower o1 bel.size, next_trans bel b1⟩
      have HF := Lib.hid F
      clear F o1 b1 bel L
      go_wp2
      go_ret
      exact HF.out
  · have hge : ¬ (i : Int) < (m : Int) := by omega
    have F := Lib.hid (VAR.out (gives_out (by rw [HL.out]; exact hlt)))
    clear h bel VAR
    go_enter Try.func75, Try.ntmps75
    go_wp2
    go_ret
    exact F.out

/-! ### impl's look-up in a substitution -/
theorem lookupIn (S : Option Addr) (m c : Nat) (w : World) :
    Calls Try.prog 64 #[.agg #[.slice S m c]] w fun e w' => e = .returned (.func (.func 105) #[] #[.pointer (some ⟨w.heap.size, 0, none⟩)]) ∧ w' = w.alloc (.cells #[.slice S m c] 29) := by
  have hmf : ∀ (fn : Fn) (first cap : Array Value) (w : World), (Instr.makeFunc fn first cap).run Try.prog w = .ok (.func fn first cap) w := fun _ _ _ _ => rfl
  go_enter Try.func64, Try.ntmps64
  go_wp2
  go_ret
  exact ⟨rfl, rfl⟩

set_option maxHeartbeats 2000000 in
theorem lookSubstC (B : Nat) (S : Option Addr) (m c : Nat) (ss : List (List Int)) (w : World) (hB : B < w.heap.size) (hc : w.cell? ⟨B, 0, none⟩ = some (.slice S m c)) (h : Segs w w.heap.size S m ss) (hm : m ≤ 1048576) :
    Looks 105 #[.pointer (some ⟨B, 0, none⟩)] w (givesL ss) 24 := by
  intro W i hb hi
  have cB : W.cell? ⟨B, 0, none⟩ = some (.slice S m c) := (hb.cell (p := ⟨B, 0, none⟩) hB).trans hc
  have h1 := h.below hb
  have HL := Lib.hid h.1
  have i0 : (0 : Int) ≤ (i : Int) := by omega
  have LV := Lib.hid (varTerm (i : Int) W (by omega) (by omega))
  have hws := hb.size
  clear hB hc h hb
  show Calls Try.prog 105 #[.int .i64 (i : Int), .pointer (some ⟨B, 0, none⟩)] W _
  by_cases hlt : i < m
  · obtain ⟨b, off, A', n', cc, rfl, hbB, hx, hseg0, hcap⟩ := h1.spot hlt
    have hseg := hseg0.more hws
    by_cases hz : n' = 0
    · subst hz
      have E := Lib.hid (gives_var (ss := ss) (i := i) hseg.1)
      clear h1 hseg hseg0 hcap
      go_enter Try.func105, Try.ntmps105
      go_wp2_with fail
      refine LV.out.mono ?_
      rintro e w1 ⟨D, dn, dc, rfl, o1, b1⟩
      have F : AnsLook w.heap.size W (givesL ss i) (.returned (.slice D dn dc)) w1 := by rw [E.out]; exact look_new o1 b1
      have HF := Lib.hid F
      clear F o1 b1 LV
      go_wp2
      go_ret
      exact HF.out
    · have hpos : 0 < n' := by omega
      have F : AnsLook w.heap.size W (givesL ss i) (.returned (.slice A' n' cc)) W := ⟨A', n', cc, rfl, by rw [gives_term (by rw [hseg.1]; exact hz)]; exact hseg, hcap, fun k hk => .inl (by obtain ⟨b2, off2, e2, hb2, _⟩ := hseg0.2 hpos; rw [e2] at hk; have : b2 = k := Option.some.inj hk; omega), Below.refl _ _⟩
      have HF := Lib.hid F
      clear F h1 hseg hseg0 hcap LV
      go_enter Try.func105, Try.ntmps105
      go_wp2
      go_ret
      exact HF.out
  · have hge : ¬ (i : Int) < (m : Int) := by omega
    have E := Lib.hid (gives_out (ss := ss) (i := i) (by rw [HL.out]; exact hlt))
    clear h1
    go_enter Try.func105, Try.ntmps105
    go_wp2_with fail
    refine LV.out.mono ?_
    rintro e w1 ⟨D, dn, dc, rfl, o1, b1⟩
    have F : AnsLook w.heap.size W (givesL ss i) (.returned (.slice D dn dc)) w1 := by rw [E.out]; exact look_new o1 b1
    have HF := Lib.hid F
    clear F o1 b1 LV
    go_wp2
    go_ret
    exact HF.out

theorem lookSubst (B : Nat) (S : Option Addr) (m c : Nat) (ss : List (List Int)) (w : World) (hr : Row w B 29 #[.slice S m c]) (h : Segs w w.heap.size S m ss) (hm : m ≤ 1048576) :
    Looks 105 #[.pointer (some ⟨B, 0, none⟩)] w (givesL ss) 24 := lookSubstC B S m c ss w hr.lt (hr.cell 0) h hm

theorem tooLong (A : Option Addr) (n c : Nat) (w : World) (hn : n ≤ 9223372036854775807) :
    Calls Try.prog 66 #[.slice A n c] w fun e w' => w = w' ∧ e = .returned (.bool (decide (60 < n))) := by
  have E : decide ((60 : Int) < (n : Int)) = decide (60 < n) := decide_eq_decide.2 (by omega)
  rw [← E]
  have HE := Lib.hid E
  clear E
  generalize hz : decide ((60 : Int) < (n : Int)) = z
  have HZ := Lib.hid hz
  clear hz
  go_enter Try.func66, Try.ntmps66
  go_wp2
  go_ret
  exact ⟨rfl, by rw [← HZ.out]; rfl⟩
end Go.Proofs.Ytdeegjeopkcomaa.gives
end
