/-
  MERGED: my texts FindSpecB, ReachAdd, FindAt, PickOwn, ShelfR, one behind the other, as they are. By an AI agent.
-/
import Derived.Test.YtblhmplpcdcejaaMFnExactWalkTo5
import Derived.Shelf.SlGeneric
import Derived.Ground.SlgnProg
import Derived.Shelf.SlicesQ.Reverse
import Derived.Test.YtblhmplpcdcejaaProg
namespace Go.Proofs.Ytblhmplpcdcejaa
section
open Go.Lib (hid)
open List (setIfInBounds_toArray set_cons_zero set_cons_succ getElem_toArray getElem_cons_zero getElem_cons_succ)
namespace findSpec
open Go.RowKit base ints sig term termOk termFacts marks app sub varsOf appAt sym segs segsHelp kinds same shifted shape kindsR kindsW ruleMath ruleSpec stepMath stepSpec ownL drawX walkMath stepsMath reachMath findW heldT
set_option maxRecDepth 100000
def AnsFd (w : World) (S : Fs) (e : Ending) (w' : World) : Prop := ∃ T tn tc P pn pc Y yn yc E en ec, e = .returned (.agg #[.slice T tn tc, .slice P pn pc, .slice Y yn yc, .slice E en ec, .bool S.2]) ∧ Rd w' w'.heap.size sFound [.slice T tn tc, .slice P pn pc, .slice Y yn yc, .slice E en ec, .bool S.2] (fdD S) ∧ Below w.heap.size w w'
theorem ansFd {w w' : World} {S : Fs} {lo B g1 n1 c1 g2 n2 c2 g3 n3 c3 g4 n4 c4 : Nat} {fl : Bool} (h : Fo w' lo B g1 n1 c1 g2 n2 c2 g3 n3 c3 g4 n4 c4 (termsF S.1) (fromD S.1) (byD S.1) (deepD S.1) fl) (hf : fl = S.2) (hb : Below w.heap.size w w') :
  AnsFd w S (.returned (.agg #[.slice (some ⟨g1, 0, none⟩) n1 c1, .slice (some ⟨g2, 0, none⟩) n2 c2, .slice (some ⟨g3, 0, none⟩) n3 c3, .slice (some ⟨g4, 0, none⟩) n4 c4, .bool fl])) w' := by
 subst hf
 exact ⟨_, _, _, _, _, _, _, _, _, _, _, _, rfl, ⟨[_], [_, _, _, _], rfl, h.x1.rd, [_], [_, _, _], rfl, h.x2.rd, [_], [_, _], rfl, h.x3.rd, [_], [_], rfl, h.x4.rd, rfl⟩, hb⟩
theorem right_ok2 {sg : List Int} {rs : List Rl} {t : List Int} (h : rightB sg rs t = true) : sysOkB sg rs = true ∧ termOkB sg t = true := by unfold rightB at h; rw [Bool.and_eq_true] at h; exact h
theorem small_terms {sg : List Int} {rs : List Rl} {t : List Int} {n i : Nat} {S : Fs} (hok : rightB sg rs t = true) (h : Inv sg rs t n S i) : ∀ k, ((termsF S.1).getD k []).length ≤ 1048576 := fun k => by
 obtain ⟨h1, h2⟩ := right_ok2 hok
 by_cases hk : k < S.1.length
 ·have e : S.1[k]? = some S.1[k] := List.getElem?_eq_getElem hk
  rw [term_get e]
  have := (term_len (find_ok h1 h2 h (List.mem_of_getElem? e))).2
  omega
 ·have : (termsF S.1).getD k [] = [] := by unfold termsF; simp [List.getD, List.getElem?_eq_none (show S.1.length ≤ k by omega)]
  rw [this]; simp
theorem cell_far {w w' : World} {g : Nat} (hg : w.grownBy w' (some g)) {p : Addr} (hp : p.block < w.heap.size) (hne : p.block ≠ g) : w'.cell? p = w.cell? p := World.cell?_of_block (hg.block _ hp (fun e => hne (by injection e)))
theorem info_num : (Try.prog.info? 2).map (fun i => (i.zero, i.size, i.bytes)) = some (some (.int .i64 0), 1, 8) := by kernel_rfl
theorem step_spot {w : World} {bad : Nat → Prop} {b off n c k : Nat} {L : List St} (h : RdQ w (NotIn w bad) sStepS [.slice (some ⟨b, off, none⟩) n c] L) (hk : k < n) : NotIn w bad b := by
 obtain ⟨b', off', _, _, _, e, hb, _⟩ := rdq_step h hk
 injection e with e
 injection e with e1 e2
 rw [e1]; exact hb
theorem inner_facts {sg : List Int} {rs : List Rl} {t : List Int} {n i : Nat} {f : Fi} (hok : rightB sg rs t = true) (hf : (fdN sg rs t n i).1[i]? = some f) (hne : f.2.2 ≠ n) (hi : i < 60) : ∃ FK : Nat → Fs, FK 0 = fdN sg rs t n i ∧ (∀ k, k < (stepsL sg rs (termF f)).length → FK (k + 1) = addF i (f.2.2 + 1) (FK k) ((stepsL sg rs (termF f)).getD k (0, 0, []))) ∧ (∀ k, Inv sg rs t n (FK k) i ∧ (FK k).1[i]? = some f) ∧ FK (stepsL sg rs (termF f)).length = fdN sg rs t n (i + 1) ∧ (∀ k, (FK k).2 = false → fdA sg rs t n = FK k) ∧
  (∀ k, k < (stepsL sg rs (termF f)).length → ((stepsL sg rs (termF f)).getD k (0, 0, [])).2.2.length ≤ 60) ∧ (f.2.2 : Int) ≤ 20 + n := by
 obtain ⟨q1, q2⟩ := right_ok2 hok
 have I0 := inv_fd (sg := sg) (rs := rs) (t := t) (n := n) i
 refine ⟨fun k => ((stepsL sg rs (termF f)).take k).foldl (addF i (f.2.2 + 1)) (fdN sg rs t n i), rfl, fun k hk => fold_take hk, fun k => inv_fold hne _ _ I0 hf fun x hx => List.mem_of_mem_take hx, ?_, fun k hk => ?_, fun k hk => ?_, ?_⟩
 ·dsimp only
  rw [List.take_of_length_le (Nat.le_refl _), fd_step hf hne]
 ·have e : fdN sg rs t n (i + 1) = ((stepsL sg rs (termF f)).take k).foldl (addF i (f.2.2 + 1)) (fdN sg rs t n i) := by
   rw [fd_step hf hne, ← List.take_append_drop k (stepsL sg rs (termF f)), List.foldl_append, List.take_append_drop]
   exact fold_off hk
  dsimp only
  rw [← e]
  exact fd_end hi (.inr (.inl (by rw [e]; exact hk)))
 ·have hx : (stepsL sg rs (termF f)).getD k (0, 0, []) ∈ stepsL sg rs (termF f) := by
   rw [List.getD_eq_getElem?_getD, List.getElem?_eq_getElem hk]
   exact List.getElem_mem hk
  exact (term_len (stepAt_ok (steps_at q1 (find_ok q1 q2 I0 (List.mem_of_getElem? hf)) hx))).2
 ·have := I0.dn f (List.mem_of_getElem? hf)
  omega
set_option maxHeartbeats 16000000 in
theorem l9Find (a v u : Value) (d : Dat sSystem) (t : List Int) (n : Nat) (w : World) (h : Rd w w.heap.size sSystem [a, v] d) (ht : Rd w w.heap.size sI [u] t) (hz : sz sSystem d ≤ 1048576) (hok : rightB d.1 d.2 t = true) (hn : n ≤ 20) :
  Calls Try.prog 50 #[.agg #[a, v], u, .int .i64 (n : Int)] w (AnsFd w (fdA d.1 d.2 t n)) := by
 obtain ⟨Fd, hFd⟩ : ∃ F, fdA d.1 d.2 t n = F := ⟨_, rfl⟩
 rw [hFd]
 have HFd := hid (show fdA d.1 d.2 t n = Fd ∧ True from ⟨hFd, trivial⟩)
 clear hFd
 obtain ⟨U0, m, c, rfl, hT, hcT⟩ := rd_ints.1 ht
 have hm60 : m ≤ 60 := by have := (term_len (right_ok2 hok).2).2; have := hT.1; omega
 have HH := hid (show Rd w w.heap.size sSystem [a, v] d ∧ sz sSystem d ≤ 1048576 ∧ rightB d.1 d.2 t = true from ⟨h, hz, hok⟩)
 obtain ⟨W, hW, rA, rR, bel⟩ := box2 w 34 79 #[a, v] #[.slice none 0 0, .slice none 0 0, .slice none 0 0, .slice none 0 0, .bool false]
 have hWs : w.heap.size + 1 + 1 ≤ W.heap.size := by rw [hW]; simp
 have LC := hid (copyInts U0 m c t W (hT.next bel) hcT.2.2 (by omega))
 have HW := hid hW
 clear hW h ht hz hok hT hcT
 go_enter Try.func50, Try.ntmps50
 go_wp2_with fail
 rw [← HW.out]
 refine LC.out.mono ?_
 rintro e w1 ⟨X, xn, xc, rfl, oX, bb⟩
 have H0 := hid (fo_start (rA.next bb) (rR.next bb) (Nat.le_trans hWs bb.size) (next_trans bel bb) (Own.lower oX hWs))
 clear oX bb bel rA rR LC HW hWs
 go_wp2_with fail
 obtain ⟨B, hB⟩ : ∃ B, w1.heap.size + 1 + 1 + 1 + 1 = B := ⟨_, rfl⟩
 rw [hB] at H0 ⊢
 clear hB
 go_loopg [8] 60 (fun G i_ wr => ∃ (i N g1 c1 g2 c2 g3 c3 g4 c4 : Nat), i_ = .int .i64 i ∧ i + G = 60 ∧ i ≤ N ∧ (fdN d.1 d.2 t n i).1.length = N ∧ (fdN d.1 d.2 t n i).2 = true ∧ SF w a v B g1 N c1 g2 N c2 g3 N c3 g4 N c4 (termsF (fdN d.1 d.2 t n i).1) (fromD (fdN d.1 d.2 t n i).1) (byD (fdN d.1 d.2 t n i).1) (deepD (fdN d.1 d.2 t n i).1) wr)
 case atStart => exact ⟨0, 1, _, _, _, _, _, _, _, _, rfl, rfl, Nat.zero_le _, rfl, rfl, H0.out⟩
 case round =>
  clear H0
  obtain ⟨i, N, g1, c1, g2, c2, g3, c3, g4, c4, rfl, hiG, hiN, hlen, hall, S⟩ := hrel
  obtain ⟨G, hG⟩ : ∃ G, G = gk := ⟨_, rfl⟩
  subst hG
  have INV := hid (inv_fd (sg := d.1) (rs := d.2) (t := t) (n := n) i)
  have hN60 : N ≤ 60 := by rw [← hlen]; exact INV.out.len60
  have kB0 : wr.cell? ⟨B, 0, none⟩ = some (.slice (some ⟨g1, 0, none⟩) N c1) := S.fo.row.cell 0
  have kB1 : wr.cell? ⟨B, 1, none⟩ = some (.slice (some ⟨g2, 0, none⟩) N c2) := S.fo.row.cell 1
  have kB2 : wr.cell? ⟨B, 2, none⟩ = some (.slice (some ⟨g3, 0, none⟩) N c3) := S.fo.row.cell 2
  have kB3 : wr.cell? ⟨B, 3, none⟩ = some (.slice (some ⟨g4, 0, none⟩) N c4) := S.fo.row.cell 3
  have kB4 : wr.cell? ⟨B, 4, none⟩ = some (.bool true) := S.fo.row.cell 4
  have HL := hid (show (fdN d.1 d.2 t n i).1.length = N ∧ (fdN d.1 d.2 t n i).2 = true ∧ i + G = 60 from ⟨hlen, hall, hiG⟩)
  by_cases hi : i < N
  ·obtain ⟨f, hf⟩ : ∃ f, (fdN d.1 d.2 t n i).1[i]? = some f := ⟨_, List.getElem?_eq_getElem (by rw [hlen]; exact hi)⟩
   have kD : wr.cell? ⟨g4, i, none⟩ = some (.int .i64 (f.2.2 : Int)) := by have := XS.num S.fo.x4 hi; rw [deep_get hf] at this; exact this
   obtain ⟨dp, hdp⟩ : ∃ dp, f.2.2 = dp := ⟨_, rfl⟩
   rw [hdp] at kD
   have HF := hid (show (fdN d.1 d.2 t n i).1[i]? = some f ∧ f.2.2 = dp from ⟨hf, hdp⟩)
   have hdp20 : dp ≤ 20 := by have := INV.out.dn f (List.mem_of_getElem? hf); omega
   have i0 : (0 : Int) ≤ (i : Int) := by omega
   have i1 : (i : Int) < (N : Int) := by omega
   clear hlen hall hiG hf hdp
   by_cases hd : dp = n
   ·subst hd
    have F := hid (show SF w a v B g1 N c1 g2 N c2 g3 N c3 g4 N c4 (termsF (fdN d.1 d.2 t dp (i + 1)).1) (fromD (fdN d.1 d.2 t dp (i + 1)).1) (byD (fdN d.1 d.2 t dp (i + 1)).1) (deepD (fdN d.1 d.2 t dp (i + 1)).1) wr ∧ (fdN d.1 d.2 t dp (i + 1)).1.length = N ∧ (fdN d.1 d.2 t dp (i + 1)).2 = true from by rw [fd_skip HF.out.1 HF.out.2]; exact ⟨S, HL.out.1, HL.out.2.1⟩)
    clear S
    go_wp2
    go_roundg (G - 1)
    case measure => have := HL.out; omega
    case rel => exact ⟨i + 1, N, g1, c1, g2, c2, g3, c3, g4, c4, by simp, by have := HL.out; omega, by omega, F.out.2.1, F.out.2.2, F.out.1⟩
   ·have HD := hid hd
    have hd1 : ¬ (dp : Int) = (n : Int) := by omega
    obtain ⟨T, tn, tc, k3, sT, hcT⟩ := XS.term S.fo.x1 hi
    rw [term_get HF.out.1] at sT
    have zs : w.heap.size < wr.drew.heap.size := S.sys.lt
    have zB : B < wr.drew.heap.size := S.fo.row.lt
    have zg : g1 < wr.drew.heap.size := S.fo.x1.ge.2
    have k0 : wr.cell? ⟨w.heap.size, 0, none⟩ = some a := S.sys.cell 0
    have k1 : wr.cell? ⟨w.heap.size, 1, none⟩ = some v := S.sys.cell 1
    have k2 := kB0
    have hokf : rightB d.1 d.2 (termF f) = true := by obtain ⟨q1, q2⟩ := right_ok2 HH.out.2.2; unfold rightB; rw [q1, find_ok q1 q2 INV.out (List.mem_of_getElem? HF.out.1)]; rfl
    have LST := hid (l7Steps a v (.slice T tn tc) d (termF f) wr.drew (HH.out.1.next (next_trans S.bel (drew_below wr))) (rd_ints.2 ⟨T, tn, tc, rfl, sT.drew, hcT⟩) HH.out.2.1 hokf)
    have SD := hid S.drew
    have HOKF := hid hokf
    obtain ⟨FK, hFK⟩ := inner_facts HH.out.2.2 HF.out.1 (by rw [HF.out.2]; exact HD.out) (by omega)
    have HFK := hid hFK
    clear hFK
    clear sT hcT S hokf
    go_upto_region 6 with fail
    refine AnyT.start (S := (fun w' => w'.cell? ⟨w.heap.size, 0, none⟩ = some a ∧ w'.cell? ⟨w.heap.size, 1, none⟩ = some v ∧ w'.cell? ⟨B, 0, none⟩ = some (.slice (some ⟨g1, 0, none⟩) N c1) ∧ w'.cell? ⟨g1, i, none⟩ = some (.slice T tn tc))) (fun _ => false) (by kernel_rfl) ⟨k0, k1, k2, k3⟩ (fun hHeld => ?_)
    refine AnyT.take (i := 0) (v := ?_) rfl (by kernel_rfl) (by kernel_rfl) (by kernel_rfl) (by kernel_rfl) (fun _ _ _ h => h) (Or.inl ⟨by rfl, ?_⟩) (by assumption) ?_
    rotate_left 1
    ·(intro w0 hSw; (try dsimp only at hSw); go_simp; try with_reducible rfl)
    try simp only [Act.put, setIfInBounds_toArray, set_cons_zero, set_cons_succ, getElem_toArray, getElem_cons_zero, getElem_cons_succ]
    refine AnyT.takeA (i := 1) (v := ?_) rfl (by kernel_rfl) (by kernel_rfl) (by kernel_rfl) (fun _ _ _ h => h) (Or.inl ⟨by rfl, ?_⟩) ?_
    rotate_left 1
    ·(intro w0 _; go_simp; try with_reducible rfl)
    try simp only [Act.put, setIfInBounds_toArray, set_cons_zero, set_cons_succ, getElem_toArray, getElem_cons_zero, getElem_cons_succ]
    refine AnyT.take (i := 2) (v := ?_) rfl (by kernel_rfl) (by kernel_rfl) (by kernel_rfl) (by kernel_rfl) (fun _ _ _ h => h) (Or.inl ⟨by rfl, ?_⟩) (by assumption) ?_
    rotate_left 1
    ·(intro w0 hSw; (try dsimp only at hSw); go_simp; try with_reducible rfl)
    try simp only [Act.put, setIfInBounds_toArray, set_cons_zero, set_cons_succ, getElem_toArray, getElem_cons_zero, getElem_cons_succ]
    refine AnyT.takeA (i := 3) (v := ?_) rfl (by kernel_rfl) (by kernel_rfl) (by kernel_rfl) (fun _ _ _ h => h) (Or.inl ⟨by rfl, ?_⟩) ?_
    rotate_left 1
    ·(intro w0 _; go_simp; try with_reducible rfl)
    try simp only [Act.put, setIfInBounds_toArray, set_cons_zero, set_cons_succ, getElem_toArray, getElem_cons_zero, getElem_cons_succ]
    refine AnyT.takeA (i := 4) (v := ?_) rfl (by kernel_rfl) (by kernel_rfl) (by kernel_rfl) (fun _ _ _ h => h) (Or.inl ⟨by rfl, ?_⟩) ?_
    rotate_left 1
    ·(intro w0 _; go_simp; try with_reducible rfl)
    try simp only [Act.put, setIfInBounds_toArray, set_cons_zero, set_cons_succ, getElem_toArray, getElem_cons_zero, getElem_cons_succ]
    refine AnyT.take (i := 5) (v := ?_) rfl (by kernel_rfl) (by kernel_rfl) (by kernel_rfl) (by kernel_rfl) (fun _ _ _ h => h) (Or.inl ⟨by rfl, ?_⟩) (by assumption) ?_
    rotate_left 1
    ·(intro w0 hSw; (try dsimp only at hSw); go_simp; try with_reducible rfl)
    try simp only [Act.put, setIfInBounds_toArray, set_cons_zero, set_cons_succ, getElem_toArray, getElem_cons_zero, getElem_cons_succ]
    refine AnyT.call (i := 6) (by kernel_rfl) rfl (fun K hK => ?_)
    try simp only [Act.put, setIfInBounds_toArray, set_cons_zero, set_cons_succ, getElem_toArray, getElem_cons_zero, getElem_cons_succ]
    rw [if_pos (by rfl)]
    go_simp
    (go_at_call 77; refine LST.out.mono ?_; rintro e w2 ⟨LA, ln, lc, rfl, oL, bb⟩; have d0 : w2.cell? ⟨w.heap.size, 0, none⟩ = some a := (bb.cell (p := ⟨w.heap.size, 0, none⟩) zs).trans k0; have d1 : w2.cell? ⟨w.heap.size, 1, none⟩ = some v := (bb.cell (p := ⟨w.heap.size, 1, none⟩) zs).trans k1; have d2 : w2.cell? ⟨B, 0, none⟩ = some (.slice (some ⟨g1, 0, none⟩) N c1) := (bb.cell (p := ⟨B, 0, none⟩) zB).trans k2; have d3 : w2.cell? ⟨g1, i, none⟩ = some (.slice T tn tc) := (bb.cell (p := ⟨g1, i, none⟩) zg).trans k3; go_wp2_with fail)
    refine hK.out _ _ (fun _ _ => ?_) (fun hKeep => ?_)
    ·exact ⟨d0, d1, d2, d3⟩
    replace hHeld := hKeep (by first | rfl | trivial) hHeld
    clear hK K hKeep
    try simp only [Act.put, setIfInBounds_toArray, set_cons_zero, set_cons_succ, getElem_toArray, getElem_cons_zero, getElem_cons_succ]
    refine AnyT.takeA (i := 7) (v := ?_) rfl (by kernel_rfl) (by kernel_rfl) (by kernel_rfl) (fun _ _ _ h => h) (Or.inl ⟨by rfl, ?_⟩) ?_
    rotate_left 1
    ·(intro w0 _; go_simp; try with_reducible rfl)
    try simp only [Act.put, setIfInBounds_toArray, set_cons_zero, set_cons_succ, getElem_toArray, getElem_cons_zero, getElem_cons_succ]
    refine AnyT.done (by kernel_rfl) ?_ _
    have S2 := SD.out.below bb
    have hQ := notIn_owned (bad := bad5 (w.heap.size + 1 + 1) B g1 g2 g3 g4) oL.owned (fun k h1 h2 q => by have := bad_lt SD.out.fo q; omega)
    have HS := hid (show SF w a v B g1 N c1 g2 N c2 g3 N c3 g4 N c4 (termsF (fdN d.1 d.2 t n i).1) (fromD (fdN d.1 d.2 t n i).1) (byD (fdN d.1 d.2 t n i).1) (deepD (fdN d.1 d.2 t n i).1) w2 ∧ RdQ w2 (NotIn w2 (bad5 (w.heap.size + 1 + 1) B g1 g2 g3 g4)) sStepS [.slice LA ln lc] (stepsL d.1 d.2 (termF f)) from ⟨S2, hQ⟩)
    have HLN := hid oL.1
    have hln : ln ≤ 1048576 := by
     rw [← oL.1]
     have h1 := stepsMath.st_len (sg := d.1) (rs := d.2) (t := termF f) (i := (termF f).length) (k := 0)
     rw [stepsMath.st_all] at h1
     have h2 := (term_len (right_ok2 HOKF.out).2).2
     have h3 := (sys_parts (right_ok2 HOKF.out).1).2.1
     have h4 : (termF f).length * List.length d.2 ≤ 60 * 12 := Nat.mul_le_mul h2 h3
     omega
    clear oL bb S2 hQ SD LST d0 d1 d2 d3 k0 k1 k2 k3 kB0 kB1 kB2 kB3 kB4 kD zs zB zg
    go_wp2_with fail
    go_loopg [10] ln (fun g k_ wr => ∃ (k N g1 c1 g2 c2 g3 c3 g4 c4 : Nat), k_ = .int .i64 k ∧ k + g = ln ∧ (FK k).1.length = N ∧ (FK k).2 = true ∧ SF w a v B g1 N c1 g2 N c2 g3 N c3 g4 N c4 (termsF (FK k).1) (fromD (FK k).1) (byD (FK k).1) (deepD (FK k).1) wr ∧ RdQ wr (NotIn wr (bad5 (w.heap.size + 1 + 1) B g1 g2 g3 g4)) sStepS [.slice LA ln lc] (stepsL d.1 d.2 (termF f)))
    case atStart => exact ⟨0, N, g1, c1, g2, c2, g3, c3, g4, c4, rfl, by omega, by rw [HFK.out.1]; exact HL.out.1, by rw [HFK.out.1]; exact HL.out.2.1, by rw [HFK.out.1]; exact HS.out.1, HS.out.2⟩
    case round =>
     clear HS hi i0 i1 hN60 hiN
     have HL := hid HL.out.2.2
     obtain ⟨k, N, g1, c1, g2, c2, g3, c3, g4, c4, rfl, hkg, hlen, hall, S, hQ⟩ := hrel
     have INV2 := hid (HFK.out.2.2.1 k)
     have hN60 : N ≤ 60 := by rw [← hlen]; exact INV2.out.1.len60
     have hN20 : N ≤ 1048576 := by omega
     have hiN : i < N := by rw [← hlen]; exact (List.getElem?_eq_some_iff.1 INV2.out.2).1
     have hkl : k ≤ ln := by omega
     have HK := hid (show k + gk = ln ∧ (FK k).1.length = N ∧ (FK k).2 = true from ⟨hkg, hlen, hall⟩)
     clear hkg hlen hall
     by_cases hk : k < ln
     ·obtain ⟨b, off, U, un, uc, rfl, hb, e0, e1, e2, hU, hX⟩ := rdq_step hQ hk
      obtain ⟨x, hx⟩ : ∃ x, (stepsL d.1 d.2 (termF f)).getD k (0, 0, []) = x := ⟨_, rfl⟩
      rw [hx] at e0 e1 hU hX
      have hx60 : x.2.2.length ≤ 60 := by rw [← hx]; exact HFK.out.2.2.2.2.2.1 k (by rw [HLN.out]; exact hk)
      have HADD := hid (show FK (k + 1) = addF i (dp + 1) (FK k) x from by rw [← hx, ← HF.out.2]; exact HFK.out.2.1 k (by rw [HLN.out]; exact hk))
      have hsU := rdq_seg0 (B := wr.heap.size) hU (fun _ h => h.1)
      have hun : un ≤ 60 := by rw [← hsU.1.1]; exact hx60
      have zB : B < wr.drew.heap.size := S.fo.row.lt
      have zb : b < wr.drew.heap.size := hb.1
      have k0 : wr.cell? ⟨B, 0, none⟩ = some (.slice (some ⟨g1, 0, none⟩) N c1) := S.fo.row.cell 0
      have LP := hid (termPlace (some ⟨g1, 0, none⟩) U N c1 un uc (termsF (FK k).1) x.2.2 wr.drew (S.drew.fo.x1.rd) (hsU.1.drew) hN20 (by omega) (small_terms HH.out.2.2 INV2.out.1))
      obtain ⟨pl, hpl⟩ : ∃ pl, plcI (plcO (termsF (FK k).1) x.2.2) = pl := ⟨_, rfl⟩
      have HP := hid hpl
      have HIN := hid (show 0 ≤ pl ↔ x.2.2 ∈ termsF (FK k).1 from by rw [← hpl]; exact plc_ge)
      have SD := hid (show SF w a v B g1 N c1 g2 N c2 g3 N c3 g4 N c4 (termsF (FK k).1) (fromD (FK k).1) (byD (FK k).1) (deepD (FK k).1) wr.drew ∧ RdQ wr.drew (NotIn wr.drew (bad5 (w.heap.size + 1 + 1) B g1 g2 g3 g4)) sStepS [.slice (some ⟨b, off, none⟩) ln lc] (stepsL d.1 d.2 (termF f)) ∧ RdQ wr.drew (NotIn wr.drew (bad5 (w.heap.size + 1 + 1) B g1 g2 g3 g4)) sI [.slice U un uc] x.2.2 ∧ RdQ wr.drew (NotIn wr.drew (bad5 (w.heap.size + 1 + 1) B g1 g2 g3 g4)) sStep [.int .i64 x.1, .int .i64 x.2.1, .slice U un uc] x from ⟨S.drew, notIn_below hQ (drew_below wr), notIn_below hU (drew_below wr), notIn_below hX (drew_below wr)⟩)
      have i0 : (0 : Int) ≤ (k : Int) := by omega
      have i1 : (k : Int) < (ln : Int) := by omega
      have zi0 : (0 : Int) ≤ (i : Int) := by omega
      have zi1 : (i : Int) < (N : Int) := by omega
      have E01 := hid (show wr.cell? ⟨b, off + k * 3, none⟩ = some (.int .i64 x.1) ∧ wr.cell? ⟨b, off + k * 3 + 1, none⟩ = some (.int .i64 x.2.1) from ⟨e0, e1⟩)
      clear hx hx60 hsU hb hU hX hQ S hpl e0 e1
      go_upto_region 10 with fail
      refine AnyT.start (S := (fun w' => w'.cell? ⟨B, 0, none⟩ = some (.slice (some ⟨g1, 0, none⟩) N c1) ∧ w'.cell? ⟨b, off + k * 3 + 2, none⟩ = some (.slice U un uc))) (fun _ => false) (by kernel_rfl) ⟨k0, e2⟩ (fun hHeld => ?_)
      refine AnyT.takeA (i := 0) (v := ?_) rfl (by kernel_rfl) (by kernel_rfl) (by kernel_rfl) (fun _ _ _ h => h) (Or.inl ⟨by rfl, ?_⟩) ?_
      rotate_left 1
      ·(intro w0 _; go_simp; try with_reducible rfl)
      try simp only [Act.put, setIfInBounds_toArray, set_cons_zero, set_cons_succ, getElem_toArray, getElem_cons_zero, getElem_cons_succ]
      refine AnyT.take (i := 1) (v := ?_) rfl (by kernel_rfl) (by kernel_rfl) (by kernel_rfl) (by kernel_rfl) (fun _ _ _ h => h) (Or.inl ⟨by rfl, ?_⟩) (by assumption) ?_
      rotate_left 1
      ·(intro w0 hSw; (try dsimp only at hSw); go_simp; try with_reducible rfl)
      try simp only [Act.put, setIfInBounds_toArray, set_cons_zero, set_cons_succ, getElem_toArray, getElem_cons_zero, getElem_cons_succ]
      refine AnyT.takeA (i := 2) (v := ?_) rfl (by kernel_rfl) (by kernel_rfl) (by kernel_rfl) (fun _ _ _ h => h) (Or.inl ⟨by rfl, ?_⟩) ?_
      rotate_left 1
      ·(intro w0 _; go_simp; try with_reducible rfl)
      try simp only [Act.put, setIfInBounds_toArray, set_cons_zero, set_cons_succ, getElem_toArray, getElem_cons_zero, getElem_cons_succ]
      refine AnyT.takeA (i := 3) (v := ?_) rfl (by kernel_rfl) (by kernel_rfl) (by kernel_rfl) (fun _ _ _ h => h) (Or.inl ⟨by rfl, ?_⟩) ?_
      rotate_left 1
      ·(intro w0 _; go_simp; try with_reducible rfl)
      try simp only [Act.put, setIfInBounds_toArray, set_cons_zero, set_cons_succ, getElem_toArray, getElem_cons_zero, getElem_cons_succ]
      refine AnyT.takeA (i := 4) (v := ?_) rfl (by kernel_rfl) (by kernel_rfl) (by kernel_rfl) (fun _ _ _ h => h) (Or.inl ⟨by rfl, ?_⟩) ?_
      rotate_left 1
      ·(intro w0 _; go_simp; try with_reducible rfl)
      try simp only [Act.put, setIfInBounds_toArray, set_cons_zero, set_cons_succ, getElem_toArray, getElem_cons_zero, getElem_cons_succ]
      refine AnyT.takeA (i := 5) (v := ?_) rfl (by kernel_rfl) (by kernel_rfl) (by kernel_rfl) (fun _ _ _ h => h) (Or.inl ⟨by rfl, ?_⟩) ?_
      rotate_left 1
      ·(intro w0 _; go_simp; try with_reducible rfl)
      try simp only [Act.put, setIfInBounds_toArray, set_cons_zero, set_cons_succ, getElem_toArray, getElem_cons_zero, getElem_cons_succ]
      refine AnyT.take (i := 6) (v := ?_) rfl (by kernel_rfl) (by kernel_rfl) (by kernel_rfl) (by kernel_rfl) (fun _ _ _ h => h) (Or.inl ⟨by rfl, ?_⟩) (by assumption) ?_
      rotate_left 1
      ·(intro w0 hSw; (try dsimp only at hSw); go_simp; try with_reducible rfl)
      try simp only [Act.put, setIfInBounds_toArray, set_cons_zero, set_cons_succ, getElem_toArray, getElem_cons_zero, getElem_cons_succ]
      refine AnyT.call (i := 7) (by kernel_rfl) rfl (fun K hK => ?_)
      try simp only [Act.put, setIfInBounds_toArray, set_cons_zero, set_cons_succ, getElem_toArray, getElem_cons_zero, getElem_cons_succ]
      rw [if_pos (by rfl)]
      go_simp
      (go_at_call 51; refine LP.out.mono ?_; rintro e w2 ⟨rfl, bb⟩; rw [HP.out]; have d0 : w2.cell? ⟨B, 0, none⟩ = some (.slice (some ⟨g1, 0, none⟩) N c1) := (bb.cell (p := ⟨B, 0, none⟩) zB).trans k0; have d1 : w2.cell? ⟨b, off + k * 3 + 2, none⟩ = some (.slice U un uc) := (bb.cell (p := ⟨b, off + k * 3 + 2, none⟩) zb).trans e2; go_wp2_with fail)
      refine hK.out _ _ (fun _ _ => ?_) (fun hKeep => ?_)
      ·exact ⟨d0, d1⟩
      replace hHeld := hKeep (by first | rfl | trivial) hHeld
      clear hK K hKeep
      try simp only [Act.put, setIfInBounds_toArray, set_cons_zero, set_cons_succ, getElem_toArray, getElem_cons_zero, getElem_cons_succ]
      refine AnyT.takeA (i := 8) (v := ?_) rfl (by kernel_rfl) (by kernel_rfl) (by kernel_rfl) (fun _ _ _ h => h) (Or.inl ⟨by rfl, ?_⟩) ?_
      rotate_left 1
      ·(intro w0 _; go_simp; try with_reducible rfl)
      try simp only [Act.put, setIfInBounds_toArray, set_cons_zero, set_cons_succ, getElem_toArray, getElem_cons_zero, getElem_cons_succ]
      refine AnyT.done (by kernel_rfl) ?_ _
      have S2 := SD.out.1.below bb
      have Q2 := hid (show RdQ w2 (NotIn w2 (bad5 (w.heap.size + 1 + 1) B g1 g2 g3 g4)) sStepS [.slice (some ⟨b, off, none⟩) ln lc] (stepsL d.1 d.2 (termF f)) ∧ RdQ w2 (NotIn w2 (bad5 (w.heap.size + 1 + 1) B g1 g2 g3 g4)) sI [.slice U un uc] x.2.2 ∧ RdQ w2 (NotIn w2 (bad5 (w.heap.size + 1 + 1) B g1 g2 g3 g4)) sStep [.int .i64 x.1, .int .i64 x.2.1, .slice U un uc] x from ⟨notIn_below SD.out.2.1 bb, notIn_below SD.out.2.2.1 bb, notIn_below SD.out.2.2.2 bb⟩)
      have E2 := hid (show w2.cell? ⟨b, off + k * 3, none⟩ = some (.int .i64 x.1) ∧ w2.cell? ⟨b, off + k * 3 + 1, none⟩ = some (.int .i64 x.2.1) ∧ w2.cell? ⟨b, off + k * 3 + 2, none⟩ = some (.slice U un uc) from ⟨(bb.cell (p := ⟨b, off + k * 3, none⟩) zb).trans E01.out.1, (bb.cell (p := ⟨b, off + k * 3 + 1, none⟩) zb).trans E01.out.2, d1⟩)
      clear SD bb LP d0 d1 k0 e2 zB zb E01
      by_cases hin : x.2.2 ∈ termsF (FK k).1
      ·have hp0 : 0 ≤ pl := HIN.out.2 hin
       have F := hid (show SF w a v B g1 N c1 g2 N c2 g3 N c3 g4 N c4 (termsF (FK (k + 1)).1) (fromD (FK (k + 1)).1) (byD (FK (k + 1)).1) (deepD (FK (k + 1)).1) w2 ∧ (FK (k + 1)).1.length = N ∧ (FK (k + 1)).2 = true from by
        have e : FK (k + 1) = FK k := by rw [HADD.out]; exact add_in hin
        rw [e]
        exact ⟨S2, HK.out.2.1, HK.out.2.2⟩)
       clear S2 hin E2
       go_wp2
       go_roundg (gk - 1)
       case measure => have := HK.out; omega
       case rel => exact ⟨k + 1, N, g1, c1, g2, c2, g3, c3, g4, c4, by simp, by have := HK.out; omega, F.out.2.1, F.out.2.2, F.out.1, Q2.out.1⟩
      ·have hp0 : ¬ 0 ≤ pl := fun h => hin (HIN.out.1 h)
       have k0 : w2.cell? ⟨B, 0, none⟩ = some (.slice (some ⟨g1, 0, none⟩) N c1) := S2.fo.row.cell 0
       have k1 : w2.cell? ⟨B, 1, none⟩ = some (.slice (some ⟨g2, 0, none⟩) N c2) := S2.fo.row.cell 1
       have k2 : w2.cell? ⟨B, 2, none⟩ = some (.slice (some ⟨g3, 0, none⟩) N c3) := S2.fo.row.cell 2
       have k3 : w2.cell? ⟨B, 3, none⟩ = some (.slice (some ⟨g4, 0, none⟩) N c4) := S2.fo.row.cell 3
       have k4 : w2.cell? ⟨B, 4, none⟩ = some (.bool true) := S2.fo.row.cell 4
       have f4 := S2.fo.row.free 4
       by_cases h60 : N = 60
       ·have FD := hid (show Fd = ((FK k).1, false) from by
         rw [← HFd.out.1]
         have e : FK (k + 1) = ((FK k).1, false) := by rw [HADD.out]; exact add_full HK.out.2.2 hin (by rw [HK.out.2.1]; exact h60)
         rw [← e]
         exact HFK.out.2.2.2.2.1 (k + 1) (congrArg Prod.snd e))
        have HS2 := hid S2
        have h60i : (N : Int) = 60 := by omega
        clear S2 Q2 E2 hin HIN HP k4 h60
        go_upto_region 12 with fail
        clear k0 k1 k2 k3
        have SFl := HS2.out.fo.flag false
        have RFl := Row.far (p := ⟨B, 4, none⟩) HS2.out.res (by have := HS2.out.far; show _ ≠ B; omega) (.bool false)
        have hqB : B ≠ w.heap.size + 1 := by have := HS2.out.far; omega
        have BFl := HS2.out.bel.setCell (p := ⟨B, 4, none⟩) (show w.heap.size ≤ B by have := HS2.out.far; omega) (.bool false)
        have k0 : (w2.setCell ⟨B, 4, none⟩ (.bool false)).cell? ⟨B, 0, none⟩ = some (.slice (some ⟨g1, 0, none⟩) N c1) := SFl.row.cell 0
        have k1 : (w2.setCell ⟨B, 4, none⟩ (.bool false)).cell? ⟨B, 1, none⟩ = some (.slice (some ⟨g2, 0, none⟩) N c2) := SFl.row.cell 1
        have k2 : (w2.setCell ⟨B, 4, none⟩ (.bool false)).cell? ⟨B, 2, none⟩ = some (.slice (some ⟨g3, 0, none⟩) N c3) := SFl.row.cell 2
        have k3 : (w2.setCell ⟨B, 4, none⟩ (.bool false)).cell? ⟨B, 3, none⟩ = some (.slice (some ⟨g4, 0, none⟩) N c4) := SFl.row.cell 3
        have k4 : (w2.setCell ⟨B, 4, none⟩ (.bool false)).cell? ⟨B, 4, none⟩ = some (.bool false) := SFl.row.cell 4
        have k5 : w2.cell? ⟨B, 4, none⟩ = some (.bool true) := HS2.out.fo.row.cell 4
        have ya0 : (w2.setCell ⟨B, 4, none⟩ (.bool false)).cell? ⟨w.heap.size + 1, 0, none⟩ = some (.slice none 0 0) := RFl.cell 0
        have ga0 := RFl.free 0
        have ya1 : (w2.setCell ⟨B, 4, none⟩ (.bool false)).cell? ⟨w.heap.size + 1, 1, none⟩ = some (.slice none 0 0) := RFl.cell 1
        have ga1 := RFl.free 1
        have ya2 : (w2.setCell ⟨B, 4, none⟩ (.bool false)).cell? ⟨w.heap.size + 1, 2, none⟩ = some (.slice none 0 0) := RFl.cell 2
        have ga2 := RFl.free 2
        have ya3 : (w2.setCell ⟨B, 4, none⟩ (.bool false)).cell? ⟨w.heap.size + 1, 3, none⟩ = some (.slice none 0 0) := RFl.cell 3
        have ga3 := RFl.free 3
        have ya4 : (w2.setCell ⟨B, 4, none⟩ (.bool false)).cell? ⟨w.heap.size + 1, 4, none⟩ = some (.bool false) := RFl.cell 4
        have ga4 := RFl.free 4
        have rz0 := Row.put RFl 0 (.slice (some ⟨g1, 0, none⟩) N c1)
        have yb1 : ((w2.setCell ⟨B, 4, none⟩ (.bool false)).setCell ⟨w.heap.size + 1, 0, none⟩ (.slice (some ⟨g1, 0, none⟩) N c1)).cell? ⟨w.heap.size + 1, 1, none⟩ = some (.slice none 0 0) := rz0.cell 1
        have gb1 := rz0.free 1
        have rz1 := Row.put rz0 1 (.slice (some ⟨g2, 0, none⟩) N c2)
        have yb2 : (((w2.setCell ⟨B, 4, none⟩ (.bool false)).setCell ⟨w.heap.size + 1, 0, none⟩ (.slice (some ⟨g1, 0, none⟩) N c1)).setCell ⟨w.heap.size + 1, 1, none⟩ (.slice (some ⟨g2, 0, none⟩) N c2)).cell? ⟨w.heap.size + 1, 2, none⟩ = some (.slice none 0 0) := rz1.cell 2
        have gb2 := rz1.free 2
        have rz2 := Row.put rz1 2 (.slice (some ⟨g3, 0, none⟩) N c3)
        have yb3 : ((((w2.setCell ⟨B, 4, none⟩ (.bool false)).setCell ⟨w.heap.size + 1, 0, none⟩ (.slice (some ⟨g1, 0, none⟩) N c1)).setCell ⟨w.heap.size + 1, 1, none⟩ (.slice (some ⟨g2, 0, none⟩) N c2)).setCell ⟨w.heap.size + 1, 2, none⟩ (.slice (some ⟨g3, 0, none⟩) N c3)).cell? ⟨w.heap.size + 1, 3, none⟩ = some (.slice none 0 0) := rz2.cell 3
        have gb3 := rz2.free 3
        have rz3 := Row.put rz2 3 (.slice (some ⟨g4, 0, none⟩) N c4)
        have yb4 : (((((w2.setCell ⟨B, 4, none⟩ (.bool false)).setCell ⟨w.heap.size + 1, 0, none⟩ (.slice (some ⟨g1, 0, none⟩) N c1)).setCell ⟨w.heap.size + 1, 1, none⟩ (.slice (some ⟨g2, 0, none⟩) N c2)).setCell ⟨w.heap.size + 1, 2, none⟩ (.slice (some ⟨g3, 0, none⟩) N c3)).setCell ⟨w.heap.size + 1, 3, none⟩ (.slice (some ⟨g4, 0, none⟩) N c4)).cell? ⟨w.heap.size + 1, 4, none⟩ = some (.bool false) := rz3.cell 4
        have gb4 := rz3.free 4
        have rz4 := Row.put rz3 4 (.bool false)
        have u0 : ((((((w2.setCell ⟨B, 4, none⟩ (.bool false)).setCell ⟨w.heap.size + 1, 0, none⟩ (.slice (some ⟨g1, 0, none⟩) N c1)).setCell ⟨w.heap.size + 1, 1, none⟩ (.slice (some ⟨g2, 0, none⟩) N c2)).setCell ⟨w.heap.size + 1, 2, none⟩ (.slice (some ⟨g3, 0, none⟩) N c3)).setCell ⟨w.heap.size + 1, 3, none⟩ (.slice (some ⟨g4, 0, none⟩) N c4)).setCell ⟨w.heap.size + 1, 4, none⟩ (.bool false)).cell? ⟨w.heap.size + 1, 0, none⟩ = some (.slice (some ⟨g1, 0, none⟩) N c1) := rz4.cell 0
        have u1 : ((((((w2.setCell ⟨B, 4, none⟩ (.bool false)).setCell ⟨w.heap.size + 1, 0, none⟩ (.slice (some ⟨g1, 0, none⟩) N c1)).setCell ⟨w.heap.size + 1, 1, none⟩ (.slice (some ⟨g2, 0, none⟩) N c2)).setCell ⟨w.heap.size + 1, 2, none⟩ (.slice (some ⟨g3, 0, none⟩) N c3)).setCell ⟨w.heap.size + 1, 3, none⟩ (.slice (some ⟨g4, 0, none⟩) N c4)).setCell ⟨w.heap.size + 1, 4, none⟩ (.bool false)).cell? ⟨w.heap.size + 1, 1, none⟩ = some (.slice (some ⟨g2, 0, none⟩) N c2) := rz4.cell 1
        have u2 : ((((((w2.setCell ⟨B, 4, none⟩ (.bool false)).setCell ⟨w.heap.size + 1, 0, none⟩ (.slice (some ⟨g1, 0, none⟩) N c1)).setCell ⟨w.heap.size + 1, 1, none⟩ (.slice (some ⟨g2, 0, none⟩) N c2)).setCell ⟨w.heap.size + 1, 2, none⟩ (.slice (some ⟨g3, 0, none⟩) N c3)).setCell ⟨w.heap.size + 1, 3, none⟩ (.slice (some ⟨g4, 0, none⟩) N c4)).setCell ⟨w.heap.size + 1, 4, none⟩ (.bool false)).cell? ⟨w.heap.size + 1, 2, none⟩ = some (.slice (some ⟨g3, 0, none⟩) N c3) := rz4.cell 2
        have u3 : ((((((w2.setCell ⟨B, 4, none⟩ (.bool false)).setCell ⟨w.heap.size + 1, 0, none⟩ (.slice (some ⟨g1, 0, none⟩) N c1)).setCell ⟨w.heap.size + 1, 1, none⟩ (.slice (some ⟨g2, 0, none⟩) N c2)).setCell ⟨w.heap.size + 1, 2, none⟩ (.slice (some ⟨g3, 0, none⟩) N c3)).setCell ⟨w.heap.size + 1, 3, none⟩ (.slice (some ⟨g4, 0, none⟩) N c4)).setCell ⟨w.heap.size + 1, 4, none⟩ (.bool false)).cell? ⟨w.heap.size + 1, 3, none⟩ = some (.slice (some ⟨g4, 0, none⟩) N c4) := rz4.cell 3
        have u4 : ((((((w2.setCell ⟨B, 4, none⟩ (.bool false)).setCell ⟨w.heap.size + 1, 0, none⟩ (.slice (some ⟨g1, 0, none⟩) N c1)).setCell ⟨w.heap.size + 1, 1, none⟩ (.slice (some ⟨g2, 0, none⟩) N c2)).setCell ⟨w.heap.size + 1, 2, none⟩ (.slice (some ⟨g3, 0, none⟩) N c3)).setCell ⟨w.heap.size + 1, 3, none⟩ (.slice (some ⟨g4, 0, none⟩) N c4)).setCell ⟨w.heap.size + 1, 4, none⟩ (.bool false)).cell? ⟨w.heap.size + 1, 4, none⟩ = some (.bool false) := rz4.cell 4
        have FZ : AnsFd w Fd (.returned (.agg #[.slice (some ⟨g1, 0, none⟩) N c1, .slice (some ⟨g2, 0, none⟩) N c2, .slice (some ⟨g3, 0, none⟩) N c3, .slice (some ⟨g4, 0, none⟩) N c4, .bool false])) ((((((w2.setCell ⟨B, 4, none⟩ (.bool false)).setCell ⟨w.heap.size + 1, 0, none⟩ (.slice (some ⟨g1, 0, none⟩) N c1)).setCell ⟨w.heap.size + 1, 1, none⟩ (.slice (some ⟨g2, 0, none⟩) N c2)).setCell ⟨w.heap.size + 1, 2, none⟩ (.slice (some ⟨g3, 0, none⟩) N c3)).setCell ⟨w.heap.size + 1, 3, none⟩ (.slice (some ⟨g4, 0, none⟩) N c4)).setCell ⟨w.heap.size + 1, 4, none⟩ (.bool false)) := by rw [FD.out]; exact ansFd (S := ((FK k).1, false)) (((((SFl.far 0 (.slice (some ⟨g1, 0, none⟩) N c1) (by omega) hqB).far 1 (.slice (some ⟨g2, 0, none⟩) N c2) (by omega) hqB).far 2 (.slice (some ⟨g3, 0, none⟩) N c3) (by omega) hqB).far 3 (.slice (some ⟨g4, 0, none⟩) N c4) (by omega) hqB).far 4 (.bool false) (by omega) hqB) rfl ((((((BFl.setCell (by show w.heap.size ≤ w.heap.size + 1; omega) _).setCell (by show w.heap.size ≤ w.heap.size + 1; omega) _).setCell (by show w.heap.size ≤ w.heap.size + 1; omega) _).setCell (by show w.heap.size ≤ w.heap.size + 1; omega) _).setCell (by show w.heap.size ≤ w.heap.size + 1; omega) _))
        have HFZ := hid FZ
        clear FZ rz0 rz1 rz2 rz3 rz4 SFl RFl BFl HS2 FD
        go_wp2
        exact bodyPost_ret (v := .agg #[.slice (some ⟨g1, 0, none⟩) N c1, .slice (some ⟨g2, 0, none⟩) N c2, .slice (some ⟨g3, 0, none⟩) N c3, .slice (some ⟨g4, 0, none⟩) N c4, .bool false]) (by simp [results, Try.results50, go_sem, u0, u1, u2, u3, u4]) rfl HFZ.out
       ·have HNI := hid (show FK (k + 1) = ((FK k).1 ++ [(x, i, dp + 1)], true) ∧ (FK (k + 1)).1.length = N + 1 from by
         have e : FK (k + 1) = ((FK k).1 ++ [(x, i, dp + 1)], true) := by rw [HADD.out]; exact add_new HK.out.2.2 hin (by rw [HK.out.2.1]; exact h60)
         refine ⟨e, ?_⟩
         rw [e, List.length_append, HK.out.2.1]
         rfl)
        have h60' : ¬ (N : Int) = 60 := by omega
        have HS2 := hid S2
        clear S2 hin HIN
        have SV0 := hid (show (SF w a v B g1 N c1 g2 N c2 g3 N c3 g4 N c4 (termsF (FK k).1) (fromD (FK k).1) (byD (FK k).1) (deepD (FK k).1) w2.drew) ∧ (RdQ w2.drew (NotIn w2.drew (bad5 (w.heap.size + 1 + 1) B g1 g2 g3 g4)) sStepS [.slice (some ⟨b, off, none⟩) ln lc] (stepsL d.1 d.2 (termF f)) ∧ RdQ w2.drew (NotIn w2.drew (bad5 (w.heap.size + 1 + 1) B g1 g2 g3 g4)) sI [.slice U un uc] x.2.2 ∧ RdQ w2.drew (NotIn w2.drew (bad5 (w.heap.size + 1 + 1) B g1 g2 g3 g4)) sStep [.int .i64 x.1, .int .i64 x.2.1, .slice U un uc] x) ∧ (w2.drew.cell? ⟨b, off + k * 3, none⟩ = some (.int .i64 x.1) ∧ w2.drew.cell? ⟨b, off + k * 3 + 1, none⟩ = some (.int .i64 x.2.1) ∧ w2.drew.cell? ⟨b, off + k * 3 + 2, none⟩ = some (.slice U un uc)) from ⟨HS2.out.below (drew_below w2), ⟨notIn_below Q2.out.1 (drew_below w2), notIn_below Q2.out.2.1 (drew_below w2), notIn_below Q2.out.2.2 (drew_below w2)⟩, E2.out⟩)
        clear HS2 Q2 E2 k0 k1 k2 k3 k4 f4
        go_upto_region 14 with fail
        refine AnyT.start (S := (fun w' => w'.cell? ⟨B, 0, none⟩ = some (.slice (some ⟨g1, 0, none⟩)  N c1) ∧ w'.cell? ⟨b, off + k * 3 + 2, none⟩ = some (.slice U un uc))) (fun j => j == 8 || j == 10) (by kernel_rfl) ⟨SV0.out.1.fo.row.cell 0, SV0.out.2.2.2.2⟩ (fun hHeld => ?_)
        generalize w2.drew = V0 at SV0 hHeld ⊢
        have bA : Below V0.heap.size V0 (V0.alloc (.cells #[.slice U un uc] 22)) := (Below.refl _ _).alloc (Nat.le_refl _) _
        have SA := SV0.out.1.below bA
        have LA := SV0.out.2.1
        have rN : Row (V0.alloc (.cells #[.slice U un uc] 22)) V0.heap.size 22 #[.slice U un uc] := Row.new _ _ _
        have hsA := SA.bel.size
        have hsB := SA.fo.x1.ge
        have hdA := SA.fo.dis
        have hfA := SA.far
        have hbN := step_spot SV0.out.2.1.1 hk
        have hbV : b < V0.heap.size := hbN.1
        have hbB : b ≠ B := fun e => hbN.2 (by unfold bad5; omega)
        have hbg : b ≠ g1 := fun e => hbN.2 (by unfold bad5; omega)
        have hbA : b < (V0.alloc (.cells #[.slice U un uc] 22)).heap.size := by simp; omega
        refine AnyT.takeA (i := 0) (v := ?_) rfl (by kernel_rfl) (by kernel_rfl) (by kernel_rfl) (fun _ _ _ h => h) (Or.inl ⟨by rfl, ?_⟩) ?_
        rotate_left 1
        ·(intro w0 _; go_simp; try with_reducible rfl)
        try simp only [Act.put, setIfInBounds_toArray, set_cons_zero, set_cons_succ, getElem_toArray, getElem_cons_zero, getElem_cons_succ]
        refine AnyT.takeU (i := 1) (v := ?_) rfl (by kernel_rfl) (by kernel_rfl) (by kernel_rfl) (by kernel_rfl) (by kernel_rfl) (fun _ _ _ h => h) (Or.inl ⟨by rfl, ?_⟩) (by assumption) ?_
        rotate_left 1
        ·(intro w0 hSw; (try dsimp only at hSw); go_simp; try with_reducible rfl)
        try simp only [Act.put, setIfInBounds_toArray, set_cons_zero, set_cons_succ, getElem_toArray, getElem_cons_zero, getElem_cons_succ]
        refine AnyT.takeA (i := 2) (v := ?_) rfl (by kernel_rfl) (by kernel_rfl) (by kernel_rfl) (fun _ _ _ h => h) (Or.inl ⟨by rfl, ?_⟩) ?_
        rotate_left 1
        ·(intro w0 _; go_simp; try with_reducible rfl)
        try simp only [Act.put, setIfInBounds_toArray, set_cons_zero, set_cons_succ, getElem_toArray, getElem_cons_zero, getElem_cons_succ]
        refine AnyT.takeA (i := 3) (v := ?_) rfl (by kernel_rfl) (by kernel_rfl) (by kernel_rfl) (fun _ _ _ h => h) (Or.inl ⟨by rfl, ?_⟩) ?_
        rotate_left 1
        ·(intro w0 _; go_simp; try with_reducible rfl)
        try simp only [Act.put, setIfInBounds_toArray, set_cons_zero, set_cons_succ, getElem_toArray, getElem_cons_zero, getElem_cons_succ]
        refine AnyT.takeA (i := 4) (v := ?_) rfl (by kernel_rfl) (by kernel_rfl) (by kernel_rfl) (fun _ _ _ h => h) (Or.inl ⟨by rfl, ?_⟩) ?_
        rotate_left 1
        ·(intro w0 _; go_simp; try with_reducible rfl)
        try simp only [Act.put, setIfInBounds_toArray, set_cons_zero, set_cons_succ, getElem_toArray, getElem_cons_zero, getElem_cons_succ]
        refine AnyT.takeA (i := 5) (v := ?_) rfl (by kernel_rfl) (by kernel_rfl) (by kernel_rfl) (fun _ _ _ h => h) (Or.inl ⟨by rfl, ?_⟩) ?_
        rotate_left 1
        ·(intro w0 _; go_simp; try with_reducible rfl)
        try simp only [Act.put, setIfInBounds_toArray, set_cons_zero, set_cons_succ, getElem_toArray, getElem_cons_zero, getElem_cons_succ]
        refine AnyT.takeU (i := 6) (v := ?_) rfl (by kernel_rfl) (by kernel_rfl) (by kernel_rfl) (by kernel_rfl) (by kernel_rfl) (fun _ _ _ h => h) (Or.inl ⟨by rfl, ?_⟩) (by assumption) ?_
        rotate_left 1
        ·(intro w0 hSw; (try dsimp only at hSw); go_simp; try with_reducible rfl)
        try simp only [Act.put, setIfInBounds_toArray, set_cons_zero, set_cons_succ, getElem_toArray, getElem_cons_zero, getElem_cons_succ]
        refine AnyT.call (i := 7) (by kernel_rfl) rfl (fun K hK => ?_)
        try simp only [Act.put, setIfInBounds_toArray, set_cons_zero, set_cons_succ, getElem_toArray, getElem_cons_zero, getElem_cons_succ]
        rw [if_pos (by rfl)]
        go_simp
        refine hK.out _ _ (fun _ _ => ?_) (fun hKeep => ?_)
        ·exact ⟨keep_alloc hHeld.1, keep_alloc hHeld.2⟩
        replace hHeld := hKeep (by first | rfl | trivial) hHeld
        clear hK K hKeep
        try simp only [Act.put, setIfInBounds_toArray, set_cons_zero, set_cons_succ, getElem_toArray, getElem_cons_zero, getElem_cons_succ]
        refine AnyT.call (i := 8) (by kernel_rfl) rfl (fun K hK => ?_)
        try simp only [Act.put, setIfInBounds_toArray, set_cons_zero, set_cons_succ, getElem_toArray, getElem_cons_zero, getElem_cons_succ]
        rw [if_pos (by rfl)]
        refine wp_appX _ _ 77 22 sI _ _ Try.underlying77 info_list rfl (by decide) rfl (bad5 (w.heap.size + 1 + 1) B g1 g2 g3 g4) (w.heap.size + 1 + 1) g1 N c1 V0.heap.size 1 _ [.slice U un uc] x.2.2 rfl SA.fo.x1 (by unfold bad5; omega) rfl (fun z hz => by rw [rN.cell z]; exact List.getElem?_toArray) (notIn_below SV0.out.2.1.2.1 bA) hN20 (by omega) ?_
        intro h1 e1 w5  hx5 hg5 hat5 hb5
        have P5 := SF.app1 SA hx5 hg5 hat5 hb5
        have rB5 := Row.away SA.fo.row hg5 (fun e => by injection e with e; omega)
        have y5 : w5.cell? ⟨B, 0, none⟩ = some (.slice (some ⟨g1, 0, none⟩) N c1) := rB5.cell 0
        have f5 := rB5.free 0
        refine hK.out _ _ (fun h => by cases h) (fun _ => ?_)
        clear hK K
        try simp only [Act.put, setIfInBounds_toArray, set_cons_zero, set_cons_succ, getElem_toArray, getElem_cons_zero, getElem_cons_succ]
        refine AnyT.takeA (i := 9) (v := ?_) rfl (by kernel_rfl) (by kernel_rfl) (by kernel_rfl) (fun _ _ _ h => h) (Or.inl ⟨by rfl, ?_⟩) ?_
        rotate_left 1
        ·(intro w0 _; go_simp; try with_reducible rfl)
        try simp only [Act.put, setIfInBounds_toArray, set_cons_zero, set_cons_succ, getElem_toArray, getElem_cons_zero, getElem_cons_succ]
        refine AnyT.call (i := 10) (by kernel_rfl) rfl (fun K hK => ?_)
        try simp only [Act.put, setIfInBounds_toArray, set_cons_zero, set_cons_succ, getElem_toArray, getElem_cons_zero, getElem_cons_succ]
        rw [if_pos (by rfl)]
        go_simp
        refine hK.out _ _ (fun h => by cases h) (fun _ => ?_)
        clear hK K
        try simp only [Act.put, setIfInBounds_toArray, set_cons_zero, set_cons_succ, getElem_toArray, getElem_cons_zero, getElem_cons_succ]
        refine AnyT.done (by kernel_rfl) ?_ _
        have SV1 := hid (show (SF w a v B h1 (N + 1) e1 g2 N c2 g3 N c3 g4 N c4 (termsF (FK k).1 ++ [x.2.2]) (fromD (FK k).1) (byD (FK k).1) (deepD (FK k).1) (w5.setCell ⟨B, 0, none⟩ (.slice (some ⟨h1, 0, none⟩) (N + 1) e1))) ∧ (RdQ (w5.setCell ⟨B, 0, none⟩ (.slice (some ⟨h1, 0, none⟩) (N + 1) e1)) (NotIn (w5.setCell ⟨B, 0, none⟩ (.slice (some ⟨h1, 0, none⟩) (N + 1) e1)) (bad5 (w.heap.size + 1 + 1) B h1 g2 g3 g4)) sStepS [.slice (some ⟨b, off, none⟩) ln lc] (stepsL d.1 d.2 (termF f)) ∧ RdQ (w5.setCell ⟨B, 0, none⟩ (.slice (some ⟨h1, 0, none⟩) (N + 1) e1)) (NotIn (w5.setCell ⟨B, 0, none⟩ (.slice (some ⟨h1, 0, none⟩) (N + 1) e1)) (bad5 (w.heap.size + 1 + 1) B h1 g2 g3 g4)) sI [.slice U un uc] x.2.2 ∧ RdQ (w5.setCell ⟨B, 0, none⟩ (.slice (some ⟨h1, 0, none⟩) (N + 1) e1)) (NotIn (w5.setCell ⟨B, 0, none⟩ (.slice (some ⟨h1, 0, none⟩) (N + 1) e1)) (bad5 (w.heap.size + 1 + 1) B h1 g2 g3 g4)) sStep [.int .i64 x.1, .int .i64 x.2.1, .slice U un uc] x) ∧ ((w5.setCell ⟨B, 0, none⟩ (.slice (some ⟨h1, 0, none⟩) (N + 1) e1)).cell? ⟨b, off + k * 3, none⟩ = some (.int .i64 x.1) ∧ (w5.setCell ⟨B, 0, none⟩ (.slice (some ⟨h1, 0, none⟩) (N + 1) e1)).cell? ⟨b, off + k * 3 + 1, none⟩ = some (.int .i64 x.2.1) ∧ (w5.setCell ⟨B, 0, none⟩ (.slice (some ⟨h1, 0, none⟩) (N + 1) e1)).cell? ⟨b, off + k * 3 + 2, none⟩ = some (.slice U un uc)) from ⟨P5.1, ⟨P5.2 (notIn_below LA.1 bA), P5.2 (notIn_below LA.2.1 bA), P5.2 (notIn_below LA.2.2 bA)⟩, ⟨(World.cell?_setCell_far w5 ⟨B, 0, none⟩ ⟨b, off + k * 3, none⟩ _ (fun e => hbB e.symm)).trans ((cell_far hg5 (p := ⟨b, off + k * 3, none⟩) hbA hbg).trans ((bA.cell (p := ⟨b, off + k * 3, none⟩) hbV).trans SV0.out.2.2.1)), (World.cell?_setCell_far w5 ⟨B, 0, none⟩ ⟨b, off + k * 3 + 1, none⟩ _ (fun e => hbB e.symm)).trans ((cell_far hg5 (p := ⟨b, off + k * 3 + 1, none⟩) hbA hbg).trans ((bA.cell (p := ⟨b, off + k * 3 + 1, none⟩) hbV).trans SV0.out.2.2.2.1)), (World.cell?_setCell_far w5 ⟨B, 0, none⟩ ⟨b, off + k * 3 + 2, none⟩ _ (fun e => hbB e.symm)).trans ((cell_far hg5 (p := ⟨b, off + k * 3 + 2, none⟩) hbA hbg).trans ((bA.cell (p := ⟨b, off + k * 3 + 2, none⟩) hbV).trans SV0.out.2.2.2.2))⟩⟩)
        clear P5 rB5 y5 f5 hx5 hg5 hat5 hb5 SA LA rN bA hsA hsB hdA hfA hbN hbV hbB hbg hbA SV0
        generalize (w5.setCell ⟨B, 0, none⟩ (.slice (some ⟨h1, 0, none⟩) (N + 1) e1)) = V1 at SV1 ⊢
        go_upto_region 15 with fail
        have bA : Below V1.heap.size V1 (V1.alloc (.cells #[.int .i64 (i : Int)] 2)) := (Below.refl _ _).alloc (Nat.le_refl _) _
        have SA := SV1.out.1.below bA
        have LA := SV1.out.2.1
        have rN : Row (V1.alloc (.cells #[.int .i64 (i : Int)] 2)) V1.heap.size 2 #[.int .i64 (i : Int)] := Row.new _ _ _
        have hsA := SA.bel.size
        have hsB := SA.fo.x2.ge
        have hdA := SA.fo.dis
        have hfA := SA.far
        have hbN := step_spot SV1.out.2.1.1 hk
        have hbV : b < V1.heap.size := hbN.1
        have hbB : b ≠ B := fun e => hbN.2 (by unfold bad5; omega)
        have hbg : b ≠ g2 := fun e => hbN.2 (by unfold bad5; omega)
        have hbA : b < (V1.alloc (.cells #[.int .i64 (i : Int)] 2)).heap.size := by simp; omega
        have kq : V1.cell? ⟨B, 1, none⟩ = some (.slice (some ⟨g2, 0, none⟩) N c2) := SV1.out.1.fo.row.cell 1
        go_upto_region 16 with (at_builtin; refine appXm rfl _ _ 22 2 (.num) _ _ Try.underlying22 info_num rfl (by decide) rfl (bad5 (w.heap.size + 1 + 1) B h1 g2 g3 g4) (w.heap.size + 1 + 1) g2 N c2 V1.heap.size 1 _ [.int .i64 (i : Int)] (i : Int) rfl SA.fo.x2 (by unfold bad5; omega) rfl (fun z hz => by rw [rN.cell z]; exact List.getElem?_toArray) rfl hN20 (by omega) ?_; intro h2 e2 w5  hx5 hg5 hat5 hb5; have P5 := SF.app2 SA hx5 hg5 hat5 hb5; have rB5 := Row.away SA.fo.row hg5 (fun e => by injection e with e; omega); have y5 : w5.cell? ⟨B, 1, none⟩ = some (.slice (some ⟨g2, 0, none⟩) N c2) := rB5.cell 1; have f5 := rB5.free 1)
        have SV2 := hid (show (SF w a v B h1 (N + 1) e1 h2 (N + 1) e2 g3 N c3 g4 N c4 (termsF (FK k).1 ++ [x.2.2]) (fromD (FK k).1 ++ [(i : Int)]) (byD (FK k).1) (deepD (FK k).1) (w5.setCell ⟨B, 1, none⟩ (.slice (some ⟨h2, 0, none⟩) (N + 1) e2))) ∧ (RdQ (w5.setCell ⟨B, 1, none⟩ (.slice (some ⟨h2, 0, none⟩) (N + 1) e2)) (NotIn (w5.setCell ⟨B, 1, none⟩ (.slice (some ⟨h2, 0, none⟩) (N + 1) e2)) (bad5 (w.heap.size + 1 + 1) B h1 h2 g3 g4)) sStepS [.slice (some ⟨b, off, none⟩) ln lc] (stepsL d.1 d.2 (termF f)) ∧ RdQ (w5.setCell ⟨B, 1, none⟩ (.slice (some ⟨h2, 0, none⟩) (N + 1) e2)) (NotIn (w5.setCell ⟨B, 1, none⟩ (.slice (some ⟨h2, 0, none⟩) (N + 1) e2)) (bad5 (w.heap.size + 1 + 1) B h1 h2 g3 g4)) sI [.slice U un uc] x.2.2 ∧ RdQ (w5.setCell ⟨B, 1, none⟩ (.slice (some ⟨h2, 0, none⟩) (N + 1) e2)) (NotIn (w5.setCell ⟨B, 1, none⟩ (.slice (some ⟨h2, 0, none⟩) (N + 1) e2)) (bad5 (w.heap.size + 1 + 1) B h1 h2 g3 g4)) sStep [.int .i64 x.1, .int .i64 x.2.1, .slice U un uc] x) ∧ ((w5.setCell ⟨B, 1, none⟩ (.slice (some ⟨h2, 0, none⟩) (N + 1) e2)).cell? ⟨b, off + k * 3, none⟩ = some (.int .i64 x.1) ∧ (w5.setCell ⟨B, 1, none⟩ (.slice (some ⟨h2, 0, none⟩) (N + 1) e2)).cell? ⟨b, off + k * 3 + 1, none⟩ = some (.int .i64 x.2.1) ∧ (w5.setCell ⟨B, 1, none⟩ (.slice (some ⟨h2, 0, none⟩) (N + 1) e2)).cell? ⟨b, off + k * 3 + 2, none⟩ = some (.slice U un uc)) from ⟨P5.1, ⟨P5.2 (notIn_below LA.1 bA), P5.2 (notIn_below LA.2.1 bA), P5.2 (notIn_below LA.2.2 bA)⟩, ⟨(World.cell?_setCell_far w5 ⟨B, 1, none⟩ ⟨b, off + k * 3, none⟩ _ (fun e => hbB e.symm)).trans ((cell_far hg5 (p := ⟨b, off + k * 3, none⟩) hbA hbg).trans ((bA.cell (p := ⟨b, off + k * 3, none⟩) hbV).trans SV1.out.2.2.1)), (World.cell?_setCell_far w5 ⟨B, 1, none⟩ ⟨b, off + k * 3 + 1, none⟩ _ (fun e => hbB e.symm)).trans ((cell_far hg5 (p := ⟨b, off + k * 3 + 1, none⟩) hbA hbg).trans ((bA.cell (p := ⟨b, off + k * 3 + 1, none⟩) hbV).trans SV1.out.2.2.2.1)), (World.cell?_setCell_far w5 ⟨B, 1, none⟩ ⟨b, off + k * 3 + 2, none⟩ _ (fun e => hbB e.symm)).trans ((cell_far hg5 (p := ⟨b, off + k * 3 + 2, none⟩) hbA hbg).trans ((bA.cell (p := ⟨b, off + k * 3 + 2, none⟩) hbV).trans SV1.out.2.2.2.2))⟩⟩)
        clear P5 rB5 y5 f5 hx5 hg5 hat5 hb5 SA LA rN bA hsA hsB hdA hfA hbN hbV hbB hbg hbA kq SV1
        generalize (w5.setCell ⟨B, 1, none⟩ (.slice (some ⟨h2, 0, none⟩) (N + 1) e2)) = V2 at SV2 ⊢
        have SVd := hid (show (SF w a v B h1 (N + 1) e1 h2 (N + 1) e2 g3 N c3 g4 N c4 (termsF (FK k).1 ++ [x.2.2]) (fromD (FK k).1 ++ [(i : Int)]) (byD (FK k).1) (deepD (FK k).1) V2.drew) ∧ (RdQ V2.drew (NotIn V2.drew (bad5 (w.heap.size + 1 + 1) B h1 h2 g3 g4)) sStepS [.slice (some ⟨b, off, none⟩) ln lc] (stepsL d.1 d.2 (termF f)) ∧ RdQ V2.drew (NotIn V2.drew (bad5 (w.heap.size + 1 + 1) B h1 h2 g3 g4)) sI [.slice U un uc] x.2.2 ∧ RdQ V2.drew (NotIn V2.drew (bad5 (w.heap.size + 1 + 1) B h1 h2 g3 g4)) sStep [.int .i64 x.1, .int .i64 x.2.1, .slice U un uc] x) ∧ (V2.drew.cell? ⟨b, off + k * 3, none⟩ = some (.int .i64 x.1) ∧ V2.drew.cell? ⟨b, off + k * 3 + 1, none⟩ = some (.int .i64 x.2.1) ∧ V2.drew.cell? ⟨b, off + k * 3 + 2, none⟩ = some (.slice U un uc)) from ⟨SV2.out.1.drew, ⟨notIn_below SV2.out.2.1.1 (drew_below _), notIn_below SV2.out.2.1.2.1 (drew_below _), notIn_below SV2.out.2.1.2.2 (drew_below _)⟩, SV2.out.2.2⟩)
        clear SV2
        have SV2 := SVd
        clear SVd
        refine AnyT.start (S := (fun w' => w'.cell? ⟨B, 2, none⟩ = some (.slice (some ⟨g3, 0, none⟩) N c3) ∧ w'.cell? ⟨b, off + k * 3, none⟩ = some (.int .i64 x.1) ∧ w'.cell? ⟨b, off + k * 3 + 1, none⟩ = some (.int .i64 x.2.1) ∧ w'.cell? ⟨b, off + k * 3 + 2, none⟩ = some (.slice U un uc))) (fun j => j == 7 || j == 9) (by kernel_rfl) ⟨SV2.out.1.fo.row.cell 2, SV2.out.2.2⟩ (fun hHeld => ?_)
        generalize V2.drew = V2x at SV2 hHeld ⊢
        have bA : Below V2x.heap.size V2x (V2x.alloc (.cells #[.int .i64 x.1, .int .i64 x.2.1, .slice U un uc] 92)) := (Below.refl _ _).alloc (Nat.le_refl _) _
        have SA := SV2.out.1.below bA
        have LA := SV2.out.2.1
        have rN : Row (V2x.alloc (.cells #[.int .i64 x.1, .int .i64 x.2.1, .slice U un uc] 92)) V2x.heap.size 92 #[.int .i64 x.1, .int .i64 x.2.1, .slice U un uc] := Row.new _ _ _
        have hsA := SA.bel.size
        have hsB := SA.fo.x3.ge
        have hdA := SA.fo.dis
        have hfA := SA.far
        have hbN := step_spot SV2.out.2.1.1 hk
        have hbV : b < V2x.heap.size := hbN.1
        have hbB : b ≠ B := fun e => hbN.2 (by unfold bad5; omega)
        have hbg : b ≠ g3 := fun e => hbN.2 (by unfold bad5; omega)
        have hbA : b < (V2x.alloc (.cells #[.int .i64 x.1, .int .i64 x.2.1, .slice U un uc] 92)).heap.size := by simp; omega
        refine AnyT.takeA (i := 0) (v := ?_) rfl (by kernel_rfl) (by kernel_rfl) (by kernel_rfl) (fun _ _ _ h => h) (Or.inl ⟨by rfl, ?_⟩) ?_
        rotate_left 1
        ·(intro w0 _; go_simp; try with_reducible rfl)
        try simp only [Act.put, setIfInBounds_toArray, set_cons_zero, set_cons_succ, getElem_toArray, getElem_cons_zero, getElem_cons_succ]
        refine AnyT.takeU (i := 1) (v := ?_) rfl (by kernel_rfl) (by kernel_rfl) (by kernel_rfl) (by kernel_rfl) (by kernel_rfl) (fun _ _ _ h => h) (Or.inl ⟨by rfl, ?_⟩) (by assumption) ?_
        rotate_left 1
        ·(intro w0 hSw; (try dsimp only at hSw); go_simp; try with_reducible rfl)
        try simp only [Act.put, setIfInBounds_toArray, set_cons_zero, set_cons_succ, getElem_toArray, getElem_cons_zero, getElem_cons_succ]
        refine AnyT.takeA (i := 2) (v := ?_) rfl (by kernel_rfl) (by kernel_rfl) (by kernel_rfl) (fun _ _ _ h => h) (Or.inl ⟨by rfl, ?_⟩) ?_
        rotate_left 1
        ·(intro w0 _; go_simp; try with_reducible rfl)
        try simp only [Act.put, setIfInBounds_toArray, set_cons_zero, set_cons_succ, getElem_toArray, getElem_cons_zero, getElem_cons_succ]
        refine AnyT.takeA (i := 3) (v := ?_) rfl (by kernel_rfl) (by kernel_rfl) (by kernel_rfl) (fun _ _ _ h => h) (Or.inl ⟨by rfl, ?_⟩) ?_
        rotate_left 1
        ·(intro w0 _; go_simp; try with_reducible rfl)
        try simp only [Act.put, setIfInBounds_toArray, set_cons_zero, set_cons_succ, getElem_toArray, getElem_cons_zero, getElem_cons_succ]
        refine AnyT.takeA (i := 4) (v := ?_) rfl (by kernel_rfl) (by kernel_rfl) (by kernel_rfl) (fun _ _ _ h => h) (Or.inl ⟨by rfl, ?_⟩) ?_
        rotate_left 1
        ·(intro w0 _; go_simp; try with_reducible rfl)
        try simp only [Act.put, setIfInBounds_toArray, set_cons_zero, set_cons_succ, getElem_toArray, getElem_cons_zero, getElem_cons_succ]
        refine AnyT.takeU (i := 5) (v := ?_) rfl (by kernel_rfl) (by kernel_rfl) (by kernel_rfl) (by kernel_rfl) (by kernel_rfl) (fun _ _ _ h => h) (Or.inl ⟨by rfl, ?_⟩) (by assumption) ?_
        rotate_left 1
        ·(intro w0 hSw; (try dsimp only at hSw); go_simp; try with_reducible rfl)
        try simp only [Act.put, setIfInBounds_toArray, set_cons_zero, set_cons_succ, getElem_toArray, getElem_cons_zero, getElem_cons_succ]
        refine AnyT.call (i := 6) (by kernel_rfl) rfl (fun K hK => ?_)
        try simp only [Act.put, setIfInBounds_toArray, set_cons_zero, set_cons_succ, getElem_toArray, getElem_cons_zero, getElem_cons_succ]
        rw [if_pos (by rfl)]
        go_simp
        refine hK.out _ _ (fun _ _ => ?_) (fun hKeep => ?_)
        ·exact ⟨keep_alloc hHeld.1, keep_alloc hHeld.2.1, keep_alloc hHeld.2.2.1, keep_alloc hHeld.2.2.2⟩
        replace hHeld := hKeep (by first | rfl | trivial) hHeld
        clear hK K hKeep
        try simp only [Act.put, setIfInBounds_toArray, set_cons_zero, set_cons_succ, getElem_toArray, getElem_cons_zero, getElem_cons_succ]
        refine AnyT.call (i := 7) (by kernel_rfl) rfl (fun K hK => ?_)
        try simp only [Act.put, setIfInBounds_toArray, set_cons_zero, set_cons_succ, getElem_toArray, getElem_cons_zero, getElem_cons_succ]
        rw [if_pos (by rfl)]
        refine wp_appX _ _ 48 92 sStep _ _ Try.underlying48 info_StepS rfl (by decide) rfl (bad5 (w.heap.size + 1 + 1) B h1 h2 g3 g4) (w.heap.size + 1 + 1) g3 N c3 V2x.heap.size 1 _ [.int .i64 x.1, .int .i64 x.2.1, .slice U un uc] x rfl SA.fo.x3 (by unfold bad5; omega) rfl (fun z hz => by rw [rN.cell z]; exact List.getElem?_toArray) (notIn_below SV2.out.2.1.2.2 bA) hN20 (by omega) ?_
        intro h3 e3 w5  hx5 hg5 hat5 hb5
        have P5 := SF.app3 SA hx5 hg5 hat5 hb5
        have rB5 := Row.away SA.fo.row hg5 (fun e => by injection e with e; omega)
        have y5 : w5.cell? ⟨B, 2, none⟩ = some (.slice (some ⟨g3, 0, none⟩) N c3) := rB5.cell 2
        have f5 := rB5.free 2
        refine hK.out _ _ (fun h => by cases h) (fun _ => ?_)
        clear hK K
        try simp only [Act.put, setIfInBounds_toArray, set_cons_zero, set_cons_succ, getElem_toArray, getElem_cons_zero, getElem_cons_succ]
        refine AnyT.takeA (i := 8) (v := ?_) rfl (by kernel_rfl) (by kernel_rfl) (by kernel_rfl) (fun _ _ _ h => h) (Or.inl ⟨by rfl, ?_⟩) ?_
        rotate_left 1
        ·(intro w0 _; go_simp; try with_reducible rfl)
        try simp only [Act.put, setIfInBounds_toArray, set_cons_zero, set_cons_succ, getElem_toArray, getElem_cons_zero, getElem_cons_succ]
        refine AnyT.call (i := 9) (by kernel_rfl) rfl (fun K hK => ?_)
        try simp only [Act.put, setIfInBounds_toArray, set_cons_zero, set_cons_succ, getElem_toArray, getElem_cons_zero, getElem_cons_succ]
        rw [if_pos (by rfl)]
        go_simp
        refine hK.out _ _ (fun h => by cases h) (fun _ => ?_)
        clear hK K
        try simp only [Act.put, setIfInBounds_toArray, set_cons_zero, set_cons_succ, getElem_toArray, getElem_cons_zero, getElem_cons_succ]
        refine AnyT.done (by kernel_rfl) ?_ _
        have SV3 := hid (show (SF w a v B h1 (N + 1) e1 h2 (N + 1) e2 h3 (N + 1) e3 g4 N c4 (termsF (FK k).1 ++ [x.2.2]) (fromD (FK k).1 ++ [(i : Int)]) (byD (FK k).1 ++ [x]) (deepD (FK k).1) (w5.setCell ⟨B, 2, none⟩ (.slice (some ⟨h3, 0, none⟩) (N + 1) e3))) ∧ (RdQ (w5.setCell ⟨B, 2, none⟩ (.slice (some ⟨h3, 0, none⟩) (N + 1) e3)) (NotIn (w5.setCell ⟨B, 2, none⟩ (.slice (some ⟨h3, 0, none⟩) (N + 1) e3)) (bad5 (w.heap.size + 1 + 1) B h1 h2 h3 g4)) sStepS [.slice (some ⟨b, off, none⟩) ln lc] (stepsL d.1 d.2 (termF f)) ∧ RdQ (w5.setCell ⟨B, 2, none⟩ (.slice (some ⟨h3, 0, none⟩) (N + 1) e3)) (NotIn (w5.setCell ⟨B, 2, none⟩ (.slice (some ⟨h3, 0, none⟩) (N + 1) e3)) (bad5 (w.heap.size + 1 + 1) B h1 h2 h3 g4)) sI [.slice U un uc] x.2.2 ∧ RdQ (w5.setCell ⟨B, 2, none⟩ (.slice (some ⟨h3, 0, none⟩) (N + 1) e3)) (NotIn (w5.setCell ⟨B, 2, none⟩ (.slice (some ⟨h3, 0, none⟩) (N + 1) e3)) (bad5 (w.heap.size + 1 + 1) B h1 h2 h3 g4)) sStep [.int .i64 x.1, .int .i64 x.2.1, .slice U un uc] x) ∧ ((w5.setCell ⟨B, 2, none⟩ (.slice (some ⟨h3, 0, none⟩) (N + 1) e3)).cell? ⟨b, off + k * 3, none⟩ = some (.int .i64 x.1) ∧ (w5.setCell ⟨B, 2, none⟩ (.slice (some ⟨h3, 0, none⟩) (N + 1) e3)).cell? ⟨b, off + k * 3 + 1, none⟩ = some (.int .i64 x.2.1) ∧ (w5.setCell ⟨B, 2, none⟩ (.slice (some ⟨h3, 0, none⟩) (N + 1) e3)).cell? ⟨b, off + k * 3 + 2, none⟩ = some (.slice U un uc)) from ⟨P5.1, ⟨P5.2 (notIn_below LA.1 bA), P5.2 (notIn_below LA.2.1 bA), P5.2 (notIn_below LA.2.2 bA)⟩, ⟨(World.cell?_setCell_far w5 ⟨B, 2, none⟩ ⟨b, off + k * 3, none⟩ _ (fun e => hbB e.symm)).trans ((cell_far hg5 (p := ⟨b, off + k * 3, none⟩) hbA hbg).trans ((bA.cell (p := ⟨b, off + k * 3, none⟩) hbV).trans SV2.out.2.2.1)), (World.cell?_setCell_far w5 ⟨B, 2, none⟩ ⟨b, off + k * 3 + 1, none⟩ _ (fun e => hbB e.symm)).trans ((cell_far hg5 (p := ⟨b, off + k * 3 + 1, none⟩) hbA hbg).trans ((bA.cell (p := ⟨b, off + k * 3 + 1, none⟩) hbV).trans SV2.out.2.2.2.1)), (World.cell?_setCell_far w5 ⟨B, 2, none⟩ ⟨b, off + k * 3 + 2, none⟩ _ (fun e => hbB e.symm)).trans ((cell_far hg5 (p := ⟨b, off + k * 3 + 2, none⟩) hbA hbg).trans ((bA.cell (p := ⟨b, off + k * 3 + 2, none⟩) hbV).trans SV2.out.2.2.2.2))⟩⟩)
        clear P5 rB5 y5 f5 hx5 hg5 hat5 hb5 SA LA rN bA hsA hsB hdA hfA hbN hbV hbB hbg hbA SV2
        generalize (w5.setCell ⟨B, 2, none⟩ (.slice (some ⟨h3, 0, none⟩) (N + 1) e3)) = V3 at SV3 ⊢
        go_upto_region 17 with fail
        have SVd := hid (show (SF w a v B h1 (N + 1) e1 h2 (N + 1) e2 h3 (N + 1) e3 g4 N c4 (termsF (FK k).1 ++ [x.2.2]) (fromD (FK k).1 ++ [(i : Int)]) (byD (FK k).1 ++ [x]) (deepD (FK k).1) V3.drew) ∧ (RdQ V3.drew (NotIn V3.drew (bad5 (w.heap.size + 1 + 1) B h1 h2 h3 g4)) sStepS [.slice (some ⟨b, off, none⟩) ln lc] (stepsL d.1 d.2 (termF f)) ∧ RdQ V3.drew (NotIn V3.drew (bad5 (w.heap.size + 1 + 1) B h1 h2 h3 g4)) sI [.slice U un uc] x.2.2 ∧ RdQ V3.drew (NotIn V3.drew (bad5 (w.heap.size + 1 + 1) B h1 h2 h3 g4)) sStep [.int .i64 x.1, .int .i64 x.2.1, .slice U un uc] x) ∧ (V3.drew.cell? ⟨b, off + k * 3, none⟩ = some (.int .i64 x.1) ∧ V3.drew.cell? ⟨b, off + k * 3 + 1, none⟩ = some (.int .i64 x.2.1) ∧ V3.drew.cell? ⟨b, off + k * 3 + 2, none⟩ = some (.slice U un uc)) from ⟨SV3.out.1.drew, ⟨notIn_below SV3.out.2.1.1 (drew_below _), notIn_below SV3.out.2.1.2.1 (drew_below _), notIn_below SV3.out.2.1.2.2 (drew_below _)⟩, SV3.out.2.2⟩)
        clear SV3
        have SV3 := SVd
        clear SVd
        have kd : V3.drew.cell? ⟨g4, i, none⟩ = some (.int .i64 (dp : Int)) := by have := XS.num SV3.out.1.fo.x4 hiN; rw [deep_get INV2.out.2, HF.out.2] at this; exact this
        refine AnyT.start (S := (fun w' => w'.cell? ⟨B, 3, none⟩ = some (.slice (some ⟨g4, 0, none⟩) N c4) ∧ w'.cell? ⟨g4, i, none⟩ = some (.int .i64 (dp : Int)))) (fun j => j == 9 || j == 11) (by kernel_rfl) ⟨SV3.out.1.fo.row.cell 3, kd⟩ (fun hHeld => ?_)
        generalize V3.drew = V3x at SV3 kd hHeld ⊢
        have bA : Below V3x.heap.size V3x (V3x.alloc (.cells #[.int .i64 ((dp : Int) + 1)] 2)) := (Below.refl _ _).alloc (Nat.le_refl _) _
        have SA := SV3.out.1.below bA
        have LA := SV3.out.2.1
        have rN : Row (V3x.alloc (.cells #[.int .i64 ((dp : Int) + 1)] 2)) V3x.heap.size 2 #[.int .i64 ((dp : Int) + 1)] := Row.new _ _ _
        have hsA := SA.bel.size
        have hsB := SA.fo.x4.ge
        have hdA := SA.fo.dis
        have hfA := SA.far
        have hbN := step_spot SV3.out.2.1.1 hk
        have hbV : b < V3x.heap.size := hbN.1
        have hbB : b ≠ B := fun e => hbN.2 (by unfold bad5; omega)
        have hbg : b ≠ g4 := fun e => hbN.2 (by unfold bad5; omega)
        have hbA : b < (V3x.alloc (.cells #[.int .i64 ((dp : Int) + 1)] 2)).heap.size := by simp; omega
        refine AnyT.takeA (i := 0) (v := ?_) rfl (by kernel_rfl) (by kernel_rfl) (by kernel_rfl) (fun _ _ _ h => h) (Or.inl ⟨by rfl, ?_⟩) ?_
        rotate_left 1
        ·(intro w0 _; go_simp; try with_reducible rfl)
        try simp only [Act.put, setIfInBounds_toArray, set_cons_zero, set_cons_succ, getElem_toArray, getElem_cons_zero, getElem_cons_succ]
        refine AnyT.takeU (i := 1) (v := ?_) rfl (by kernel_rfl) (by kernel_rfl) (by kernel_rfl) (by kernel_rfl) (by kernel_rfl) (fun _ _ _ h => h) (Or.inl ⟨by rfl, ?_⟩) (by assumption) ?_
        rotate_left 1
        ·(intro w0 hSw; (try dsimp only at hSw); go_simp; try with_reducible rfl)
        try simp only [Act.put, setIfInBounds_toArray, set_cons_zero, set_cons_succ, getElem_toArray, getElem_cons_zero, getElem_cons_succ]
        refine AnyT.takeA (i := 2) (v := ?_) rfl (by kernel_rfl) (by kernel_rfl) (by kernel_rfl) (fun _ _ _ h => h) (Or.inl ⟨by rfl, ?_⟩) ?_
        rotate_left 1
        ·(intro w0 _; go_simp; try with_reducible rfl)
        try simp only [Act.put, setIfInBounds_toArray, set_cons_zero, set_cons_succ, getElem_toArray, getElem_cons_zero, getElem_cons_succ]
        refine AnyT.takeU (i := 3) (v := ?_) rfl (by kernel_rfl) (by kernel_rfl) (by kernel_rfl) (by kernel_rfl) (by kernel_rfl) (fun _ _ _ h => h) (Or.inl ⟨by rfl, ?_⟩) (by assumption) ?_
        rotate_left 1
        ·(intro w0 hSw; (try dsimp only at hSw); go_simp; try with_reducible rfl)
        try simp only [Act.put, setIfInBounds_toArray, set_cons_zero, set_cons_succ, getElem_toArray, getElem_cons_zero, getElem_cons_succ]
        refine AnyT.takeA (i := 4) (v := ?_) rfl (by kernel_rfl) (by kernel_rfl) (by kernel_rfl) (fun _ _ _ h => h) (Or.inl ⟨by rfl, ?_⟩) ?_
        rotate_left 1
        ·(intro w0 _; go_simp; try with_reducible rfl)
        try simp only [Act.put, setIfInBounds_toArray, set_cons_zero, set_cons_succ, getElem_toArray, getElem_cons_zero, getElem_cons_succ]
        refine AnyT.takeA (i := 5) (v := ?_) rfl (by kernel_rfl) (by kernel_rfl) (by kernel_rfl) (fun _ _ _ h => h) (Or.inl ⟨by rfl, ?_⟩) ?_
        rotate_left 1
        ·(intro w0 _; go_simp; try with_reducible rfl)
        try simp only [Act.put, setIfInBounds_toArray, set_cons_zero, set_cons_succ, getElem_toArray, getElem_cons_zero, getElem_cons_succ]
        refine AnyT.takeU (i := 6) (v := ?_) rfl (by kernel_rfl) (by kernel_rfl) (by kernel_rfl) (by kernel_rfl) (by kernel_rfl) (fun _ _ _ h => h) (Or.inl ⟨by rfl, ?_⟩) (by assumption) ?_
        rotate_left 1
        ·(intro w0 hSw; (try dsimp only at hSw); go_simp; try with_reducible rfl)
        try simp only [Act.put, setIfInBounds_toArray, set_cons_zero, set_cons_succ, getElem_toArray, getElem_cons_zero, getElem_cons_succ]
        refine AnyT.takeA (i := 7) (v := ?_) rfl (by kernel_rfl) (by kernel_rfl) (by kernel_rfl) (fun _ _ _ h => h) (Or.inl ⟨by rfl, ?_⟩) ?_
        rotate_left 1
        ·(intro w0 _; go_simp; try with_reducible rfl)
        try simp only [Act.put, setIfInBounds_toArray, set_cons_zero, set_cons_succ, getElem_toArray, getElem_cons_zero, getElem_cons_succ]
        rw [show IntKind.i64.wrap ((dp : Int) + 1) = (dp : Int) + 1 from (by rw [IntKind.wrap_i64]; omega)]
        refine AnyT.call (i := 8) (by kernel_rfl) rfl (fun K hK => ?_)
        try simp only [Act.put, setIfInBounds_toArray, set_cons_zero, set_cons_succ, getElem_toArray, getElem_cons_zero, getElem_cons_succ]
        rw [if_pos (by rfl)]
        go_simp
        refine hK.out _ _ (fun _ _ => ?_) (fun hKeep => ?_)
        ·exact ⟨keep_alloc hHeld.1, keep_alloc hHeld.2⟩
        replace hHeld := hKeep (by first | rfl | trivial) hHeld
        clear hK K hKeep
        try simp only [Act.put, setIfInBounds_toArray, set_cons_zero, set_cons_succ, getElem_toArray, getElem_cons_zero, getElem_cons_succ]
        refine AnyT.call (i := 9) (by kernel_rfl) rfl (fun K hK => ?_)
        try simp only [Act.put, setIfInBounds_toArray, set_cons_zero, set_cons_succ, getElem_toArray, getElem_cons_zero, getElem_cons_succ]
        rw [if_pos (by rfl)]
        refine wp_appX _ _ 22 2 (.num) _ _ Try.underlying22 info_num rfl (by decide) rfl (bad5 (w.heap.size + 1 + 1) B h1 h2 h3 g4) (w.heap.size + 1 + 1) g4 N c4 V3x.heap.size 1 _ [.int .i64 ((dp : Int) + 1)] ((dp : Int) + 1) rfl SA.fo.x4 (by unfold bad5; omega) rfl (fun z hz => by rw [rN.cell z]; exact List.getElem?_toArray) rfl hN20 (by omega) ?_
        intro h4 e4 w5  hx5 hg5 hat5 hb5
        have P5 := SF.app4 SA hx5 hg5 hat5 hb5
        have rB5 := Row.away SA.fo.row hg5 (fun e => by injection e with e; omega)
        have y5 : w5.cell? ⟨B, 3, none⟩ = some (.slice (some ⟨g4, 0, none⟩) N c4) := rB5.cell 3
        have f5 := rB5.free 3
        refine hK.out _ _ (fun h => by cases h) (fun _ => ?_)
        clear hK K
        try simp only [Act.put, setIfInBounds_toArray, set_cons_zero, set_cons_succ, getElem_toArray, getElem_cons_zero, getElem_cons_succ]
        refine AnyT.takeA (i := 10) (v := ?_) rfl (by kernel_rfl) (by kernel_rfl) (by kernel_rfl) (fun _ _ _ h => h) (Or.inl ⟨by rfl, ?_⟩) ?_
        rotate_left 1
        ·(intro w0 _; go_simp; try with_reducible rfl)
        try simp only [Act.put, setIfInBounds_toArray, set_cons_zero, set_cons_succ, getElem_toArray, getElem_cons_zero, getElem_cons_succ]
        refine AnyT.call (i := 11) (by kernel_rfl) rfl (fun K hK => ?_)
        try simp only [Act.put, setIfInBounds_toArray, set_cons_zero, set_cons_succ, getElem_toArray, getElem_cons_zero, getElem_cons_succ]
        rw [if_pos (by rfl)]
        go_simp
        refine hK.out _ _ (fun h => by cases h) (fun _ => ?_)
        clear hK K
        try simp only [Act.put, setIfInBounds_toArray, set_cons_zero, set_cons_succ, getElem_toArray, getElem_cons_zero, getElem_cons_succ]
        refine AnyT.done (by kernel_rfl) ?_ _
        have SV4 := hid (show (SF w a v B h1 (N + 1) e1 h2 (N + 1) e2 h3 (N + 1) e3 h4 (N + 1) e4 (termsF (FK k).1 ++ [x.2.2]) (fromD (FK k).1 ++ [(i : Int)]) (byD (FK k).1 ++ [x]) (deepD (FK k).1 ++ [((dp : Int) + 1)]) (w5.setCell ⟨B, 3, none⟩ (.slice (some ⟨h4, 0, none⟩) (N + 1) e4))) ∧ (RdQ (w5.setCell ⟨B, 3, none⟩ (.slice (some ⟨h4, 0, none⟩) (N + 1) e4)) (NotIn (w5.setCell ⟨B, 3, none⟩ (.slice (some ⟨h4, 0, none⟩) (N + 1) e4)) (bad5 (w.heap.size + 1 + 1) B h1 h2 h3 h4)) sStepS [.slice (some ⟨b, off, none⟩) ln lc] (stepsL d.1 d.2 (termF f)) ∧ RdQ (w5.setCell ⟨B, 3, none⟩ (.slice (some ⟨h4, 0, none⟩) (N + 1) e4)) (NotIn (w5.setCell ⟨B, 3, none⟩ (.slice (some ⟨h4, 0, none⟩) (N + 1) e4)) (bad5 (w.heap.size + 1 + 1) B h1 h2 h3 h4)) sI [.slice U un uc] x.2.2 ∧ RdQ (w5.setCell ⟨B, 3, none⟩ (.slice (some ⟨h4, 0, none⟩) (N + 1) e4)) (NotIn (w5.setCell ⟨B, 3, none⟩ (.slice (some ⟨h4, 0, none⟩) (N + 1) e4)) (bad5 (w.heap.size + 1 + 1) B h1 h2 h3 h4)) sStep [.int .i64 x.1, .int .i64 x.2.1, .slice U un uc] x) ∧ ((w5.setCell ⟨B, 3, none⟩ (.slice (some ⟨h4, 0, none⟩) (N + 1) e4)).cell? ⟨b, off + k * 3, none⟩ = some (.int .i64 x.1) ∧ (w5.setCell ⟨B, 3, none⟩ (.slice (some ⟨h4, 0, none⟩) (N + 1) e4)).cell? ⟨b, off + k * 3 + 1, none⟩ = some (.int .i64 x.2.1) ∧ (w5.setCell ⟨B, 3, none⟩ (.slice (some ⟨h4, 0, none⟩) (N + 1) e4)).cell? ⟨b, off + k * 3 + 2, none⟩ = some (.slice U un uc)) from ⟨P5.1, ⟨P5.2 (notIn_below LA.1 bA), P5.2 (notIn_below LA.2.1 bA), P5.2 (notIn_below LA.2.2 bA)⟩, ⟨(World.cell?_setCell_far w5 ⟨B, 3, none⟩ ⟨b, off + k * 3, none⟩ _ (fun e => hbB e.symm)).trans ((cell_far hg5 (p := ⟨b, off + k * 3, none⟩) hbA hbg).trans ((bA.cell (p := ⟨b, off + k * 3, none⟩) hbV).trans SV3.out.2.2.1)), (World.cell?_setCell_far w5 ⟨B, 3, none⟩ ⟨b, off + k * 3 + 1, none⟩ _ (fun e => hbB e.symm)).trans ((cell_far hg5 (p := ⟨b, off + k * 3 + 1, none⟩) hbA hbg).trans ((bA.cell (p := ⟨b, off + k * 3 + 1, none⟩) hbV).trans SV3.out.2.2.2.1)), (World.cell?_setCell_far w5 ⟨B, 3, none⟩ ⟨b, off + k * 3 + 2, none⟩ _ (fun e => hbB e.symm)).trans ((cell_far hg5 (p := ⟨b, off + k * 3 + 2, none⟩) hbA hbg).trans ((bA.cell (p := ⟨b, off + k * 3 + 2, none⟩) hbV).trans SV3.out.2.2.2.2))⟩⟩)
        clear P5 rB5 y5 f5 hx5 hg5 hat5 hb5 SA LA rN bA hsA hsB hdA hfA hbN hbV hbB hbg hbA SV3
        have hL1 := INV2.out.1.len1
        have F := hid (show SF w a v B h1 (N + 1) e1 h2 (N + 1) e2 h3 (N + 1) e3 h4 (N + 1) e4 (termsF (FK (k + 1)).1) (fromD (FK (k + 1)).1) (byD (FK (k + 1)).1) (deepD (FK (k + 1)).1) (w5.setCell ⟨B, 3, none⟩ (.slice (some ⟨h4, 0, none⟩) (N + 1) e4)) ∧ (RdQ (w5.setCell ⟨B, 3, none⟩ (.slice (some ⟨h4, 0, none⟩) (N + 1) e4)) (NotIn (w5.setCell ⟨B, 3, none⟩ (.slice (some ⟨h4, 0, none⟩) (N + 1) e4)) (bad5 (w.heap.size + 1 + 1) B h1 h2 h3 h4)) sStepS [.slice (some ⟨b, off, none⟩) ln lc] (stepsL d.1 d.2 (termF f))) from by
         have e := HNI.out.1
         refine ⟨?_, SV4.out.2.1.1⟩
         rw [e]
         show SF w a v B h1 (N + 1) e1 h2 (N + 1) e2 h3 (N + 1) e3 h4 (N + 1) e4 (termsF ((FK k).1 ++ [(x, i, dp + 1)])) (fromD ((FK k).1 ++ [(x, i, dp + 1)])) (byD ((FK k).1 ++ [(x, i, dp + 1)])) (deepD ((FK k).1 ++ [(x, i, dp + 1)])) _
         rw [termsF_app, fromD_app hL1, byD_app hL1, deepD_app]
         exact SV4.out.1)
        have HLEN := hid HNI.out.2
        have HALL := hid (show (FK (k + 1)).2 = true from by rw [HNI.out.1])
        clear SV4 HNI hL1
        go_wp2
        go_roundg (gk - 1)
        case measure => have := HK.out; omega
        case rel => exact ⟨k + 1, N + 1, h1, e1, h2, e2, h3, e3, h4, e4, by simp, by have := HK.out; omega, HLEN.out, HALL.out, F.out.1, F.out.2⟩
     ·have e1 : k = ln := by omega
      subst e1
      have F := hid (show SF w a v B g1 N c1 g2 N c2 g3 N c3 g4 N c4 (termsF (fdN d.1 d.2 t n (i + 1)).1) (fromD (fdN d.1 d.2 t n (i + 1)).1) (byD (fdN d.1 d.2 t n (i + 1)).1) (deepD (fdN d.1 d.2 t n (i + 1)).1) wr ∧ (fdN d.1 d.2 t n (i + 1)).1.length = N ∧ (fdN d.1 d.2 t n (i + 1)).2 = true from by
       have e := HFK.out.2.2.2.1
       rw [HLN.out] at e
       rw [← e]
       exact ⟨S, HK.out.2.1, HK.out.2.2⟩)
      clear S hQ
      go_wp2
      go_roundg (G - 1)
      case measure => have := HL.out; omega
      case rel => exact ⟨i + 1, N, g1, c1, g2, c2, g3, c3, g4, c4, by simp, by have := HL.out; omega, by omega, F.out.2.1, F.out.2.2, F.out.1⟩
  ·have FD := hid (show Fd = fdN d.1 d.2 t n i from by rw [← HFd.out.1]; exact fd_end (by omega) (.inl (by omega)))
   have hqB : B ≠ w.heap.size + 1 := by have := S.far; omega
   have HS2 := hid S
   have RR := S.res
   have SFo := S.fo
   have BB := S.bel
   have hi2 : ¬ (i : Int) < (N : Int) := by omega
   clear S hlen hall hiG
   have ya0 : wr.cell? ⟨w.heap.size + 1, 0, none⟩ = some (.slice none 0 0) := RR.cell 0
   have ga0 := RR.free 0
   have ya1 : wr.cell? ⟨w.heap.size + 1, 1, none⟩ = some (.slice none 0 0) := RR.cell 1
   have ga1 := RR.free 1
   have ya2 : wr.cell? ⟨w.heap.size + 1, 2, none⟩ = some (.slice none 0 0) := RR.cell 2
   have ga2 := RR.free 2
   have ya3 : wr.cell? ⟨w.heap.size + 1, 3, none⟩ = some (.slice none 0 0) := RR.cell 3
   have ga3 := RR.free 3
   have ya4 : wr.cell? ⟨w.heap.size + 1, 4, none⟩ = some (.bool false) := RR.cell 4
   have ga4 := RR.free 4
   have rz0 := Row.put RR 0 (.slice (some ⟨g1, 0, none⟩) N c1)
   have yb1 : (wr.setCell ⟨w.heap.size + 1, 0, none⟩ (.slice (some ⟨g1, 0, none⟩) N c1)).cell? ⟨w.heap.size + 1, 1, none⟩ = some (.slice none 0 0) := rz0.cell 1
   have gb1 := rz0.free 1
   have rz1 := Row.put rz0 1 (.slice (some ⟨g2, 0, none⟩) N c2)
   have yb2 : ((wr.setCell ⟨w.heap.size + 1, 0, none⟩ (.slice (some ⟨g1, 0, none⟩) N c1)).setCell ⟨w.heap.size + 1, 1, none⟩ (.slice (some ⟨g2, 0, none⟩) N c2)).cell? ⟨w.heap.size + 1, 2, none⟩ = some (.slice none 0 0) := rz1.cell 2
   have gb2 := rz1.free 2
   have rz2 := Row.put rz1 2 (.slice (some ⟨g3, 0, none⟩) N c3)
   have yb3 : (((wr.setCell ⟨w.heap.size + 1, 0, none⟩ (.slice (some ⟨g1, 0, none⟩) N c1)).setCell ⟨w.heap.size + 1, 1, none⟩ (.slice (some ⟨g2, 0, none⟩) N c2)).setCell ⟨w.heap.size + 1, 2, none⟩ (.slice (some ⟨g3, 0, none⟩) N c3)).cell? ⟨w.heap.size + 1, 3, none⟩ = some (.slice none 0 0) := rz2.cell 3
   have gb3 := rz2.free 3
   have rz3 := Row.put rz2 3 (.slice (some ⟨g4, 0, none⟩) N c4)
   have yb4 : ((((wr.setCell ⟨w.heap.size + 1, 0, none⟩ (.slice (some ⟨g1, 0, none⟩) N c1)).setCell ⟨w.heap.size + 1, 1, none⟩ (.slice (some ⟨g2, 0, none⟩) N c2)).setCell ⟨w.heap.size + 1, 2, none⟩ (.slice (some ⟨g3, 0, none⟩) N c3)).setCell ⟨w.heap.size + 1, 3, none⟩ (.slice (some ⟨g4, 0, none⟩) N c4)).cell? ⟨w.heap.size + 1, 4, none⟩ = some (.bool false) := rz3.cell 4
   have gb4 := rz3.free 4
   have rz4 := Row.put rz3 4 (.bool true)
   have u0 : (((((wr.setCell ⟨w.heap.size + 1, 0, none⟩ (.slice (some ⟨g1, 0, none⟩) N c1)).setCell ⟨w.heap.size + 1, 1, none⟩ (.slice (some ⟨g2, 0, none⟩) N c2)).setCell ⟨w.heap.size + 1, 2, none⟩ (.slice (some ⟨g3, 0, none⟩) N c3)).setCell ⟨w.heap.size + 1, 3, none⟩ (.slice (some ⟨g4, 0, none⟩) N c4)).setCell ⟨w.heap.size + 1, 4, none⟩ (.bool true)).cell? ⟨w.heap.size + 1, 0, none⟩ = some (.slice (some ⟨g1, 0, none⟩) N c1) := rz4.cell 0
   have u1 : (((((wr.setCell ⟨w.heap.size + 1, 0, none⟩ (.slice (some ⟨g1, 0, none⟩) N c1)).setCell ⟨w.heap.size + 1, 1, none⟩ (.slice (some ⟨g2, 0, none⟩) N c2)).setCell ⟨w.heap.size + 1, 2, none⟩ (.slice (some ⟨g3, 0, none⟩) N c3)).setCell ⟨w.heap.size + 1, 3, none⟩ (.slice (some ⟨g4, 0, none⟩) N c4)).setCell ⟨w.heap.size + 1, 4, none⟩ (.bool true)).cell? ⟨w.heap.size + 1, 1, none⟩ = some (.slice (some ⟨g2, 0, none⟩) N c2) := rz4.cell 1
   have u2 : (((((wr.setCell ⟨w.heap.size + 1, 0, none⟩ (.slice (some ⟨g1, 0, none⟩) N c1)).setCell ⟨w.heap.size + 1, 1, none⟩ (.slice (some ⟨g2, 0, none⟩) N c2)).setCell ⟨w.heap.size + 1, 2, none⟩ (.slice (some ⟨g3, 0, none⟩) N c3)).setCell ⟨w.heap.size + 1, 3, none⟩ (.slice (some ⟨g4, 0, none⟩) N c4)).setCell ⟨w.heap.size + 1, 4, none⟩ (.bool true)).cell? ⟨w.heap.size + 1, 2, none⟩ = some (.slice (some ⟨g3, 0, none⟩) N c3) := rz4.cell 2
   have u3 : (((((wr.setCell ⟨w.heap.size + 1, 0, none⟩ (.slice (some ⟨g1, 0, none⟩) N c1)).setCell ⟨w.heap.size + 1, 1, none⟩ (.slice (some ⟨g2, 0, none⟩) N c2)).setCell ⟨w.heap.size + 1, 2, none⟩ (.slice (some ⟨g3, 0, none⟩) N c3)).setCell ⟨w.heap.size + 1, 3, none⟩ (.slice (some ⟨g4, 0, none⟩) N c4)).setCell ⟨w.heap.size + 1, 4, none⟩ (.bool true)).cell? ⟨w.heap.size + 1, 3, none⟩ = some (.slice (some ⟨g4, 0, none⟩) N c4) := rz4.cell 3
   have u4 : (((((wr.setCell ⟨w.heap.size + 1, 0, none⟩ (.slice (some ⟨g1, 0, none⟩) N c1)).setCell ⟨w.heap.size + 1, 1, none⟩ (.slice (some ⟨g2, 0, none⟩) N c2)).setCell ⟨w.heap.size + 1, 2, none⟩ (.slice (some ⟨g3, 0, none⟩) N c3)).setCell ⟨w.heap.size + 1, 3, none⟩ (.slice (some ⟨g4, 0, none⟩) N c4)).setCell ⟨w.heap.size + 1, 4, none⟩ (.bool true)).cell? ⟨w.heap.size + 1, 4, none⟩ = some (.bool true) := rz4.cell 4
   have FZ : AnsFd w Fd (.returned (.agg #[.slice (some ⟨g1, 0, none⟩) N c1, .slice (some ⟨g2, 0, none⟩) N c2, .slice (some ⟨g3, 0, none⟩) N c3, .slice (some ⟨g4, 0, none⟩) N c4, .bool true])) (((((wr.setCell ⟨w.heap.size + 1, 0, none⟩ (.slice (some ⟨g1, 0, none⟩) N c1)).setCell ⟨w.heap.size + 1, 1, none⟩ (.slice (some ⟨g2, 0, none⟩) N c2)).setCell ⟨w.heap.size + 1, 2, none⟩ (.slice (some ⟨g3, 0, none⟩) N c3)).setCell ⟨w.heap.size + 1, 3, none⟩ (.slice (some ⟨g4, 0, none⟩) N c4)).setCell ⟨w.heap.size + 1, 4, none⟩ (.bool true)) := by rw [FD.out]; exact ansFd (S := fdN d.1 d.2 t n i) (((((SFo.far 0 (.slice (some ⟨g1, 0, none⟩) N c1) (by omega) hqB).far 1 (.slice (some ⟨g2, 0, none⟩) N c2) (by omega) hqB).far 2 (.slice (some ⟨g3, 0, none⟩) N c3) (by omega) hqB).far 3 (.slice (some ⟨g4, 0, none⟩) N c4) (by omega) hqB).far 4 (.bool true) (by omega) hqB) HL.out.2.1.symm ((((((BB.setCell (by show w.heap.size ≤ w.heap.size + 1; omega) _).setCell (by show w.heap.size ≤ w.heap.size + 1; omega) _).setCell (by show w.heap.size ≤ w.heap.size + 1; omega) _).setCell (by show w.heap.size ≤ w.heap.size + 1; omega) _).setCell (by show w.heap.size ≤ w.heap.size + 1; omega) _))
   have HFZ := hid FZ
   clear FZ rz0 rz1 rz2 rz3 rz4 SFo RR BB HS2 FD
   go_wp2
   exact bodyPost_ret (v := .agg #[.slice (some ⟨g1, 0, none⟩) N c1, .slice (some ⟨g2, 0, none⟩) N c2, .slice (some ⟨g3, 0, none⟩) N c3, .slice (some ⟨g4, 0, none⟩) N c4, .bool true]) (by simp [results, Try.results50, go_sem, u0, u1, u2, u3, u4]) rfl HFZ.out
end findSpec
end
section
open Go.Lib (hid)
open List (setIfInBounds_toArray set_cons_zero set_cons_succ getElem_toArray getElem_cons_zero getElem_cons_succ)
namespace reachImpl
open Go.RowKit base ints sig term termOk termFacts marks app sub varsOf appAt sym segs segsHelp kinds shape kindsR kindsW ruleMath ruleSpec stepMath stepSpec ownL drawX walkMath reachMath findW findSpec heldT known
set_option maxRecDepth 100000
abbrev sFind : Sh := .cat sStep (.cat .num .num)
def fdat (f : Fi) : Dat sFind := (f.1, ((f.2.1 : Int), (f.2.2 : Int)))
theorem info_find : (Try.prog.info? 94).map (fun i => (i.zero, i.size, i.bytes)) = some (some (.agg #[.int .i64 0, .int .i64 0, .slice none 0 0, .int .i64 0, .int .i64 0]), nc sFind, 56) := by kernel_rfl
structure Rf (lo mid rb mb cnt : Nat) (S : Fs) (O : Option Addr) (on oc : Nat) (W : World) : Prop where
 row : Row W rb 89 #[.slice O on oc, .map (some mb), .bool S.2]
 ow : OwnL W lo mid 94 sFind O on oc (S.1.map fdat)
 kn : Kn W mb cnt (termsF S.1)
structure Tcr (rb mb : Nat) (O : Option Addr) (X Y : World) : Prop where
 os : Y.os = X.os
 tape : Y.tape = X.tape
 output : Y.output = X.output
 size : X.heap.size ≤ Y.heap.size
 block : ∀ k, k < X.heap.size → k ≠ rb → k ≠ mb → some k ≠ blk O → Y.heap[k]? = X.heap[k]?
section
variable {rb mb : Nat} {O : Option Addr} {X Y Z : World}
theorem Tcr.trans (h : Tcr rb mb O X Y) (k : Tcr rb mb O Y Z) : Tcr rb mb O X Z := ⟨k.os.trans h.os, k.tape.trans h.tape, k.output.trans h.output, Nat.le_trans h.size k.size, fun i h1 h2 h3 h4 => (k.block i (Nat.lt_of_lt_of_le h1 h.size) h2 h3 h4).trans (h.block i h1 h2 h3 h4)⟩
theorem Tcr.of_below (h : Below X.heap.size X Y) : Tcr rb mb O X Y := ⟨h.os, h.tape, h.output, h.size, fun k hk _ _ _ => h.block k hk⟩
theorem Tcr.of_grown {r : Option Nat} (h : X.grownBy Y r) (hr : ∀ k, r = some k → k = rb ∨ k = mb ∨ some k = blk O) : Tcr rb mb O X Y := ⟨h.os, h.tape, h.output, h.size, fun k hk h1 h2 h3 => h.block k hk (fun e => by rcases hr k e.symm with q | q | q; exact h1 q; exact h2 q; exact h3 q)⟩
theorem Tcr.row {g : Nat} {t : TypeId} {cs : Array Value} (h : Tcr rb mb O X Y) (r : Row X g t cs) (h1 : g ≠ rb) (h2 : g ≠ mb) (h3 : some g ≠ blk O) : Row Y g t cs := (h.block g r.lt h1 h2 h3).trans r
end
def AnsAdd (lo rb mb cnt ln : Nat) (S : Fs) (O : Option Addr) (X : World) (e : Ending) (Y : World) : Prop := (∃ v, e = .returned v) ∧ ∃ (O' : Option Addr) (on' oc' cnt' : Nat), Rf lo Y.heap.size rb mb cnt' S O' on' oc' Y ∧ (cnt' ≤ cnt + 1 ∧ (S.2 = true → cnt' + ln ≤ cnt + S.1.length)) ∧ Tcr rb mb O X Y ∧ ∀ k, blk O' = some k → blk O = some k ∨ X.heap.size ≤ k
theorem owned_find {w : World} {lo hi : Nat} {U : Option Addr} {un uc : Nat} {x : St} {p dd : Nat} (h : Owned w lo hi sI [.slice U un uc] x.2.2) : Owned w lo hi sFind [.int .i64 x.1, .int .i64 x.2.1, .slice U un uc, .int .i64 (p : Int), .int .i64 (dd : Int)] (fdat (x, p, dd)) := by
 obtain ⟨F, h1, h2, h3⟩ := h
 refine ⟨F, ⟨[.int .i64 x.1, .int .i64 x.2.1, .slice U un uc], [.int .i64 (p : Int), .int .i64 (dd : Int)], F, [], rfl, by simp, ⟨[.int .i64 x.1], [.int .i64 x.2.1, .slice U un uc], [], F, rfl, rfl, ⟨rfl, rfl⟩, ⟨[.int .i64 x.2.1], [.slice U un uc], [], F, rfl, rfl, ⟨rfl, rfl⟩, h1⟩⟩, ⟨[.int .i64 (p : Int)], [.int .i64 (dd : Int)], [], [], rfl, rfl, ⟨rfl, rfl⟩, ⟨rfl, rfl⟩⟩⟩, h2, h3⟩
set_option maxHeartbeats 4000000 in
theorem implAdd (lo mid rb mb cnt : Nat) (S : Fs) (O : Option Addr) (on oc : Nat) (x : St) (U : Option Addr) (un uc p dd : Nat) (X : World) (h : Rf lo mid rb mb cnt S O on oc X) (hU : Owned X mid X.heap.size sI [.slice U un uc] x.2.2) (hx : Small x.2.2) (hall : S.2 = true) (h60 : S.1.length ≤ 60) (hcnt : cnt ≤ 1000) (hlo : rb < lo) (hmb : mb < lo) (hne : rb ≠ mb) (hmid : lo ≤ mid) (hmx : mid ≤ X.heap.size) :
  Calls Try.prog 79 #[.pointer (some ⟨rb, 0, none⟩), .agg #[.int .i64 x.1, .int .i64 x.2.1, .slice U un uc, .int .i64 (p : Int), .int .i64 (dd : Int)]] X (AnsAdd lo rb mb cnt S.1.length (addF p dd S x) O X) := by
 obtain ⟨W, hW, rB, bW⟩ := box1 X 94 #[.int .i64 x.1, .int .i64 x.2.1, .slice U un uc, .int .i64 (p : Int), .int .i64 (dd : Int)]
 have HW := hid hW
 obtain ⟨B, hB⟩ : ∃ B, X.heap.size = B := ⟨_, rfl⟩
 have hLon : S.1.length = on := by have := h.ow.1; simpa using this
 have hon : on ≤ 60 := by omega
 have zrX : rb < X.heap.size := h.row.lt
 have sU : Seg W.drew W.drew.heap.size U un x.2.2 := ((hU.rd.seg).next bW).drew
 have k0 : W.cell? ⟨rb, 0, none⟩ = some (.slice O on oc) := (h.row.next bW).cell 0
 have k1 : W.cell? ⟨rb, 1, none⟩ = some (.map (some mb)) := (h.row.next bW).cell 1
 have k2 : W.cell? ⟨B, 2, none⟩ = some (.slice U un uc) := by rw [← hB]; exact rB.cell 2
 have zr : rb < W.drew.heap.size := (h.row.next bW).lt
 have zB : B < W.drew.heap.size := by rw [← hB]; exact rB.lt
 have nO : blk O ≠ some rb := fun e => by have := (h.ow.ge rb e).1; omega
 have HX := hid (show Rf lo mid rb mb cnt S O on oc W.drew ∧ Owned W.drew mid X.heap.size sI [.slice U un uc] x.2.2 ∧ Row W.drew B 94 #[.int .i64 x.1, .int .i64 x.2.1, .slice U un uc, .int .i64 (p : Int), .int .i64 (dd : Int)] ∧ Below X.heap.size X W.drew ∧ X.heap.size = B ∧ X.heap.size ≤ W.drew.heap.size from ⟨⟨(h.row.next bW).drew, (h.ow.next bW).next (drew_below W), (h.kn.below bW).drew⟩, (hU.next bW).drew, by rw [← hB]; exact rB.drew, next_trans bW (drew_below W), hB, bW.size⟩)
 by_cases hin : x.2.2 ∈ termsF S.1
 ·have LA := hid (addOld U un uc mb cnt x.2.2 (on : Int) (termsF S.1) W.drew HX.out.1.kn sU hx hin)
  have HI := hid hin
  clear hin hW rB bW h hU sU
  go_enter Try.func79, Try.ntmps79
  go_upto_region 1 with fail
  rw [← HW.out]
  try rw [hB]
  refine AnyT.start (S := (fun w' => w'.cell? ⟨rb, 0, none⟩ = some (.slice O on oc) ∧ w'.cell? ⟨rb, 1, none⟩ = some (.map (some mb)) ∧ w'.cell? ⟨B, 2, none⟩ = some (.slice U un uc))) (fun _ => false) (by kernel_rfl) ⟨k0, k1, k2⟩ (fun hHeld => ?_)
  refine AnyT.takeA (i := 0) (v := ?_) rfl (by kernel_rfl) (by kernel_rfl) (by kernel_rfl) (fun _ _ _ h => h) (Or.inl ⟨by rfl, ?_⟩) ?_
  rotate_left 1
  ·(intro w0 _; go_simp; try with_reducible rfl)
  try simp only [Act.put, setIfInBounds_toArray, set_cons_zero, set_cons_succ, getElem_toArray, getElem_cons_zero, getElem_cons_succ]
  refine AnyT.takeA (i := 1) (v := ?_) rfl (by kernel_rfl) (by kernel_rfl) (by kernel_rfl) (fun _ _ _ h => h) (Or.inl ⟨by rfl, ?_⟩) ?_
  rotate_left 1
  ·(intro w0 _; go_simp; try with_reducible rfl)
  try simp only [Act.put, setIfInBounds_toArray, set_cons_zero, set_cons_succ, getElem_toArray, getElem_cons_zero, getElem_cons_succ]
  refine AnyT.takeA (i := 2) (v := ?_) rfl (by kernel_rfl) (by kernel_rfl) (by kernel_rfl) (fun _ _ _ h => h) (Or.inl ⟨by rfl, ?_⟩) ?_
  rotate_left 1
  ·(intro w0 _; go_simp; try with_reducible rfl)
  try simp only [Act.put, setIfInBounds_toArray, set_cons_zero, set_cons_succ, getElem_toArray, getElem_cons_zero, getElem_cons_succ]
  refine AnyT.takeU (i := 3) (v := ?_) rfl (by kernel_rfl) (by kernel_rfl) (by kernel_rfl) (by kernel_rfl) (by kernel_rfl) (fun _ _ _ h => h) (Or.inl ⟨by rfl, ?_⟩) (by assumption) ?_
  rotate_left 1
  ·(intro w0 hSw; (try dsimp only at hSw); go_simp; try with_reducible rfl)
  try simp only [Act.put, setIfInBounds_toArray, set_cons_zero, set_cons_succ, getElem_toArray, getElem_cons_zero, getElem_cons_succ]
  refine AnyT.takeA (i := 4) (v := ?_) rfl (by kernel_rfl) (by kernel_rfl) (by kernel_rfl) (fun _ _ _ h => h) (Or.inl ⟨by rfl, ?_⟩) ?_
  rotate_left 1
  ·(intro w0 _; go_simp; try with_reducible rfl)
  try simp only [Act.put, setIfInBounds_toArray, set_cons_zero, set_cons_succ, getElem_toArray, getElem_cons_zero, getElem_cons_succ]
  refine AnyT.takeA (i := 5) (v := ?_) rfl (by kernel_rfl) (by kernel_rfl) (by kernel_rfl) (fun _ _ _ h => h) (Or.inl ⟨by rfl, ?_⟩) ?_
  rotate_left 1
  ·(intro w0 _; go_simp; try with_reducible rfl)
  try simp only [Act.put, setIfInBounds_toArray, set_cons_zero, set_cons_succ, getElem_toArray, getElem_cons_zero, getElem_cons_succ]
  refine AnyT.takeU (i := 6) (v := ?_) rfl (by kernel_rfl) (by kernel_rfl) (by kernel_rfl) (by kernel_rfl) (by kernel_rfl) (fun _ _ _ h => h) (Or.inl ⟨by rfl, ?_⟩) (by assumption) ?_
  rotate_left 1
  ·(intro w0 hSw; (try dsimp only at hSw); go_simp; try with_reducible rfl)
  try simp only [Act.put, setIfInBounds_toArray, set_cons_zero, set_cons_succ, getElem_toArray, getElem_cons_zero, getElem_cons_succ]
  refine AnyT.takeA (i := 7) (v := ?_) rfl (by kernel_rfl) (by kernel_rfl) (by kernel_rfl) (fun _ _ _ h => h) (Or.inl ⟨by rfl, ?_⟩) ?_
  rotate_left 1
  ·(intro w0 _; go_simp; try with_reducible rfl)
  try simp only [Act.put, setIfInBounds_toArray, set_cons_zero, set_cons_succ, getElem_toArray, getElem_cons_zero, getElem_cons_succ]
  refine AnyT.takeA (i := 8) (v := ?_) rfl (by kernel_rfl) (by kernel_rfl) (by kernel_rfl) (fun _ _ _ h => h) (Or.inl ⟨by rfl, ?_⟩) ?_
  rotate_left 1
  ·(intro w0 _; go_simp; try with_reducible rfl)
  try simp only [Act.put, setIfInBounds_toArray, set_cons_zero, set_cons_succ, getElem_toArray, getElem_cons_zero, getElem_cons_succ]
  refine AnyT.takeA (i := 9) (v := ?_) rfl (by kernel_rfl) (by kernel_rfl) (by kernel_rfl) (fun _ _ _ h => h) (Or.inl ⟨by rfl, ?_⟩) ?_
  rotate_left 1
  ·(intro w0 _; go_simp; try with_reducible rfl)
  try simp only [Act.put, setIfInBounds_toArray, set_cons_zero, set_cons_succ, getElem_toArray, getElem_cons_zero, getElem_cons_succ]
  refine AnyT.takeU (i := 10) (v := ?_) rfl (by kernel_rfl) (by kernel_rfl) (by kernel_rfl) (by kernel_rfl) (by kernel_rfl) (fun _ _ _ h => h) (Or.inl ⟨by rfl, ?_⟩) (by assumption) ?_
  rotate_left 1
  ·(intro w0 hSw; (try dsimp only at hSw); go_simp; try with_reducible rfl)
  try simp only [Act.put, setIfInBounds_toArray, set_cons_zero, set_cons_succ, getElem_toArray, getElem_cons_zero, getElem_cons_succ]
  refine AnyT.takeA (i := 11) (v := ?_) rfl (by kernel_rfl) (by kernel_rfl) (by kernel_rfl) (fun _ _ _ h => h) (Or.inl ⟨by rfl, ?_⟩) ?_
  rotate_left 1
  ·(intro w0 _; go_simp; try with_reducible rfl)
  try simp only [Act.put, setIfInBounds_toArray, set_cons_zero, set_cons_succ, getElem_toArray, getElem_cons_zero, getElem_cons_succ]
  refine AnyT.call (i := 12) (by kernel_rfl) rfl (fun K hK => ?_)
  try simp only [Act.put, setIfInBounds_toArray, set_cons_zero, set_cons_succ, getElem_toArray, getElem_cons_zero, getElem_cons_succ]
  rw [if_pos (by rfl)]
  go_simp
  (go_at_call 102; refine LA.out.mono ?_; rintro e w2 ⟨rfl, bb⟩; have d0 : w2.cell? ⟨rb, 0, none⟩ = some (.slice O on oc) := (bb.cell (p := ⟨rb, 0, none⟩) zr).trans k0; have d1 : w2.cell? ⟨rb, 1, none⟩ = some (.map (some mb)) := (bb.cell (p := ⟨rb, 1, none⟩) zr).trans k1; have d2 : w2.cell? ⟨B, 2, none⟩ = some (.slice U un uc) := (bb.cell (p := ⟨B, 2, none⟩) zB).trans k2; go_wp2_with fail)
  refine hK.out _ _ (fun _ _ => ?_) (fun hKeep => ?_)
  ·exact ⟨d0, d1, d2⟩
  replace hHeld := hKeep (by first | rfl | trivial) hHeld
  clear hK K hKeep
  try simp only [Act.put, setIfInBounds_toArray, set_cons_zero, set_cons_succ, getElem_toArray, getElem_cons_zero, getElem_cons_succ]
  refine AnyT.takeA (i := 13) (v := ?_) rfl (by kernel_rfl) (by kernel_rfl) (by kernel_rfl) (fun _ _ _ h => h) (Or.inl ⟨by rfl, ?_⟩) ?_
  rotate_left 1
  ·(intro w0 _; go_simp; try with_reducible rfl)
  try simp only [Act.put, setIfInBounds_toArray, set_cons_zero, set_cons_succ, getElem_toArray, getElem_cons_zero, getElem_cons_succ]
  refine AnyT.done (by kernel_rfl) ?_ _
  have F := hid (show AnsAdd lo rb mb cnt S.1.length (addF p dd S x) O X (.returned (.tuple #[])) w2 from by
   rw [add_in HI.out]
   have h2 := HX.out.1
   have hs2 := bb.size
   refine ⟨⟨_, rfl⟩, O, on, oc, cnt, ⟨h2.row.next bb, (h2.ow.next bb).wider (Nat.le_refl _) (by have := HX.out.2.2.2.2.2; omega), h2.kn.below bb⟩, ⟨by omega, fun _ => Nat.le_refl _⟩, Tcr.of_below (next_trans HX.out.2.2.2.1 bb), fun k e => .inl e⟩)
  clear bb LA HX d0 d1 d2 k0 k1 k2
  go_wp2
  first | (go_ret; exact F.out) | (go_end0; exact F.out)
 ·have hl : (termsF S.1).length = on := by rw [← hLon]; unfold termsF; simp
  have LA := hid (show Calls Try.prog 102 #[.map (some mb), .slice U un uc, .int .i64 (on : Int)] W.drew _ from by have q := addNew U un uc mb cnt x.2.2 (termsF S.1) W.drew HX.out.1.kn sU hx hin (by omega) (by omega); rw [hl] at q; exact q)
  have HI := hid (show x.2.2 ∉ termsF S.1 ∧ S.2 = true ∧ S.1.length = on ∧ (termsF S.1).length = on ∧ Small x.2.2 from ⟨hin, hall, hLon, hl, hx⟩)
  have nrm : (⟨rb, 0, none⟩ : Addr).block ≠ mb := hne
  have nBm : (⟨B, 2, none⟩ : Addr).block ≠ mb := by show B ≠ mb; have := HX.out.1.kn.lt; omega
  clear hin hW rB bW h hU sU hLon hl hx hall
  go_enter Try.func79, Try.ntmps79
  go_upto_region 1 with fail
  rw [← HW.out]
  try rw [hB]
  refine AnyT.start (S := (fun w' => w'.cell? ⟨rb, 0, none⟩ = some (.slice O on oc) ∧ w'.cell? ⟨rb, 1, none⟩ = some (.map (some mb)) ∧ w'.cell? ⟨B, 2, none⟩ = some (.slice U un uc))) (fun _ => false) (by kernel_rfl) ⟨k0, k1, k2⟩ (fun hHeld => ?_)
  refine AnyT.takeA (i := 0) (v := ?_) rfl (by kernel_rfl) (by kernel_rfl) (by kernel_rfl) (fun _ _ _ h => h) (Or.inl ⟨by rfl, ?_⟩) ?_
  rotate_left 1
  ·(intro w0 _; go_simp; try with_reducible rfl)
  try simp only [Act.put, setIfInBounds_toArray, set_cons_zero, set_cons_succ, getElem_toArray, getElem_cons_zero, getElem_cons_succ]
  refine AnyT.takeA (i := 1) (v := ?_) rfl (by kernel_rfl) (by kernel_rfl) (by kernel_rfl) (fun _ _ _ h => h) (Or.inl ⟨by rfl, ?_⟩) ?_
  rotate_left 1
  ·(intro w0 _; go_simp; try with_reducible rfl)
  try simp only [Act.put, setIfInBounds_toArray, set_cons_zero, set_cons_succ, getElem_toArray, getElem_cons_zero, getElem_cons_succ]
  refine AnyT.takeA (i := 2) (v := ?_) rfl (by kernel_rfl) (by kernel_rfl) (by kernel_rfl) (fun _ _ _ h => h) (Or.inl ⟨by rfl, ?_⟩) ?_
  rotate_left 1
  ·(intro w0 _; go_simp; try with_reducible rfl)
  try simp only [Act.put, setIfInBounds_toArray, set_cons_zero, set_cons_succ, getElem_toArray, getElem_cons_zero, getElem_cons_succ]
  refine AnyT.takeU (i := 3) (v := ?_) rfl (by kernel_rfl) (by kernel_rfl) (by kernel_rfl) (by kernel_rfl) (by kernel_rfl) (fun _ _ _ h => h) (Or.inl ⟨by rfl, ?_⟩) (by assumption) ?_
  rotate_left 1
  ·(intro w0 hSw; (try dsimp only at hSw); go_simp; try with_reducible rfl)
  try simp only [Act.put, setIfInBounds_toArray, set_cons_zero, set_cons_succ, getElem_toArray, getElem_cons_zero, getElem_cons_succ]
  refine AnyT.takeA (i := 4) (v := ?_) rfl (by kernel_rfl) (by kernel_rfl) (by kernel_rfl) (fun _ _ _ h => h) (Or.inl ⟨by rfl, ?_⟩) ?_
  rotate_left 1
  ·(intro w0 _; go_simp; try with_reducible rfl)
  try simp only [Act.put, setIfInBounds_toArray, set_cons_zero, set_cons_succ, getElem_toArray, getElem_cons_zero, getElem_cons_succ]
  refine AnyT.takeA (i := 5) (v := ?_) rfl (by kernel_rfl) (by kernel_rfl) (by kernel_rfl) (fun _ _ _ h => h) (Or.inl ⟨by rfl, ?_⟩) ?_
  rotate_left 1
  ·(intro w0 _; go_simp; try with_reducible rfl)
  try simp only [Act.put, setIfInBounds_toArray, set_cons_zero, set_cons_succ, getElem_toArray, getElem_cons_zero, getElem_cons_succ]
  refine AnyT.takeU (i := 6) (v := ?_) rfl (by kernel_rfl) (by kernel_rfl) (by kernel_rfl) (by kernel_rfl) (by kernel_rfl) (fun _ _ _ h => h) (Or.inl ⟨by rfl, ?_⟩) (by assumption) ?_
  rotate_left 1
  ·(intro w0 hSw; (try dsimp only at hSw); go_simp; try with_reducible rfl)
  try simp only [Act.put, setIfInBounds_toArray, set_cons_zero, set_cons_succ, getElem_toArray, getElem_cons_zero, getElem_cons_succ]
  refine AnyT.takeA (i := 7) (v := ?_) rfl (by kernel_rfl) (by kernel_rfl) (by kernel_rfl) (fun _ _ _ h => h) (Or.inl ⟨by rfl, ?_⟩) ?_
  rotate_left 1
  ·(intro w0 _; go_simp; try with_reducible rfl)
  try simp only [Act.put, setIfInBounds_toArray, set_cons_zero, set_cons_succ, getElem_toArray, getElem_cons_zero, getElem_cons_succ]
  refine AnyT.takeA (i := 8) (v := ?_) rfl (by kernel_rfl) (by kernel_rfl) (by kernel_rfl) (fun _ _ _ h => h) (Or.inl ⟨by rfl, ?_⟩) ?_
  rotate_left 1
  ·(intro w0 _; go_simp; try with_reducible rfl)
  try simp only [Act.put, setIfInBounds_toArray, set_cons_zero, set_cons_succ, getElem_toArray, getElem_cons_zero, getElem_cons_succ]
  refine AnyT.takeA (i := 9) (v := ?_) rfl (by kernel_rfl) (by kernel_rfl) (by kernel_rfl) (fun _ _ _ h => h) (Or.inl ⟨by rfl, ?_⟩) ?_
  rotate_left 1
  ·(intro w0 _; go_simp; try with_reducible rfl)
  try simp only [Act.put, setIfInBounds_toArray, set_cons_zero, set_cons_succ, getElem_toArray, getElem_cons_zero, getElem_cons_succ]
  refine AnyT.takeU (i := 10) (v := ?_) rfl (by kernel_rfl) (by kernel_rfl) (by kernel_rfl) (by kernel_rfl) (by kernel_rfl) (fun _ _ _ h => h) (Or.inl ⟨by rfl, ?_⟩) (by assumption) ?_
  rotate_left 1
  ·(intro w0 hSw; (try dsimp only at hSw); go_simp; try with_reducible rfl)
  try simp only [Act.put, setIfInBounds_toArray, set_cons_zero, set_cons_succ, getElem_toArray, getElem_cons_zero, getElem_cons_succ]
  refine AnyT.takeA (i := 11) (v := ?_) rfl (by kernel_rfl) (by kernel_rfl) (by kernel_rfl) (fun _ _ _ h => h) (Or.inl ⟨by rfl, ?_⟩) ?_
  rotate_left 1
  ·(intro w0 _; go_simp; try with_reducible rfl)
  try simp only [Act.put, setIfInBounds_toArray, set_cons_zero, set_cons_succ, getElem_toArray, getElem_cons_zero, getElem_cons_succ]
  refine AnyT.call (i := 12) (by kernel_rfl) rfl (fun K hK => ?_)
  try simp only [Act.put, setIfInBounds_toArray, set_cons_zero, set_cons_succ, getElem_toArray, getElem_cons_zero, getElem_cons_succ]
  rw [if_pos (by rfl)]
  go_simp
  (go_at_call 102; refine LA.out.mono ?_; rintro e w2 ⟨rfl, kk, gg⟩; have d0 : w2.cell? ⟨rb, 0, none⟩ = some (.slice O on oc) := (cell_far gg (p := ⟨rb, 0, none⟩) zr nrm).trans k0; have d1 : w2.cell? ⟨rb, 1, none⟩ = some (.map (some mb)) := (cell_far gg (p := ⟨rb, 1, none⟩) zr nrm).trans k1; have d2 : w2.cell? ⟨B, 2, none⟩ = some (.slice U un uc) := (cell_far gg (p := ⟨B, 2, none⟩) zB nBm).trans k2; go_wp2_with fail)
  refine hK.out _ _ (fun _ _ => ?_) (fun hKeep => ?_)
  ·exact ⟨d0, d1, d2⟩
  replace hHeld := hKeep (by first | rfl | trivial) hHeld
  clear hK K hKeep
  try simp only [Act.put, setIfInBounds_toArray, set_cons_zero, set_cons_succ, getElem_toArray, getElem_cons_zero, getElem_cons_succ]
  refine AnyT.takeA (i := 13) (v := ?_) rfl (by kernel_rfl) (by kernel_rfl) (by kernel_rfl) (fun _ _ _ h => h) (Or.inl ⟨by rfl, ?_⟩) ?_
  rotate_left 1
  ·(intro w0 _; go_simp; try with_reducible rfl)
  try simp only [Act.put, setIfInBounds_toArray, set_cons_zero, set_cons_succ, getElem_toArray, getElem_cons_zero, getElem_cons_succ]
  refine AnyT.done (by kernel_rfl) ?_ _
  have hs2 := gg.size
  have bt2 : Btw mb (mb + 1) W.drew w2 := Btw.of_grown gg (fun k e => by injection e with e; omega)
  have HX2 := hid (show Row w2 rb 89 #[.slice O on oc, .map (some mb), .bool S.2] ∧ OwnL w2 lo mid 94 sFind O on oc (S.1.map fdat) ∧ Kn w2 mb (cnt + 1) (termsF S.1 ++ [x.2.2]) ∧ Owned w2 mid X.heap.size sI [.slice U un uc] x.2.2 ∧ Row w2 B 94 #[.int .i64 x.1, .int .i64 x.2.1, .slice U un uc, .int .i64 (p : Int), .int .i64 (dd : Int)] ∧ Tcr rb mb O X w2 from
   ⟨Row.btw HX.out.1.row bt2 (by omega), HX.out.1.ow.btw bt2 (.inr (by omega)), kk, HX.out.2.1.btw bt2 (.inr (by omega)), Row.btw HX.out.2.2.1 bt2 (by have := HX.out.2.2.2.2.1; omega), (Tcr.of_below HX.out.2.2.2.1).trans (Tcr.of_grown gg (fun k e => .inr (.inl (by injection e with e; exact e.symm))))⟩)
  have HS := hid (show X.heap.size = B ∧ X.heap.size ≤ w2.heap.size from ⟨HX.out.2.2.2.2.1, by have := HX.out.2.2.2.2.2; omega⟩)
  clear kk gg bt2 LA HX k0 k1 k2 zr zB
  by_cases h6 : on = 60
  ·have zr : rb < w2.drew.heap.size := HX2.out.1.lt
   have zB : B < w2.drew.heap.size := HX2.out.2.2.2.2.1.lt
   have k1 : w2.cell? ⟨rb, 1, none⟩ = some (.map (some mb)) := HX2.out.1.cell 1
   have k2 : w2.cell? ⟨B, 2, none⟩ = some (.slice U un uc) := HX2.out.2.2.2.2.1.cell 2
   have LF := hid (forget U un uc mb (cnt + 1) x.2.2 (termsF S.1) w2.drew HX2.out.2.2.1.drew (((HX2.out.2.2.2.1.rd.seg)).drew) HI.out.1)
   have h6i : (on : Int) = 60 := by omega
   have H6 := hid h6
   clear h6
   go_upto_region 3 with fail
   refine AnyT.start (S := (fun w' => w'.cell? ⟨rb, 1, none⟩ = some (.map (some mb)) ∧ w'.cell? ⟨B, 2, none⟩ = some (.slice U un uc))) (fun _ => false) (by kernel_rfl) ⟨k1, k2⟩ (fun hHeld => ?_)
   refine AnyT.takeA (i := 0) (v := ?_) rfl (by kernel_rfl) (by kernel_rfl) (by kernel_rfl) (fun _ _ _ h => h) (Or.inl ⟨by rfl, ?_⟩) ?_
   rotate_left 1
   ·(intro w0 _; go_simp; try with_reducible rfl)
   try simp only [Act.put, setIfInBounds_toArray, set_cons_zero, set_cons_succ, getElem_toArray, getElem_cons_zero, getElem_cons_succ]
   refine AnyT.takeA (i := 1) (v := ?_) rfl (by kernel_rfl) (by kernel_rfl) (by kernel_rfl) (fun _ _ _ h => h) (Or.inl ⟨by rfl, ?_⟩) ?_
   rotate_left 1
   ·(intro w0 _; go_simp; try with_reducible rfl)
   try simp only [Act.put, setIfInBounds_toArray, set_cons_zero, set_cons_succ, getElem_toArray, getElem_cons_zero, getElem_cons_succ]
   refine AnyT.takeA (i := 2) (v := ?_) rfl (by kernel_rfl) (by kernel_rfl) (by kernel_rfl) (fun _ _ _ h => h) (Or.inl ⟨by rfl, ?_⟩) ?_
   rotate_left 1
   ·(intro w0 _; go_simp; try with_reducible rfl)
   try simp only [Act.put, setIfInBounds_toArray, set_cons_zero, set_cons_succ, getElem_toArray, getElem_cons_zero, getElem_cons_succ]
   refine AnyT.takeU (i := 3) (v := ?_) rfl (by kernel_rfl) (by kernel_rfl) (by kernel_rfl) (by kernel_rfl) (by kernel_rfl) (fun _ _ _ h => h) (Or.inl ⟨by rfl, ?_⟩) (by assumption) ?_
   rotate_left 1
   ·(intro w0 hSw; (try dsimp only at hSw); go_simp; try with_reducible rfl)
   try simp only [Act.put, setIfInBounds_toArray, set_cons_zero, set_cons_succ, getElem_toArray, getElem_cons_zero, getElem_cons_succ]
   refine AnyT.takeA (i := 4) (v := ?_) rfl (by kernel_rfl) (by kernel_rfl) (by kernel_rfl) (fun _ _ _ h => h) (Or.inl ⟨by rfl, ?_⟩) ?_
   rotate_left 1
   ·(intro w0 _; go_simp; try with_reducible rfl)
   try simp only [Act.put, setIfInBounds_toArray, set_cons_zero, set_cons_succ, getElem_toArray, getElem_cons_zero, getElem_cons_succ]
   refine AnyT.takeA (i := 5) (v := ?_) rfl (by kernel_rfl) (by kernel_rfl) (by kernel_rfl) (fun _ _ _ h => h) (Or.inl ⟨by rfl, ?_⟩) ?_
   rotate_left 1
   ·(intro w0 _; go_simp; try with_reducible rfl)
   try simp only [Act.put, setIfInBounds_toArray, set_cons_zero, set_cons_succ, getElem_toArray, getElem_cons_zero, getElem_cons_succ]
   refine AnyT.takeU (i := 6) (v := ?_) rfl (by kernel_rfl) (by kernel_rfl) (by kernel_rfl) (by kernel_rfl) (by kernel_rfl) (fun _ _ _ h => h) (Or.inl ⟨by rfl, ?_⟩) (by assumption) ?_
   rotate_left 1
   ·(intro w0 hSw; (try dsimp only at hSw); go_simp; try with_reducible rfl)
   try simp only [Act.put, setIfInBounds_toArray, set_cons_zero, set_cons_succ, getElem_toArray, getElem_cons_zero, getElem_cons_succ]
   refine AnyT.call (i := 7) (by kernel_rfl) rfl (fun K hK => ?_)
   try simp only [Act.put, setIfInBounds_toArray, set_cons_zero, set_cons_succ, getElem_toArray, getElem_cons_zero, getElem_cons_succ]
   rw [if_pos (by rfl)]
   go_simp
   (go_at_call 103; refine LF.out.mono ?_; rintro e w3 ⟨⟨v9, rfl⟩, k3, g3⟩; have e1 : w3.cell? ⟨rb, 1, none⟩ = some (.map (some mb)) := (cell_far g3 (p := ⟨rb, 1, none⟩) zr nrm).trans k1; have e2 : w3.cell? ⟨B, 2, none⟩ = some (.slice U un uc) := (cell_far g3 (p := ⟨B, 2, none⟩) zB nBm).trans k2; go_wp2_with fail)
   refine hK.out _ _ (fun _ _ => ?_) (fun hKeep => ?_)
   ·exact ⟨e1, e2⟩
   replace hHeld := hKeep (by first | rfl | trivial) hHeld
   clear hK K hKeep
   try simp only [Act.put, setIfInBounds_toArray, set_cons_zero, set_cons_succ, getElem_toArray, getElem_cons_zero, getElem_cons_succ]
   refine AnyT.done (by kernel_rfl) ?_ _
   have hs3 := g3.size
   have bt3 : Btw mb (mb + 1) w2.drew w3 := Btw.of_grown g3 (fun k e => by injection e with e; omega)
   have r3 : Row w3 rb 89 #[.slice O on oc, .map (some mb), .bool S.2] := Row.btw HX2.out.1.drew bt3 (by omega)
   have y3 : w3.cell? ⟨rb, 2, none⟩ = some (.bool S.2) := r3.cell 2
   have f3 := r3.free 2
   have F := hid (show AnsAdd lo rb mb cnt S.1.length (addF p dd S x) O X (.returned (.tuple #[])) (w3.setCell ⟨rb, 2, none⟩ (.bool false)) from by
    rw [add_full HI.out.2.1 HI.out.1 (by rw [HI.out.2.2.1]; exact H6.out)]
    have gS := grown_set w3 rb 2 (.bool false)
    refine ⟨⟨_, rfl⟩, O, on, oc, cnt + 1, ⟨Row.put r3 2 _, ((((HX2.out.2.1.next (drew_below w2)).btw bt3 (.inr (by omega))).btw (Btw.of_grown gS (lo := rb) (hi := rb + 1) (fun k e => by injection e with e; omega)) (.inr (by omega)))).wider (Nat.le_refl _) ?_, k3.kept gS (fun e => hne (by injection e with e; exact e.symm))⟩, ⟨Nat.le_refl _, fun h => by cases h⟩, ((HX2.out.2.2.2.2.2.trans (Tcr.of_below (drew_below w2))).trans (Tcr.of_grown g3 (fun k e => .inr (.inl (by injection e with e; exact e.symm))))).trans (Tcr.of_grown gS (fun k e => .inl (by injection e with e; exact e.symm))), fun k e => .inl e⟩
    have h1 := HS.out.2
    have h2 : w2.heap.size ≤ w3.heap.size := hs3
    show mid ≤ (w3.setCell ⟨rb, 2, none⟩ (.bool false)).heap.size
    simp
    omega)
   clear g3 bt3 r3 k3 LF HX2 e1 e2 k1 k2
   go_wp2
   first | (go_ret; exact F.out) | (go_end0; exact F.out)
  ·have h6i : ¬ (on : Int) = 60 := by omega
   have hk0 : w2.cell? ⟨rb, 0, none⟩ = some (.slice O on oc) := HX2.out.1.cell 0
   have SV := hid (show w2.drew.cell? ⟨rb, 0, none⟩ = some (.slice O on oc) ∧ w2.drew.cell? ⟨B, 0, none⟩ = some (.int .i64 x.1) ∧ w2.drew.cell? ⟨B, 1, none⟩ = some (.int .i64 x.2.1) ∧ w2.drew.cell? ⟨B, 2, none⟩ = some (.slice U un uc) ∧ w2.drew.cell? ⟨B, 3, none⟩ = some (.int .i64 (p : Int)) ∧ w2.drew.cell? ⟨B, 4, none⟩ = some (.int .i64 (dd : Int)) from ⟨HX2.out.1.cell 0, HX2.out.2.2.2.2.1.cell 0, HX2.out.2.2.2.2.1.cell 1, HX2.out.2.2.2.2.1.cell 2, HX2.out.2.2.2.2.1.cell 3, HX2.out.2.2.2.2.1.cell 4⟩)
   have HV := hid (show OwnL w2.drew lo mid 94 sFind O on oc (S.1.map fdat) ∧ Owned w2.drew mid X.heap.size sI [.slice U un uc] x.2.2 ∧ Row w2.drew rb 89 #[.slice O on oc, .map (some mb), .bool S.2] ∧ (Kn w2.drew mb (cnt + 1) (termsF S.1 ++ [x.2.2]) ∧ Tcr rb mb O X w2.drew) ∧ X.heap.size ≤ w2.drew.heap.size from ⟨HX2.out.2.1.next (drew_below w2), HX2.out.2.2.2.1.drew, HX2.out.1.drew, ⟨HX2.out.2.2.1.drew, HX2.out.2.2.2.2.2.trans (Tcr.of_below (drew_below w2))⟩, HS.out.2⟩)
   have H6 := hid h6
   clear HX2 d0 d1 d2 h6
   go_upto_region 5 with fail
   clear hk0
   refine AnyT.start (S := (fun w' => w'.cell? ⟨rb, 0, none⟩ = some (.slice O on oc) ∧ w'.cell? ⟨B, 0, none⟩ = some (.int .i64 x.1) ∧ w'.cell? ⟨B, 1, none⟩ = some (.int .i64 x.2.1) ∧ w'.cell? ⟨B, 2, none⟩ = some (.slice U un uc) ∧ w'.cell? ⟨B, 3, none⟩ = some (.int .i64 (p : Int)) ∧ w'.cell? ⟨B, 4, none⟩ = some (.int .i64 (dd : Int)))) (fun j => j == 7 || j == 10) (by kernel_rfl) ⟨SV.out.1, SV.out.2⟩ (fun hHeld => ?_)
   generalize w2.drew = V at SV HV hHeld ⊢
   have bA : Below V.heap.size V (V.alloc (.cells #[.int .i64 x.1, .int .i64 x.2.1, .slice U un uc, .int .i64 (p : Int), .int .i64 (dd : Int)] 94)) := (Below.refl _ _).alloc (Nat.le_refl _) _
   have hVs := HV.out.2.2.2.2
   have HAPP := hid (show OwnL (V.alloc (.cells #[.int .i64 x.1, .int .i64 x.2.1, .slice U un uc, .int .i64 (p : Int), .int .i64 (dd : Int)] 94)) lo mid 94 sFind O on oc (S.1.map fdat) ∧ OwnL (V.alloc (.cells #[.int .i64 x.1, .int .i64 x.2.1, .slice U un uc, .int .i64 (p : Int), .int .i64 (dd : Int)] 94)) mid (V.heap.size + 1) 94 sFind (some ⟨V.heap.size, 0, none⟩) 1 1 [fdat (x, p, dd)] ∧ Row (V.alloc (.cells #[.int .i64 x.1, .int .i64 x.2.1, .slice U un uc, .int .i64 (p : Int), .int .i64 (dd : Int)] 94)) rb 89 #[.slice O on oc, .map (some mb), .bool S.2] from
    ⟨HV.out.1.next bA, OwnL.single (e := 94) (s := sFind) (Row.new V 94 #[.int .i64 x.1, .int .i64 x.2.1, .slice U un uc, .int .i64 (p : Int), .int .i64 (dd : Int)]) (owned_find (HV.out.2.1.next bA)) hVs (by omega), HV.out.2.2.1.next bA⟩)
   refine AnyT.takeA (i := 0) (v := ?_) rfl (by kernel_rfl) (by kernel_rfl) (by kernel_rfl) (fun _ _ _ h => h) (Or.inl ⟨by rfl, ?_⟩) ?_
   rotate_left 1
   ·(intro w0 _; go_simp; try with_reducible rfl)
   try simp only [Act.put, setIfInBounds_toArray, set_cons_zero, set_cons_succ, getElem_toArray, getElem_cons_zero, getElem_cons_succ]
   refine AnyT.takeA (i := 1) (v := ?_) rfl (by kernel_rfl) (by kernel_rfl) (by kernel_rfl) (fun _ _ _ h => h) (Or.inl ⟨by rfl, ?_⟩) ?_
   rotate_left 1
   ·(intro w0 _; go_simp; try with_reducible rfl)
   try simp only [Act.put, setIfInBounds_toArray, set_cons_zero, set_cons_succ, getElem_toArray, getElem_cons_zero, getElem_cons_succ]
   refine AnyT.takeA (i := 2) (v := ?_) rfl (by kernel_rfl) (by kernel_rfl) (by kernel_rfl) (fun _ _ _ h => h) (Or.inl ⟨by rfl, ?_⟩) ?_
   rotate_left 1
   ·(intro w0 _; go_simp; try with_reducible rfl)
   try simp only [Act.put, setIfInBounds_toArray, set_cons_zero, set_cons_succ, getElem_toArray, getElem_cons_zero, getElem_cons_succ]
   refine AnyT.takeA (i := 3) (v := ?_) rfl (by kernel_rfl) (by kernel_rfl) (by kernel_rfl) (fun _ _ _ h => h) (Or.inl ⟨by rfl, ?_⟩) ?_
   rotate_left 1
   ·(intro w0 _; go_simp; try with_reducible rfl)
   try simp only [Act.put, setIfInBounds_toArray, set_cons_zero, set_cons_succ, getElem_toArray, getElem_cons_zero, getElem_cons_succ]
   refine AnyT.takeU (i := 4) (v := ?_) rfl (by kernel_rfl) (by kernel_rfl) (by kernel_rfl) (by kernel_rfl) (by kernel_rfl) (fun _ _ _ h => h) (Or.inl ⟨by rfl, ?_⟩) (by assumption) ?_
   rotate_left 1
   ·(intro w0 hSw; (try dsimp only at hSw); go_simp; try with_reducible rfl)
   try simp only [Act.put, setIfInBounds_toArray, set_cons_zero, set_cons_succ, getElem_toArray, getElem_cons_zero, getElem_cons_succ]
   refine AnyT.takeU (i := 5) (v := ?_) rfl (by kernel_rfl) (by kernel_rfl) (by kernel_rfl) (by kernel_rfl) (by kernel_rfl) (fun _ _ _ h => h) (Or.inl ⟨by rfl, ?_⟩) (by assumption) ?_
   rotate_left 1
   ·(intro w0 hSw; (try dsimp only at hSw); go_simp; try with_reducible rfl)
   try simp only [Act.put, setIfInBounds_toArray, set_cons_zero, set_cons_succ, getElem_toArray, getElem_cons_zero, getElem_cons_succ]
   refine AnyT.call (i := 6) (by kernel_rfl) rfl (fun K hK => ?_)
   try simp only [Act.put, setIfInBounds_toArray, set_cons_zero, set_cons_succ, getElem_toArray, getElem_cons_zero, getElem_cons_succ]
   rw [if_pos (by rfl)]
   go_simp
   refine hK.out _ _ (fun _ _ => ?_) (fun hKeep => ?_)
   ·exact ⟨keep_alloc hHeld.1, keep_alloc hHeld.2.1, keep_alloc hHeld.2.2.1, keep_alloc hHeld.2.2.2.1, keep_alloc hHeld.2.2.2.2.1, keep_alloc hHeld.2.2.2.2.2⟩
   replace hHeld := hKeep (by first | rfl | trivial) hHeld
   clear hK K hKeep
   try simp only [Act.put, setIfInBounds_toArray, set_cons_zero, set_cons_succ, getElem_toArray, getElem_cons_zero, getElem_cons_succ]
   refine AnyT.call (i := 7) (by kernel_rfl) rfl (fun K hK => ?_)
   try simp only [Act.put, setIfInBounds_toArray, set_cons_zero, set_cons_succ, getElem_toArray, getElem_cons_zero, getElem_cons_succ]
   rw [if_pos (by rfl)]
   refine wp_appL _ _ 85 94 sFind _ _ Try.underlying85 info_find rfl (by decide) rfl lo mid mid (V.heap.size + 1) O on oc V.heap.size 1 1 _ _ rfl HAPP.out.1 rfl HAPP.out.2.1 (Nat.le_refl _) (by omega) (by omega) (by omega) (by simp; omega) ?_
   intro A4 oc' w4 oL4 hg4 hat4 b4 hf4
   obtain ⟨O', rfl⟩ := hf4 (.inr (by omega))
   have r4 := Row.away HAPP.out.2.2 hg4 nO
   have y4 : w4.cell? ⟨rb, 0, none⟩ = some (.slice O on oc) := r4.cell 0
   have f4 := r4.free 0
   refine hK.out _ _ (fun h => by cases h) (fun _ => ?_)
   clear hK K
   try simp only [Act.put, setIfInBounds_toArray, set_cons_zero, set_cons_succ, getElem_toArray, getElem_cons_zero, getElem_cons_succ]
   refine AnyT.takeA (i := 8) (v := ?_) rfl (by kernel_rfl) (by kernel_rfl) (by kernel_rfl) (fun _ _ _ h => h) (Or.inl ⟨by rfl, ?_⟩) ?_
   rotate_left 1
   ·(intro w0 _; go_simp; try with_reducible rfl)
   try simp only [Act.put, setIfInBounds_toArray, set_cons_zero, set_cons_succ, getElem_toArray, getElem_cons_zero, getElem_cons_succ]
   refine AnyT.takeA (i := 9) (v := ?_) rfl (by kernel_rfl) (by kernel_rfl) (by kernel_rfl) (fun _ _ _ h => h) (Or.inl ⟨by rfl, ?_⟩) ?_
   rotate_left 1
   ·(intro w0 _; go_simp; try with_reducible rfl)
   try simp only [Act.put, setIfInBounds_toArray, set_cons_zero, set_cons_succ, getElem_toArray, getElem_cons_zero, getElem_cons_succ]
   refine AnyT.call (i := 10) (by kernel_rfl) rfl (fun K hK => ?_)
   try simp only [Act.put, setIfInBounds_toArray, set_cons_zero, set_cons_succ, getElem_toArray, getElem_cons_zero, getElem_cons_succ]
   rw [if_pos (by rfl)]
   go_simp
   refine hK.out _ _ (fun h => by cases h) (fun _ => ?_)
   clear hK K
   try simp only [Act.put, setIfInBounds_toArray, set_cons_zero, set_cons_succ, getElem_toArray, getElem_cons_zero, getElem_cons_succ]
   refine AnyT.done (by kernel_rfl) ?_ _
   have F := hid (show AnsAdd lo rb mb cnt S.1.length (addF p dd S x) O X (.returned (.tuple #[])) (w4.setCell ⟨rb, 0, none⟩ (.slice (some ⟨O', 0, none⟩) (on + 1) oc')) from by
    rw [add_new HI.out.2.1 HI.out.1 (by rw [HI.out.2.2.1]; exact H6.out)]
    have gS := grown_set w4 rb 0 (.slice (some ⟨O', 0, none⟩) (on + 1) oc')
    have r5 := Row.put r4 0 (.slice (some ⟨O', 0, none⟩) (on + 1) oc')
    rw [HI.out.2.1] at r5
    have hbs := b4.size
    have hA1 : V.heap.size + 1 ≤ (V.alloc (.cells #[.int .i64 x.1, .int .i64 x.2.1, .slice U un uc, .int .i64 (p : Int), .int .i64 (dd : Int)] 94)).heap.size := by simp
    refine ⟨⟨_, rfl⟩, some ⟨O', 0, none⟩, on + 1, oc', cnt + 1, ⟨r5, ?_, ?_⟩, ⟨Nat.le_refl _, fun _ => by show cnt + 1 + S.1.length ≤ cnt + (S.1 ++ [(x, p, dd)]).length; rw [List.length_append, List.length_singleton]; omega⟩, ((HV.out.2.2.2.1.2.trans (Tcr.of_below bA)).trans (Tcr.of_grown hg4 (fun k e => .inr (.inr e.symm)))).trans (Tcr.of_grown gS (fun k e => .inl (by injection e with e; exact e.symm))), fun k e => ?_⟩
    ·have e1 : (S.1 ++ [(x, p, dd)]).map fdat = S.1.map fdat ++ [fdat (x, p, dd)] := by rw [List.map_append]; rfl
     show OwnL _ lo _ _ _ _ _ _ ((S.1 ++ [(x, p, dd)]).map fdat)
     rw [e1]
     exact (oL4.btw (Btw.of_grown gS (lo := rb) (hi := rb + 1) (fun k e => by injection e with e; omega)) (.inr (by omega))).wider (Nat.le_refl _) (by simp)
    ·show Kn _ mb (cnt + 1) (termsF (S.1 ++ [(x, p, dd)]))
     rw [termsF_app]
     exact ((HV.out.2.2.2.1.1.below bA).kept hg4 (fun e => by have := (HV.out.1.ge mb e.symm).1; omega)).kept gS (fun e => hne (by injection e with e; exact e.symm))
    ·rcases hat4 with q | q
     ·exact .inl (by rw [← q]; exact e)
     ·right
      have e2 : some k = some (V.alloc (.cells #[.int .i64 x.1, .int .i64 x.2.1, .slice U un uc, .int .i64 (p : Int), .int .i64 (dd : Int)] 94)).heap.size := by rw [← q]; exact e.symm
      injection e2 with e2
      omega)
   clear oL4 hg4 hat4 b4 hf4 r4 HAPP HV SV y4 f4 bA
   go_wp2
   first | (go_ret; exact F.out) | (go_end0; exact F.out)
end reachImpl
end
section
namespace reachImpl
open Go.RowKit base ints sig term marks app segs shape kindsR kindsW ownL drawX walkMath reachMath
set_option maxRecDepth 100000
variable {w : World}
theorem ow_rdq : ∀ {s : Sh} {cs : List Value} {d : Dat s} {F : List Nat}, Ow w s cs d F → RdQ w (fun b => b ∈ F) s cs d
 | .num, _, _, _, h => h.1
 | .bit, _, _, _, h => h.1
 | .row e s, _, _, F, h => by
  obtain ⟨A, n, c, e1, hl, h1⟩ := h
  rcases h1 with ⟨rfl, rfl, rfl, _⟩ | ⟨g, cur, E, G, e2, hr, h2, h3, h4, h5, h6⟩
  ·exact ⟨none, 0, 0, e1, ⟨by omega, by omega, fun _ => rfl⟩, hl, fun h => absurd h (by omega)⟩
  ·refine ⟨A, n, c, e1, ⟨h2, h3, fun e => by rw [e] at e2; cases e2⟩, hl, fun hn => ⟨g, 0, e2, by rw [h5]; exact List.mem_cons_self .., fun j hj => ?_⟩⟩
   obtain ⟨q1, q2, q3⟩ := h6 j hj
   refine ⟨E j, q1, fun i hi => ?_, (ow_rdq q3).mono fun b hb => ?_⟩
   ·rw [Nat.zero_add, hr.cell, q2 i (by omega)]
   ·rw [h5]
    exact List.mem_cons_of_mem _ (List.mem_flatMap.2 ⟨j, List.mem_range.2 hj, hb⟩)
 | .cat a b, _, _, F, h => by
  obtain ⟨ca, cb, Fa, Fb, e, e2, h1, h2⟩ := h
  exact ⟨ca, cb, e, (ow_rdq h1).mono fun b hb => by rw [e2]; exact List.mem_append_left _ hb, (ow_rdq h2).mono fun b hb => by rw [e2]; exact List.mem_append_right _ hb⟩
theorem step_parts {Q : Nat → Prop} {es : List Value} {d : Dat sStep} (h : RdQ w Q sStep es d) : ∃ V vn vc, es = [.int .i64 d.1, .int .i64 d.2.1, .slice V vn vc] ∧ RdQ w Q sI [.slice V vn vc] d.2.2 := by
 obtain ⟨ca0, cb0, e0, p0, ca1, cb1, e1, p1, q⟩ := h
 have p0 : ca0 = [.int .i64 d.1] := p0
 have p1 : ca1 = [.int .i64 d.2.1] := p1
 have hq := q
 obtain ⟨V, vn, vc, e2, -⟩ := hq
 subst p0 p1 e2
 exact ⟨V, vn, vc, by rw [e0, e1]; rfl, q⟩
theorem find_parts {Q : Nat → Prop} {es : List Value} {f : Fi} (h : RdQ w Q sFind es (fdat f)) : ∃ T tn tc, es = [.int .i64 f.1.1, .int .i64 f.1.2.1, .slice T tn tc, .int .i64 (f.2.1 : Int), .int .i64 (f.2.2 : Int)] ∧ RdQ w Q sI [.slice T tn tc] (termF f) := by
 obtain ⟨ca, cb, e, hs, hr⟩ := h
 obtain ⟨T, tn, tc, e1, q⟩ := step_parts hs
 obtain ⟨ca2, cb2, e2, p1, p2⟩ := hr
 have p1 : ca2 = [.int .i64 (f.2.1 : Int)] := p1
 have p2 : cb2 = [.int .i64 (f.2.2 : Int)] := p2
 subst e1 p1 p2
 exact ⟨T, tn, tc, by rw [e, e2]; rfl, q⟩
theorem find_at {lo hi : Nat} {O : Option Addr} {on oc i : Nat} {L : List Fi} {f : Fi} (h : OwnL w lo hi 94 sFind O on oc (L.map fdat)) (hf : L[i]? = some f) : ∃ (g : Nat) (T : Option Addr) (tn tc : Nat) (G : List Nat), O = some ⟨g, 0, none⟩ ∧ on = L.length ∧
  (w.cell? ⟨g, i * 5, none⟩ = some (.int .i64 f.1.1) ∧ w.cell? ⟨g, i * 5 + 1, none⟩ = some (.int .i64 f.1.2.1) ∧ w.cell? ⟨g, i * 5 + 2, none⟩ = some (.slice T tn tc) ∧ w.cell? ⟨g, i * 5 + 3, none⟩ = some (.int .i64 (f.2.1 : Int)) ∧ w.cell? ⟨g, i * 5 + 4, none⟩ = some (.int .i64 (f.2.2 : Int))) ∧
  g ∉ G ∧ (∀ k ∈ G, lo ≤ k ∧ k < hi ∧ k < w.heap.size) ∧ RdQ w (fun b => b ∈ G) sI [.slice T tn tc] (termF f) := by
 obtain ⟨F, ho, hn, hl⟩ := h.owned
 have hi' := (List.getElem?_eq_some_iff.1 hf).1
 obtain ⟨g, nn, c, es, G, e1, e2, e3, hp, hg, hoG, hGn, hgG, hGF, -⟩ := ho.elem' hn (j := i) (by simpa using hi')
 injection e1 with e1 e4 e5
 subst e1 e4 e5
 have ef : (L.map fdat).getD i (dft sFind) = fdat f := by rw [List.getD_eq_getElem?_getD, List.getElem?_map, hf]; rfl
 rw [ef] at hoG
 obtain ⟨T, tn, tc, e6, q⟩ := find_parts (ow_rdq hoG)
 subst e6
 have e7 : nc sFind = 5 := rfl
 rw [e7] at hp
 refine ⟨g, T, tn, tc, G, rfl, by rw [← e2, List.length_map], ⟨hp 0 (by simp), hp 1 (by simp), hp 2 (by simp), hp 3 (by simp), hp 4 (by simp)⟩, hgG, fun k hk => ⟨(hl k (hGF k hk)).1, (hl k (hGF k hk)).2, ?_⟩, q⟩
 exact hoG.lt k hk
theorem rd_q {B : Nat} : ∀ {s : Sh} {cs : List Value} {d : Dat s}, Rd w B s cs d → RdQ w (fun b => b < B) s cs d
 | .num, _, _, h => h
 | .bit, _, _, h => h
 | .row e s, _, _, h => by
  obtain ⟨A, n, c, e1, hc, hl, h1⟩ := h
  refine ⟨A, n, c, e1, hc, hl, fun hn => ?_⟩
  obtain ⟨b, off, e2, hb, h2⟩ := h1 hn
  refine ⟨b, off, e2, hb, fun j hj => ?_⟩
  obtain ⟨es, q1, q2, q3⟩ := h2 j hj
  exact ⟨es, q1, q2, rd_q q3⟩
 | .cat a b, _, _, h => by
  obtain ⟨ca, cb, e, h1, h2⟩ := h
  exact ⟨ca, cb, e, rd_q h1, rd_q h2⟩
theorem step_owned {lo hi : Nat} {es : List Value} {y : Dat sStep} (h : Owned w lo hi sStep es y) : ∃ (U : Option Addr) (un uc : Nat), es = [.int .i64 y.1, .int .i64 y.2.1, .slice U un uc] ∧ Owned w lo hi sI [.slice U un uc] y.2.2 := by
 obtain ⟨F, ⟨ca, cb, Fa, Fb, e1, e2, h1, h2⟩, hn, hl⟩ := h
 obtain ⟨ca2, cb2, Fa2, Fb2, e3, e4, h3, h4⟩ := h2
 have h1 : ca = [.int .i64 y.1] ∧ Fa = [] := h1
 have h3 : ca2 = [.int .i64 y.2.1] ∧ Fa2 = [] := h3
 have h5 := h4
 obtain ⟨A, n, c, e5, -⟩ := h5
 obtain ⟨rfl, rfl⟩ := h1
 obtain ⟨rfl, rfl⟩ := h3
 subst e5
 refine ⟨A, n, c, by rw [e1, e3]; rfl, Fb2, h4, ?_, fun k hk => hl k ?_⟩
 ·rw [e2, e4] at hn; simpa using hn
 ·rw [e2, e4]; simpa using hk
end reachImpl
end
section
namespace pickOwn
open Go.RowKit base ints sig marks app appAt segs shape kindsR kindsW ownL drawX walkMath reachMath reachImpl findW
set_option maxRecDepth 100000
def OwnG (w : World) (lo hi : Nat) (e : TypeId) (s : Sh) (A : Option Addr) (n c : Nat) (D : List (Dat s)) (vs : List Value) (G : Nat → List Nat) : Prop :=
 D.length = n ∧ (∀ k, blk A = some k → k < hi) ∧ w.ownsRow lo e (nc s) (.slice A n c) n vs ∧ (A = none → c = 0) ∧ ((List.range n).flatMap G).Nodup ∧
  ∀ j, j < n → Ow w s (cellsOf (nc s) vs j) (D.getD j (dft s)) (G j) ∧ ∀ q ∈ G j, lo ≤ q ∧ q < hi ∧ some q ≠ blk A
section
variable {w w' : World} {lo hi mid n c N C : Nat} {e e' : TypeId} {s s' : Sh} {A B : Option Addr} {D : List (Dat s)} {D' : List (Dat s')} {vs us : List Value} {G : Nat → List Nat}
theorem named (h : OwnL w lo hi e s A n c D) : ∃ vs G, OwnG w lo hi e s A n c D vs G := by
 obtain ⟨h1, h2, vs, G, h3⟩ := h
 exact ⟨vs, G, h1, h2, h3⟩
theorem OwnG.own (h : OwnG w lo hi e s A n c D vs G) : OwnL w lo hi e s A n c D := ⟨h.1, h.2.1, vs, G, h.2.2⟩
theorem OwnG.keep (h : OwnG w lo hi e s A n c D vs G) (hk : ∀ k, lo ≤ k → k < hi → k < w.heap.size → w'.heap[k]? = w.heap[k]?) (hs : w.heap.size ≤ w'.heap.size) : OwnG w' lo hi e s A n c D vs G := by
 obtain ⟨h1, h2, h3, h4, h5, h6⟩ := h
 refine ⟨h1, h2, ?_, h4, h5, fun j hj => ⟨(h6 j hj).1.keep fun q hq => ?_, (h6 j hj).2⟩⟩
 ·refine ⟨h3.1, ?_⟩
  rcases h3.2 with q | ⟨g, cap, cur, e1, hg, hr, q⟩
  ·exact .inl q
  ·have hlt := (Array.getElem?_eq_some_iff.1 hr).1
   injection e1 with e2 e3 e4
   exact .inr ⟨g, cap, cur, by rw [e2, e4], hg, (hk g hg (h2 g (by rw [e2]; rfl)) hlt).trans hr, q⟩
 ·have := (h6 j hj).2 q hq
  exact hk q this.1 this.2.1 ((h6 j hj).1.lt q hq)
theorem OwnG.below (h : OwnG w lo hi e s A n c D vs G) (hb : Below hi w w') : OwnG w' lo hi e s A n c D vs G := h.keep (fun k _ h2 _ => hb.block k h2) hb.size
theorem row_lower (h : w.ownsRow mid e n (.slice A N c) N vs) (hl : lo ≤ mid) : w.ownsRow lo e n (.slice A N c) N vs := by
 refine ⟨h.1, ?_⟩
 rcases h.2 with q | ⟨g, cap, cur, e1, hg, q⟩
 ·exact .inl q
 ·exact .inr ⟨g, cap, cur, e1, Nat.le_trans hl hg, q⟩
theorem flat_nd {G : Nat → List Nat} : ∀ {n : Nat}, ((List.range n).flatMap G).Nodup ↔ (∀ j, j < n → (G j).Nodup) ∧ ∀ i j, i < n → j < n → i ≠ j → ∀ x ∈ G i, x ∉ G j
 | 0 => ⟨fun _ => ⟨fun j h => by omega, fun i j h => by omega⟩, fun _ => by simp⟩
 | n + 1 => by
  rw [List.range_succ, List.flatMap_append, List.nodup_append, flat_nd]
  simp only [List.flatMap_cons, List.flatMap_nil, List.append_nil]
  constructor
  ·rintro ⟨⟨h1, h2⟩, h3, h4⟩
   refine ⟨fun j hj => ?_, fun i j hi hj hne x hx hx' => ?_⟩
   ·by_cases e : j = n
    ·rw [e]; exact h3
    ·exact h1 j (by omega)
   ·by_cases e1 : i = n
    ·by_cases e2 : j = n
     ·omega
     ·exact h4 x (List.mem_flatMap.2 ⟨j, List.mem_range.2 (by omega), hx'⟩) x (e1 ▸ hx) rfl
    ·by_cases e2 : j = n
     ·exact h4 x (List.mem_flatMap.2 ⟨i, List.mem_range.2 (by omega), hx⟩) x (e2 ▸ hx') rfl
     ·exact h2 i j (by omega) (by omega) hne x hx hx'
  ·rintro ⟨h1, h2⟩
   refine ⟨⟨fun j hj => h1 j (by omega), fun i j hi hj => h2 i j (by omega) (by omega)⟩, h1 n (by omega), fun x hx y hy e => ?_⟩
   obtain ⟨i, hi, hx⟩ := List.mem_flatMap.1 hx
   have hi := List.mem_range.1 hi
   rw [e] at hx
   exact h2 i n (by omega) (by omega) (by omega) y hx hy
theorem flat_inj {n : Nat} {G : Nat → List Nat} {σ : Nat → Nat} (hn : ((List.range N).flatMap G).Nodup) (hσ : ∀ j, j < n → σ j < N) (hi : ∀ i j, i < n → j < n → σ i = σ j → i = j) : ((List.range n).flatMap fun j => G (σ j)).Nodup := by
 rw [flat_nd] at hn ⊢
 exact ⟨fun j hj => hn.1 _ (hσ j hj), fun i j h1 h2 h3 => hn.2 _ _ (hσ i h1) (hσ j h2) fun e => h3 (hi i j h1 h2 e)⟩
theorem pick (h : OwnG w lo mid e s A N C D vs G) (hr : w.ownsRow mid e' (nc s') (.slice B n c) n us) (hB : B = none → c = 0) (hlo : lo ≤ mid) {σ : Nat → Nat} (hσ : ∀ j, j < n → σ j < N) (hi : ∀ i j, i < n → j < n → σ i = σ j → i = j) (hl : D'.length = n)
  (hj : ∀ j, j < n → Ow w s' (cellsOf (nc s') us j) (D'.getD j (dft s')) (G (σ j))) : OwnL w lo w.heap.size e' s' B n c D' := by
 have hlt := World.ownsRow.lt hr
 refine ⟨hl, fun k hk => (hlt k (by rw [blk_own]; exact hk)).2, us, fun j => G (σ j), row_lower hr hlo, hB, flat_inj h.2.2.2.2.1 hσ hi, fun j hjn => ⟨hj j hjn, fun q hq => ?_⟩⟩
 have h6 := (h.2.2.2.2.2 (σ j) (hσ j hjn)).2 q hq
 refine ⟨h6.1, (hj j hjn).lt q hq, fun e1 => ?_⟩
 have := (hlt q (by rw [blk_own]; exact e1.symm)).1
 omega
end
theorem ow_find {w : World} {cs : List Value} {f : Fi} {F : List Nat} (h : Ow w sFind cs (fdat f) F) : ∃ T tn tc, cs = [.int .i64 f.1.1, .int .i64 f.1.2.1, .slice T tn tc, .int .i64 (f.2.1 : Int), .int .i64 (f.2.2 : Int)] ∧
  Ow w sStep [.int .i64 f.1.1, .int .i64 f.1.2.1, .slice T tn tc] f.1 F ∧ Ow w sI [.slice T tn tc] (termF f) F := by
 obtain ⟨ca, cb, Fa, Fb, rfl, rfl, h1, h2⟩ := h
 obtain ⟨cb1, cb2, Fb1, Fb2, rfl, rfl, h3, h4⟩ := h2
 obtain ⟨rfl, rfl⟩ := h3
 obtain ⟨rfl, rfl⟩ := h4
 have h1' := h1
 obtain ⟨ca1, ca2, Fa1, Fa2, rfl, rfl, h5, h6⟩ := h1'
 obtain ⟨rfl, rfl⟩ := h5
 obtain ⟨cc1, cc2, Fc1, Fc2, rfl, rfl, h7, h8⟩ := h6
 obtain ⟨rfl, rfl⟩ := h7
 have h8' := h8
 obtain ⟨T, tn, tc, rfl, h9⟩ := h8'
 refine ⟨T, tn, tc, rfl, ?_, ?_⟩
 ·simp only [List.nil_append, List.append_nil] at h1 ⊢; exact h1
 ·simp only [List.nil_append, List.append_nil] at h8 ⊢; exact h8
section
variable {w : World} {lo mid on oc : Nat} {O : Option Addr} {L : List Fi} {vs : List Value} {G : Nat → List Nat}
theorem OwnG.find (h : OwnG w lo mid 94 sFind O on oc (L.map fdat) vs G) {i : Nat} {f : Fi} (hf : L[i]? = some f) : ∃ (g : Nat) (T : Option Addr) (tn tc : Nat), O = some ⟨g, 0, none⟩ ∧ on = L.length ∧ lo ≤ g ∧ g < mid ∧ cellsOf 5 vs i = [.int .i64 f.1.1, .int .i64 f.1.2.1, .slice T tn tc, .int .i64 (f.2.1 : Int), .int .i64 (f.2.2 : Int)] ∧
  (w.cell? ⟨g, i * 5, none⟩ = some (.int .i64 f.1.1) ∧ w.cell? ⟨g, i * 5 + 1, none⟩ = some (.int .i64 f.1.2.1) ∧ w.cell? ⟨g, i * 5 + 2, none⟩ = some (.slice T tn tc) ∧ w.cell? ⟨g, i * 5 + 3, none⟩ = some (.int .i64 (f.2.1 : Int)) ∧ w.cell? ⟨g, i * 5 + 4, none⟩ = some (.int .i64 (f.2.2 : Int))) ∧
  Ow w sStep [.int .i64 f.1.1, .int .i64 f.1.2.1, .slice T tn tc] f.1 (G i) ∧ Ow w sI [.slice T tn tc] (termF f) (G i) := by
 obtain ⟨h1, h2, h3, h4, h5, h6⟩ := h
 have hiL : i < L.length := (List.getElem?_eq_some_iff.1 hf).1
 have hon : L.length = on := by simpa using h1
 have hi : i < on := by omega
 have hd : (L.map fdat).getD i (dft sFind) = fdat f := by simp [List.getD, hf]
 have h7 := (h6 i hi).1
 rw [hd] at h7
 obtain ⟨T, tn, tc, e, o1, o2⟩ := ow_find h7
 rcases h3.2 with ⟨-, q⟩ | ⟨g, cap, cur, e1, hg, hr, hn, hm, hs, ht⟩
 ·omega
 ·injection e1 with e1
  subst e1
  have hcell : ∀ q, q < 5 → w.cell? ⟨g, i * 5 + q, none⟩ = (cellsOf 5 vs i)[q]? := fun q hq => by
   have hb : i * 5 + q < on * 5 := by omega
   rw [Row.cell (t := 94) (cs := cur) hr, ← Array.getElem?_toList]
   unfold cellsOf
   rw [List.getElem?_take, if_pos hq, List.getElem?_drop, ← ht, List.getElem?_take, if_pos (show i * 5 + q < on * nc sFind from hb)]
  have e' : cellsOf 5 vs i = [.int .i64 f.1.1, .int .i64 f.1.2.1, .slice T tn tc, .int .i64 (f.2.1 : Int), .int .i64 (f.2.2 : Int)] := e
  rw [e'] at hcell
  exact ⟨g, T, tn, tc, rfl, hon.symm, hg, h2 g rfl, e', ⟨hcell 0 (by omega), hcell 1 (by omega), hcell 2 (by omega), hcell 3 (by omega), hcell 4 (by omega)⟩, o1, o2⟩
end
theorem wp_appR {w : World} {o : Oper} {a : Act} {K : Act → World → Prop} {Q : Exit → Act → World → Prop} (sx x : Operand) (T e : TypeId) (k : Nat) (z : Value) (bytes : Nat) (hT : Try.prog.underlying T = some (.slice e))
  (hI : (Try.prog.info? e).map (fun i => (i.zero, i.size, i.bytes)) = some (some z, k, bytes)) (hzc : z.cells.size = k) (hk : 0 < k) (hby : bytes ≤ 4096)
  (ho : o.op = .call { callee := .builtin .append, args := #[sx, x], argTypes := #[T, T] })
  (lo : Nat) (A : Option Addr) (n c : Nat) (vs : List Value) (hs : a.eval sx = .slice A n c) (hown : w.ownsRow lo e k (.slice A n c) n vs)
  (g c2 : Nat) (es : List Value) (hel : es.length = k) (hone : ∀ u ∈ es, u.oneCell' = true) (hx : a.eval x = .slice (some ⟨g, 0, none⟩) 1 c2) (hy : ∀ i, i < es.length → w.cell? ⟨g, i, none⟩ = es[i]?) (hn : n ≤ 1048576) (hlo : lo ≤ w.heap.size)
  (h : ∀ g' c' w', w'.ownsRow lo e k (.slice (some ⟨g', 0, none⟩) (n + 1) c') (n + 1) (vs ++ es) → w.grownBy w' (blk A) → (blk A = some g' ∨ g' = w.heap.size) → Below lo w w' → K (a.put o.dst (.slice (some ⟨g', 0, none⟩) (n + 1) c')) w') : o.wp Try.prog a w K Q := by
 obtain ⟨i0, hi, hz0, hz1, hz2⟩ := info_parts hI
 have hcells : ∀ j u, es[j]? = some u → w.cell? ((⟨g, 0, none⟩ : Addr).add j) = some u := fun j u hj => by
  have e2 : (⟨g, 0, none⟩ : Addr).add j = ⟨g, j, none⟩ := by unfold Addr.add; split <;> simp_all
  rw [e2, hy j (List.getElem?_eq_some_iff.1 hj).1, hj]
 obtain ⟨v', w', hrun, hown', hg, _, hat⟩ := run_append_own_at (P := Try.prog) w lo T o.type e i0 z k bytes hT hi hz0 hz1 hz2 hzc hk (.slice A n c) n vs hown ⟨g, 0, none⟩ 1 c2 es (by rw [hel]; simp) hcells hone (by unfold maxLen; omega) (by have h1 : (n + 1) * bytes ≤ 1048577 * 4096 := Nat.mul_le_mul (by omega) hby; omega) hlo
 have hform : ∃ g' c', v' = .slice (some ⟨g', 0, none⟩) (n + 1) c' := by
  rcases hown'.2 with ⟨_, h0⟩ | ⟨g', cap, cur, e, _⟩
  ·omega
  ·exact ⟨_, _, e⟩
 obtain ⟨g', c', rfl⟩ := hform
 rw [blk_own] at hg
 rw [blk_own, blk_own] at hat
 unfold Oper.wp execOp
 simp only [ho, resolve, invoke, builtin, Sem.run_bind, Sem.run_pure, Result.andThen_ok, List.map_toArray, List.map_cons, List.map_nil, hs, hx, hrun]
 refine h g' c' w' hown' hg ?_ ((Below.refl lo w).grown hg hlo (fun k hk => (World.ownsRow.lt hown k (by rw [blk_own]; exact hk)).1))
 rcases hat with e1 | e1
 ·exact .inl e1.symm
 ·injection e1 with e1; exact .inr e1
section
variable {w : World} {lo hi mid n c N C : Nat} {e e' : TypeId} {s s' : Sh} {A B : Option Addr} {D : List (Dat s)} {D' : List (Dat s')} {vs us : List Value} {G : Nat → List Nat}
theorem pickG (h : OwnG w lo mid e s A N C D vs G) (hr : w.ownsRow mid e' (nc s') (.slice B n c) n us) (hB : B = none → c = 0) (hlo : lo ≤ mid) {σ : Nat → Nat} (hσ : ∀ j, j < n → σ j < N) (hi : ∀ i j, i < n → j < n → σ i = σ j → i = j) (hl : D'.length = n)
  (hj : ∀ j, j < n → Ow w s' (cellsOf (nc s') us j) (D'.getD j (dft s')) (G (σ j))) : OwnG w lo w.heap.size e' s' B n c D' us (fun j => G (σ j)) := by
 have hlt := World.ownsRow.lt hr
 refine ⟨hl, fun k hk => (hlt k (by rw [blk_own]; exact hk)).2, row_lower hr hlo, hB, flat_inj h.2.2.2.2.1 hσ hi, fun j hjn => ⟨hj j hjn, fun q hq => ?_⟩⟩
 have h6 := (h.2.2.2.2.2 (σ j) (hσ j hjn)).2 q hq
 refine ⟨h6.1, (hj j hjn).lt q hq, fun e1 => ?_⟩
 have := (hlt q (by rw [blk_own]; exact e1.symm)).1
 omega
theorem OwnG.ow (h : OwnG w lo hi e s A n c D vs G) : ∃ F, Ow w (.row e s) [.slice A n c] D F ∧ F.Nodup ∧ ∀ q ∈ F, blk A = some q ∨ ∃ j, j < n ∧ q ∈ G j := by
 obtain ⟨h1, h2, h3, h4, h5, h6⟩ := h
 have hl : vs.length = n * nc s := h3.1
 rcases h3.2 with ⟨e1, e2⟩ | ⟨g, cap, cur, e1, hg, hrow, hn, hm, hs, ht⟩
 ·injection e1 with a1 a2 a3
  subst a1 a2 a3
  exact ⟨[], ⟨none, 0, 0, rfl, h1, .inl ⟨rfl, rfl, rfl, rfl⟩⟩, by simp, fun k hk => by cases hk⟩
 ·injection e1 with a1 a2 a3
  subst a1 a3
  refine ⟨g :: (List.range n).flatMap G, ⟨_, n, c, rfl, h1, .inr ⟨g, cur, cellsOf (nc s) vs, G, rfl, hrow, hn, by unfold maxLen at hm; omega, hs, rfl, fun j hj => ?_⟩⟩, List.nodup_cons.2 ⟨fun hb => ?_, h5⟩, fun k hk => ?_⟩
  ·have hjn : j * nc s + nc s ≤ n * nc s := by
    have := Nat.mul_le_mul_right (nc s) (show j + 1 ≤ n by omega)
    rw [Nat.add_mul] at this
    omega
   refine ⟨(h6 j hj).1.len, fun i hi => ?_, (h6 j hj).1⟩
   have h7 : cur.toList[j * nc s + i]? = vs[j * nc s + i]? := by rw [← ht, List.getElem?_take, if_pos (by omega)]
   rw [← Array.getElem?_toList, h7]
   unfold cellsOf
   rw [List.getElem?_take, if_pos hi, List.getElem?_drop]
  ·obtain ⟨j, hj, hb⟩ := List.mem_flatMap.1 hb
   exact ((h6 j (List.mem_range.1 hj)).2 g hb).2.2 rfl
  ·rcases List.mem_cons.1 hk with hk | hk
   ·rw [hk]; exact .inl rfl
   ·obtain ⟨j, hj, hb⟩ := List.mem_flatMap.1 hk
    exact .inr ⟨j, List.mem_range.1 hj, hb⟩
end
end pickOwn
end
end Go.Proofs.Ytblhmplpcdcejaa
section
namespace Go.Proofs
open Go.Shelf
def Try.reverseStep_ren : Go.Shelf.Ren := ⟨fun | 35 => 83 | n => n, fun | 22 => 48 | 23 => 92 | 3 => 3 | 4 => 4 | 0 => 0 | n => n, fun | n => n⟩
theorem Try.reverseStep : Go.Proofs.SlLaysE0.n35 Try.prog Try.reverseStep_ren := {
 mixed := by kernel_rfl
 f35 := ⟨Try.f83.name, by decide, Try.func83.trans (congrArg some (by kernel_rfl))⟩
 t0 := Try.underlying0
 a0 := Try.isAgg0
 z0 := Try.sizeOf0
 v0 := Try.zeroValue0
 t3 := Try.underlying3
 a3 := Try.isAgg3
 z3 := Try.sizeOf3
 v3 := Try.zeroValue3
 t4 := Try.underlying4
 a4 := Try.isAgg4
 z4 := Try.sizeOf4
 v4 := Try.zeroValue4
 t22 := Try.underlying48
 a22 := Try.isAgg48
 z22 := Try.sizeOf48
 v22 := Try.zeroValue48 }
end Go.Proofs
end
