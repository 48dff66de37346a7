/-
  MERGED: my texts FindSpecB, StepSpecC, OrderSpec, OrderLaw, OrderSpecB, PickSpec, WalkSpec, WalkSpecB, WalkSpecC, BySpec, WalkSpecD, WalkX2, BySpecB, AnsAfter, one behind the other, as they are. By an AI agent.
-/
import Derived.Test.YtifckjchmjmhoabGreatMFnLongest6
import Derived.Deep.QuietTactic
import Derived.BigQuiet
namespace Go.Proofs.YtifckjchmjmhoabGreat
section
namespace findSpec
open Go.RowKit base ints sig term termOk termFacts marks app sub varsOf appAt sym segs segsHelp kinds same shifted shape kindsR kindsW ruleMath ruleSpec stepMath stepSpec ownL drawX walkMath stepsMath reachMath findW heldT
set_option maxRecDepth 100000
def AnsFd (w : World) (S : Fs) (e : Ending) (w' : World) : Prop := ∃ T tn tc P pn pc Y yn yc E en ec, e = .returned (.agg #[.slice T tn tc, .slice P pn pc, .slice Y yn yc, .slice E en ec, .bool S.2]) ∧ Rd w' w'.heap.size sFound [.slice T tn tc, .slice P pn pc, .slice Y yn yc, .slice E en ec, .bool S.2] (fdD S) ∧ Below w.heap.size w w'
theorem ansFd {w w' : World} {S : Fs} {lo B g1 n1 c1 g2 n2 c2 g3 n3 c3 g4 n4 c4 : Nat} {fl : Bool} (h : Fo w' lo B g1 n1 c1 g2 n2 c2 g3 n3 c3 g4 n4 c4 (termsF S.1) (fromD S.1) (byD S.1) (deepD S.1) fl) (hf : fl = S.2) (hb : Below w.heap.size w w') :
   AnsFd w S (.returned (.agg #[.slice (some ⟨g1, 0, none⟩) n1 c1, .slice (some ⟨g2, 0, none⟩) n2 c2, .slice (some ⟨g3, 0, none⟩) n3 c3, .slice (some ⟨g4, 0, none⟩) n4 c4, .bool fl])) w' := by
 subst hf
 exact ⟨_, _, _, _, _, _, _, _, _, _, _, _, rfl, ⟨[_], [_, _, _, _], rfl, h.x1.rd, [_], [_, _, _], rfl, h.x2.rd, [_], [_, _], rfl, h.x3.rd, [_], [_], rfl, h.x4.rd, rfl⟩, hb⟩
theorem right_ok2 {sg : List Int} {rs : List Rl} {t : List Int} (h : rightB sg rs t = true) : sysOkB sg rs = true ∧ termOkB sg t = true := by unfold rightB at h; rw [Bool.and_eq_true] at h; exact h
theorem small_terms {sg : List Int} {rs : List Rl} {t : List Int} {n i : Nat} {S : Fs} (hok : rightB sg rs t = true) (h : Inv sg rs t n S i) : ∀ k, ((termsF S.1).getD k []).length ≤ 1048576 := fun k => by
 obtain ⟨h1, h2⟩ := right_ok2 hok
 by_cases hk : k < S.1.length
 · have e : S.1[k]? = some S.1[k] := List.getElem?_eq_getElem hk
   rw [term_get e]
   have := (term_len (find_ok h1 h2 h (List.mem_of_getElem? e))).2
   omega
 · have : (termsF S.1).getD k [] = [] := by unfold termsF; simp [List.getD, List.getElem?_eq_none (show S.1.length ≤ k by omega)]
   rw [this]; simp
theorem cell_far {w w' : World} {g : Nat} (hg : w.grownBy w' (some g)) {p : Addr} (hp : p.block < w.heap.size) (hne : p.block ≠ g) : w'.cell? p = w.cell? p := World.cell?_of_block (hg.block _ hp (fun e => hne (by injection e)))
theorem info_num : (Tryz.prog.info? 2).map (fun i => (i.zero, i.size, i.bytes)) = some (some (.int .i64 0), 1, 8) := by kernel_rfl
theorem step_spot {w : World} {bad : Nat → Prop} {b off n c k : Nat} {L : List St} (h : RdQ w (NotIn w bad) sStepS [.slice (some ⟨b, off, none⟩) n c] L) (hk : k < n) : NotIn w bad b := by
 obtain ⟨b', off', _, _, _, e, hb, _⟩ := rdq_step h hk
 injection e with e
 injection e with e1 e2
 rw [e1]; exact hb
theorem inner_facts {sg : List Int} {rs : List Rl} {t : List Int} {n i : Nat} {f : Fi} (hok : rightB sg rs t = true) (hf : (fdN sg rs t n i).1[i]? = some f) (hne : f.2.2 ≠ n) (hi : i < 60) : ∃ FK : Nat → Fs, FK 0 = fdN sg rs t n i ∧ (∀ k, k < (stepsL sg rs (termF f)).length → FK (k + 1) = addF i (f.2.2 + 1) (FK k) ((stepsL sg rs (termF f)).getD k (0, 0, []))) ∧ (∀ k, Inv sg rs t n (FK k) i ∧ (FK k).1[i]? = some f) ∧ FK (stepsL sg rs (termF f)).length = fdN sg rs t n (i + 1) ∧ (∀ k, (FK k).2 = false → fdA sg rs t n = FK k) ∧
   (∀ k, k < (stepsL sg rs (termF f)).length → ((stepsL sg rs (termF f)).getD k (0, 0, [])).2.2.length ≤ 60) ∧ (f.2.2 : Int) ≤ 20 + n := by
 obtain ⟨q1, q2⟩ := right_ok2 hok
 have I0 := inv_fd (sg := sg) (rs := rs) (t := t) (n := n) i
 refine ⟨fun k => ((stepsL sg rs (termF f)).take k).foldl (addF i (f.2.2 + 1)) (fdN sg rs t n i), rfl, fun k hk => fold_take hk, fun k => inv_fold hne _ _ I0 hf fun x hx => List.mem_of_mem_take hx, ?_, fun k hk => ?_, fun k hk => ?_, ?_⟩
 · dsimp only
   rw [List.take_of_length_le (Nat.le_refl _), fd_step hf hne]
 · have e : fdN sg rs t n (i + 1) = ((stepsL sg rs (termF f)).take k).foldl (addF i (f.2.2 + 1)) (fdN sg rs t n i) := by
     rw [fd_step hf hne, ← List.take_append_drop k (stepsL sg rs (termF f)), List.foldl_append, List.take_append_drop]
     exact fold_off hk
   dsimp only
   rw [← e]
   exact fd_end hi (.inr (.inl (by rw [e]; exact hk)))
 · have hx : (stepsL sg rs (termF f)).getD k (0, 0, []) ∈ stepsL sg rs (termF f) := by
     rw [List.getD_eq_getElem?_getD, List.getElem?_eq_getElem hk]
     exact List.getElem_mem hk
   exact (term_len (stepAt_ok (steps_at q1 (find_ok q1 q2 I0 (List.mem_of_getElem? hf)) hx))).2
 · have := I0.dn f (List.mem_of_getElem? hf)
   omega
set_option maxHeartbeats 16000000 in
theorem l9Find (a v u : Value) (d : Dat sSystem) (t : List Int) (n : Nat) (w : World) (h : Rd w w.heap.size sSystem [a, v] d) (ht : Rd w w.heap.size sI [u] t) (hz : sz sSystem d ≤ 1048576) (hok : rightB d.1 d.2 t = true) (hn : n ≤ 20) :
   Calls Tryz.prog 31 #[.agg #[a, v], u, .int .i64 (n : Int)] w (AnsFd w (fdA d.1 d.2 t n)) := by
 obtain ⟨Fd, hFd⟩ : ∃ F, fdA d.1 d.2 t n = F := ⟨_, rfl⟩
 rw [hFd]
 have HFd := Lib.hid (show fdA d.1 d.2 t n = Fd ∧ True from ⟨hFd, trivial⟩)
 clear hFd
 obtain ⟨U0, m, c, rfl, hT, hcT⟩ := rd_ints.1 ht
 have hm60 : m ≤ 60 := by have := (term_len (right_ok2 hok).2).2; have := hT.1; omega
 have HH := Lib.hid (show Rd w w.heap.size sSystem [a, v] d ∧ sz sSystem d ≤ 1048576 ∧ rightB d.1 d.2 t = true from ⟨h, hz, hok⟩)
 obtain ⟨W, hW, rA, rR, bel⟩ := box2 w 29 74 #[a, v] #[.slice none 0 0, .slice none 0 0, .slice none 0 0, .slice none 0 0, .bool false]
 have hWs : w.heap.size + 1 + 1 ≤ W.heap.size := by rw [hW]; simp
 have LC := Lib.hid (copyInts U0 m c t W (hT.next bel) hcT.2.2 (by omega))
 have HW := Lib.hid hW
 clear hW h ht hz hok hT hcT
 go_enter Tryz.func31, Tryz.ntmps31
 go_wp2_with fail
 rw [← HW.out]
 refine LC.out.mono ?_
 rintro e w1 ⟨X, xn, xc, rfl, oX, bb⟩
 have H0 := Lib.hid (fo_start (rA.next bb) (rR.next bb) (Nat.le_trans hWs bb.size) (next_trans bel bb) (Own.lower oX hWs))
 clear oX bb bel rA rR LC HW hWs
 go_wp2_with fail
 obtain ⟨B, hB⟩ : ∃ B, w1.heap.size + 1 + 1 + 1 + 1 = B := ⟨_, rfl⟩
 rw [hB] at H0 ⊢
 clear hB
 go_loopg [8] 60 (fun G i_ wr => ∃ (i N g1 c1 g2 c2 g3 c3 g4 c4 : Nat), i_ = .int .i64 i ∧ i + G = 60 ∧ i ≤ N ∧ (fdN d.1 d.2 t n i).1.length = N ∧ (fdN d.1 d.2 t n i).2 = true ∧ SF w a v B g1 N c1 g2 N c2 g3 N c3 g4 N c4 (termsF (fdN d.1 d.2 t n i).1) (fromD (fdN d.1 d.2 t n i).1) (byD (fdN d.1 d.2 t n i).1) (deepD (fdN d.1 d.2 t n i).1) wr)
 case atStart => exact ⟨0, 1, _, _, _, _, _, _, _, _, rfl, rfl, Nat.zero_le _, rfl, rfl, H0.out⟩
 case round =>
   clear H0
   obtain ⟨i, N, g1, c1, g2, c2, g3, c3, g4, c4, rfl, hiG, hiN, hlen, hall, S⟩ := hrel
   obtain ⟨G, hG⟩ : ∃ G, G = gk := ⟨_, rfl⟩
   subst hG
   have INV := Lib.hid (inv_fd (sg := d.1) (rs := d.2) (t := t) (n := n) i)
   have hN60 : N ≤ 60 := by rw [← hlen]; exact INV.out.len60
   have kB0 : wr.cell? ⟨B, 0, none⟩ = some (.slice (some ⟨g1, 0, none⟩) N c1) := S.fo.row.cell 0
   have kB1 : wr.cell? ⟨B, 1, none⟩ = some (.slice (some ⟨g2, 0, none⟩) N c2) := S.fo.row.cell 1
   have kB2 : wr.cell? ⟨B, 2, none⟩ = some (.slice (some ⟨g3, 0, none⟩) N c3) := S.fo.row.cell 2
   have kB3 : wr.cell? ⟨B, 3, none⟩ = some (.slice (some ⟨g4, 0, none⟩) N c4) := S.fo.row.cell 3
   have kB4 : wr.cell? ⟨B, 4, none⟩ = some (.bool true) := S.fo.row.cell 4
   have HL := Lib.hid (show (fdN d.1 d.2 t n i).1.length = N ∧ (fdN d.1 d.2 t n i).2 = true ∧ i + G = 60 from ⟨hlen, hall, hiG⟩)
   by_cases hi : i < N
   · obtain ⟨f, hf⟩ : ∃ f, (fdN d.1 d.2 t n i).1[i]? = some f := ⟨_, List.getElem?_eq_getElem (by rw [hlen]; exact hi)⟩
     have kD : wr.cell? ⟨g4, i, none⟩ = some (.int .i64 (f.2.2 : Int)) := by have := XS.num S.fo.x4 hi; rw [deep_get hf] at this; exact this
     obtain ⟨dp, hdp⟩ : ∃ dp, f.2.2 = dp := ⟨_, rfl⟩
     rw [hdp] at kD
     have HF := Lib.hid (show (fdN d.1 d.2 t n i).1[i]? = some f ∧ f.2.2 = dp from ⟨hf, hdp⟩)
     have hdp20 : dp ≤ 20 := by have := INV.out.dn f (List.mem_of_getElem? hf); omega
     have i0 : (0 : Int) ≤ (i : Int) := by omega
     have i1 : (i : Int) < (N : Int) := by omega
     clear hlen hall hiG hf hdp
     by_cases hd : dp = n
     · subst hd
       have F := Lib.hid (show SF w a v B g1 N c1 g2 N c2 g3 N c3 g4 N c4 (termsF (fdN d.1 d.2 t dp (i + 1)).1) (fromD (fdN d.1 d.2 t dp (i + 1)).1) (byD (fdN d.1 d.2 t dp (i + 1)).1) (deepD (fdN d.1 d.2 t dp (i + 1)).1) wr ∧ (fdN d.1 d.2 t dp (i + 1)).1.length = N ∧ (fdN d.1 d.2 t dp (i + 1)).2 = true from by rw [fd_skip HF.out.1 HF.out.2]; exact ⟨S, HL.out.1, HL.out.2.1⟩)
       clear S
       go_wp2
       go_roundg (G - 1)
       case measure => have := HL.out; omega
       case rel => exact ⟨i + 1, N, g1, c1, g2, c2, g3, c3, g4, c4, by simp, by have := HL.out; omega, by omega, F.out.2.1, F.out.2.2, F.out.1⟩
     · have HD := Lib.hid hd
       have hd1 : ¬ (dp : Int) = (n : Int) := by omega
       obtain ⟨T, tn, tc, k3, sT, hcT⟩ := XS.term S.fo.x1 hi
       rw [term_get HF.out.1] at sT
       have zs : w.heap.size < wr.drew.heap.size := S.sys.lt
       have zB : B < wr.drew.heap.size := S.fo.row.lt
       have zg : g1 < wr.drew.heap.size := S.fo.x1.ge.2
       have k0 : wr.cell? ⟨w.heap.size, 0, none⟩ = some a := S.sys.cell 0
       have k1 : wr.cell? ⟨w.heap.size, 1, none⟩ = some v := S.sys.cell 1
       have k2 := kB0
       have hokf : rightB d.1 d.2 (termF f) = true := by obtain ⟨q1, q2⟩ := right_ok2 HH.out.2.2; unfold rightB; rw [q1, find_ok q1 q2 INV.out (List.mem_of_getElem? HF.out.1)]; rfl
       have LST := Lib.hid (l7Steps a v (.slice T tn tc) d (termF f) wr.drew (HH.out.1.next (next_trans S.bel (drew_below wr))) (rd_ints.2 ⟨T, tn, tc, rfl, sT.drew, hcT⟩) HH.out.2.1 hokf)
       have SD := Lib.hid S.drew
       have HOKF := Lib.hid hokf
       obtain ⟨FK, hFK⟩ := inner_facts HH.out.2.2 HF.out.1 (by rw [HF.out.2]; exact HD.out) (by omega)
       have HFK := Lib.hid hFK
       clear hFK
       clear sT hcT S hokf
       go_upto_region 6 with fail
       refine AnyT.start (S := (fun w' => w'.cell? ⟨w.heap.size, 0, none⟩ = some a ∧ w'.cell? ⟨w.heap.size, 1, none⟩ = some v ∧ w'.cell? ⟨B, 0, none⟩ = some (.slice (some ⟨g1, 0, none⟩) N c1) ∧ w'.cell? ⟨g1, i, none⟩ = some (.slice T tn tc))) (fun _ => false) (by kernel_rfl) ⟨k0, k1, k2, k3⟩ (fun hHeld => ?_)
       refine AnyT.take (i := 0) (v := ?_) rfl (by kernel_rfl) (by kernel_rfl) (by kernel_rfl) (by kernel_rfl) (fun _ _ _ h => h) (Or.inl ⟨by rfl, ?_⟩) (by assumption) ?_
       rotate_left 1
       · (intro w0 hSw; (try dsimp only at hSw); go_simp; try with_reducible rfl)
       try simp only [Act.put, List.setIfInBounds_toArray, List.set_cons_zero, List.set_cons_succ, List.getElem_toArray, List.getElem_cons_zero, List.getElem_cons_succ]
       refine AnyT.takeA (i := 1) (v := ?_) rfl (by kernel_rfl) (by kernel_rfl) (by kernel_rfl) (fun _ _ _ h => h) (Or.inl ⟨by rfl, ?_⟩) ?_
       rotate_left 1
       · (intro w0 _; go_simp; try with_reducible rfl)
       try simp only [Act.put, List.setIfInBounds_toArray, List.set_cons_zero, List.set_cons_succ, List.getElem_toArray, List.getElem_cons_zero, List.getElem_cons_succ]
       refine AnyT.take (i := 2) (v := ?_) rfl (by kernel_rfl) (by kernel_rfl) (by kernel_rfl) (by kernel_rfl) (fun _ _ _ h => h) (Or.inl ⟨by rfl, ?_⟩) (by assumption) ?_
       rotate_left 1
       · (intro w0 hSw; (try dsimp only at hSw); go_simp; try with_reducible rfl)
       try simp only [Act.put, List.setIfInBounds_toArray, List.set_cons_zero, List.set_cons_succ, List.getElem_toArray, List.getElem_cons_zero, List.getElem_cons_succ]
       refine AnyT.takeA (i := 3) (v := ?_) rfl (by kernel_rfl) (by kernel_rfl) (by kernel_rfl) (fun _ _ _ h => h) (Or.inl ⟨by rfl, ?_⟩) ?_
       rotate_left 1
       · (intro w0 _; go_simp; try with_reducible rfl)
       try simp only [Act.put, List.setIfInBounds_toArray, List.set_cons_zero, List.set_cons_succ, List.getElem_toArray, List.getElem_cons_zero, List.getElem_cons_succ]
       refine AnyT.takeA (i := 4) (v := ?_) rfl (by kernel_rfl) (by kernel_rfl) (by kernel_rfl) (fun _ _ _ h => h) (Or.inl ⟨by rfl, ?_⟩) ?_
       rotate_left 1
       · (intro w0 _; go_simp; try with_reducible rfl)
       try simp only [Act.put, List.setIfInBounds_toArray, List.set_cons_zero, List.set_cons_succ, List.getElem_toArray, List.getElem_cons_zero, List.getElem_cons_succ]
       refine AnyT.take (i := 5) (v := ?_) rfl (by kernel_rfl) (by kernel_rfl) (by kernel_rfl) (by kernel_rfl) (fun _ _ _ h => h) (Or.inl ⟨by rfl, ?_⟩) (by assumption) ?_
       rotate_left 1
       · (intro w0 hSw; (try dsimp only at hSw); go_simp; try with_reducible rfl)
       try simp only [Act.put, List.setIfInBounds_toArray, List.set_cons_zero, List.set_cons_succ, List.getElem_toArray, List.getElem_cons_zero, List.getElem_cons_succ]
       refine AnyT.call (i := 6) (by kernel_rfl) rfl (fun K hK => ?_)
       try simp only [Act.put, List.setIfInBounds_toArray, List.set_cons_zero, List.set_cons_succ, List.getElem_toArray, List.getElem_cons_zero, List.getElem_cons_succ]
       rw [if_pos (by rfl)]
       go_simp
       (go_at_call 59; refine LST.out.mono ?_; rintro e w2 ⟨LA, ln, lc, rfl, oL, bb⟩; have d0 : w2.cell? ⟨w.heap.size, 0, none⟩ = some a := (bb.cell (p := ⟨w.heap.size, 0, none⟩) zs).trans k0; have d1 : w2.cell? ⟨w.heap.size, 1, none⟩ = some v := (bb.cell (p := ⟨w.heap.size, 1, none⟩) zs).trans k1; have d2 : w2.cell? ⟨B, 0, none⟩ = some (.slice (some ⟨g1, 0, none⟩) N c1) := (bb.cell (p := ⟨B, 0, none⟩) zB).trans k2; have d3 : w2.cell? ⟨g1, i, none⟩ = some (.slice T tn tc) := (bb.cell (p := ⟨g1, i, none⟩) zg).trans k3; go_wp2_with fail)
       refine hK.out _ _ (fun _ _ => ?_) (fun hKeep => ?_)
       · exact ⟨d0, d1, d2, d3⟩
       replace hHeld := hKeep (by first | rfl | trivial) hHeld
       clear hK K hKeep
       try simp only [Act.put, List.setIfInBounds_toArray, List.set_cons_zero, List.set_cons_succ, List.getElem_toArray, List.getElem_cons_zero, List.getElem_cons_succ]
       refine AnyT.takeA (i := 7) (v := ?_) rfl (by kernel_rfl) (by kernel_rfl) (by kernel_rfl) (fun _ _ _ h => h) (Or.inl ⟨by rfl, ?_⟩) ?_
       rotate_left 1
       · (intro w0 _; go_simp; try with_reducible rfl)
       try simp only [Act.put, List.setIfInBounds_toArray, List.set_cons_zero, List.set_cons_succ, List.getElem_toArray, List.getElem_cons_zero, List.getElem_cons_succ]
       refine AnyT.done (by kernel_rfl) ?_ _
       have S2 := SD.out.below bb
       have hQ := notIn_owned (bad := bad5 (w.heap.size + 1 + 1) B g1 g2 g3 g4) oL.owned (fun k h1 h2 q => by have := bad_lt SD.out.fo q; omega)
       have HS := Lib.hid (show SF w a v B g1 N c1 g2 N c2 g3 N c3 g4 N c4 (termsF (fdN d.1 d.2 t n i).1) (fromD (fdN d.1 d.2 t n i).1) (byD (fdN d.1 d.2 t n i).1) (deepD (fdN d.1 d.2 t n i).1) w2 ∧ RdQ w2 (NotIn w2 (bad5 (w.heap.size + 1 + 1) B g1 g2 g3 g4)) sStepS [.slice LA ln lc] (stepsL d.1 d.2 (termF f)) from ⟨S2, hQ⟩)
       have HLN := Lib.hid oL.1
       have hln : ln ≤ 1048576 := by
         rw [← oL.1]
         have h1 := stepsMath.st_len (sg := d.1) (rs := d.2) (t := termF f) (i := (termF f).length) (k := 0)
         rw [stepsMath.st_all] at h1
         have h2 := (term_len (right_ok2 HOKF.out).2).2
         have h3 := (sys_parts (right_ok2 HOKF.out).1).2.1
         have h4 : (termF f).length * List.length d.2 ≤ 60 * 12 := Nat.mul_le_mul h2 h3
         omega
       clear oL bb S2 hQ SD LST d0 d1 d2 d3 k0 k1 k2 k3 kB0 kB1 kB2 kB3 kB4 kD zs zB zg
       go_wp2_with fail
       go_loopg [10] ln (fun g k_ wr => ∃ (k N g1 c1 g2 c2 g3 c3 g4 c4 : Nat), k_ = .int .i64 k ∧ k + g = ln ∧ (FK k).1.length = N ∧ (FK k).2 = true ∧ SF w a v B g1 N c1 g2 N c2 g3 N c3 g4 N c4 (termsF (FK k).1) (fromD (FK k).1) (byD (FK k).1) (deepD (FK k).1) wr ∧ RdQ wr (NotIn wr (bad5 (w.heap.size + 1 + 1) B g1 g2 g3 g4)) sStepS [.slice LA ln lc] (stepsL d.1 d.2 (termF f)))
       case atStart => exact ⟨0, N, g1, c1, g2, c2, g3, c3, g4, c4, rfl, by omega, by rw [HFK.out.1]; exact HL.out.1, by rw [HFK.out.1]; exact HL.out.2.1, by rw [HFK.out.1]; exact HS.out.1, HS.out.2⟩
       case round =>
         clear HS hi i0 i1 hN60 hiN
         have HL := Lib.hid HL.out.2.2
         obtain ⟨k, N, g1, c1, g2, c2, g3, c3, g4, c4, rfl, hkg, hlen, hall, S, hQ⟩ := hrel
         have INV2 := Lib.hid (HFK.out.2.2.1 k)
         have hN60 : N ≤ 60 := by rw [← hlen]; exact INV2.out.1.len60
         have hN20 : N ≤ 1048576 := by omega
         have hiN : i < N := by rw [← hlen]; exact (List.getElem?_eq_some_iff.1 INV2.out.2).1
         have hkl : k ≤ ln := by omega
         have HK := Lib.hid (show k + gk = ln ∧ (FK k).1.length = N ∧ (FK k).2 = true from ⟨hkg, hlen, hall⟩)
         clear hkg hlen hall
         by_cases hk : k < ln
         · obtain ⟨b, off, U, un, uc, rfl, hb, e0, e1, e2, hU, hX⟩ := rdq_step hQ hk
           obtain ⟨x, hx⟩ : ∃ x, (stepsL d.1 d.2 (termF f)).getD k (0, 0, []) = x := ⟨_, rfl⟩
           rw [hx] at e0 e1 hU hX
           have hx60 : x.2.2.length ≤ 60 := by rw [← hx]; exact HFK.out.2.2.2.2.2.1 k (by rw [HLN.out]; exact hk)
           have HADD := Lib.hid (show FK (k + 1) = addF i (dp + 1) (FK k) x from by rw [← hx, ← HF.out.2]; exact HFK.out.2.1 k (by rw [HLN.out]; exact hk))
           have hsU := rdq_seg0 (B := wr.heap.size) hU (fun _ h => h.1)
           have hun : un ≤ 60 := by rw [← hsU.1.1]; exact hx60
           have zB : B < wr.drew.heap.size := S.fo.row.lt
           have zb : b < wr.drew.heap.size := hb.1
           have k0 : wr.cell? ⟨B, 0, none⟩ = some (.slice (some ⟨g1, 0, none⟩) N c1) := S.fo.row.cell 0
           have LP := Lib.hid (termPlace (some ⟨g1, 0, none⟩) U N c1 un uc (termsF (FK k).1) x.2.2 wr.drew (S.drew.fo.x1.rd) (hsU.1.drew) hN20 (by omega) (small_terms HH.out.2.2 INV2.out.1))
           obtain ⟨pl, hpl⟩ : ∃ pl, plcI (plcO (termsF (FK k).1) x.2.2) = pl := ⟨_, rfl⟩
           have HP := Lib.hid hpl
           have HIN := Lib.hid (show 0 ≤ pl ↔ x.2.2 ∈ termsF (FK k).1 from by rw [← hpl]; exact plc_ge)
           have SD := Lib.hid (show SF w a v B g1 N c1 g2 N c2 g3 N c3 g4 N c4 (termsF (FK k).1) (fromD (FK k).1) (byD (FK k).1) (deepD (FK k).1) wr.drew ∧ RdQ wr.drew (NotIn wr.drew (bad5 (w.heap.size + 1 + 1) B g1 g2 g3 g4)) sStepS [.slice (some ⟨b, off, none⟩) ln lc] (stepsL d.1 d.2 (termF f)) ∧ RdQ wr.drew (NotIn wr.drew (bad5 (w.heap.size + 1 + 1) B g1 g2 g3 g4)) sI [.slice U un uc] x.2.2 ∧ RdQ wr.drew (NotIn wr.drew (bad5 (w.heap.size + 1 + 1) B g1 g2 g3 g4)) sStep [.int .i64 x.1, .int .i64 x.2.1, .slice U un uc] x from ⟨S.drew, notIn_below hQ (drew_below wr), notIn_below hU (drew_below wr), notIn_below hX (drew_below wr)⟩)
           have i0 : (0 : Int) ≤ (k : Int) := by omega
           have i1 : (k : Int) < (ln : Int) := by omega
           have zi0 : (0 : Int) ≤ (i : Int) := by omega
           have zi1 : (i : Int) < (N : Int) := by omega
           have E01 := Lib.hid (show wr.cell? ⟨b, off + k * 3, none⟩ = some (.int .i64 x.1) ∧ wr.cell? ⟨b, off + k * 3 + 1, none⟩ = some (.int .i64 x.2.1) from ⟨e0, e1⟩)
           clear hx hx60 hsU hb hU hX hQ S hpl e0 e1
           go_upto_region 10 with fail
           refine AnyT.start (S := (fun w' => w'.cell? ⟨B, 0, none⟩ = some (.slice (some ⟨g1, 0, none⟩) N c1) ∧ w'.cell? ⟨b, off + k * 3 + 2, none⟩ = some (.slice U un uc))) (fun _ => false) (by kernel_rfl) ⟨k0, e2⟩ (fun hHeld => ?_)
           refine AnyT.takeA (i := 0) (v := ?_) rfl (by kernel_rfl) (by kernel_rfl) (by kernel_rfl) (fun _ _ _ h => h) (Or.inl ⟨by rfl, ?_⟩) ?_
           rotate_left 1
           · (intro w0 _; go_simp; try with_reducible rfl)
           try simp only [Act.put, List.setIfInBounds_toArray, List.set_cons_zero, List.set_cons_succ, List.getElem_toArray, List.getElem_cons_zero, List.getElem_cons_succ]
           refine AnyT.take (i := 1) (v := ?_) rfl (by kernel_rfl) (by kernel_rfl) (by kernel_rfl) (by kernel_rfl) (fun _ _ _ h => h) (Or.inl ⟨by rfl, ?_⟩) (by assumption) ?_
           rotate_left 1
           · (intro w0 hSw; (try dsimp only at hSw); go_simp; try with_reducible rfl)
           try simp only [Act.put, List.setIfInBounds_toArray, List.set_cons_zero, List.set_cons_succ, List.getElem_toArray, List.getElem_cons_zero, List.getElem_cons_succ]
           refine AnyT.takeA (i := 2) (v := ?_) rfl (by kernel_rfl) (by kernel_rfl) (by kernel_rfl) (fun _ _ _ h => h) (Or.inl ⟨by rfl, ?_⟩) ?_
           rotate_left 1
           · (intro w0 _; go_simp; try with_reducible rfl)
           try simp only [Act.put, List.setIfInBounds_toArray, List.set_cons_zero, List.set_cons_succ, List.getElem_toArray, List.getElem_cons_zero, List.getElem_cons_succ]
           refine AnyT.takeA (i := 3) (v := ?_) rfl (by kernel_rfl) (by kernel_rfl) (by kernel_rfl) (fun _ _ _ h => h) (Or.inl ⟨by rfl, ?_⟩) ?_
           rotate_left 1
           · (intro w0 _; go_simp; try with_reducible rfl)
           try simp only [Act.put, List.setIfInBounds_toArray, List.set_cons_zero, List.set_cons_succ, List.getElem_toArray, List.getElem_cons_zero, List.getElem_cons_succ]
           refine AnyT.takeA (i := 4) (v := ?_) rfl (by kernel_rfl) (by kernel_rfl) (by kernel_rfl) (fun _ _ _ h => h) (Or.inl ⟨by rfl, ?_⟩) ?_
           rotate_left 1
           · (intro w0 _; go_simp; try with_reducible rfl)
           try simp only [Act.put, List.setIfInBounds_toArray, List.set_cons_zero, List.set_cons_succ, List.getElem_toArray, List.getElem_cons_zero, List.getElem_cons_succ]
           refine AnyT.takeA (i := 5) (v := ?_) rfl (by kernel_rfl) (by kernel_rfl) (by kernel_rfl) (fun _ _ _ h => h) (Or.inl ⟨by rfl, ?_⟩) ?_
           rotate_left 1
           · (intro w0 _; go_simp; try with_reducible rfl)
           try simp only [Act.put, List.setIfInBounds_toArray, List.set_cons_zero, List.set_cons_succ, List.getElem_toArray, List.getElem_cons_zero, List.getElem_cons_succ]
           refine AnyT.take (i := 6) (v := ?_) rfl (by kernel_rfl) (by kernel_rfl) (by kernel_rfl) (by kernel_rfl) (fun _ _ _ h => h) (Or.inl ⟨by rfl, ?_⟩) (by assumption) ?_
           rotate_left 1
           · (intro w0 hSw; (try dsimp only at hSw); go_simp; try with_reducible rfl)
           try simp only [Act.put, List.setIfInBounds_toArray, List.set_cons_zero, List.set_cons_succ, List.getElem_toArray, List.getElem_cons_zero, List.getElem_cons_succ]
           refine AnyT.call (i := 7) (by kernel_rfl) rfl (fun K hK => ?_)
           try simp only [Act.put, List.setIfInBounds_toArray, List.set_cons_zero, List.set_cons_succ, List.getElem_toArray, List.getElem_cons_zero, List.getElem_cons_succ]
           rw [if_pos (by rfl)]
           go_simp
           (go_at_call 60; refine LP.out.mono ?_; rintro e w2 ⟨rfl, bb⟩; rw [HP.out]; have d0 : w2.cell? ⟨B, 0, none⟩ = some (.slice (some ⟨g1, 0, none⟩) N c1) := (bb.cell (p := ⟨B, 0, none⟩) zB).trans k0; have d1 : w2.cell? ⟨b, off + k * 3 + 2, none⟩ = some (.slice U un uc) := (bb.cell (p := ⟨b, off + k * 3 + 2, none⟩) zb).trans e2; go_wp2_with fail)
           refine hK.out _ _ (fun _ _ => ?_) (fun hKeep => ?_)
           · exact ⟨d0, d1⟩
           replace hHeld := hKeep (by first | rfl | trivial) hHeld
           clear hK K hKeep
           try simp only [Act.put, List.setIfInBounds_toArray, List.set_cons_zero, List.set_cons_succ, List.getElem_toArray, List.getElem_cons_zero, List.getElem_cons_succ]
           refine AnyT.takeA (i := 8) (v := ?_) rfl (by kernel_rfl) (by kernel_rfl) (by kernel_rfl) (fun _ _ _ h => h) (Or.inl ⟨by rfl, ?_⟩) ?_
           rotate_left 1
           · (intro w0 _; go_simp; try with_reducible rfl)
           try simp only [Act.put, List.setIfInBounds_toArray, List.set_cons_zero, List.set_cons_succ, List.getElem_toArray, List.getElem_cons_zero, List.getElem_cons_succ]
           refine AnyT.done (by kernel_rfl) ?_ _
           have S2 := SD.out.1.below bb
           have Q2 := Lib.hid (show RdQ w2 (NotIn w2 (bad5 (w.heap.size + 1 + 1) B g1 g2 g3 g4)) sStepS [.slice (some ⟨b, off, none⟩) ln lc] (stepsL d.1 d.2 (termF f)) ∧ RdQ w2 (NotIn w2 (bad5 (w.heap.size + 1 + 1) B g1 g2 g3 g4)) sI [.slice U un uc] x.2.2 ∧ RdQ w2 (NotIn w2 (bad5 (w.heap.size + 1 + 1) B g1 g2 g3 g4)) sStep [.int .i64 x.1, .int .i64 x.2.1, .slice U un uc] x from ⟨notIn_below SD.out.2.1 bb, notIn_below SD.out.2.2.1 bb, notIn_below SD.out.2.2.2 bb⟩)
           have E2 := Lib.hid (show w2.cell? ⟨b, off + k * 3, none⟩ = some (.int .i64 x.1) ∧ w2.cell? ⟨b, off + k * 3 + 1, none⟩ = some (.int .i64 x.2.1) ∧ w2.cell? ⟨b, off + k * 3 + 2, none⟩ = some (.slice U un uc) from ⟨(bb.cell (p := ⟨b, off + k * 3, none⟩) zb).trans E01.out.1, (bb.cell (p := ⟨b, off + k * 3 + 1, none⟩) zb).trans E01.out.2, d1⟩)
           clear SD bb LP d0 d1 k0 e2 zB zb E01
           by_cases hin : x.2.2 ∈ termsF (FK k).1
           · have hp0 : 0 ≤ pl := HIN.out.2 hin
             have F := Lib.hid (show SF w a v B g1 N c1 g2 N c2 g3 N c3 g4 N c4 (termsF (FK (k + 1)).1) (fromD (FK (k + 1)).1) (byD (FK (k + 1)).1) (deepD (FK (k + 1)).1) w2 ∧ (FK (k + 1)).1.length = N ∧ (FK (k + 1)).2 = true from by
               have e : FK (k + 1) = FK k := by rw [HADD.out]; exact add_in hin
               rw [e]
               exact ⟨S2, HK.out.2.1, HK.out.2.2⟩)
             clear S2 hin E2
             go_wp2
             go_roundg (gk - 1)
             case measure => have := HK.out; omega
             case rel => exact ⟨k + 1, N, g1, c1, g2, c2, g3, c3, g4, c4, by simp, by have := HK.out; omega, F.out.2.1, F.out.2.2, F.out.1, Q2.out.1⟩
           · have hp0 : ¬ 0 ≤ pl := fun h => hin (HIN.out.1 h)
             have k0 : w2.cell? ⟨B, 0, none⟩ = some (.slice (some ⟨g1, 0, none⟩) N c1) := S2.fo.row.cell 0
             have k1 : w2.cell? ⟨B, 1, none⟩ = some (.slice (some ⟨g2, 0, none⟩) N c2) := S2.fo.row.cell 1
             have k2 : w2.cell? ⟨B, 2, none⟩ = some (.slice (some ⟨g3, 0, none⟩) N c3) := S2.fo.row.cell 2
             have k3 : w2.cell? ⟨B, 3, none⟩ = some (.slice (some ⟨g4, 0, none⟩) N c4) := S2.fo.row.cell 3
             have k4 : w2.cell? ⟨B, 4, none⟩ = some (.bool true) := S2.fo.row.cell 4
             have f4 := S2.fo.row.free 4
             by_cases h60 : N = 60
             · have FD := Lib.hid (show Fd = ((FK k).1, false) from by
                 rw [← HFd.out.1]
                 have e : FK (k + 1) = ((FK k).1, false) := by rw [HADD.out]; exact add_full HK.out.2.2 hin (by rw [HK.out.2.1]; exact h60)
                 rw [← e]
                 exact HFK.out.2.2.2.2.1 (k + 1) (congrArg Prod.snd e))
               have HS2 := Lib.hid S2
               have h60i : (N : Int) = 60 := by omega
               clear S2 Q2 E2 hin HIN HP k4 h60
               go_upto_region 12 with fail
               clear k0 k1 k2 k3
               have SFl := HS2.out.fo.flag false
               have RFl := Row.far (p := ⟨B, 4, none⟩) HS2.out.res (by have := HS2.out.far; show _ ≠ B; omega) (.bool false)
               have hqB : B ≠ w.heap.size + 1 := by have := HS2.out.far; omega
               have BFl := HS2.out.bel.setCell (p := ⟨B, 4, none⟩) (show w.heap.size ≤ B by have := HS2.out.far; omega) (.bool false)
               have k0 : (w2.setCell ⟨B, 4, none⟩ (.bool false)).cell? ⟨B, 0, none⟩ = some (.slice (some ⟨g1, 0, none⟩) N c1) := SFl.row.cell 0
               have k1 : (w2.setCell ⟨B, 4, none⟩ (.bool false)).cell? ⟨B, 1, none⟩ = some (.slice (some ⟨g2, 0, none⟩) N c2) := SFl.row.cell 1
               have k2 : (w2.setCell ⟨B, 4, none⟩ (.bool false)).cell? ⟨B, 2, none⟩ = some (.slice (some ⟨g3, 0, none⟩) N c3) := SFl.row.cell 2
               have k3 : (w2.setCell ⟨B, 4, none⟩ (.bool false)).cell? ⟨B, 3, none⟩ = some (.slice (some ⟨g4, 0, none⟩) N c4) := SFl.row.cell 3
               have k4 : (w2.setCell ⟨B, 4, none⟩ (.bool false)).cell? ⟨B, 4, none⟩ = some (.bool false) := SFl.row.cell 4
               have k5 : w2.cell? ⟨B, 4, none⟩ = some (.bool true) := HS2.out.fo.row.cell 4
               have ya0 : (w2.setCell ⟨B, 4, none⟩ (.bool false)).cell? ⟨w.heap.size + 1, 0, none⟩ = some (.slice none 0 0) := RFl.cell 0
               have ga0 := RFl.free 0
               have ya1 : (w2.setCell ⟨B, 4, none⟩ (.bool false)).cell? ⟨w.heap.size + 1, 1, none⟩ = some (.slice none 0 0) := RFl.cell 1
               have ga1 := RFl.free 1
               have ya2 : (w2.setCell ⟨B, 4, none⟩ (.bool false)).cell? ⟨w.heap.size + 1, 2, none⟩ = some (.slice none 0 0) := RFl.cell 2
               have ga2 := RFl.free 2
               have ya3 : (w2.setCell ⟨B, 4, none⟩ (.bool false)).cell? ⟨w.heap.size + 1, 3, none⟩ = some (.slice none 0 0) := RFl.cell 3
               have ga3 := RFl.free 3
               have ya4 : (w2.setCell ⟨B, 4, none⟩ (.bool false)).cell? ⟨w.heap.size + 1, 4, none⟩ = some (.bool false) := RFl.cell 4
               have ga4 := RFl.free 4
               have rz0 := Row.put RFl 0 (.slice (some ⟨g1, 0, none⟩) N c1)
               have yb1 : ((w2.setCell ⟨B, 4, none⟩ (.bool false)).setCell ⟨w.heap.size + 1, 0, none⟩ (.slice (some ⟨g1, 0, none⟩) N c1)).cell? ⟨w.heap.size + 1, 1, none⟩ = some (.slice none 0 0) := rz0.cell 1
               have gb1 := rz0.free 1
               have rz1 := Row.put rz0 1 (.slice (some ⟨g2, 0, none⟩) N c2)
               have yb2 : (((w2.setCell ⟨B, 4, none⟩ (.bool false)).setCell ⟨w.heap.size + 1, 0, none⟩ (.slice (some ⟨g1, 0, none⟩) N c1)).setCell ⟨w.heap.size + 1, 1, none⟩ (.slice (some ⟨g2, 0, none⟩) N c2)).cell? ⟨w.heap.size + 1, 2, none⟩ = some (.slice none 0 0) := rz1.cell 2
               have gb2 := rz1.free 2
               have rz2 := Row.put rz1 2 (.slice (some ⟨g3, 0, none⟩) N c3)
               have yb3 : ((((w2.setCell ⟨B, 4, none⟩ (.bool false)).setCell ⟨w.heap.size + 1, 0, none⟩ (.slice (some ⟨g1, 0, none⟩) N c1)).setCell ⟨w.heap.size + 1, 1, none⟩ (.slice (some ⟨g2, 0, none⟩) N c2)).setCell ⟨w.heap.size + 1, 2, none⟩ (.slice (some ⟨g3, 0, none⟩) N c3)).cell? ⟨w.heap.size + 1, 3, none⟩ = some (.slice none 0 0) := rz2.cell 3
               have gb3 := rz2.free 3
               have rz3 := Row.put rz2 3 (.slice (some ⟨g4, 0, none⟩) N c4)
               have yb4 : (((((w2.setCell ⟨B, 4, none⟩ (.bool false)).setCell ⟨w.heap.size + 1, 0, none⟩ (.slice (some ⟨g1, 0, none⟩) N c1)).setCell ⟨w.heap.size + 1, 1, none⟩ (.slice (some ⟨g2, 0, none⟩) N c2)).setCell ⟨w.heap.size + 1, 2, none⟩ (.slice (some ⟨g3, 0, none⟩) N c3)).setCell ⟨w.heap.size + 1, 3, none⟩ (.slice (some ⟨g4, 0, none⟩) N c4)).cell? ⟨w.heap.size + 1, 4, none⟩ = some (.bool false) := rz3.cell 4
               have gb4 := rz3.free 4
               have rz4 := Row.put rz3 4 (.bool false)
               have u0 : ((((((w2.setCell ⟨B, 4, none⟩ (.bool false)).setCell ⟨w.heap.size + 1, 0, none⟩ (.slice (some ⟨g1, 0, none⟩) N c1)).setCell ⟨w.heap.size + 1, 1, none⟩ (.slice (some ⟨g2, 0, none⟩) N c2)).setCell ⟨w.heap.size + 1, 2, none⟩ (.slice (some ⟨g3, 0, none⟩) N c3)).setCell ⟨w.heap.size + 1, 3, none⟩ (.slice (some ⟨g4, 0, none⟩) N c4)).setCell ⟨w.heap.size + 1, 4, none⟩ (.bool false)).cell? ⟨w.heap.size + 1, 0, none⟩ = some (.slice (some ⟨g1, 0, none⟩) N c1) := rz4.cell 0
               have u1 : ((((((w2.setCell ⟨B, 4, none⟩ (.bool false)).setCell ⟨w.heap.size + 1, 0, none⟩ (.slice (some ⟨g1, 0, none⟩) N c1)).setCell ⟨w.heap.size + 1, 1, none⟩ (.slice (some ⟨g2, 0, none⟩) N c2)).setCell ⟨w.heap.size + 1, 2, none⟩ (.slice (some ⟨g3, 0, none⟩) N c3)).setCell ⟨w.heap.size + 1, 3, none⟩ (.slice (some ⟨g4, 0, none⟩) N c4)).setCell ⟨w.heap.size + 1, 4, none⟩ (.bool false)).cell? ⟨w.heap.size + 1, 1, none⟩ = some (.slice (some ⟨g2, 0, none⟩) N c2) := rz4.cell 1
               have u2 : ((((((w2.setCell ⟨B, 4, none⟩ (.bool false)).setCell ⟨w.heap.size + 1, 0, none⟩ (.slice (some ⟨g1, 0, none⟩) N c1)).setCell ⟨w.heap.size + 1, 1, none⟩ (.slice (some ⟨g2, 0, none⟩) N c2)).setCell ⟨w.heap.size + 1, 2, none⟩ (.slice (some ⟨g3, 0, none⟩) N c3)).setCell ⟨w.heap.size + 1, 3, none⟩ (.slice (some ⟨g4, 0, none⟩) N c4)).setCell ⟨w.heap.size + 1, 4, none⟩ (.bool false)).cell? ⟨w.heap.size + 1, 2, none⟩ = some (.slice (some ⟨g3, 0, none⟩) N c3) := rz4.cell 2
               have u3 : ((((((w2.setCell ⟨B, 4, none⟩ (.bool false)).setCell ⟨w.heap.size + 1, 0, none⟩ (.slice (some ⟨g1, 0, none⟩) N c1)).setCell ⟨w.heap.size + 1, 1, none⟩ (.slice (some ⟨g2, 0, none⟩) N c2)).setCell ⟨w.heap.size + 1, 2, none⟩ (.slice (some ⟨g3, 0, none⟩) N c3)).setCell ⟨w.heap.size + 1, 3, none⟩ (.slice (some ⟨g4, 0, none⟩) N c4)).setCell ⟨w.heap.size + 1, 4, none⟩ (.bool false)).cell? ⟨w.heap.size + 1, 3, none⟩ = some (.slice (some ⟨g4, 0, none⟩) N c4) := rz4.cell 3
               have u4 : ((((((w2.setCell ⟨B, 4, none⟩ (.bool false)).setCell ⟨w.heap.size + 1, 0, none⟩ (.slice (some ⟨g1, 0, none⟩) N c1)).setCell ⟨w.heap.size + 1, 1, none⟩ (.slice (some ⟨g2, 0, none⟩) N c2)).setCell ⟨w.heap.size + 1, 2, none⟩ (.slice (some ⟨g3, 0, none⟩) N c3)).setCell ⟨w.heap.size + 1, 3, none⟩ (.slice (some ⟨g4, 0, none⟩) N c4)).setCell ⟨w.heap.size + 1, 4, none⟩ (.bool false)).cell? ⟨w.heap.size + 1, 4, none⟩ = some (.bool false) := rz4.cell 4
               have FZ : AnsFd w Fd (.returned (.agg #[.slice (some ⟨g1, 0, none⟩) N c1, .slice (some ⟨g2, 0, none⟩) N c2, .slice (some ⟨g3, 0, none⟩) N c3, .slice (some ⟨g4, 0, none⟩) N c4, .bool false])) ((((((w2.setCell ⟨B, 4, none⟩ (.bool false)).setCell ⟨w.heap.size + 1, 0, none⟩ (.slice (some ⟨g1, 0, none⟩) N c1)).setCell ⟨w.heap.size + 1, 1, none⟩ (.slice (some ⟨g2, 0, none⟩) N c2)).setCell ⟨w.heap.size + 1, 2, none⟩ (.slice (some ⟨g3, 0, none⟩) N c3)).setCell ⟨w.heap.size + 1, 3, none⟩ (.slice (some ⟨g4, 0, none⟩) N c4)).setCell ⟨w.heap.size + 1, 4, none⟩ (.bool false)) := by rw [FD.out]; exact ansFd (S := ((FK k).1, false)) (((((SFl.far 0 (.slice (some ⟨g1, 0, none⟩) N c1) (by omega) hqB).far 1 (.slice (some ⟨g2, 0, none⟩) N c2) (by omega) hqB).far 2 (.slice (some ⟨g3, 0, none⟩) N c3) (by omega) hqB).far 3 (.slice (some ⟨g4, 0, none⟩) N c4) (by omega) hqB).far 4 (.bool false) (by omega) hqB) rfl ((((((BFl.setCell (by show w.heap.size ≤ w.heap.size + 1; omega) _).setCell (by show w.heap.size ≤ w.heap.size + 1; omega) _).setCell (by show w.heap.size ≤ w.heap.size + 1; omega) _).setCell (by show w.heap.size ≤ w.heap.size + 1; omega) _).setCell (by show w.heap.size ≤ w.heap.size + 1; omega) _))
               have HFZ := Lib.hid FZ
               clear FZ rz0 rz1 rz2 rz3 rz4 SFl RFl BFl HS2 FD
               go_wp2
               exact bodyPost_ret (v := .agg #[.slice (some ⟨g1, 0, none⟩) N c1, .slice (some ⟨g2, 0, none⟩) N c2, .slice (some ⟨g3, 0, none⟩) N c3, .slice (some ⟨g4, 0, none⟩) N c4, .bool false]) (by simp [results, Tryz.results31, go_sem, u0, u1, u2, u3, u4]) rfl HFZ.out
             · have HNI := Lib.hid (show FK (k + 1) = ((FK k).1 ++ [(x, i, dp + 1)], true) ∧ (FK (k + 1)).1.length = N + 1 from by
                 have e : FK (k + 1) = ((FK k).1 ++ [(x, i, dp + 1)], true) := by rw [HADD.out]; exact add_new HK.out.2.2 hin (by rw [HK.out.2.1]; exact h60)
                 refine ⟨e, ?_⟩
                 rw [e, List.length_append, HK.out.2.1]
                 rfl)
               have h60' : ¬ (N : Int) = 60 := by omega
               have HS2 := Lib.hid S2
               clear S2 hin HIN
               have SV0 := Lib.hid (show (SF w a v B g1 N c1 g2 N c2 g3 N c3 g4 N c4 (termsF (FK k).1) (fromD (FK k).1) (byD (FK k).1) (deepD (FK k).1) w2.drew) ∧ (RdQ w2.drew (NotIn w2.drew (bad5 (w.heap.size + 1 + 1) B g1 g2 g3 g4)) sStepS [.slice (some ⟨b, off, none⟩) ln lc] (stepsL d.1 d.2 (termF f)) ∧ RdQ w2.drew (NotIn w2.drew (bad5 (w.heap.size + 1 + 1) B g1 g2 g3 g4)) sI [.slice U un uc] x.2.2 ∧ RdQ w2.drew (NotIn w2.drew (bad5 (w.heap.size + 1 + 1) B g1 g2 g3 g4)) sStep [.int .i64 x.1, .int .i64 x.2.1, .slice U un uc] x) ∧ (w2.drew.cell? ⟨b, off + k * 3, none⟩ = some (.int .i64 x.1) ∧ w2.drew.cell? ⟨b, off + k * 3 + 1, none⟩ = some (.int .i64 x.2.1) ∧ w2.drew.cell? ⟨b, off + k * 3 + 2, none⟩ = some (.slice U un uc)) from ⟨HS2.out.below (drew_below w2), ⟨notIn_below Q2.out.1 (drew_below w2), notIn_below Q2.out.2.1 (drew_below w2), notIn_below Q2.out.2.2 (drew_below w2)⟩, E2.out⟩)
               clear HS2 Q2 E2 k0 k1 k2 k3 k4 f4
               go_upto_region 14 with fail
               refine AnyT.start (S := (fun w' => w'.cell? ⟨B, 0, none⟩ = some (.slice (some ⟨g1, 0, none⟩)  N c1) ∧ w'.cell? ⟨b, off + k * 3 + 2, none⟩ = some (.slice U un uc))) (fun j => j == 8 || j == 10) (by kernel_rfl) ⟨SV0.out.1.fo.row.cell 0, SV0.out.2.2.2.2⟩ (fun hHeld => ?_)
               generalize w2.drew = V0 at SV0 hHeld ⊢
               have bA : Below V0.heap.size V0 (V0.alloc (.cells #[.slice U un uc] 24)) := (Below.refl _ _).alloc (Nat.le_refl _) _
               have SA := SV0.out.1.below bA
               have LA := SV0.out.2.1
               have rN : Row (V0.alloc (.cells #[.slice U un uc] 24)) V0.heap.size 24 #[.slice U un uc] := Row.new _ _ _
               have hsA := SA.bel.size
               have hsB := SA.fo.x1.ge
               have hdA := SA.fo.dis
               have hfA := SA.far
               have hbN := step_spot SV0.out.2.1.1 hk
               have hbV : b < V0.heap.size := hbN.1
               have hbB : b ≠ B := fun e => hbN.2 (by unfold bad5; omega)
               have hbg : b ≠ g1 := fun e => hbN.2 (by unfold bad5; omega)
               have hbA : b < (V0.alloc (.cells #[.slice U un uc] 24)).heap.size := by simp; omega
               refine AnyT.takeA (i := 0) (v := ?_) rfl (by kernel_rfl) (by kernel_rfl) (by kernel_rfl) (fun _ _ _ h => h) (Or.inl ⟨by rfl, ?_⟩) ?_
               rotate_left 1
               · (intro w0 _; go_simp; try with_reducible rfl)
               try simp only [Act.put, List.setIfInBounds_toArray, List.set_cons_zero, List.set_cons_succ, List.getElem_toArray, List.getElem_cons_zero, List.getElem_cons_succ]
               refine AnyT.takeU (i := 1) (v := ?_) rfl (by kernel_rfl) (by kernel_rfl) (by kernel_rfl) (by kernel_rfl) (by kernel_rfl) (fun _ _ _ h => h) (Or.inl ⟨by rfl, ?_⟩) (by assumption) ?_
               rotate_left 1
               · (intro w0 hSw; (try dsimp only at hSw); go_simp; try with_reducible rfl)
               try simp only [Act.put, List.setIfInBounds_toArray, List.set_cons_zero, List.set_cons_succ, List.getElem_toArray, List.getElem_cons_zero, List.getElem_cons_succ]
               refine AnyT.takeA (i := 2) (v := ?_) rfl (by kernel_rfl) (by kernel_rfl) (by kernel_rfl) (fun _ _ _ h => h) (Or.inl ⟨by rfl, ?_⟩) ?_
               rotate_left 1
               · (intro w0 _; go_simp; try with_reducible rfl)
               try simp only [Act.put, List.setIfInBounds_toArray, List.set_cons_zero, List.set_cons_succ, List.getElem_toArray, List.getElem_cons_zero, List.getElem_cons_succ]
               refine AnyT.takeA (i := 3) (v := ?_) rfl (by kernel_rfl) (by kernel_rfl) (by kernel_rfl) (fun _ _ _ h => h) (Or.inl ⟨by rfl, ?_⟩) ?_
               rotate_left 1
               · (intro w0 _; go_simp; try with_reducible rfl)
               try simp only [Act.put, List.setIfInBounds_toArray, List.set_cons_zero, List.set_cons_succ, List.getElem_toArray, List.getElem_cons_zero, List.getElem_cons_succ]
               refine AnyT.takeA (i := 4) (v := ?_) rfl (by kernel_rfl) (by kernel_rfl) (by kernel_rfl) (fun _ _ _ h => h) (Or.inl ⟨by rfl, ?_⟩) ?_
               rotate_left 1
               · (intro w0 _; go_simp; try with_reducible rfl)
               try simp only [Act.put, List.setIfInBounds_toArray, List.set_cons_zero, List.set_cons_succ, List.getElem_toArray, List.getElem_cons_zero, List.getElem_cons_succ]
               refine AnyT.takeA (i := 5) (v := ?_) rfl (by kernel_rfl) (by kernel_rfl) (by kernel_rfl) (fun _ _ _ h => h) (Or.inl ⟨by rfl, ?_⟩) ?_
               rotate_left 1
               · (intro w0 _; go_simp; try with_reducible rfl)
               try simp only [Act.put, List.setIfInBounds_toArray, List.set_cons_zero, List.set_cons_succ, List.getElem_toArray, List.getElem_cons_zero, List.getElem_cons_succ]
               refine AnyT.takeU (i := 6) (v := ?_) rfl (by kernel_rfl) (by kernel_rfl) (by kernel_rfl) (by kernel_rfl) (by kernel_rfl) (fun _ _ _ h => h) (Or.inl ⟨by rfl, ?_⟩) (by assumption) ?_
               rotate_left 1
               · (intro w0 hSw; (try dsimp only at hSw); go_simp; try with_reducible rfl)
               try simp only [Act.put, List.setIfInBounds_toArray, List.set_cons_zero, List.set_cons_succ, List.getElem_toArray, List.getElem_cons_zero, List.getElem_cons_succ]
               refine AnyT.call (i := 7) (by kernel_rfl) rfl (fun K hK => ?_)
               try simp only [Act.put, List.setIfInBounds_toArray, List.set_cons_zero, List.set_cons_succ, List.getElem_toArray, List.getElem_cons_zero, List.getElem_cons_succ]
               rw [if_pos (by rfl)]
               go_simp
               refine hK.out _ _ (fun _ _ => ?_) (fun hKeep => ?_)
               · exact ⟨keep_alloc hHeld.1, keep_alloc hHeld.2⟩
               replace hHeld := hKeep (by first | rfl | trivial) hHeld
               clear hK K hKeep
               try simp only [Act.put, List.setIfInBounds_toArray, List.set_cons_zero, List.set_cons_succ, List.getElem_toArray, List.getElem_cons_zero, List.getElem_cons_succ]
               refine AnyT.call (i := 8) (by kernel_rfl) rfl (fun K hK => ?_)
               try simp only [Act.put, List.setIfInBounds_toArray, List.set_cons_zero, List.set_cons_succ, List.getElem_toArray, List.getElem_cons_zero, List.getElem_cons_succ]
               rw [if_pos (by rfl)]
               refine wp_appX _ _ 32 24 sI _ _ Tryz.underlying32 info_list rfl (by decide) rfl (bad5 (w.heap.size + 1 + 1) B g1 g2 g3 g4) (w.heap.size + 1 + 1) g1 N c1 V0.heap.size 1 _ [.slice U un uc] x.2.2 rfl SA.fo.x1 (by unfold bad5; omega) rfl (fun z hz => by rw [rN.cell z]; exact List.getElem?_toArray) (notIn_below SV0.out.2.1.2.1 bA) hN20 (by omega) ?_
               intro h1 e1 w5  hx5 hg5 hat5 hb5
               have P5 := SF.app1 SA hx5 hg5 hat5 hb5
               have rB5 := Row.away SA.fo.row hg5 (fun e => by injection e with e; omega)
               have y5 : w5.cell? ⟨B, 0, none⟩ = some (.slice (some ⟨g1, 0, none⟩) N c1) := rB5.cell 0
               have f5 := rB5.free 0
               refine hK.out _ _ (fun h => by cases h) (fun _ => ?_)
               clear hK K
               try simp only [Act.put, List.setIfInBounds_toArray, List.set_cons_zero, List.set_cons_succ, List.getElem_toArray, List.getElem_cons_zero, List.getElem_cons_succ]
               refine AnyT.takeA (i := 9) (v := ?_) rfl (by kernel_rfl) (by kernel_rfl) (by kernel_rfl) (fun _ _ _ h => h) (Or.inl ⟨by rfl, ?_⟩) ?_
               rotate_left 1
               · (intro w0 _; go_simp; try with_reducible rfl)
               try simp only [Act.put, List.setIfInBounds_toArray, List.set_cons_zero, List.set_cons_succ, List.getElem_toArray, List.getElem_cons_zero, List.getElem_cons_succ]
               refine AnyT.call (i := 10) (by kernel_rfl) rfl (fun K hK => ?_)
               try simp only [Act.put, List.setIfInBounds_toArray, List.set_cons_zero, List.set_cons_succ, List.getElem_toArray, List.getElem_cons_zero, List.getElem_cons_succ]
               rw [if_pos (by rfl)]
               go_simp
               refine hK.out _ _ (fun h => by cases h) (fun _ => ?_)
               clear hK K
               try simp only [Act.put, List.setIfInBounds_toArray, List.set_cons_zero, List.set_cons_succ, List.getElem_toArray, List.getElem_cons_zero, List.getElem_cons_succ]
               refine AnyT.done (by kernel_rfl) ?_ _
               have SV1 := Lib.hid (show (SF w a v B h1 (N + 1) e1 g2 N c2 g3 N c3 g4 N c4 (termsF (FK k).1 ++ [x.2.2]) (fromD (FK k).1) (byD (FK k).1) (deepD (FK k).1) (w5.setCell ⟨B, 0, none⟩ (.slice (some ⟨h1, 0, none⟩) (N + 1) e1))) ∧ (RdQ (w5.setCell ⟨B, 0, none⟩ (.slice (some ⟨h1, 0, none⟩) (N + 1) e1)) (NotIn (w5.setCell ⟨B, 0, none⟩ (.slice (some ⟨h1, 0, none⟩) (N + 1) e1)) (bad5 (w.heap.size + 1 + 1) B h1 g2 g3 g4)) sStepS [.slice (some ⟨b, off, none⟩) ln lc] (stepsL d.1 d.2 (termF f)) ∧ RdQ (w5.setCell ⟨B, 0, none⟩ (.slice (some ⟨h1, 0, none⟩) (N + 1) e1)) (NotIn (w5.setCell ⟨B, 0, none⟩ (.slice (some ⟨h1, 0, none⟩) (N + 1) e1)) (bad5 (w.heap.size + 1 + 1) B h1 g2 g3 g4)) sI [.slice U un uc] x.2.2 ∧ RdQ (w5.setCell ⟨B, 0, none⟩ (.slice (some ⟨h1, 0, none⟩) (N + 1) e1)) (NotIn (w5.setCell ⟨B, 0, none⟩ (.slice (some ⟨h1, 0, none⟩) (N + 1) e1)) (bad5 (w.heap.size + 1 + 1) B h1 g2 g3 g4)) sStep [.int .i64 x.1, .int .i64 x.2.1, .slice U un uc] x) ∧ ((w5.setCell ⟨B, 0, none⟩ (.slice (some ⟨h1, 0, none⟩) (N + 1) e1)).cell? ⟨b, off + k * 3, none⟩ = some (.int .i64 x.1) ∧ (w5.setCell ⟨B, 0, none⟩ (.slice (some ⟨h1, 0, none⟩) (N + 1) e1)).cell? ⟨b, off + k * 3 + 1, none⟩ = some (.int .i64 x.2.1) ∧ (w5.setCell ⟨B, 0, none⟩ (.slice (some ⟨h1, 0, none⟩) (N + 1) e1)).cell? ⟨b, off + k * 3 + 2, none⟩ = some (.slice U un uc)) from ⟨P5.1, ⟨P5.2 (notIn_below LA.1 bA), P5.2 (notIn_below LA.2.1 bA), P5.2 (notIn_below LA.2.2 bA)⟩, ⟨(World.cell?_setCell_far w5 ⟨B, 0, none⟩ ⟨b, off + k * 3, none⟩ _ (fun e => hbB e.symm)).trans ((cell_far hg5 (p := ⟨b, off + k * 3, none⟩) hbA hbg).trans ((bA.cell (p := ⟨b, off + k * 3, none⟩) hbV).trans SV0.out.2.2.1)), (World.cell?_setCell_far w5 ⟨B, 0, none⟩ ⟨b, off + k * 3 + 1, none⟩ _ (fun e => hbB e.symm)).trans ((cell_far hg5 (p := ⟨b, off + k * 3 + 1, none⟩) hbA hbg).trans ((bA.cell (p := ⟨b, off + k * 3 + 1, none⟩) hbV).trans SV0.out.2.2.2.1)), (World.cell?_setCell_far w5 ⟨B, 0, none⟩ ⟨b, off + k * 3 + 2, none⟩ _ (fun e => hbB e.symm)).trans ((cell_far hg5 (p := ⟨b, off + k * 3 + 2, none⟩) hbA hbg).trans ((bA.cell (p := ⟨b, off + k * 3 + 2, none⟩) hbV).trans SV0.out.2.2.2.2))⟩⟩)
               clear P5 rB5 y5 f5 hx5 hg5 hat5 hb5 SA LA rN bA hsA hsB hdA hfA hbN hbV hbB hbg hbA SV0
               generalize (w5.setCell ⟨B, 0, none⟩ (.slice (some ⟨h1, 0, none⟩) (N + 1) e1)) = V1 at SV1 ⊢
               go_upto_region 15 with fail
               have bA : Below V1.heap.size V1 (V1.alloc (.cells #[.int .i64 (i : Int)] 2)) := (Below.refl _ _).alloc (Nat.le_refl _) _
               have SA := SV1.out.1.below bA
               have LA := SV1.out.2.1
               have rN : Row (V1.alloc (.cells #[.int .i64 (i : Int)] 2)) V1.heap.size 2 #[.int .i64 (i : Int)] := Row.new _ _ _
               have hsA := SA.bel.size
               have hsB := SA.fo.x2.ge
               have hdA := SA.fo.dis
               have hfA := SA.far
               have hbN := step_spot SV1.out.2.1.1 hk
               have hbV : b < V1.heap.size := hbN.1
               have hbB : b ≠ B := fun e => hbN.2 (by unfold bad5; omega)
               have hbg : b ≠ g2 := fun e => hbN.2 (by unfold bad5; omega)
               have hbA : b < (V1.alloc (.cells #[.int .i64 (i : Int)] 2)).heap.size := by simp; omega
               have kq : V1.cell? ⟨B, 1, none⟩ = some (.slice (some ⟨g2, 0, none⟩) N c2) := SV1.out.1.fo.row.cell 1
               go_upto_region 16 with (at_builtin; refine appXm rfl _ _ 24 2 (.num) _ _ Tryz.underlying24 info_num rfl (by decide) rfl (bad5 (w.heap.size + 1 + 1) B h1 g2 g3 g4) (w.heap.size + 1 + 1) g2 N c2 V1.heap.size 1 _ [.int .i64 (i : Int)] (i : Int) rfl SA.fo.x2 (by unfold bad5; omega) rfl (fun z hz => by rw [rN.cell z]; exact List.getElem?_toArray) rfl hN20 (by omega) ?_; intro h2 e2 w5  hx5 hg5 hat5 hb5; have P5 := SF.app2 SA hx5 hg5 hat5 hb5; have rB5 := Row.away SA.fo.row hg5 (fun e => by injection e with e; omega); have y5 : w5.cell? ⟨B, 1, none⟩ = some (.slice (some ⟨g2, 0, none⟩) N c2) := rB5.cell 1; have f5 := rB5.free 1)
               have SV2 := Lib.hid (show (SF w a v B h1 (N + 1) e1 h2 (N + 1) e2 g3 N c3 g4 N c4 (termsF (FK k).1 ++ [x.2.2]) (fromD (FK k).1 ++ [(i : Int)]) (byD (FK k).1) (deepD (FK k).1) (w5.setCell ⟨B, 1, none⟩ (.slice (some ⟨h2, 0, none⟩) (N + 1) e2))) ∧ (RdQ (w5.setCell ⟨B, 1, none⟩ (.slice (some ⟨h2, 0, none⟩) (N + 1) e2)) (NotIn (w5.setCell ⟨B, 1, none⟩ (.slice (some ⟨h2, 0, none⟩) (N + 1) e2)) (bad5 (w.heap.size + 1 + 1) B h1 h2 g3 g4)) sStepS [.slice (some ⟨b, off, none⟩) ln lc] (stepsL d.1 d.2 (termF f)) ∧ RdQ (w5.setCell ⟨B, 1, none⟩ (.slice (some ⟨h2, 0, none⟩) (N + 1) e2)) (NotIn (w5.setCell ⟨B, 1, none⟩ (.slice (some ⟨h2, 0, none⟩) (N + 1) e2)) (bad5 (w.heap.size + 1 + 1) B h1 h2 g3 g4)) sI [.slice U un uc] x.2.2 ∧ RdQ (w5.setCell ⟨B, 1, none⟩ (.slice (some ⟨h2, 0, none⟩) (N + 1) e2)) (NotIn (w5.setCell ⟨B, 1, none⟩ (.slice (some ⟨h2, 0, none⟩) (N + 1) e2)) (bad5 (w.heap.size + 1 + 1) B h1 h2 g3 g4)) sStep [.int .i64 x.1, .int .i64 x.2.1, .slice U un uc] x) ∧ ((w5.setCell ⟨B, 1, none⟩ (.slice (some ⟨h2, 0, none⟩) (N + 1) e2)).cell? ⟨b, off + k * 3, none⟩ = some (.int .i64 x.1) ∧ (w5.setCell ⟨B, 1, none⟩ (.slice (some ⟨h2, 0, none⟩) (N + 1) e2)).cell? ⟨b, off + k * 3 + 1, none⟩ = some (.int .i64 x.2.1) ∧ (w5.setCell ⟨B, 1, none⟩ (.slice (some ⟨h2, 0, none⟩) (N + 1) e2)).cell? ⟨b, off + k * 3 + 2, none⟩ = some (.slice U un uc)) from ⟨P5.1, ⟨P5.2 (notIn_below LA.1 bA), P5.2 (notIn_below LA.2.1 bA), P5.2 (notIn_below LA.2.2 bA)⟩, ⟨(World.cell?_setCell_far w5 ⟨B, 1, none⟩ ⟨b, off + k * 3, none⟩ _ (fun e => hbB e.symm)).trans ((cell_far hg5 (p := ⟨b, off + k * 3, none⟩) hbA hbg).trans ((bA.cell (p := ⟨b, off + k * 3, none⟩) hbV).trans SV1.out.2.2.1)), (World.cell?_setCell_far w5 ⟨B, 1, none⟩ ⟨b, off + k * 3 + 1, none⟩ _ (fun e => hbB e.symm)).trans ((cell_far hg5 (p := ⟨b, off + k * 3 + 1, none⟩) hbA hbg).trans ((bA.cell (p := ⟨b, off + k * 3 + 1, none⟩) hbV).trans SV1.out.2.2.2.1)), (World.cell?_setCell_far w5 ⟨B, 1, none⟩ ⟨b, off + k * 3 + 2, none⟩ _ (fun e => hbB e.symm)).trans ((cell_far hg5 (p := ⟨b, off + k * 3 + 2, none⟩) hbA hbg).trans ((bA.cell (p := ⟨b, off + k * 3 + 2, none⟩) hbV).trans SV1.out.2.2.2.2))⟩⟩)
               clear P5 rB5 y5 f5 hx5 hg5 hat5 hb5 SA LA rN bA hsA hsB hdA hfA hbN hbV hbB hbg hbA kq SV1
               generalize (w5.setCell ⟨B, 1, none⟩ (.slice (some ⟨h2, 0, none⟩) (N + 1) e2)) = V2 at SV2 ⊢
               have SVd := Lib.hid (show (SF w a v B h1 (N + 1) e1 h2 (N + 1) e2 g3 N c3 g4 N c4 (termsF (FK k).1 ++ [x.2.2]) (fromD (FK k).1 ++ [(i : Int)]) (byD (FK k).1) (deepD (FK k).1) V2.drew) ∧ (RdQ V2.drew (NotIn V2.drew (bad5 (w.heap.size + 1 + 1) B h1 h2 g3 g4)) sStepS [.slice (some ⟨b, off, none⟩) ln lc] (stepsL d.1 d.2 (termF f)) ∧ RdQ V2.drew (NotIn V2.drew (bad5 (w.heap.size + 1 + 1) B h1 h2 g3 g4)) sI [.slice U un uc] x.2.2 ∧ RdQ V2.drew (NotIn V2.drew (bad5 (w.heap.size + 1 + 1) B h1 h2 g3 g4)) sStep [.int .i64 x.1, .int .i64 x.2.1, .slice U un uc] x) ∧ (V2.drew.cell? ⟨b, off + k * 3, none⟩ = some (.int .i64 x.1) ∧ V2.drew.cell? ⟨b, off + k * 3 + 1, none⟩ = some (.int .i64 x.2.1) ∧ V2.drew.cell? ⟨b, off + k * 3 + 2, none⟩ = some (.slice U un uc)) from ⟨SV2.out.1.drew, ⟨notIn_below SV2.out.2.1.1 (drew_below _), notIn_below SV2.out.2.1.2.1 (drew_below _), notIn_below SV2.out.2.1.2.2 (drew_below _)⟩, SV2.out.2.2⟩)
               clear SV2
               have SV2 := SVd
               clear SVd
               refine AnyT.start (S := (fun w' => w'.cell? ⟨B, 2, none⟩ = some (.slice (some ⟨g3, 0, none⟩) N c3) ∧ w'.cell? ⟨b, off + k * 3, none⟩ = some (.int .i64 x.1) ∧ w'.cell? ⟨b, off + k * 3 + 1, none⟩ = some (.int .i64 x.2.1) ∧ w'.cell? ⟨b, off + k * 3 + 2, none⟩ = some (.slice U un uc))) (fun j => j == 7 || j == 9) (by kernel_rfl) ⟨SV2.out.1.fo.row.cell 2, SV2.out.2.2⟩ (fun hHeld => ?_)
               generalize V2.drew = V2x at SV2 hHeld ⊢
               have bA : Below V2x.heap.size V2x (V2x.alloc (.cells #[.int .i64 x.1, .int .i64 x.2.1, .slice U un uc] 70)) := (Below.refl _ _).alloc (Nat.le_refl _) _
               have SA := SV2.out.1.below bA
               have LA := SV2.out.2.1
               have rN : Row (V2x.alloc (.cells #[.int .i64 x.1, .int .i64 x.2.1, .slice U un uc] 70)) V2x.heap.size 70 #[.int .i64 x.1, .int .i64 x.2.1, .slice U un uc] := Row.new _ _ _
               have hsA := SA.bel.size
               have hsB := SA.fo.x3.ge
               have hdA := SA.fo.dis
               have hfA := SA.far
               have hbN := step_spot SV2.out.2.1.1 hk
               have hbV : b < V2x.heap.size := hbN.1
               have hbB : b ≠ B := fun e => hbN.2 (by unfold bad5; omega)
               have hbg : b ≠ g3 := fun e => hbN.2 (by unfold bad5; omega)
               have hbA : b < (V2x.alloc (.cells #[.int .i64 x.1, .int .i64 x.2.1, .slice U un uc] 70)).heap.size := by simp; omega
               refine AnyT.takeA (i := 0) (v := ?_) rfl (by kernel_rfl) (by kernel_rfl) (by kernel_rfl) (fun _ _ _ h => h) (Or.inl ⟨by rfl, ?_⟩) ?_
               rotate_left 1
               · (intro w0 _; go_simp; try with_reducible rfl)
               try simp only [Act.put, List.setIfInBounds_toArray, List.set_cons_zero, List.set_cons_succ, List.getElem_toArray, List.getElem_cons_zero, List.getElem_cons_succ]
               refine AnyT.takeU (i := 1) (v := ?_) rfl (by kernel_rfl) (by kernel_rfl) (by kernel_rfl) (by kernel_rfl) (by kernel_rfl) (fun _ _ _ h => h) (Or.inl ⟨by rfl, ?_⟩) (by assumption) ?_
               rotate_left 1
               · (intro w0 hSw; (try dsimp only at hSw); go_simp; try with_reducible rfl)
               try simp only [Act.put, List.setIfInBounds_toArray, List.set_cons_zero, List.set_cons_succ, List.getElem_toArray, List.getElem_cons_zero, List.getElem_cons_succ]
               refine AnyT.takeA (i := 2) (v := ?_) rfl (by kernel_rfl) (by kernel_rfl) (by kernel_rfl) (fun _ _ _ h => h) (Or.inl ⟨by rfl, ?_⟩) ?_
               rotate_left 1
               · (intro w0 _; go_simp; try with_reducible rfl)
               try simp only [Act.put, List.setIfInBounds_toArray, List.set_cons_zero, List.set_cons_succ, List.getElem_toArray, List.getElem_cons_zero, List.getElem_cons_succ]
               refine AnyT.takeA (i := 3) (v := ?_) rfl (by kernel_rfl) (by kernel_rfl) (by kernel_rfl) (fun _ _ _ h => h) (Or.inl ⟨by rfl, ?_⟩) ?_
               rotate_left 1
               · (intro w0 _; go_simp; try with_reducible rfl)
               try simp only [Act.put, List.setIfInBounds_toArray, List.set_cons_zero, List.set_cons_succ, List.getElem_toArray, List.getElem_cons_zero, List.getElem_cons_succ]
               refine AnyT.takeA (i := 4) (v := ?_) rfl (by kernel_rfl) (by kernel_rfl) (by kernel_rfl) (fun _ _ _ h => h) (Or.inl ⟨by rfl, ?_⟩) ?_
               rotate_left 1
               · (intro w0 _; go_simp; try with_reducible rfl)
               try simp only [Act.put, List.setIfInBounds_toArray, List.set_cons_zero, List.set_cons_succ, List.getElem_toArray, List.getElem_cons_zero, List.getElem_cons_succ]
               refine AnyT.takeU (i := 5) (v := ?_) rfl (by kernel_rfl) (by kernel_rfl) (by kernel_rfl) (by kernel_rfl) (by kernel_rfl) (fun _ _ _ h => h) (Or.inl ⟨by rfl, ?_⟩) (by assumption) ?_
               rotate_left 1
               · (intro w0 hSw; (try dsimp only at hSw); go_simp; try with_reducible rfl)
               try simp only [Act.put, List.setIfInBounds_toArray, List.set_cons_zero, List.set_cons_succ, List.getElem_toArray, List.getElem_cons_zero, List.getElem_cons_succ]
               refine AnyT.call (i := 6) (by kernel_rfl) rfl (fun K hK => ?_)
               try simp only [Act.put, List.setIfInBounds_toArray, List.set_cons_zero, List.set_cons_succ, List.getElem_toArray, List.getElem_cons_zero, List.getElem_cons_succ]
               rw [if_pos (by rfl)]
               go_simp
               refine hK.out _ _ (fun _ _ => ?_) (fun hKeep => ?_)
               · exact ⟨keep_alloc hHeld.1, keep_alloc hHeld.2.1, keep_alloc hHeld.2.2.1, keep_alloc hHeld.2.2.2⟩
               replace hHeld := hKeep (by first | rfl | trivial) hHeld
               clear hK K hKeep
               try simp only [Act.put, List.setIfInBounds_toArray, List.set_cons_zero, List.set_cons_succ, List.getElem_toArray, List.getElem_cons_zero, List.getElem_cons_succ]
               refine AnyT.call (i := 7) (by kernel_rfl) rfl (fun K hK => ?_)
               try simp only [Act.put, List.setIfInBounds_toArray, List.set_cons_zero, List.set_cons_succ, List.getElem_toArray, List.getElem_cons_zero, List.getElem_cons_succ]
               rw [if_pos (by rfl)]
               refine wp_appX _ _ 39 70 sStep _ _ Tryz.underlying39 info_StepS rfl (by decide) rfl (bad5 (w.heap.size + 1 + 1) B h1 h2 g3 g4) (w.heap.size + 1 + 1) g3 N c3 V2x.heap.size 1 _ [.int .i64 x.1, .int .i64 x.2.1, .slice U un uc] x rfl SA.fo.x3 (by unfold bad5; omega) rfl (fun z hz => by rw [rN.cell z]; exact List.getElem?_toArray) (notIn_below SV2.out.2.1.2.2 bA) hN20 (by omega) ?_
               intro h3 e3 w5  hx5 hg5 hat5 hb5
               have P5 := SF.app3 SA hx5 hg5 hat5 hb5
               have rB5 := Row.away SA.fo.row hg5 (fun e => by injection e with e; omega)
               have y5 : w5.cell? ⟨B, 2, none⟩ = some (.slice (some ⟨g3, 0, none⟩) N c3) := rB5.cell 2
               have f5 := rB5.free 2
               refine hK.out _ _ (fun h => by cases h) (fun _ => ?_)
               clear hK K
               try simp only [Act.put, List.setIfInBounds_toArray, List.set_cons_zero, List.set_cons_succ, List.getElem_toArray, List.getElem_cons_zero, List.getElem_cons_succ]
               refine AnyT.takeA (i := 8) (v := ?_) rfl (by kernel_rfl) (by kernel_rfl) (by kernel_rfl) (fun _ _ _ h => h) (Or.inl ⟨by rfl, ?_⟩) ?_
               rotate_left 1
               · (intro w0 _; go_simp; try with_reducible rfl)
               try simp only [Act.put, List.setIfInBounds_toArray, List.set_cons_zero, List.set_cons_succ, List.getElem_toArray, List.getElem_cons_zero, List.getElem_cons_succ]
               refine AnyT.call (i := 9) (by kernel_rfl) rfl (fun K hK => ?_)
               try simp only [Act.put, List.setIfInBounds_toArray, List.set_cons_zero, List.set_cons_succ, List.getElem_toArray, List.getElem_cons_zero, List.getElem_cons_succ]
               rw [if_pos (by rfl)]
               go_simp
               refine hK.out _ _ (fun h => by cases h) (fun _ => ?_)
               clear hK K
               try simp only [Act.put, List.setIfInBounds_toArray, List.set_cons_zero, List.set_cons_succ, List.getElem_toArray, List.getElem_cons_zero, List.getElem_cons_succ]
               refine AnyT.done (by kernel_rfl) ?_ _
               have SV3 := Lib.hid (show (SF w a v B h1 (N + 1) e1 h2 (N + 1) e2 h3 (N + 1) e3 g4 N c4 (termsF (FK k).1 ++ [x.2.2]) (fromD (FK k).1 ++ [(i : Int)]) (byD (FK k).1 ++ [x]) (deepD (FK k).1) (w5.setCell ⟨B, 2, none⟩ (.slice (some ⟨h3, 0, none⟩) (N + 1) e3))) ∧ (RdQ (w5.setCell ⟨B, 2, none⟩ (.slice (some ⟨h3, 0, none⟩) (N + 1) e3)) (NotIn (w5.setCell ⟨B, 2, none⟩ (.slice (some ⟨h3, 0, none⟩) (N + 1) e3)) (bad5 (w.heap.size + 1 + 1) B h1 h2 h3 g4)) sStepS [.slice (some ⟨b, off, none⟩) ln lc] (stepsL d.1 d.2 (termF f)) ∧ RdQ (w5.setCell ⟨B, 2, none⟩ (.slice (some ⟨h3, 0, none⟩) (N + 1) e3)) (NotIn (w5.setCell ⟨B, 2, none⟩ (.slice (some ⟨h3, 0, none⟩) (N + 1) e3)) (bad5 (w.heap.size + 1 + 1) B h1 h2 h3 g4)) sI [.slice U un uc] x.2.2 ∧ RdQ (w5.setCell ⟨B, 2, none⟩ (.slice (some ⟨h3, 0, none⟩) (N + 1) e3)) (NotIn (w5.setCell ⟨B, 2, none⟩ (.slice (some ⟨h3, 0, none⟩) (N + 1) e3)) (bad5 (w.heap.size + 1 + 1) B h1 h2 h3 g4)) sStep [.int .i64 x.1, .int .i64 x.2.1, .slice U un uc] x) ∧ ((w5.setCell ⟨B, 2, none⟩ (.slice (some ⟨h3, 0, none⟩) (N + 1) e3)).cell? ⟨b, off + k * 3, none⟩ = some (.int .i64 x.1) ∧ (w5.setCell ⟨B, 2, none⟩ (.slice (some ⟨h3, 0, none⟩) (N + 1) e3)).cell? ⟨b, off + k * 3 + 1, none⟩ = some (.int .i64 x.2.1) ∧ (w5.setCell ⟨B, 2, none⟩ (.slice (some ⟨h3, 0, none⟩) (N + 1) e3)).cell? ⟨b, off + k * 3 + 2, none⟩ = some (.slice U un uc)) from ⟨P5.1, ⟨P5.2 (notIn_below LA.1 bA), P5.2 (notIn_below LA.2.1 bA), P5.2 (notIn_below LA.2.2 bA)⟩, ⟨(World.cell?_setCell_far w5 ⟨B, 2, none⟩ ⟨b, off + k * 3, none⟩ _ (fun e => hbB e.symm)).trans ((cell_far hg5 (p := ⟨b, off + k * 3, none⟩) hbA hbg).trans ((bA.cell (p := ⟨b, off + k * 3, none⟩) hbV).trans SV2.out.2.2.1)), (World.cell?_setCell_far w5 ⟨B, 2, none⟩ ⟨b, off + k * 3 + 1, none⟩ _ (fun e => hbB e.symm)).trans ((cell_far hg5 (p := ⟨b, off + k * 3 + 1, none⟩) hbA hbg).trans ((bA.cell (p := ⟨b, off + k * 3 + 1, none⟩) hbV).trans SV2.out.2.2.2.1)), (World.cell?_setCell_far w5 ⟨B, 2, none⟩ ⟨b, off + k * 3 + 2, none⟩ _ (fun e => hbB e.symm)).trans ((cell_far hg5 (p := ⟨b, off + k * 3 + 2, none⟩) hbA hbg).trans ((bA.cell (p := ⟨b, off + k * 3 + 2, none⟩) hbV).trans SV2.out.2.2.2.2))⟩⟩)
               clear P5 rB5 y5 f5 hx5 hg5 hat5 hb5 SA LA rN bA hsA hsB hdA hfA hbN hbV hbB hbg hbA SV2
               generalize (w5.setCell ⟨B, 2, none⟩ (.slice (some ⟨h3, 0, none⟩) (N + 1) e3)) = V3 at SV3 ⊢
               go_upto_region 17 with fail
               have SVd := Lib.hid (show (SF w a v B h1 (N + 1) e1 h2 (N + 1) e2 h3 (N + 1) e3 g4 N c4 (termsF (FK k).1 ++ [x.2.2]) (fromD (FK k).1 ++ [(i : Int)]) (byD (FK k).1 ++ [x]) (deepD (FK k).1) V3.drew) ∧ (RdQ V3.drew (NotIn V3.drew (bad5 (w.heap.size + 1 + 1) B h1 h2 h3 g4)) sStepS [.slice (some ⟨b, off, none⟩) ln lc] (stepsL d.1 d.2 (termF f)) ∧ RdQ V3.drew (NotIn V3.drew (bad5 (w.heap.size + 1 + 1) B h1 h2 h3 g4)) sI [.slice U un uc] x.2.2 ∧ RdQ V3.drew (NotIn V3.drew (bad5 (w.heap.size + 1 + 1) B h1 h2 h3 g4)) sStep [.int .i64 x.1, .int .i64 x.2.1, .slice U un uc] x) ∧ (V3.drew.cell? ⟨b, off + k * 3, none⟩ = some (.int .i64 x.1) ∧ V3.drew.cell? ⟨b, off + k * 3 + 1, none⟩ = some (.int .i64 x.2.1) ∧ V3.drew.cell? ⟨b, off + k * 3 + 2, none⟩ = some (.slice U un uc)) from ⟨SV3.out.1.drew, ⟨notIn_below SV3.out.2.1.1 (drew_below _), notIn_below SV3.out.2.1.2.1 (drew_below _), notIn_below SV3.out.2.1.2.2 (drew_below _)⟩, SV3.out.2.2⟩)
               clear SV3
               have SV3 := SVd
               clear SVd
               have kd : V3.drew.cell? ⟨g4, i, none⟩ = some (.int .i64 (dp : Int)) := by have := XS.num SV3.out.1.fo.x4 hiN; rw [deep_get INV2.out.2, HF.out.2] at this; exact this
               refine AnyT.start (S := (fun w' => w'.cell? ⟨B, 3, none⟩ = some (.slice (some ⟨g4, 0, none⟩) N c4) ∧ w'.cell? ⟨g4, i, none⟩ = some (.int .i64 (dp : Int)))) (fun j => j == 9 || j == 11) (by kernel_rfl) ⟨SV3.out.1.fo.row.cell 3, kd⟩ (fun hHeld => ?_)
               generalize V3.drew = V3x at SV3 kd hHeld ⊢
               have bA : Below V3x.heap.size V3x (V3x.alloc (.cells #[.int .i64 ((dp : Int) + 1)] 2)) := (Below.refl _ _).alloc (Nat.le_refl _) _
               have SA := SV3.out.1.below bA
               have LA := SV3.out.2.1
               have rN : Row (V3x.alloc (.cells #[.int .i64 ((dp : Int) + 1)] 2)) V3x.heap.size 2 #[.int .i64 ((dp : Int) + 1)] := Row.new _ _ _
               have hsA := SA.bel.size
               have hsB := SA.fo.x4.ge
               have hdA := SA.fo.dis
               have hfA := SA.far
               have hbN := step_spot SV3.out.2.1.1 hk
               have hbV : b < V3x.heap.size := hbN.1
               have hbB : b ≠ B := fun e => hbN.2 (by unfold bad5; omega)
               have hbg : b ≠ g4 := fun e => hbN.2 (by unfold bad5; omega)
               have hbA : b < (V3x.alloc (.cells #[.int .i64 ((dp : Int) + 1)] 2)).heap.size := by simp; omega
               refine AnyT.takeA (i := 0) (v := ?_) rfl (by kernel_rfl) (by kernel_rfl) (by kernel_rfl) (fun _ _ _ h => h) (Or.inl ⟨by rfl, ?_⟩) ?_
               rotate_left 1
               · (intro w0 _; go_simp; try with_reducible rfl)
               try simp only [Act.put, List.setIfInBounds_toArray, List.set_cons_zero, List.set_cons_succ, List.getElem_toArray, List.getElem_cons_zero, List.getElem_cons_succ]
               refine AnyT.takeU (i := 1) (v := ?_) rfl (by kernel_rfl) (by kernel_rfl) (by kernel_rfl) (by kernel_rfl) (by kernel_rfl) (fun _ _ _ h => h) (Or.inl ⟨by rfl, ?_⟩) (by assumption) ?_
               rotate_left 1
               · (intro w0 hSw; (try dsimp only at hSw); go_simp; try with_reducible rfl)
               try simp only [Act.put, List.setIfInBounds_toArray, List.set_cons_zero, List.set_cons_succ, List.getElem_toArray, List.getElem_cons_zero, List.getElem_cons_succ]
               refine AnyT.takeA (i := 2) (v := ?_) rfl (by kernel_rfl) (by kernel_rfl) (by kernel_rfl) (fun _ _ _ h => h) (Or.inl ⟨by rfl, ?_⟩) ?_
               rotate_left 1
               · (intro w0 _; go_simp; try with_reducible rfl)
               try simp only [Act.put, List.setIfInBounds_toArray, List.set_cons_zero, List.set_cons_succ, List.getElem_toArray, List.getElem_cons_zero, List.getElem_cons_succ]
               refine AnyT.takeU (i := 3) (v := ?_) rfl (by kernel_rfl) (by kernel_rfl) (by kernel_rfl) (by kernel_rfl) (by kernel_rfl) (fun _ _ _ h => h) (Or.inl ⟨by rfl, ?_⟩) (by assumption) ?_
               rotate_left 1
               · (intro w0 hSw; (try dsimp only at hSw); go_simp; try with_reducible rfl)
               try simp only [Act.put, List.setIfInBounds_toArray, List.set_cons_zero, List.set_cons_succ, List.getElem_toArray, List.getElem_cons_zero, List.getElem_cons_succ]
               refine AnyT.takeA (i := 4) (v := ?_) rfl (by kernel_rfl) (by kernel_rfl) (by kernel_rfl) (fun _ _ _ h => h) (Or.inl ⟨by rfl, ?_⟩) ?_
               rotate_left 1
               · (intro w0 _; go_simp; try with_reducible rfl)
               try simp only [Act.put, List.setIfInBounds_toArray, List.set_cons_zero, List.set_cons_succ, List.getElem_toArray, List.getElem_cons_zero, List.getElem_cons_succ]
               refine AnyT.takeA (i := 5) (v := ?_) rfl (by kernel_rfl) (by kernel_rfl) (by kernel_rfl) (fun _ _ _ h => h) (Or.inl ⟨by rfl, ?_⟩) ?_
               rotate_left 1
               · (intro w0 _; go_simp; try with_reducible rfl)
               try simp only [Act.put, List.setIfInBounds_toArray, List.set_cons_zero, List.set_cons_succ, List.getElem_toArray, List.getElem_cons_zero, List.getElem_cons_succ]
               refine AnyT.takeU (i := 6) (v := ?_) rfl (by kernel_rfl) (by kernel_rfl) (by kernel_rfl) (by kernel_rfl) (by kernel_rfl) (fun _ _ _ h => h) (Or.inl ⟨by rfl, ?_⟩) (by assumption) ?_
               rotate_left 1
               · (intro w0 hSw; (try dsimp only at hSw); go_simp; try with_reducible rfl)
               try simp only [Act.put, List.setIfInBounds_toArray, List.set_cons_zero, List.set_cons_succ, List.getElem_toArray, List.getElem_cons_zero, List.getElem_cons_succ]
               refine AnyT.takeA (i := 7) (v := ?_) rfl (by kernel_rfl) (by kernel_rfl) (by kernel_rfl) (fun _ _ _ h => h) (Or.inl ⟨by rfl, ?_⟩) ?_
               rotate_left 1
               · (intro w0 _; go_simp; try with_reducible rfl)
               try simp only [Act.put, List.setIfInBounds_toArray, List.set_cons_zero, List.set_cons_succ, List.getElem_toArray, List.getElem_cons_zero, List.getElem_cons_succ]
               rw [show IntKind.i64.wrap ((dp : Int) + 1) = (dp : Int) + 1 from (by rw [IntKind.wrap_i64]; omega)]
               refine AnyT.call (i := 8) (by kernel_rfl) rfl (fun K hK => ?_)
               try simp only [Act.put, List.setIfInBounds_toArray, List.set_cons_zero, List.set_cons_succ, List.getElem_toArray, List.getElem_cons_zero, List.getElem_cons_succ]
               rw [if_pos (by rfl)]
               go_simp
               refine hK.out _ _ (fun _ _ => ?_) (fun hKeep => ?_)
               · exact ⟨keep_alloc hHeld.1, keep_alloc hHeld.2⟩
               replace hHeld := hKeep (by first | rfl | trivial) hHeld
               clear hK K hKeep
               try simp only [Act.put, List.setIfInBounds_toArray, List.set_cons_zero, List.set_cons_succ, List.getElem_toArray, List.getElem_cons_zero, List.getElem_cons_succ]
               refine AnyT.call (i := 9) (by kernel_rfl) rfl (fun K hK => ?_)
               try simp only [Act.put, List.setIfInBounds_toArray, List.set_cons_zero, List.set_cons_succ, List.getElem_toArray, List.getElem_cons_zero, List.getElem_cons_succ]
               rw [if_pos (by rfl)]
               refine wp_appX _ _ 24 2 (.num) _ _ Tryz.underlying24 info_num rfl (by decide) rfl (bad5 (w.heap.size + 1 + 1) B h1 h2 h3 g4) (w.heap.size + 1 + 1) g4 N c4 V3x.heap.size 1 _ [.int .i64 ((dp : Int) + 1)] ((dp : Int) + 1) rfl SA.fo.x4 (by unfold bad5; omega) rfl (fun z hz => by rw [rN.cell z]; exact List.getElem?_toArray) rfl hN20 (by omega) ?_
               intro h4 e4 w5  hx5 hg5 hat5 hb5
               have P5 := SF.app4 SA hx5 hg5 hat5 hb5
               have rB5 := Row.away SA.fo.row hg5 (fun e => by injection e with e; omega)
               have y5 : w5.cell? ⟨B, 3, none⟩ = some (.slice (some ⟨g4, 0, none⟩) N c4) := rB5.cell 3
               have f5 := rB5.free 3
               refine hK.out _ _ (fun h => by cases h) (fun _ => ?_)
               clear hK K
               try simp only [Act.put, List.setIfInBounds_toArray, List.set_cons_zero, List.set_cons_succ, List.getElem_toArray, List.getElem_cons_zero, List.getElem_cons_succ]
               refine AnyT.takeA (i := 10) (v := ?_) rfl (by kernel_rfl) (by kernel_rfl) (by kernel_rfl) (fun _ _ _ h => h) (Or.inl ⟨by rfl, ?_⟩) ?_
               rotate_left 1
               · (intro w0 _; go_simp; try with_reducible rfl)
               try simp only [Act.put, List.setIfInBounds_toArray, List.set_cons_zero, List.set_cons_succ, List.getElem_toArray, List.getElem_cons_zero, List.getElem_cons_succ]
               refine AnyT.call (i := 11) (by kernel_rfl) rfl (fun K hK => ?_)
               try simp only [Act.put, List.setIfInBounds_toArray, List.set_cons_zero, List.set_cons_succ, List.getElem_toArray, List.getElem_cons_zero, List.getElem_cons_succ]
               rw [if_pos (by rfl)]
               go_simp
               refine hK.out _ _ (fun h => by cases h) (fun _ => ?_)
               clear hK K
               try simp only [Act.put, List.setIfInBounds_toArray, List.set_cons_zero, List.set_cons_succ, List.getElem_toArray, List.getElem_cons_zero, List.getElem_cons_succ]
               refine AnyT.done (by kernel_rfl) ?_ _
               have SV4 := Lib.hid (show (SF w a v B h1 (N + 1) e1 h2 (N + 1) e2 h3 (N + 1) e3 h4 (N + 1) e4 (termsF (FK k).1 ++ [x.2.2]) (fromD (FK k).1 ++ [(i : Int)]) (byD (FK k).1 ++ [x]) (deepD (FK k).1 ++ [((dp : Int) + 1)]) (w5.setCell ⟨B, 3, none⟩ (.slice (some ⟨h4, 0, none⟩) (N + 1) e4))) ∧ (RdQ (w5.setCell ⟨B, 3, none⟩ (.slice (some ⟨h4, 0, none⟩) (N + 1) e4)) (NotIn (w5.setCell ⟨B, 3, none⟩ (.slice (some ⟨h4, 0, none⟩) (N + 1) e4)) (bad5 (w.heap.size + 1 + 1) B h1 h2 h3 h4)) sStepS [.slice (some ⟨b, off, none⟩) ln lc] (stepsL d.1 d.2 (termF f)) ∧ RdQ (w5.setCell ⟨B, 3, none⟩ (.slice (some ⟨h4, 0, none⟩) (N + 1) e4)) (NotIn (w5.setCell ⟨B, 3, none⟩ (.slice (some ⟨h4, 0, none⟩) (N + 1) e4)) (bad5 (w.heap.size + 1 + 1) B h1 h2 h3 h4)) sI [.slice U un uc] x.2.2 ∧ RdQ (w5.setCell ⟨B, 3, none⟩ (.slice (some ⟨h4, 0, none⟩) (N + 1) e4)) (NotIn (w5.setCell ⟨B, 3, none⟩ (.slice (some ⟨h4, 0, none⟩) (N + 1) e4)) (bad5 (w.heap.size + 1 + 1) B h1 h2 h3 h4)) sStep [.int .i64 x.1, .int .i64 x.2.1, .slice U un uc] x) ∧ ((w5.setCell ⟨B, 3, none⟩ (.slice (some ⟨h4, 0, none⟩) (N + 1) e4)).cell? ⟨b, off + k * 3, none⟩ = some (.int .i64 x.1) ∧ (w5.setCell ⟨B, 3, none⟩ (.slice (some ⟨h4, 0, none⟩) (N + 1) e4)).cell? ⟨b, off + k * 3 + 1, none⟩ = some (.int .i64 x.2.1) ∧ (w5.setCell ⟨B, 3, none⟩ (.slice (some ⟨h4, 0, none⟩) (N + 1) e4)).cell? ⟨b, off + k * 3 + 2, none⟩ = some (.slice U un uc)) from ⟨P5.1, ⟨P5.2 (notIn_below LA.1 bA), P5.2 (notIn_below LA.2.1 bA), P5.2 (notIn_below LA.2.2 bA)⟩, ⟨(World.cell?_setCell_far w5 ⟨B, 3, none⟩ ⟨b, off + k * 3, none⟩ _ (fun e => hbB e.symm)).trans ((cell_far hg5 (p := ⟨b, off + k * 3, none⟩) hbA hbg).trans ((bA.cell (p := ⟨b, off + k * 3, none⟩) hbV).trans SV3.out.2.2.1)), (World.cell?_setCell_far w5 ⟨B, 3, none⟩ ⟨b, off + k * 3 + 1, none⟩ _ (fun e => hbB e.symm)).trans ((cell_far hg5 (p := ⟨b, off + k * 3 + 1, none⟩) hbA hbg).trans ((bA.cell (p := ⟨b, off + k * 3 + 1, none⟩) hbV).trans SV3.out.2.2.2.1)), (World.cell?_setCell_far w5 ⟨B, 3, none⟩ ⟨b, off + k * 3 + 2, none⟩ _ (fun e => hbB e.symm)).trans ((cell_far hg5 (p := ⟨b, off + k * 3 + 2, none⟩) hbA hbg).trans ((bA.cell (p := ⟨b, off + k * 3 + 2, none⟩) hbV).trans SV3.out.2.2.2.2))⟩⟩)
               clear P5 rB5 y5 f5 hx5 hg5 hat5 hb5 SA LA rN bA hsA hsB hdA hfA hbN hbV hbB hbg hbA SV3
               have hL1 := INV2.out.1.len1
               have F := Lib.hid (show SF w a v B h1 (N + 1) e1 h2 (N + 1) e2 h3 (N + 1) e3 h4 (N + 1) e4 (termsF (FK (k + 1)).1) (fromD (FK (k + 1)).1) (byD (FK (k + 1)).1) (deepD (FK (k + 1)).1) (w5.setCell ⟨B, 3, none⟩ (.slice (some ⟨h4, 0, none⟩) (N + 1) e4)) ∧ (RdQ (w5.setCell ⟨B, 3, none⟩ (.slice (some ⟨h4, 0, none⟩) (N + 1) e4)) (NotIn (w5.setCell ⟨B, 3, none⟩ (.slice (some ⟨h4, 0, none⟩) (N + 1) e4)) (bad5 (w.heap.size + 1 + 1) B h1 h2 h3 h4)) sStepS [.slice (some ⟨b, off, none⟩) ln lc] (stepsL d.1 d.2 (termF f))) from by
                 have e := HNI.out.1
                 refine ⟨?_, SV4.out.2.1.1⟩
                 rw [e]
                 show SF w a v B h1 (N + 1) e1 h2 (N + 1) e2 h3 (N + 1) e3 h4 (N + 1) e4 (termsF ((FK k).1 ++ [(x, i, dp + 1)])) (fromD ((FK k).1 ++ [(x, i, dp + 1)])) (byD ((FK k).1 ++ [(x, i, dp + 1)])) (deepD ((FK k).1 ++ [(x, i, dp + 1)])) _
                 rw [termsF_app, fromD_app hL1, byD_app hL1, deepD_app]
                 exact SV4.out.1)
               have HLEN := Lib.hid HNI.out.2
               have HALL := Lib.hid (show (FK (k + 1)).2 = true from by rw [HNI.out.1])
               clear SV4 HNI hL1
               go_wp2
               go_roundg (gk - 1)
               case measure => have := HK.out; omega
               case rel => exact ⟨k + 1, N + 1, h1, e1, h2, e2, h3, e3, h4, e4, by simp, by have := HK.out; omega, HLEN.out, HALL.out, F.out.1, F.out.2⟩
         · have e1 : k = ln := by omega
           subst e1
           have F := Lib.hid (show SF w a v B g1 N c1 g2 N c2 g3 N c3 g4 N c4 (termsF (fdN d.1 d.2 t n (i + 1)).1) (fromD (fdN d.1 d.2 t n (i + 1)).1) (byD (fdN d.1 d.2 t n (i + 1)).1) (deepD (fdN d.1 d.2 t n (i + 1)).1) wr ∧ (fdN d.1 d.2 t n (i + 1)).1.length = N ∧ (fdN d.1 d.2 t n (i + 1)).2 = true from by
             have e := HFK.out.2.2.2.1
             rw [HLN.out] at e
             rw [← e]
             exact ⟨S, HK.out.2.1, HK.out.2.2⟩)
           clear S hQ
           go_wp2
           go_roundg (G - 1)
           case measure => have := HL.out; omega
           case rel => exact ⟨i + 1, N, g1, c1, g2, c2, g3, c3, g4, c4, by simp, by have := HL.out; omega, by omega, F.out.2.1, F.out.2.2, F.out.1⟩
   · have FD := Lib.hid (show Fd = fdN d.1 d.2 t n i from by rw [← HFd.out.1]; exact fd_end (by omega) (.inl (by omega)))
     have hqB : B ≠ w.heap.size + 1 := by have := S.far; omega
     have HS2 := Lib.hid S
     have RR := S.res
     have SFo := S.fo
     have BB := S.bel
     have hi2 : ¬ (i : Int) < (N : Int) := by omega
     clear S hlen hall hiG
     have ya0 : wr.cell? ⟨w.heap.size + 1, 0, none⟩ = some (.slice none 0 0) := RR.cell 0
     have ga0 := RR.free 0
     have ya1 : wr.cell? ⟨w.heap.size + 1, 1, none⟩ = some (.slice none 0 0) := RR.cell 1
     have ga1 := RR.free 1
     have ya2 : wr.cell? ⟨w.heap.size + 1, 2, none⟩ = some (.slice none 0 0) := RR.cell 2
     have ga2 := RR.free 2
     have ya3 : wr.cell? ⟨w.heap.size + 1, 3, none⟩ = some (.slice none 0 0) := RR.cell 3
     have ga3 := RR.free 3
     have ya4 : wr.cell? ⟨w.heap.size + 1, 4, none⟩ = some (.bool false) := RR.cell 4
     have ga4 := RR.free 4
     have rz0 := Row.put RR 0 (.slice (some ⟨g1, 0, none⟩) N c1)
     have yb1 : (wr.setCell ⟨w.heap.size + 1, 0, none⟩ (.slice (some ⟨g1, 0, none⟩) N c1)).cell? ⟨w.heap.size + 1, 1, none⟩ = some (.slice none 0 0) := rz0.cell 1
     have gb1 := rz0.free 1
     have rz1 := Row.put rz0 1 (.slice (some ⟨g2, 0, none⟩) N c2)
     have yb2 : ((wr.setCell ⟨w.heap.size + 1, 0, none⟩ (.slice (some ⟨g1, 0, none⟩) N c1)).setCell ⟨w.heap.size + 1, 1, none⟩ (.slice (some ⟨g2, 0, none⟩) N c2)).cell? ⟨w.heap.size + 1, 2, none⟩ = some (.slice none 0 0) := rz1.cell 2
     have gb2 := rz1.free 2
     have rz2 := Row.put rz1 2 (.slice (some ⟨g3, 0, none⟩) N c3)
     have yb3 : (((wr.setCell ⟨w.heap.size + 1, 0, none⟩ (.slice (some ⟨g1, 0, none⟩) N c1)).setCell ⟨w.heap.size + 1, 1, none⟩ (.slice (some ⟨g2, 0, none⟩) N c2)).setCell ⟨w.heap.size + 1, 2, none⟩ (.slice (some ⟨g3, 0, none⟩) N c3)).cell? ⟨w.heap.size + 1, 3, none⟩ = some (.slice none 0 0) := rz2.cell 3
     have gb3 := rz2.free 3
     have rz3 := Row.put rz2 3 (.slice (some ⟨g4, 0, none⟩) N c4)
     have yb4 : ((((wr.setCell ⟨w.heap.size + 1, 0, none⟩ (.slice (some ⟨g1, 0, none⟩) N c1)).setCell ⟨w.heap.size + 1, 1, none⟩ (.slice (some ⟨g2, 0, none⟩) N c2)).setCell ⟨w.heap.size + 1, 2, none⟩ (.slice (some ⟨g3, 0, none⟩) N c3)).setCell ⟨w.heap.size + 1, 3, none⟩ (.slice (some ⟨g4, 0, none⟩) N c4)).cell? ⟨w.heap.size + 1, 4, none⟩ = some (.bool false) := rz3.cell 4
     have gb4 := rz3.free 4
     have rz4 := Row.put rz3 4 (.bool true)
     have u0 : (((((wr.setCell ⟨w.heap.size + 1, 0, none⟩ (.slice (some ⟨g1, 0, none⟩) N c1)).setCell ⟨w.heap.size + 1, 1, none⟩ (.slice (some ⟨g2, 0, none⟩) N c2)).setCell ⟨w.heap.size + 1, 2, none⟩ (.slice (some ⟨g3, 0, none⟩) N c3)).setCell ⟨w.heap.size + 1, 3, none⟩ (.slice (some ⟨g4, 0, none⟩) N c4)).setCell ⟨w.heap.size + 1, 4, none⟩ (.bool true)).cell? ⟨w.heap.size + 1, 0, none⟩ = some (.slice (some ⟨g1, 0, none⟩) N c1) := rz4.cell 0
     have u1 : (((((wr.setCell ⟨w.heap.size + 1, 0, none⟩ (.slice (some ⟨g1, 0, none⟩) N c1)).setCell ⟨w.heap.size + 1, 1, none⟩ (.slice (some ⟨g2, 0, none⟩) N c2)).setCell ⟨w.heap.size + 1, 2, none⟩ (.slice (some ⟨g3, 0, none⟩) N c3)).setCell ⟨w.heap.size + 1, 3, none⟩ (.slice (some ⟨g4, 0, none⟩) N c4)).setCell ⟨w.heap.size + 1, 4, none⟩ (.bool true)).cell? ⟨w.heap.size + 1, 1, none⟩ = some (.slice (some ⟨g2, 0, none⟩) N c2) := rz4.cell 1
     have u2 : (((((wr.setCell ⟨w.heap.size + 1, 0, none⟩ (.slice (some ⟨g1, 0, none⟩) N c1)).setCell ⟨w.heap.size + 1, 1, none⟩ (.slice (some ⟨g2, 0, none⟩) N c2)).setCell ⟨w.heap.size + 1, 2, none⟩ (.slice (some ⟨g3, 0, none⟩) N c3)).setCell ⟨w.heap.size + 1, 3, none⟩ (.slice (some ⟨g4, 0, none⟩) N c4)).setCell ⟨w.heap.size + 1, 4, none⟩ (.bool true)).cell? ⟨w.heap.size + 1, 2, none⟩ = some (.slice (some ⟨g3, 0, none⟩) N c3) := rz4.cell 2
     have u3 : (((((wr.setCell ⟨w.heap.size + 1, 0, none⟩ (.slice (some ⟨g1, 0, none⟩) N c1)).setCell ⟨w.heap.size + 1, 1, none⟩ (.slice (some ⟨g2, 0, none⟩) N c2)).setCell ⟨w.heap.size + 1, 2, none⟩ (.slice (some ⟨g3, 0, none⟩) N c3)).setCell ⟨w.heap.size + 1, 3, none⟩ (.slice (some ⟨g4, 0, none⟩) N c4)).setCell ⟨w.heap.size + 1, 4, none⟩ (.bool true)).cell? ⟨w.heap.size + 1, 3, none⟩ = some (.slice (some ⟨g4, 0, none⟩) N c4) := rz4.cell 3
     have u4 : (((((wr.setCell ⟨w.heap.size + 1, 0, none⟩ (.slice (some ⟨g1, 0, none⟩) N c1)).setCell ⟨w.heap.size + 1, 1, none⟩ (.slice (some ⟨g2, 0, none⟩) N c2)).setCell ⟨w.heap.size + 1, 2, none⟩ (.slice (some ⟨g3, 0, none⟩) N c3)).setCell ⟨w.heap.size + 1, 3, none⟩ (.slice (some ⟨g4, 0, none⟩) N c4)).setCell ⟨w.heap.size + 1, 4, none⟩ (.bool true)).cell? ⟨w.heap.size + 1, 4, none⟩ = some (.bool true) := rz4.cell 4
     have FZ : AnsFd w Fd (.returned (.agg #[.slice (some ⟨g1, 0, none⟩) N c1, .slice (some ⟨g2, 0, none⟩) N c2, .slice (some ⟨g3, 0, none⟩) N c3, .slice (some ⟨g4, 0, none⟩) N c4, .bool true])) (((((wr.setCell ⟨w.heap.size + 1, 0, none⟩ (.slice (some ⟨g1, 0, none⟩) N c1)).setCell ⟨w.heap.size + 1, 1, none⟩ (.slice (some ⟨g2, 0, none⟩) N c2)).setCell ⟨w.heap.size + 1, 2, none⟩ (.slice (some ⟨g3, 0, none⟩) N c3)).setCell ⟨w.heap.size + 1, 3, none⟩ (.slice (some ⟨g4, 0, none⟩) N c4)).setCell ⟨w.heap.size + 1, 4, none⟩ (.bool true)) := by rw [FD.out]; exact ansFd (S := fdN d.1 d.2 t n i) (((((SFo.far 0 (.slice (some ⟨g1, 0, none⟩) N c1) (by omega) hqB).far 1 (.slice (some ⟨g2, 0, none⟩) N c2) (by omega) hqB).far 2 (.slice (some ⟨g3, 0, none⟩) N c3) (by omega) hqB).far 3 (.slice (some ⟨g4, 0, none⟩) N c4) (by omega) hqB).far 4 (.bool true) (by omega) hqB) HL.out.2.1.symm ((((((BB.setCell (by show w.heap.size ≤ w.heap.size + 1; omega) _).setCell (by show w.heap.size ≤ w.heap.size + 1; omega) _).setCell (by show w.heap.size ≤ w.heap.size + 1; omega) _).setCell (by show w.heap.size ≤ w.heap.size + 1; omega) _).setCell (by show w.heap.size ≤ w.heap.size + 1; omega) _))
     have HFZ := Lib.hid FZ
     clear FZ rz0 rz1 rz2 rz3 rz4 SFo RR BB HS2 FD
     go_wp2
     exact bodyPost_ret (v := .agg #[.slice (some ⟨g1, 0, none⟩) N c1, .slice (some ⟨g2, 0, none⟩) N c2, .slice (some ⟨g3, 0, none⟩) N c3, .slice (some ⟨g4, 0, none⟩) N c4, .bool true]) (by simp [results, Tryz.results31, go_sem, u0, u1, u2, u3, u4]) rfl HFZ.out
end findSpec
end
section
namespace stepSpec
open Go.RowKit base ints sig term termOk endAt endOf marks app sym sub segs segsHelp kinds termFacts shifted matchMath matchSpec shape kindsR kindsW ruleMath ruleSpec stepMath walkMath stepsMath ownL varsOf
set_option maxRecDepth 100000
def RowB (w : World) (T : TypeId) (cs : Array Value) (wr : World) : Prop := Row wr w.heap.size T cs ∧ Below w.heap.size w wr
set_option maxHeartbeats 4000000 in
theorem l7Redexes (a v u : Value) (d : Dat sSystem) (t : List Int) (w : World) (h : Rd w w.heap.size sSystem [a, v] d) (ht : Rd w w.heap.size sI [u] t) (hz : sz sSystem d ≤ 1048576) (hok : rightB d.1 d.2 t = true) :
   Calls Tryz.prog 69 #[.agg #[a, v], u] w fun e w' => e = .returned (.int .i64 (rdN d.1 d.2 t t.length 0 : Nat)) ∧ Below w.heap.size w w' := by
 obtain ⟨T, m, c, rfl, hT, hcT⟩ := rd_ints.1 ht
 have h0 := h
 obtain ⟨A, n, cs, V, q, cv, rfl, rfl, hs, hc, hcv, hq, hn, hq1, hrs, hsg, hE⟩ := rd_sys h hz
 have HQ := Lib.hid hq
 have HTL := Lib.hid hT.1
 have HT := Lib.hid hT
 have HS := Lib.hid hs
 have HRS := Lib.hid hrs
 have HE := Lib.hid hE
 have HOK := Lib.hid (right_parts hok)
 have hcT1 := hcT.1
 have hcT2 := hcT.2.1
 have hm : m ≤ 60 := by have := (term_len (right_parts hok).2).2; have := hT.1; omega
 have hq12 : q ≤ 12 := by have := (sys_parts (right_parts hok).1).2.1; omega
 have HLEN := Lib.hid (fun i k (hi : i ≤ m) (hk : k ≤ q) => (show rdN d.1 d.2 t i k ≤ 1000 by
   have h1 := rd_le (sg := d.1) (rs := d.2) (t := t) (i := i) (k := k)
   have h2 : i * d.2.length ≤ 60 * 12 := Nat.mul_le_mul (by omega) (by rw [hq]; omega)
   omega))
 have HS0 := Lib.hid (show RowB w 29 #[.slice A n cs, .slice V q cv] (w.alloc (.cells #[.slice A n cs, .slice V q cv] 29)) from ⟨Row.new _ _ _, (Below.refl _ _).alloc (Nat.le_refl _) _⟩)
 clear h h0 ht hz hok hs hc hcv hq hrs hsg hE hT hcT
 go_enter Tryz.func69, Tryz.ntmps69
 go_wp2_with fail
 go_loopg [5, 6] m (fun G many at_ wr => ∃ i : Nat, at_ = .int .i64 i ∧ i + G = m ∧ many = .int .i64 (rdN d.1 d.2 t i 0 : Nat) ∧ RowB w 29 #[.slice A n cs, .slice V q cv] wr)
 case atStart => exact ⟨0, rfl, by omega, by rw [rd_zero]; rfl, HS0.out⟩
 case round =>
   clear HS0
   obtain ⟨i, rfl, hiG, rfl, S⟩ := hrel
   obtain ⟨G, hG⟩ : ∃ G, G = gk := ⟨_, rfl⟩
   subst hG
   by_cases him : i < m
   · have HI := Lib.hid hiG
     have HSS := Lib.hid S
     clear hiG S
     generalize hz0 : (rdN d.1 d.2 t i 0 : Nat) = z0
     have HZ0 := Lib.hid hz0
     clear hz0
     go_wp2_with fail
     go_loopg [5, 7] q (fun g many r wr => ∃ k : Nat, r = .int .i64 k ∧ k + g = q ∧ many = .int .i64 (rdN d.1 d.2 t i k : Nat) ∧ RowB w 29 #[.slice A n cs, .slice V q cv] wr)
     case atStart => exact ⟨0, rfl, by omega, by rw [HZ0.out], HSS.out⟩
     case round =>
       clear HSS HZ0
       obtain ⟨k, rfl, hkg, rfl, S⟩ := hrel
       have K0 : wr.cell? ⟨w.heap.size, 0, none⟩ = some (.slice A n cs) := S.1.cell 0
       have K1 : wr.cell? ⟨w.heap.size, 1, none⟩ = some (.slice V q cv) := S.1.cell 1
       generalize hzk : (rdN d.1 d.2 t i k : Nat) = zk
       have HZK := Lib.hid hzk
       have hzk1 : zk ≤ 1000 := by rw [← hzk]; exact HLEN.out i k (by omega) (by omega)
       clear hzk
       by_cases hkq : k < q
       · have HK := Lib.hid hkg
         obtain ⟨b, off, l, rr, y, hV, hb, ey, cl, cr, hry⟩ := rd_at HRS.out S.2 HQ.out hkq
         subst hV
         have hzy : sz sRule y ≤ 1048576 := by rw [← ey.out]; exact HE.out k hkq
         obtain ⟨P, pn, pc, P', pn', pc', rfl, rfl, sP, kP, sP', kP', hpn, hpn'⟩ := rd_rule hry hzy
         have okr : ruleOkB d.1 y = true := by rw [← ey.out]; exact sys_rule HOK.out.1 (by rw [HQ.out]; exact hkq)
         have hat : i < t.length := by rw [HTL.out]; exact him
         have zA : w.heap.size < wr.heap.size := S.1.lt
         have zB : b < wr.heap.size := by omega
         have K2 : wr.cell? ⟨b, off + k * 2, none⟩ = some (.slice P pn pc) := cl
         have LS := Lib.hid (subIn (cs := cs) (c := c) (HS.out.next S.2) (HT.out.next S.2) hn (by omega) hcT1 hcT2 HOK.out.2 hat)
         have LM := Lib.hid (matchIn (cs := cs) (pc := pc) (HS.out.next S.2) (sP.more (Nat.le_of_lt zA)) hn (rule_parts okr).1 (sub_ok HOK.out.2 hat))
         obtain ⟨R, hR⟩ : ∃ R, mst d.1 (subL d.1 t i) y.1 0 s0 = R := ⟨_, rfl⟩
         rw [hR] at LM
         obtain ⟨bo, hbo⟩ : ∃ bo, R.isSome = bo := ⟨_, rfl⟩
         have HR := Lib.hid hbo
         have HRE := Lib.hid (show redB d.1 (d.2.getD k ([], [])) t i = bo by unfold redB; rw [ey.out, hR, hbo])
         have B0 := Below.refl wr.heap.size wr
         have i0 : (0 : Int) ≤ (k : Int) := by omega
         have i1 : (k : Int) < (q : Int) := by omega
         have hneA : ¬ w.heap.size = wr.heap.size := by omega
         have hneB : ¬ b = wr.heap.size := by omega
         have hnfA : ¬ wr.heap.size = w.heap.size := by omega
         have hnfB : ¬ wr.heap.size = b := by omega
         have SS := Lib.hid S
         clear sP kP sP' kP' hpn hpn' okr hat ey hry hzy cl cr hR hbo S hkg
         go_upto_region 8 with fail
         go_cut [9] (fun s9 wx => s9 = .bool bo ∧ Below wr.heap.size wr wx)
         case first =>
           go_region_held3 (fun w' => w'.cell? ⟨w.heap.size, 0, none⟩ = some (.slice A n cs) ∧ w'.cell? ⟨w.heap.size, 1, none⟩ = some (.slice (some ⟨b, off, none⟩) q cv) ∧ w'.cell? ⟨b, off + k * 2, none⟩ = some (.slice P pn pc))
             (go_keep)
             (first
               | (go_at_call 98; refine (LS.out _ ?_).mono ?_; (first | exact B0 | exact B0.drew | exact (B0.alloc B0.size _) | exact (B0.alloc B0.size _).drew | exact (B0.drew.alloc B0.drew.size _)); rintro e w3 ⟨D, dn, dc, rfl, od, B3, b3⟩; have z3 := B3.size; (first | have r8 := Row.next (Row.drew (Row.new wr 137 #[.slice none 0 0])) b3 | have r8 := Row.next (Row.new wr.drew 137 #[.slice none 0 0]) b3 | skip); have ne30 : ¬ w.heap.size = w3.heap.size := Nat.ne_of_lt (Nat.lt_of_lt_of_le zA B3.size); have nf30 : ¬ w3.heap.size = w.heap.size := Nat.ne_of_gt (Nat.lt_of_lt_of_le zA B3.size); have ne31 : ¬ b = w3.heap.size := Nat.ne_of_lt (Nat.lt_of_lt_of_le zB B3.size); have nf31 : ¬ w3.heap.size = b := Nat.ne_of_gt (Nat.lt_of_lt_of_le zB B3.size); have k0_3 : w3.cell? ⟨w.heap.size, 0, none⟩ = some (.slice A n cs) := (B3.cell (p := ⟨w.heap.size, 0, none⟩) zA).trans K0; have k1_3 : w3.cell? ⟨w.heap.size, 1, none⟩ = some (.slice (some ⟨b, off, none⟩) q cv) := (B3.cell (p := ⟨w.heap.size, 1, none⟩) zA).trans K1; have k2_3 : w3.cell? ⟨b, off + k * 2, none⟩ = some (.slice P pn pc) := (B3.cell (p := ⟨b, off + k * 2, none⟩) zB).trans K2)
               | (go_at_call 97; refine (LM.out _ _ _ _ ?_ ?_).mono ?_; (first | exact B3 | exact B3.alloc B3.size _); (first | exact od | exact Own.alloc od _); rintro e w4 ⟨G, gn, gc, rfl, og, B4, b4⟩; rw [HR.out]; have z4 := B4.size; (first | have r9 := Row.next r8 b4 | have r9 := Row.next (Row.new w3 137 #[.slice none 0 0]) b4 | skip); (first | (have c9 : _ = some (Value.slice none 0 0) := r9.cell 0; have f9 := r9.free 0) | skip); have ne40 : ¬ w.heap.size = w4.heap.size := Nat.ne_of_lt (Nat.lt_of_lt_of_le zA B4.size); have nf40 : ¬ w4.heap.size = w.heap.size := Nat.ne_of_gt (Nat.lt_of_lt_of_le zA B4.size); have ne41 : ¬ b = w4.heap.size := Nat.ne_of_lt (Nat.lt_of_lt_of_le zB B4.size); have nf41 : ¬ w4.heap.size = b := Nat.ne_of_gt (Nat.lt_of_lt_of_le zB B4.size); have k0_4 : w4.cell? ⟨w.heap.size, 0, none⟩ = some (.slice A n cs) := (B4.cell (p := ⟨w.heap.size, 0, none⟩) zA).trans K0; have k1_4 : w4.cell? ⟨w.heap.size, 1, none⟩ = some (.slice (some ⟨b, off, none⟩) q cv) := (B4.cell (p := ⟨w.heap.size, 1, none⟩) zA).trans K1; have k2_4 : w4.cell? ⟨b, off + k * 2, none⟩ = some (.slice P pn pc) := (B4.cell (p := ⟨b, off + k * 2, none⟩) zB).trans K2))
           all_goals
             go_wp2_with fail
             go_meet
             first | (with_reducible exact box_a B4) | (with_reducible exact box_b B4 (Nat.le_refl _)) | (with_reducible exact box_b B4 z3)
         case rest =>
           rename World => wc
           obtain ⟨rfl, bx⟩ := hcut
           have ST := rd_step (sg := d.1) (rs := d.2) (t := t) (i := i) (k := k) (by rw [HQ.out]; exact hkq)
           rw [HRE.out, HZK.out] at ST
           have HST := Lib.hid ST
           have F := Lib.hid (show RowB w 29 #[.slice A n cs, .slice (some ⟨b, off, none⟩) q cv] wc from ⟨SS.out.1.next bx, SS.out.2.trans (bx.mono SS.out.2.size)⟩)
           clear bx ST SS K0 K1 K2 LS LM HR HRE
           cases bo with
           | false =>
             go_wp2
             go_roundg (gk - 1)
             case measure => have := HK.out; omega
             case rel => exact ⟨k + 1, by simp, by have := HK.out; omega, by rw [HST.out]; simp, F.out⟩
           | true =>
             go_wp2
             go_roundg (gk - 1)
             case measure => have := HK.out; omega
             case rel => exact ⟨k + 1, by simp, by have := HK.out; omega, by rw [HST.out]; simp, F.out⟩
       · have e1 : k = q := by omega
         subst e1
         have HZR := Lib.hid (show rdN d.1 d.2 t (i + 1) 0 = zk by rw [← rd_row, HQ.out]; exact HZK.out)
         have F := Lib.hid S
         clear S
         go_wp2
         go_roundg (G - 1)
         case measure => have := HI.out; omega
         case rel => exact ⟨i + 1, by simp, by have := HI.out; omega, by rw [HZR.out], F.out⟩
   · have e1 : i = m := by omega
     subst e1
     have hF : (Ending.returned (.int .i64 (rdN d.1 d.2 t i 0 : Nat))) = .returned (.int .i64 (rdN d.1 d.2 t t.length 0 : Nat)) ∧ Below w.heap.size w wr := ⟨by rw [HTL.out], S.2⟩
     have HF := Lib.hid hF
     clear hF S
     generalize (rdN d.1 d.2 t i 0 : Nat) = z at *
     go_wp2
     go_ret
     exact HF.out
set_option maxHeartbeats 2000000 in
theorem specNormalIn (a v u : Value) (d : Dat sSystem) (t : List Int) (w : World) (h : Rd w w.heap.size sSystem [a, v] d) (ht : Rd w w.heap.size sI [u] t) (hz : sz sSystem d ≤ 1048576) (hz' : sz sI t ≤ 1048576) :
   Calls Tryz.prog 47 #[.agg #[a, v], u] w (AnsB w (normalB d.1 d.2 t)) := by
 have htv := ht
 obtain ⟨T, m, c, rfl, hT, hcT⟩ := rd_ints.1 ht
 have hm := len_ints hT.1 hz'
 obtain ⟨W, hW, rA, bel⟩ := box1 w 29 #[a, v]
 have HW := Lib.hid hW
 have L1 := Lib.hid (l7Right _ _ d T m c t W (h.next bel) hz (hT.next bel) hm)
 have L2 := Lib.hid (fun (w1 : World) (bb : Below w.heap.size w w1) hok => l7Redexes _ _ _ d t w1 (h.next bb) (htv.next bb) hz hok)
 clear hW h ht htv hz hz' hT hcT
 cases ok : rightB d.1 d.2 t with
 | false =>
   have HR := Lib.hid ok
   clear ok
   go_enter Tryz.func47, Tryz.ntmps47
   go_wp2_with fail
   rw [← HW.out]
   refine L1.out.mono ?_
   rintro e w1 ⟨he, bb⟩
   rw [HR.out] at he
   subst he
   have F := Lib.hid (ansB (b := normalB d.1 d.2 t) (a := false) (by unfold normalB; rw [HR.out]; rfl) (next_trans bel bb))
   clear bb bel rA L2
   go_wp2
   go_ret
   exact F.out
 | true =>
   have HR := Lib.hid ok
   clear ok
   go_enter Tryz.func47, Tryz.ntmps47
   go_wp2_with fail
   rw [← HW.out]
   refine L1.out.mono ?_
   rintro e w1 ⟨he, bb⟩
   rw [HR.out] at he
   subst he
   replace rA := rA.next bb
   replace bel := next_trans bel bb
   have K0 : w1.cell? ⟨w.heap.size, 0, none⟩ = some a := rA.cell 0
   have K1 : w1.cell? ⟨w.heap.size, 1, none⟩ = some v := rA.cell 1
   clear bb L1 rA
   go_wp2_with fail
   refine (L2.out w1 bel HR.out).mono ?_
   rintro e w2 ⟨rfl, bb⟩
   generalize hz : (rdN d.1 d.2 t t.length 0 : Nat) = z
   have hd : normalB d.1 d.2 t = ((z : Int) == 0) := by
     rw [normal_eq HR.out, hz, Bool.eq_iff_iff, decide_eq_true_iff, beq_iff_eq]
     omega
   have F := Lib.hid (show AnsB w (normalB d.1 d.2 t) (.returned (.bool ((z : Int) == 0))) w2 from ⟨by rw [hd], next_trans bel bb⟩)
   clear hd hz bb bel L2 K0 K1
   go_wp2
   go_ret
   exact F.out
end stepSpec
end
section
namespace orderSpec
open Go.RowKit base ints sig term termOk endAt endOf marks app sym sub segs segsHelp kinds termFacts shifted matchMath matchSpec shape kindsR kindsW ruleMath ruleSpec stepMath walkMath stepsMath varsOf stepSpec orderMath appAt
set_option maxRecDepth 100000
theorem app1Q {w : World} {ops : Array Oper} {rest : List Oper} {o : Oper} {a : Act} {Q : Exit → Act → World → Prop} (hgd : o.guard = none) (s x : Operand)
   (ho : o.op = .call { callee := .builtin .append, args := #[s, x], argTypes := #[24, 24] })
   (base : Nat) (A : Option Addr) (n c : Nat) (xs : List Int) (hs : a.eval s = .slice A n c) (hown : Own w base (.slice A n c) xs)
   (g c2 : Nat) (y : Int) (hx : a.eval x = .slice (some ⟨g, 0, none⟩) 1 c2) (hy : w.cell? ⟨g, 0, none⟩ = some (.int .i64 y)) (hn : n ≤ 2097152) (hbase : base ≤ w.heap.size)
   (h : ∀ A' c' w', Own w' base (.slice A' (n + 1) c') (xs ++ [y]) → w.grownBy w' (blk A) → (blk A' = blk A ∨ blk A' = some w.heap.size) → wpList Tryz.prog ops Q rest (a.put o.dst (.slice A' (n + 1) c')) w') : wpList Tryz.prog ops Q (o :: rest) a w :=
 appAllAt hgd s x ho base A n c xs hs hown (some ⟨g, 0, none⟩) 1 c2 (g + 1) [y] hx ⟨rfl, fun _ => ⟨g, 0, rfl, Nat.lt_succ_self _, fun j hj => by
   obtain rfl : j = 0 := by omega
   exact hy⟩⟩ (Nat.le_refl _) hn (by omega) hbase h
structure Lo (w : World) (a v : Value) (O : Option Addr) (on oc : Nat) (L : List Int) (wr : World) : Prop where
 r : Row wr w.heap.size 29 #[a, v]
 o : Own wr (w.heap.size + 1) (.slice O on oc) L
 b : Below w.heap.size w wr
section
variable {w wr w' : World} {a v : Value} {O : Option Addr} {on oc : Nat} {L : List Int}
theorem Lo.next (h : Lo w a v O on oc L wr) (hb : Below wr.heap.size wr w') : Lo w a v O on oc L w' := ⟨h.r.next hb, Own.next h.o hb, next_trans h.b hb⟩
theorem Lo.over {O' : Option Addr} {on' oc' : Nat} {L' : List Int} (h : Lo w a v O on oc L wr) (ho : Own w' (w.heap.size + 1) (.slice O' on' oc') L') (hb : Below (w.heap.size + 1) wr w') : Lo w a v O' on' oc' L' w' := ⟨h.r.below hb (Nat.lt_succ_self _), ho, h.b.trans (hb.mono (Nat.le_succ _))⟩
end
end orderSpec
end
section
namespace orderMath
open sig term termOk termFacts endAt posMath inside ruleMath stepMath walkMath stepsMath
theorem get_lt {l : List Int} {i : Nat} (h : i < l.length) : l.getD i 0 = l[i] := by rw [List.getD_eq_getElem?_getD, List.getElem?_eq_getElem h, Option.getD_some]
theorem mem_get {l : List Int} {x : Int} (h : x ∈ l) : ∃ i, i < l.length ∧ l.getD i 0 = x := by
 obtain ⟨i, hi, e⟩ := List.mem_iff_getElem.1 h
 exact ⟨i, hi, by rw [get_lt hi, e]⟩
section
variable {E : Int → Int} {l : List Int}
end
section
variable {sg : List Int} {rs : List Rl} {t : List Int}
theorem right_ok (h : rightB sg rs t = true) : termOkB sg t = true := by
 unfold rightB at h
 rw [Bool.and_eq_true] at h
 exact h.2
theorem endR_at (h : termOkB sg t = true) {a : Nat} (ha : a < t.length) : endR sg t (a : Int) = ((a + len1 sg t a : Nat) : Int) := by unfold endR; rw [Int.toNat_natCast]; exact end_at h ha
end
end orderMath
end
section
namespace orderSpec
open Go.RowKit base ints sig term termOk endAt endOf marks app sym sub segs segsHelp kinds termFacts shifted matchMath matchSpec shape kindsR kindsW ruleMath ruleSpec stepMath walkMath stepsMath varsOf stepSpec orderMath appAt
set_option maxRecDepth 100000
theorem ownLt {w : World} {base : Nat} {A : Option Addr} {n c : Nat} {xs : List Int} (h : Own w base (.slice A n c) xs) : ∀ k, blk A = some k → base ≤ k ∧ k < w.heap.size := fun k hk => World.ownsRow.lt h k (by rw [blk_own]; exact hk)
structure Lq (w : World) (a v : Value) (A : Option Addr) (n c : Nat) (all : List Int) (O : Option Addr) (on oc : Nat) (L : List Int) (wr : World) : Prop where
 t : Lo w a v O on oc L wr
 s : Own wr (w.heap.size + 1) (.slice A n c) all
 ne : ∀ k, blk A = some k → blk O ≠ some k
section
variable {w wr w' : World} {a v : Value} {A O : Option Addr} {n c on oc : Nat} {all L : List Int}
theorem Lq.next (h : Lq w a v A n c all O on oc L wr) (hb : Below wr.heap.size wr w') : Lq w a v A n c all O on oc L w' := ⟨h.t.next hb, Own.next h.s hb, h.ne⟩
end
theorem mem_get {l : List Int} {k n : Nat} (hl : l.length = n) (hk : k < n) : l.getD k 0 ∈ l := by rw [List.getD_eq_getElem?_getD, List.getElem?_eq_getElem (by omega), Option.getD_some]; exact List.getElem_mem _
theorem place_at {sg : List Int} {rs : List Rl} {t : List Int} {k n : Nat} (hl : (placesI sg rs t).length = n) (hk : k < n) : ∃ p : Nat, (placesI sg rs t).getD k 0 = (p : Int) ∧ p < t.length ∧ termOkB sg t = true ∧ ∃ e : Nat, endR sg t (p : Int) = (e : Int) ∧ e ≤ 60 ∧ p < 60 := by
 obtain ⟨hr, p, hp, -, e⟩ := placesI_mem (mem_get hl hk)
 have ht := right_ok hr
 have h60 := (term_len ht).2
 refine ⟨p, e, hp, ht, p + len1 sg t p, endR_at ht hp, ?_, by omega⟩
 have := (posMath.term_at ht hp).2.2
 omega
theorem placesI_len {sg : List Int} {rs : List Rl} {t : List Int} : (placesI sg rs t).length ≤ 60 := by
 unfold placesI
 split
 · rename_i h
   have h60 := (term_len (right_ok h)).2
   exact Nat.le_trans (pl_len _) h60
 · exact Nat.zero_le _
theorem seg_cell {w : World} {B b off n i : Nat} {L : List Int} {p : Int} (h : Seg w B (some ⟨b, off, none⟩) n L) (hi : i < n) (hp : L.getD i 0 = p) : w.cell? ⟨b, off + i, none⟩ = some (.int .i64 p) := by
 obtain ⟨b', off', e1, -, c1⟩ := h.round hi
 injection e1 with e1
 injection e1 with e1 e2
 subst e1 e2
 rw [hp] at c1
 exact c1
end orderSpec
end
section
namespace orderSpec
open Go.RowKit base ints sig term termOk endAt endOf marks app sym sub segs segsHelp kinds termFacts shifted shape kindsR kindsW ruleMath ruleSpec stepMath walkMath stepsMath varsOf stepSpec orderMath appAt
set_option maxRecDepth 100000
def AnsPick (w : World) (o : Option (Int × Int)) (e : Ending) (w' : World) : Prop := e = .returned (.tuple #[.int .i64 ((o.map (·.1)).getD 0), .int .i64 ((o.map (·.2)).getD 0), .bool o.isSome]) ∧ Below w.heap.size w w'
theorem ansPick_none {w w' : World} {o : Option (Int × Int)} (h : o = none) (hb : Below w.heap.size w w') : AnsPick w o (.returned (.tuple #[.int .i64 0, .int .i64 0, .bool false])) w' := ⟨by rw [h]; rfl, hb⟩
theorem ansPick_some {w w' : World} {o : Option (Int × Int)} {a r : Int} (h : o = some (a, r)) (hb : Below w.heap.size w w') : AnsPick w o (.returned (.tuple #[.int .i64 a, .int .i64 r, .bool true])) w' := ⟨by rw [h]; rfl, hb⟩
theorem pickL_nil {sg : List Int} {rs : List Rl} {t : List Int} {s : Int} (h : (selL sg rs t s).head? = none) : pickL sg rs t s = none := by unfold pickL; rw [h]; rfl
theorem pickL_at {sg : List Int} {rs : List Rl} {t : List Int} {s x : Int} (h : (selL sg rs t s).head? = some x) : pickL sg rs t s = some (x, ruleF sg rs t x.toNat) := by unfold pickL; rw [h]; rfl
theorem sel_at {sg : List Int} {rs : List Rl} {t : List Int} {s x : Int} (h : (selL sg rs t s).head? = some x) : ∃ a : Nat, x = (a : Int) ∧ a < t.length := by
 have h1 : x ∈ selL sg rs t s := List.mem_of_head? h
 obtain ⟨a, ha, -, e⟩ := pl_mem.1 (show x ∈ plN sg rs t t.length from sel_mem h1)
 exact ⟨a, e, ha⟩
end orderSpec
end
section
namespace walkSpec
open Go.RowKit base ints sig term termOk endAt endOf marks app sym sub segs segsHelp kinds termFacts same shifted shape kindsR kindsW varsOf ruleMath ruleSpec stepMath walkMath stepSpec
set_option maxRecDepth 100000
theorem rd_step {w wr : World} {B : Nat} {A : Option Addr} {n c : Nat} {L : List St} {k : Nat} (h : Rd w B sStepS [.slice A n c] L) (hb : Below B w wr) (hl : L.length = n) (hk : k < n) :
   ∃ b off u x, A = some ⟨b, off, none⟩ ∧ b < B ∧ Hid (L.getD k (0, 0, []) = x) ∧ wr.cell? ⟨b, off + k * 3, none⟩ = some (.int .i64 x.1) ∧ wr.cell? ⟨b, off + k * 3 + 1, none⟩ = some (.int .i64 x.2.1) ∧ wr.cell? ⟨b, off + k * 3 + 2, none⟩ = some u ∧ Rd wr B sI [u] x.2.2 := by
 obtain ⟨b, off, n2, c2, es, ev, -, -, hbB, hel, hp, hr⟩ := h.elem (j := k) (by rw [hl]; exact hk)
 injection ev with e1 e2 e3
 subst e1
 obtain ⟨v0, rfl⟩ := cells_Step hr
 have hpw := hp.keep (w' := wr) (fun p hp => hb.cell (p := p) (by rw [hp]; exact hbB))
 obtain ⟨-, -, p2⟩ := parts_Step hr
 exact ⟨b, off, v0, _, rfl, hbB, Lib.hid rfl, hpw 0 (by simp), hpw 1 (by simp), hpw 2 (by simp), p2.below hb⟩
theorem rd_walk {w : World} {B : Nat} {f s : Value} {k : Dat sWalk} (h : Rd w B sWalk [f, s] k) (hz : sz sWalk k ≤ 1048576) :
   ∃ F fn fc S sn sc, f = .slice F fn fc ∧ s = .slice S sn sc ∧ Seg w B F fn k.1 ∧ Cap F fn fc ∧ fn ≤ 1048576 ∧ k.2.length = sn ∧ sn ≤ 1048576 ∧ Cap S sn sc ∧ Rd w B sI [.slice F fn fc] k.1 ∧ Rd w B sStepS [.slice S sn sc] k.2 ∧ sz sI k.1 ≤ 1048576 ∧ ∀ i, i < sn → sz sI (k.2.getD i (0, 0, [])).2.2 ≤ 1048576 := by
 have hz0 : sz sI k.1 + sz sStepS k.2 ≤ 1048576 := hz
 obtain ⟨p1, p2⟩ := parts_Walk h
 obtain ⟨F, fn, fc, rfl, hs, hc⟩ := rd_ints.1 p1
 obtain ⟨S, sc, rfl, hc2⟩ := p2.slice
 have hz1 : sz sI k.1 ≤ 1048576 := by omega
 have hz2 : sz sStepS k.2 ≤ 1048576 := by omega
 refine ⟨F, fn, fc, S, List.length k.2, sc, rfl, rfl, hs, hc, len_ints hs.1 hz1, rfl, sz_len hz2, hc2, p1, p2, hz1, fun i hi => ?_⟩
 have h1 := sz_each hz2 hi
 have h2 : sz sStep (k.2.getD i (0, 0, [])) = 0 + (0 + sz sI (k.2.getD i (0, 0, [])).2.2) := rfl
 have h3 : sz sStep (k.2.getD i (0, 0, [])) ≤ 1048576 := h1
 omega
end walkSpec
end
section
namespace walkSpec
open Go.RowKit base ints sig term termOk endAt endOf marks app sym sub segs segsHelp kinds termFacts same shifted shape kindsR kindsW varsOf ruleMath ruleSpec stepMath walkMath stepSpec ownL heldT
set_option maxRecDepth 100000
theorem end_none {k : Wk} (h : k.2.length = 0) : endL k = k.1 := by unfold endL; rw [List.eq_nil_of_length_eq_zero h]; rfl
theorem end_last {k : Wk} {n : Nat} {x : St} (h : k.2.length = n + 1) (hx : k.2.getD n (0, 0, []) = x) : endL k = x.2.2 := by
 unfold endL
 have : k.2.getLast? = some x := by
   rw [List.getLast?_eq_getElem?, h, ← hx]
   have hn : n < k.2.length := by omega
   simp [List.getD, hn]
 rw [this]
theorem keep_alloc {w : World} {a : Addr} {v : Value} {o : Obj} (h : w.cell? a = some v) : (w.alloc o).cell? a = some v := (World.cell?_alloc_some w a o (by rw [h]; rfl)).trans h
end walkSpec
end
section
namespace walkSpec
open Go.RowKit base ints sig term termOk endAt endOf marks app sym sub segs segsHelp kinds termFacts same shifted shape kindsR kindsW varsOf ruleMath ruleSpec stepMath walkMath stepSpec ownL heldT
set_option maxRecDepth 100000
def AnsWalk (w : World) (k : Wk) (b : Bool) (e : Ending) (w' : World) : Prop := ∃ A0 n0 c0 A1 n1 c1, e = .returned (.tuple #[.agg #[.slice A0 n0 c0, .slice A1 n1 c1], .bool b]) ∧ Owned w' w.heap.size w'.heap.size sWalk [.slice A0 n0 c0, .slice A1 n1 c1] k ∧ Below w.heap.size w w'
theorem owned_zero (w : World) (lo hi : Nat) : Owned w lo hi sWalk [.slice none 0 0, .slice none 0 0] (([], []) : List Int × List St) :=
 ⟨[], ⟨[.slice none 0 0], [.slice none 0 0], [], [], rfl, rfl, ⟨none, 0, 0, rfl, rfl, .inl ⟨rfl, rfl, rfl, rfl⟩⟩, ⟨none, 0, 0, rfl, rfl, .inl ⟨rfl, rfl, rfl, rfl⟩⟩⟩, List.nodup_nil, fun k hk => by cases hk⟩
theorem owned_walk {w : World} {lo mid hi : Nat} {X O : Option Addr} {xn xc n c : Nat} {f : List Int} {L : List St} (h : Ownd w lo mid X xn xc f) (h2 : OwnL w mid hi 70 sStep O n c L) (h3 : lo ≤ mid) (h4 : mid ≤ hi) : Owned w lo hi sWalk [.slice X xn xc, .slice O n c] (f, L) :=
 Owned.cat (ow_ints.2 h) h2.owned (Nat.le_refl _) h3 h4
theorem ansWalk_no {w w' : World} {k : Wk} {b : Bool} (h : k = ([], []) ∧ b = false) (hb : Below w.heap.size w w') : AnsWalk w k b (.returned (.tuple #[.agg #[.slice none 0 0, .slice none 0 0], .bool false])) w' :=
 ⟨none, 0, 0, none, 0, 0, by rw [h.2], by rw [h.1]; exact owned_zero _ _ _, hb⟩
section
variable {sg : List Int} {rs : List Rl} {a b : Wk}
end
structure Jn (w : World) (a v f s f' s' : Value) (wr : World) : Prop where
 r0 : Row wr w.heap.size 29 #[a, v]
 r1 : Row wr (w.heap.size + 1) 41 #[f, s]
 r2 : Row wr (w.heap.size + 1 + 1) 41 #[f', s']
 r3 : Row wr (w.heap.size + 1 + 1 + 1) 41 #[.slice none 0 0, .slice none 0 0]
 b : Below w.heap.size w wr
section
variable {w wr w' : World} {a v f s f' s' : Value}
theorem Jn.next (h : Jn w a v f s f' s' wr) (hb : Below wr.heap.size wr w') : Jn w a v f s f' s' w' := ⟨h.r0.next hb, h.r1.next hb, h.r2.next hb, h.r3.next hb, next_trans h.b hb⟩
theorem Jn.below {lo : Nat} (h : Jn w a v f s f' s' wr) (hb : Below lo wr w') (hl : w.heap.size + 1 + 1 + 1 + 1 ≤ lo) : Jn w a v f s f' s' w' := ⟨h.r0.below hb (by omega), h.r1.below hb (by omega), h.r2.below hb (by omega), h.r3.below hb (by omega), h.b.trans (hb.mono (by omega))⟩
theorem Jn.size (h : Jn w a v f s f' s' wr) : w.heap.size + 1 + 1 + 1 + 1 ≤ wr.heap.size := h.r3.lt
end
end walkSpec
end
section
namespace bySpec
open Go.RowKit base ints sig term termOk endAt endOf marks app sym sub segs segsHelp kinds termFacts same shifted shape drawX kindsR kindsW varsOf ruleMath ruleSpec stepMath walkMath stepSpec walkSpec ownL heldT orderMath orderSpec
set_option maxRecDepth 100000
structure Wb (w : World) (T : TypeId) (a v : Value) (B : Nat) (X O : Option Addr) (xn xc on oc : Nat) (fr : List Int) (L : List St) (wr : World) : Prop where
 r0 : Row wr w.heap.size T #[a, v]
 r1 : Row wr (w.heap.size + 1) 41 #[.slice none 0 0, .slice none 0 0]
 r3 : Row wr B 41 #[.slice X xn xc, .slice O on oc]
 x : Ownd wr (w.heap.size + 1 + 1) B X xn xc fr
 o : OwnL wr (B + 1) wr.heap.size 70 sStep O on oc L
 b : Below w.heap.size w wr
 z : w.heap.size + 1 + 1 ≤ B
theorem Wb.next {w wr w' : World} {T : TypeId} {a v : Value} {B : Nat} {X O : Option Addr} {xn xc on oc : Nat} {fr : List Int} {L : List St} (h : Wb w T a v B X O xn xc on oc fr L wr) (hb : Below wr.heap.size wr w') : Wb w T a v B X O xn xc on oc fr L w' :=
 ⟨h.r0.next hb, h.r1.next hb, h.r3.next hb, h.x.next hb, (h.o.next hb).wider (Nat.le_refl _) hb.size, next_trans h.b hb, h.z⟩
theorem Wb.app {w w5 w4 : World} {T : TypeId} {a v : Value} {B : Nat} {X O : Option Addr} {xn xc on oc : Nat} {fr : List Int} {L : List St} {O' oc' : Nat} {y : St} {o : Obj} (h : Wb w T a v B X O xn xc on oc fr L w5) (oL4 : OwnL w4 (B + 1) w4.heap.size 70 sStep (some ⟨O', 0, none⟩) (on + 1) oc' (L ++ [y])) (hg4 : (w5.alloc o).grownBy w4 (blk O)) :
   Wb w T a v B X (some ⟨O', 0, none⟩) xn xc (on + 1) oc' fr (L ++ [y]) (w4.setCell ⟨B, 1, none⟩ (.slice (some ⟨O', 0, none⟩) (on + 1) oc')) := by
 have z := h.z
 have hB : B < w5.heap.size := h.r3.lt
 have hblk : ∀ k, blk O = some k → B + 1 ≤ k ∧ k < w5.heap.size := fun k e => h.o.ge k e
 have b0 : Below w5.heap.size w5 (w5.alloc o) := (Below.refl _ _).alloc (Nat.le_refl _) _
 have b4 : Below (B + 1) (w5.alloc o) w4 := (Below.refl _ _).grown hg4 (by simp; omega) (fun k e => (hblk k e).1)
 have b5 : Below (B + 1) w5 w4 := (b0.mono (by omega)).trans b4
 have hz4 : w5.heap.size + 1 ≤ w4.heap.size := by have := hg4.size; simpa using this
 refine ⟨(h.r0.below b5 (by omega)).far (show w.heap.size ≠ B by omega) _, (h.r1.below b5 (by omega)).far (show w.heap.size + 1 ≠ B by omega) _, (h.r3.below b5 (by omega)).put 1 _, ?_, ?_, (h.b.trans (b5.mono (by omega))).setCell (show w.heap.size ≤ B by omega) _, z⟩
 · exact ((h.x.next b0).btw (lo' := B + 1) (hi' := w4.heap.size) (Btw.of_grown hg4 (fun q hq => by have h8 := hblk q hq; omega)) (.inl (by omega))).btw (lo' := B) (hi' := B + 1) ⟨rfl, rfl, rfl, by simp, fun k hk ho => Below.heap_setCell w4 _ _ k (by show k ≠ B; omega)⟩ (.inl (Nat.le_refl _))
 · have o5 : OwnL (w4.setCell ⟨B, 1, none⟩ (.slice (some ⟨O', 0, none⟩) (on + 1) oc')) (B + 1) w4.heap.size 70 sStep (some ⟨O', 0, none⟩) (on + 1) oc' (L ++ [y]) := oL4.btw (lo' := B) (hi' := B + 1) ⟨rfl, rfl, rfl, by simp, fun k hk ho => Below.heap_setCell w4 _ _ k (by show k ≠ B; omega)⟩ (.inr (Nat.le_refl _))
   exact o5.wider (Nat.le_refl _) (by simp)
theorem fuel_yes {F : Nat} (h : F ≤ 60) : fuelB (F : Int) = true := decide_eq_true (by omega)
theorem ansWalk_yes {w wr w' : World} {T : TypeId} {a v : Value} {B : Nat} {X O : Option Addr} {xn xc on oc : Nat} {fr : List Int} {L : List St} {k : Wk} {b : Bool} (h : Wb w T a v B X O xn xc on oc fr L wr) (hk : k = (fr, L)) (hb : Below wr.heap.size wr w') :
   AnsWalk w k b (.returned (.tuple #[.agg #[.slice X xn xc, .slice O on oc], .bool b])) ((w'.setCell ⟨w.heap.size + 1, 0, none⟩ (.slice X xn xc)).setCell ⟨w.heap.size + 1, 1, none⟩ (.slice O on oc)) := by
 have h2 := h.next hb
 have z := h.z
 have ow : Owned w' (w.heap.size + 1 + 1) w'.heap.size sWalk [.slice X xn xc, .slice O on oc] (fr, L) := owned_walk (h2.x.wider (Nat.le_refl _) (Nat.le_succ _)) h2.o (by omega) h2.r3.lt
 exact ⟨_, _, _, _, _, _, rfl, by rw [hk]; exact ((ow.put (g := w.heap.size + 1) (i := 0) (by omega)).put (g := w.heap.size + 1) (i := 1) (by omega)).wider (by omega) (by simp), (h2.b.setCell (show w.heap.size ≤ w.heap.size + 1 by omega) _).setCell (show w.heap.size ≤ w.heap.size + 1 by omega) _⟩
theorem AnsWalk.next {w w1 w2 : World} {k : Wk} {b : Bool} {e : Ending} (h : AnsWalk w k b e w1) (hb : Below w1.heap.size w1 w2) : AnsWalk w k b e w2 := by
 obtain ⟨A0, n0, c0, A1, n1, c1, he, ho, hw⟩ := h
 exact ⟨A0, n0, c0, A1, n1, c1, he, (ho.next hb).wider (Nat.le_refl _) hb.size, next_trans hw hb⟩
end bySpec
end
section
namespace walkSpec
open Go.RowKit base ints sig term termOk endAt endOf marks app sym sub segs segsHelp kinds termFacts same shifted shape kindsR kindsW varsOf ruleMath ruleSpec stepMath walkMath stepSpec ownL heldT
set_option maxRecDepth 100000
section
variable {sg : List Int} {rs : List Rl} {k : Wk} {t : List Int} {x : Int}
end
structure Wi (w : World) (a v f s : Value) (B : Nat) (X O : Option Addr) (xn xc on oc : Nat) (fr : List Int) (L : List St) (wr : World) : Prop where
 r0 : Row wr w.heap.size 29 #[a, v]
 r1 : Row wr (w.heap.size + 1) 41 #[f, s]
 r2 : Row wr (w.heap.size + 1 + 1) 41 #[.slice none 0 0, .slice none 0 0]
 r3 : Row wr B 41 #[.slice X xn xc, .slice O on oc]
 x : Ownd wr (w.heap.size + 1 + 1 + 1) B X xn xc fr
 o : OwnL wr (B + 1) wr.heap.size 70 sStep O on oc L
 b : Below w.heap.size w wr
 z : w.heap.size + 1 + 1 + 1 ≤ B
theorem Wi.next {w wr w' : World} {a v f s : Value} {B : Nat} {X O : Option Addr} {xn xc on oc : Nat} {fr : List Int} {L : List St} (h : Wi w a v f s B X O xn xc on oc fr L wr) (hb : Below wr.heap.size wr w') : Wi w a v f s B X O xn xc on oc fr L w' :=
 ⟨h.r0.next hb, h.r1.next hb, h.r2.next hb, h.r3.next hb, h.x.next hb, (h.o.next hb).wider (Nat.le_refl _) hb.size, next_trans h.b hb, h.z⟩
end walkSpec
end
section
namespace walkX
open Go.RowKit base sig term termOk termFacts segs shape kindsR kindsW ruleMath stepMath walkMath walkSpec
theorem steps_sz {L : List St} {C : Nat} (h : ∀ s ∈ L, s.2.2.length ≤ C) : sz sStepS L ≤ L.length * (C + 1) := by
 induction L with
 | nil => exact Nat.zero_le _
 | cons x r ih =>
   have h1 := ih (fun s hs => h s (List.mem_cons_of_mem _ hs))
   have h2 := h x (List.mem_cons_self ..)
   have e : sz sStepS (x :: r) = (r.length + 1) + ((0 + (0 + sz sI x.2.2)) + (r.map (sz sStep)).sum) := rfl
   have e2 : sz sStepS r = r.length + (r.map (sz sStep)).sum := rfl
   rw [e, sz_ints, List.length_cons, Nat.add_mul]
   rw [e2] at h1
   omega
theorem walk_sz {k : Wk} (h1 : k.1.length ≤ 60) (h2 : k.2.length ≤ 60) (h3 : ∀ s ∈ k.2, s.2.2.length ≤ 60) : sz sWalk k ≤ 1048576 := by
 show sz sI k.1 + sz sStepS k.2 ≤ 1048576
 have a := steps_sz h3
 have b : k.2.length * (60 + 1) ≤ 60 * 61 := Nat.mul_le_mul h2 (Nat.le_refl _)
 rw [sz_ints]
 omega
end walkX
end
section
namespace bySpec
open Go.RowKit base ints sig term termOk endAt endOf marks app sym sub segs segsHelp kinds termFacts same shifted shape drawX kindsR kindsW varsOf ruleMath ruleSpec stepMath walkMath stepSpec walkSpec walkX ownL heldT orderMath orderSpec
set_option maxRecDepth 100000
def AnsInt (w : World) (x : Int) (e : Ending) (w' : World) : Prop := e = .returned (.int .i64 x) ∧ Below w.heap.size w w'
end bySpec
end
section
namespace iter
open Go.RowKit base shape findW
def AnsAfter (w : World) (o : Option (List (List Int))) (e : Ending) (w' : World) : Prop := ∃ X xn xc, e = .returned (.tuple #[.slice X xn xc, .bool o.isSome]) ∧ Rd w' w'.heap.size sTs [.slice X xn xc] (o.getD []) ∧ Below w.heap.size w w'
end iter
end
end Go.Proofs.YtifckjchmjmhoabGreat
