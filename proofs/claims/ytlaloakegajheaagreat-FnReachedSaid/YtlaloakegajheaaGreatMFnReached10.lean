/-
  MERGED: my texts ReachWalk, AnsAfter, StepSpecC, OrderSpec, OrderLaw, OrderSpecB, PickSpec, BySpec, BySpecB, JoinSpec, Big, one behind the other, as they are. By an AI agent.
-/
import Derived.Test.YtlaloakegajheaaGreatMFnReached9
import Derived.Deep.QuietTactic
import Derived.BigQuiet
namespace Go.Proofs.YtlaloakegajheaaGreat
section
open Go.Lib (hid)
open List (setIfInBounds_toArray set_cons_zero set_cons_succ getElem_toArray getElem_cons_zero getElem_cons_succ)
namespace reachWalk
open Go.RowKit Go.Maps base ints sig term termOk marks app appAt sym segs segsHelp termFacts varsOf shape kindsR kindsW ruleMath ruleSpec stepMath walkMath reachMath stepSpec reachSpec findW findSpec heldT ownL drawX reachImpl known pickOwn revSteps
set_option maxRecDepth 100000
theorem wp_look {w : World} {o : Oper} {a : Act} {K : Act → World → Prop} {Q : Exit → Act → World → Prop} (m x : Operand) (hop : o.op = Op.lookup 148 m x true) (b n : Nat) (L : List (List Int)) (u : List Int) (hK : Kn w b n L) (hu : Small u) (hnd : L.Nodup)
  (hm : a.eval m = .map (some b)) (hx : a.eval x = .string (strOfNums (keyN u))) (h : ∀ c : Int, (∀ i : Nat, plcO L u = some i → c = (i : Int)) → K (a.put o.dst (.tuple #[.int .i64 c, .bool (plcO L u).isSome])) w) : o.wp Tryz.prog a w K Q := by
 obtain ⟨D, hown, h2, h3, h4⟩ := hK
 have hkey := key_of u hu
 obtain ⟨v, ps, hrun, hv⟩ := hown.look_ok (string_keyed Tryz.underlying9) (t := 148) (e := 3) Tryz.underlying148 (zero_int w) (plainElem_int Tryz.underlying3 (by decide)) hkey
 obtain ⟨c, rfl, hc, -⟩ := plainElem_int_inv Tryz.underlying3 hv
 unfold Oper.wp execOp
 simp only [hop, hm, hx]
 have hhas : Maps.has D (klit u) = (plcO L u).isSome := by
  rw [h3 u hu]
  cases hp : (plcO L u).isSome with
  | true => exact decide_eq_true (plc_mem.1 hp)
  | false => exact decide_eq_false (fun hmem => by rw [plc_mem.2 hmem] at hp; cases hp)
 rw [hhas] at hrun
 simp [hrun, Result.andThen]
 refine h c fun i hi => ?_
 obtain ⟨hil, hie⟩ := plc_spot hi
 have h5 := h4 i hil
 rw [hie] at h5
 have hc' : D.atKey (klit u) (.lit (.int .i64 0)) = .lit (.int .i64 c) := congrArg Prod.fst hc
 rw [h5] at hc'
 injection hc' with hc'
 injection hc' with _ hc'
 exact hc'.symm
def AnsRw (w : World) (lo mid : Nat) (o : Option Wk) (e : Ending) (w' : World) : Prop := ∃ A0 n0 c0 A1 n1 c1, e = .returned (.tuple #[.agg #[.slice A0 n0 c0, .slice A1 n1 c1], .bool o.isSome]) ∧
 (∃ F, Ow w' sWalk [.slice A0 n0 c0, .slice A1 n1 c1] (o.getD ([], [])) F ∧ F.Nodup ∧ ∀ q ∈ F, (lo ≤ q ∧ q < mid) ∨ (w.heap.size ≤ q ∧ q < w'.heap.size)) ∧ Below w.heap.size w w'
theorem ansRw_no {w w' : World} {lo mid : Nat} {o : Option Wk} (h : o = none) (hb : Below w.heap.size w w') : AnsRw w lo mid o (.returned (.tuple #[.agg #[.slice none 0 0, .slice none 0 0], .bool false])) w' := by
 subst h
 exact ⟨none, 0, 0, none, 0, 0, rfl, ⟨[], ⟨[.slice none 0 0], [.slice none 0 0], [], [], rfl, rfl, ⟨none, 0, 0, rfl, rfl, .inl ⟨rfl, rfl, rfl, rfl⟩⟩, ⟨none, 0, 0, rfl, rfl, .inl ⟨rfl, rfl, rfl, rfl⟩⟩⟩, List.nodup_nil, fun k hk => by cases hk⟩, hb⟩
structure Way (L : List Fi) (j : Nat) (Q : List Nat) (i : Nat) : Prop where
 bk : bk L j = (Q.map fun q => (L.getD q (startF [])).1) ++ bk L i
 gt : ∀ q ∈ Q, i < q ∧ q < L.length
 desc : Q.Pairwise (· > ·)
theorem way_zero (L : List Fi) (j : Nat) : Way L j [] j := ⟨rfl, (fun q hq => by cases hq), List.Pairwise.nil⟩
theorem Way.step {sg : List Int} {rs : List Rl} {t : List Int} {n z i j : Nat} {S : Fs} {Q : List Nat} {f : Fi} (h : Way S.1 j Q i) (hI : Inv sg rs t n S z) (h0 : 0 < i) (hf : S.1[i]? = some f) : Way S.1 j (Q ++ [i]) f.2.1 ∧ f.2.1 < i := by
 obtain ⟨g, h1, h2, -, -⟩ := hI.par i f h0 hf
 have hi := (List.getElem?_eq_some_iff.1 hf).1
 refine ⟨⟨?_, fun q hq => ?_, ?_⟩, h1⟩
 ·rw [h.bk, bk_succ hI h0 hf]
  simp [List.getD, hf]
 ·rcases List.mem_append.1 hq with hq | hq
  ·have := h.gt q hq; omega
  ·rw [List.mem_singleton.1 hq]; omega
 ·exact List.pairwise_append.2 ⟨h.desc, by simp, fun a ha b hb => by rw [List.mem_singleton.1 hb]; exact (h.gt a ha).1⟩
theorem Way.len {sg : List Int} {rs : List Rl} {t : List Int} {n z i j : Nat} {S : Fs} {Q : List Nat} (h : Way S.1 j Q i) (hI : Inv sg rs t n S z) (hj : j < S.1.length) (hn : n ≤ 60) : Q.length ≤ 60 := by
 have h1 := bk_len hI j _ (List.getElem?_eq_getElem hj)
 have h2 := hI.dn _ (List.getElem_mem hj)
 rw [h.bk, List.length_append, List.length_map] at h1
 omega
structure Rw (w V : World) (bx lo mid : Nat) (fs : Array Value) (L : List Fi) (vs : List Value) (X : Value) (j : Nat) (A : Option Addr) (n c : Nat) (Q : List Nat) (i : Nat) (wr : World) : Prop where
 way : Way L j Q i
 lt : i < L.length
 len : Q.length = n
 row : ∃ us, wr.ownsRow (bx + 1) 124 3 (.slice A n c) n us ∧ ∀ k, k < n → ∃ x : El, cellsOf 3 us k = encEl x ∧ (cellsOf 5 vs (Q.getD k 0)).take 3 = encEl x
 nil : A = none → c = 0
 r0 : Row wr w.heap.size 150 fs
 r1 : Row wr (w.heap.size + 1) 86 #[.slice none 0 0, .slice none 0 0]
 r3 : Row wr bx 86 #[X, .slice A n c]
 bel : Below bx V wr
theorem Rw.answer {w V wr : World} {lo mid on oc j bx g n c : Nat} {S : Fs} {sg : List Int} {rs : List Rl} {t : List Int} {nn z : Nat} {vs us : List Value} {G : Nat → List Nat} {A : Option Addr} {Q : List Nat} {T : Option Addr} {tn tc : Nat}
  (oG : OwnG V lo mid 153 sFind (some ⟨g, 0, none⟩) on oc (S.1.map fdat) vs G) (hI : Inv sg rs t nn S z) (hj : j < S.1.length) (hw : Way S.1 j Q 0) (hlen : Q.length = n) (hb : Below bx V wr) (hmid : mid ≤ w.heap.size) (hbx : w.heap.size + 1 < bx) (hlo : lo ≤ mid)
  (hX : cellsOf 5 vs 0 = [.int .i64 0, .int .i64 0, .slice T tn tc, .int .i64 0, .int .i64 0])
  (hr : wr.ownsRow (bx + 1) 124 3 (.slice A n c) n us) (hA : A = none → c = 0) (hc : ∀ k, k < n → ∃ x : El, cellsOf 3 us k = encEl x ∧ (cellsOf 5 vs (Q.getD (n - 1 - k) 0)).take 3 = encEl x) (hbel : Below w.heap.size w wr) :
  AnsRw w lo mid (some (wkF S.1 j)) (.returned (.tuple #[.agg #[.slice T tn tc, .slice A n c], .bool true])) ((wr.setCell ⟨w.heap.size + 1, 0, none⟩ (.slice T tn tc)).setCell ⟨w.heap.size + 1, 1, none⟩ (.slice A n c)) := by
 have oW := oG.below (hb.mono (show mid ≤ bx by omega))
 have hon : S.1.length = on := by have := oG.1; simpa using this
 obtain ⟨g0, T0, tn0, tc0, -, -, -, -, hc0, -, -, o0⟩ := oW.find hI.head
 rw [hX] at hc0
 injection hc0 with _ hc0
 injection hc0 with _ hc0
 injection hc0 with hc0 _
 injection hc0 with a1 a2 a3
 subst a1 a2 a3
 have hbk : bk S.1 j = Q.map fun q => (S.1.getD q (startF [])).1 := by rw [hw.bk, bk_zero, List.append_nil]
 have hgt : ∀ k, k < n → 0 < Q.getD k 0 ∧ Q.getD k 0 < on := fun k hk => by
  have hk2 : k < Q.length := by omega
  have e : Q.getD k 0 = Q[k] := by simp [List.getD, hk2]
  rw [e]
  have := hw.gt _ (List.getElem_mem hk2)
  omega
 have hinj : ∀ i k, i < n → k < n → Q.getD (n - 1 - i) 0 = Q.getD (n - 1 - k) 0 → i = k := fun i k hi hk e => by
  have h1 : n - 1 - i < Q.length := by omega
  have h2 : n - 1 - k < Q.length := by omega
  have e1 : Q.getD (n - 1 - i) 0 = Q[n - 1 - i] := by simp [List.getD, h1]
  have e2 : Q.getD (n - 1 - k) 0 = Q[n - 1 - k] := by simp [List.getD, h2]
  rw [e1, e2] at e
  have hp := List.pairwise_iff_getElem.1 hw.desc
  rcases Nat.lt_trichotomy (n - 1 - i) (n - 1 - k) with h3 | h3 | h3
  ·have := hp _ _ h1 h2 h3; omega
  ·omega
  ·have := hp _ _ h2 h1 h3; omega
 have oR := pickG (s' := sStep) (D' := (bk S.1 j).reverse) (σ := fun k => Q.getD (n - 1 - k) 0) oW (row_lower hr (show mid ≤ bx + 1 by omega)) hA hlo (fun k hk => (hgt _ (by omega)).2) hinj (by rw [hbk, List.length_reverse, List.length_map, hlen]) (fun k hk => by
  obtain ⟨x, x1, x2⟩ := hc k hk
  obtain ⟨f, hf⟩ : ∃ f, S.1[Q.getD (n - 1 - k) 0]? = some f := ⟨_, List.getElem?_eq_getElem (by have := (hgt (n - 1 - k) (by omega)).2; omega)⟩
  obtain ⟨g1, T1, tn1, tc1, -, -, -, -, hc1, -, o1, -⟩ := oW.find hf
  rw [hc1] at x2
  show Ow wr sStep (cellsOf 3 us k) _ _
  rw [x1, ← x2]
  have e : (bk S.1 j).reverse.getD k (dft sStep) = f.1 := by
   rw [hbk]
   simp only [List.getD]
   have h9 : n - 1 - k < Q.length := by omega
   rw [List.getElem?_reverse (by rw [List.length_map]; omega), List.length_map, hlen, List.getElem?_map, List.getElem?_eq_getElem h9]
   have e1 : Q.getD (n - 1 - k) 0 = Q[n - 1 - k] := by simp [List.getD, h9]
   rw [e1] at hf
   simp [List.getD, hf]
  rw [e]
  exact o1)
 obtain ⟨F, oF, nF, mF⟩ := oR.ow
 obtain ⟨nd1, nd2⟩ := flat_nd.1 oG.2.2.2.2.1
 have h6 : ∀ q ∈ G 0, lo ≤ q ∧ q < mid := fun q hq => by have := (oG.2.2.2.2.2 0 (by have := hI.len1; omega)).2 q hq; exact ⟨this.1, this.2.1⟩
 have h7 : ∀ q ∈ F, bx + 1 ≤ q ∨ ∃ k, 0 < k ∧ k < on ∧ q ∈ G k := fun q hq => by
  rcases mF q hq with h | ⟨k, hk, h⟩
  ·exact .inl (World.ownsRow.lt hr q (by rw [blk_own]; exact h)).1
  ·have := hgt (n - 1 - k) (by omega)
   exact .inr ⟨_, this.1, this.2, h⟩
 have h8 : ∀ q ∈ F, (lo ≤ q ∧ q < mid) ∨ bx + 1 ≤ q := fun q hq => by
  rcases h7 q hq with h | ⟨k, -, hk, h⟩
  ·exact .inr h
  ·have := (oG.2.2.2.2.2 k hk).2 q h; exact .inl ⟨this.1, this.2.1⟩
 have hOw : Ow wr sWalk [.slice T tn tc, .slice A n c] (wkF S.1 j) (G 0 ++ F) := by
  refine ⟨[.slice T tn tc], [.slice A n c], G 0, F, rfl, rfl, ?_, oF⟩
  have e : (wkF S.1 j).1 = termF (startF t) := wk_first hI j
  show Ow wr sI _ (wkF S.1 j).1 _
  rw [e]; exact o0
 have hall : ∀ q ∈ G 0 ++ F, (lo ≤ q ∧ q < mid) ∨ bx + 1 ≤ q := fun q hq => by
  rcases List.mem_append.1 hq with h | h
  ·exact .inl (h6 q h)
  ·exact h8 q h
 refine ⟨_, _, _, _, _, _, rfl, ⟨G 0 ++ F, ?_, List.nodup_append.2 ⟨nd1 0 (by have := hI.len1; omega), nF, fun x hx y hy e => ?_⟩, fun q hq => ?_⟩, (hbel.setCell (show w.heap.size ≤ w.heap.size + 1 by omega) _).setCell (show w.heap.size ≤ w.heap.size + 1 by omega) _⟩
 ·refine hOw.keep fun q hq => ?_
  have := hall q hq
  rw [Below.heap_setCell _ _ _ q (show q ≠ w.heap.size + 1 by omega), Below.heap_setCell _ _ _ q (show q ≠ w.heap.size + 1 by omega)]
 ·subst e
  rcases h7 x hy with h | ⟨k, h0, hk, h⟩
  ·have := h6 x hx; omega
  ·exact nd2 0 k (by omega) hk (by omega) x hx h
 ·rcases hall q hq with h | h
  ·exact .inl h
  ·refine .inr ⟨by omega, ?_⟩
   have := hOw.lt q hq
   simpa using this
set_option maxHeartbeats 4000000 in
theorem implWalk (lo mid : Nat) (O : Option Addr) (on oc mb cnt : Nat) (S : Fs) (U : Option Addr) (un uc : Nat) (u : List Int) (sg : List Int) (rs : List Rl) (t : List Int) (n z : Nat) (w : World) (hO : OwnL w lo mid 153 sFind O on oc (S.1.map fdat)) (hK : Kn w mb cnt (termsF S.1)) (hI : Inv sg rs t n S z) (hU : Seg w w.heap.size U un u) (hu : Small u) (hn : n ≤ 60) (hmid : mid ≤ w.heap.size) (hlo : lo ≤ mid) :
  Calls Tryz.prog 107 #[.agg #[.slice O on oc, .map (some mb), .bool S.2], .slice U un uc] w (AnsRw w lo mid ((plcO (termsF S.1) u).map (wkF S.1))) := by
 obtain ⟨vs, G, oG⟩ := named hO
 have hon : S.1.length = on := by have := oG.1; simpa using this
 obtain ⟨g, T, tn, tc, rfl, -, hg1, hg2, hX, ⟨-, -, e2, -, -⟩, -, -⟩ := oG.find hI.head
 have hon60 : on ≤ 60 := by rw [← hon]; exact hI.len60
 obtain ⟨W, hW, r0, r1, bel⟩ := box2 w 150 86 #[.slice (some ⟨g, 0, none⟩) on oc, .map (some mb), .bool S.2] #[.slice none 0 0, .slice none 0 0]
 have HW := hid hW
 have c1 : W.cell? ⟨w.heap.size, 1, none⟩ = some (.map (some mb)) := r0.cell 1
 have LK := hid (implKeyOf U un uc u W.drew (hU.next bel).drew hu)
 have H0 := hid (show Row W.drew w.heap.size 150 #[.slice (some ⟨g, 0, none⟩) on oc, .map (some mb), .bool S.2] ∧ Row W.drew (w.heap.size + 1) 86 #[.slice none 0 0, .slice none 0 0] ∧ Below w.heap.size w W.drew ∧ Kn W.drew mb cnt (termsF S.1) ∧ Small u from ⟨r0.drew, r1.drew, bel.drew, (hK.below bel).drew, hu⟩)
 have HG := hid (show OwnG w lo mid 153 sFind (some ⟨g, 0, none⟩) on oc (S.1.map fdat) vs G ∧ S.1.length = on ∧ on ≤ 60 ∧ Inv sg rs t n S z ∧ n ≤ 60 ∧ mid ≤ w.heap.size ∧ lo ≤ mid ∧ g < mid ∧ cellsOf 5 vs 0 = [.int .i64 0, .int .i64 0, .slice T tn tc, .int .i64 0, .int .i64 0] ∧ w.cell? ⟨g, 0 * 5 + 2, none⟩ = some (.slice T tn tc) from ⟨oG, hon, hon60, hI, hn, hmid, hlo, hg2, hX, e2⟩)
 obtain ⟨p, hp⟩ : ∃ p, plcO (termsF S.1) u = p := ⟨_, rfl⟩
 have HP := hid hp
 have hnd := hid hI.nodup
 rw [hp]
 clear hW hO hK hI hU hn hmid hlo hon hg1 hg2 hX e2 oG r0 r1 bel hon60 hp hu
 go_enter Tryz.func107, Tryz.ntmps107
 go_upto_region 1 with fail
 rw [← HW.out]
 refine AnyT.start (S := (fun w' => w'.cell? ⟨w.heap.size, 1, none⟩ = some (.map (some mb)))) (fun _ => false) (by kernel_rfl) c1 (fun hHeld => ?_)
 refine AnyT.takeA (i := 0) (v := ?_) rfl (by kernel_rfl) (by kernel_rfl) (by kernel_rfl) (fun _ _ _ h => h) (Or.inl ⟨by rfl, ?_⟩) ?_
 rotate_left 1
 ·(intro w0 _; go_simp; try with_reducible rfl)
 try simp only [Act.put, setIfInBounds_toArray, set_cons_zero, set_cons_succ, getElem_toArray, getElem_cons_zero, getElem_cons_succ]
 refine AnyT.take (i := 1) (v := ?_) rfl (by kernel_rfl) (by kernel_rfl) (by kernel_rfl) (by kernel_rfl) (fun _ _ _ h => h) (Or.inl ⟨by rfl, ?_⟩) (by assumption) ?_
 rotate_left 1
 ·(intro w0 hSw; (try dsimp only at hSw); go_simp; try with_reducible rfl)
 try simp only [Act.put, setIfInBounds_toArray, set_cons_zero, set_cons_succ, getElem_toArray, getElem_cons_zero, getElem_cons_succ]
 refine AnyT.takeA (i := 2) (v := ?_) rfl (by kernel_rfl) (by kernel_rfl) (by kernel_rfl) (fun _ _ _ h => h) (Or.inl ⟨by rfl, ?_⟩) ?_
 rotate_left 1
 ·(intro w0 _; go_simp; try with_reducible rfl)
 try simp only [Act.put, setIfInBounds_toArray, set_cons_zero, set_cons_succ, getElem_toArray, getElem_cons_zero, getElem_cons_succ]
 refine AnyT.call (i := 3) (by kernel_rfl) rfl (fun K hK => ?_)
 try simp only [Act.put, setIfInBounds_toArray, set_cons_zero, set_cons_succ, getElem_toArray, getElem_cons_zero, getElem_cons_succ]
 rw [if_pos (by rfl)]
 go_simp
 (go_at_call 162; refine LK.out.mono ?_; rintro e w1 ⟨rfl, bb⟩; have d1 : w1.cell? ⟨w.heap.size, 1, none⟩ = some (.map (some mb)) := (H0.out.1.next bb).cell 1; go_wp2_with fail)
 refine hK.out _ _ (fun _ _ => ?_) (fun hKeep => ?_)
 ·exact d1
 replace hHeld := hKeep (by first | rfl | trivial) hHeld
 clear hK K hKeep
 try simp only [Act.put, setIfInBounds_toArray, set_cons_zero, set_cons_succ, getElem_toArray, getElem_cons_zero, getElem_cons_succ]
 refine AnyT.call (i := 4) (by kernel_rfl) rfl (fun K hK => ?_)
 try simp only [Act.put, setIfInBounds_toArray, set_cons_zero, set_cons_succ, getElem_toArray, getElem_cons_zero, getElem_cons_succ]
 rw [if_pos (by rfl)]
 refine wp_look _ _ rfl mb cnt (termsF S.1) u (H0.out.2.2.2.1.below bb) H0.out.2.2.2.2 hnd.out rfl rfl ?_
 intro q hq
 rw [HP.out]
 refine hK.out _ _ (fun _ _ => ?_) (fun hKeep => ?_)
 ·exact d1
 replace hHeld := hKeep (by first | rfl | trivial) hHeld
 clear hK K hKeep
 try simp only [Act.put, setIfInBounds_toArray, set_cons_zero, set_cons_succ, getElem_toArray, getElem_cons_zero, getElem_cons_succ]
 refine AnyT.takeA (i := 5) (v := ?_) rfl (by kernel_rfl) (by kernel_rfl) (by kernel_rfl) (fun _ _ _ h => h) (Or.inl ⟨by rfl, ?_⟩) ?_
 rotate_left 1
 ·(intro w0 _; go_simp; try with_reducible rfl)
 try simp only [Act.put, setIfInBounds_toArray, set_cons_zero, set_cons_succ, getElem_toArray, getElem_cons_zero, getElem_cons_succ]
 refine AnyT.takeA (i := 6) (v := ?_) rfl (by kernel_rfl) (by kernel_rfl) (by kernel_rfl) (fun _ _ _ h => h) (Or.inl ⟨by rfl, ?_⟩) ?_
 rotate_left 1
 ·(intro w0 _; go_simp; try with_reducible rfl)
 try simp only [Act.put, setIfInBounds_toArray, set_cons_zero, set_cons_succ, getElem_toArray, getElem_cons_zero, getElem_cons_succ]
 refine AnyT.takeA (i := 7) (v := ?_) rfl (by kernel_rfl) (by kernel_rfl) (by kernel_rfl) (fun _ _ _ h => h) (Or.inl ⟨by rfl, ?_⟩) ?_
 rotate_left 1
 ·(intro w0 _; go_simp; try with_reducible rfl)
 try simp only [Act.put, setIfInBounds_toArray, set_cons_zero, set_cons_succ, getElem_toArray, getElem_cons_zero, getElem_cons_succ]
 refine AnyT.takeA (i := 8) (v := ?_) rfl (by kernel_rfl) (by kernel_rfl) (by kernel_rfl) (fun _ _ _ h => h) (Or.inl ⟨by rfl, ?_⟩) ?_
 rotate_left 1
 ·(intro w0 _; go_simp; try with_reducible rfl)
 try simp only [Act.put, setIfInBounds_toArray, set_cons_zero, set_cons_succ, getElem_toArray, getElem_cons_zero, getElem_cons_succ]
 refine AnyT.takeA (i := 9) (v := ?_) rfl (by kernel_rfl) (by kernel_rfl) (by kernel_rfl) (fun _ _ _ h => h) (Or.inl ⟨by rfl, ?_⟩) ?_
 rotate_left 1
 ·(intro w0 _; go_simp; try with_reducible rfl)
 try simp only [Act.put, setIfInBounds_toArray, set_cons_zero, set_cons_succ, getElem_toArray, getElem_cons_zero, getElem_cons_succ]
 refine AnyT.done (by kernel_rfl) ?_ _
 have H1 := hid (show Row w1 w.heap.size 150 #[.slice (some ⟨g, 0, none⟩) on oc, .map (some mb), .bool S.2] ∧ Row w1 (w.heap.size + 1) 86 #[.slice none 0 0, .slice none 0 0] ∧ Below w.heap.size w w1 from ⟨H0.out.1.next bb, H0.out.2.1.next bb, next_trans H0.out.2.2.1 bb⟩)
 clear d1 c1 bb H0 LK hnd
 cases p with
 | none =>
  obtain ⟨y0, y1, g0, g1, y2, g2, u0, u1⟩ := walk_cells H1.out.2.1 (.slice none 0 0) (.slice none 0 0)
  have F := hid (ansRw_no (lo := lo) (mid := mid) (o := (none : Option Nat).map (wkF S.1)) rfl ((H1.out.2.2.setCell (p := ⟨w.heap.size + 1, 0, none⟩) (by show _ ≤ w.heap.size + 1; omega) (.slice none 0 0)).setCell (p := ⟨w.heap.size + 1, 1, none⟩) (by show _ ≤ w.heap.size + 1; omega) (.slice none 0 0)))
  clear hq HP
  go_wp2
  exact bodyPost_ret (v := .tuple #[.agg #[.slice none 0 0, .slice none 0 0], .bool false]) (by simp [results, Tryz.results107, go_sem, u0, u1]) rfl F.out
 | some j =>
  obtain rfl := hq j HP.out
  have hj : j < S.1.length := by have := (plc_spot HP.out).1; rwa [termsF_len] at this
  obtain ⟨V, hV⟩ : ∃ V, V = w1.alloc (.cells #[.slice T tn tc, .slice none 0 0] 86) := ⟨_, rfl⟩
  have bV : Below w1.heap.size w1 V := by rw [hV]; exact (Below.refl _ _).alloc (Nat.le_refl _) _
  have z1 : w.heap.size + 1 < w1.heap.size := H1.out.2.1.lt
  have zg : g < w.heap.size := by have := HG.out.2.2.2.2.2; omega
  have k0 : w1.cell? ⟨w.heap.size, 0, none⟩ = some (.slice (some ⟨g, 0, none⟩) on oc) := H1.out.1.cell 0
  have k2 : w1.cell? ⟨g, 2, none⟩ = some (.slice T tn tc) := (H1.out.2.2.cell (p := ⟨g, 2, none⟩) zg).trans (by have := HG.out.2.2.2.2.2.2.2.2.2; simpa using this)
  have on0 : (0 : Int) < (on : Int) := by have := HG.out.2.1; omega
  have HV := hid (show V = w1.alloc (.cells #[.slice T tn tc, .slice none 0 0] 86) ∧ OwnG V lo mid 153 sFind (some ⟨g, 0, none⟩) on oc (S.1.map fdat) vs G ∧ Below w.heap.size w V ∧ w.heap.size + 1 < w1.heap.size ∧ j < S.1.length ∧ g < w.heap.size ∧ w1.heap.size < V.heap.size from
   ⟨hV, HG.out.1.below ((next_trans H1.out.2.2 bV).mono HG.out.2.2.2.2.2.1), next_trans H1.out.2.2 bV, z1, hj, zg, by rw [hV]; simp⟩)
  have R0 := hid (show Rw w V w1.heap.size lo mid #[.slice (some ⟨g, 0, none⟩) on oc, .map (some mb), .bool S.2] S.1 vs (.slice T tn tc) j none 0 0 [] j V from
   ⟨way_zero _ _, hj, rfl, ⟨[], World.ownsRow_nil _ _ _ _, fun k hk => by omega⟩, fun _ => rfl, H1.out.1.next bV, H1.out.2.1.next bV, by rw [hV]; exact Row.new _ _ _, Below.refl _ _⟩)
  clear hV bV z1 zg hj H1 hq
  go_wp2_with fail
  rw [← HV.out.1]
  go_loopg [6] j (fun x i_ wr => ∃ (A : Option Addr) (n c : Nat) (Q : List Nat), i_ = .int .i64 (x : Int) ∧ Rw w V w1.heap.size lo mid #[.slice (some ⟨g, 0, none⟩) on oc, .map (some mb), .bool S.2] S.1 vs (.slice T tn tc) j A n c Q x wr)
  case atStart => exact ⟨none, 0, 0, [], rfl, R0.out⟩
  case round =>
   clear R0 k0 k2
   obtain ⟨A, m, c, Q, rfl, R⟩ := hrel
   by_cases h0 : gk = 0
   ·subst h0
    obtain ⟨us, hrow, hus⟩ := R.row
    have LR : Calls Tryz.prog 163 #[.slice A m c] wr (fun e w' => e = .returned (.tuple #[]) ∧ ∃ us', w'.ownsRow (w1.heap.size + 1) 124 3 (.slice A m c) m us' ∧ (∀ k, k < m → cellsOf 3 us' k = cellsOf 3 us (m - 1 - k)) ∧ Below (w1.heap.size + 1) wr w') := by
     by_cases hm : m = 0
     ·subst hm
      exact (revSteps0 A c wr).mono fun e w' ⟨h1, h2⟩ => ⟨h1, us, by rw [h2]; exact hrow, fun k hk => by omega, by rw [h2]; exact Below.refl _ _⟩
     ·obtain ⟨g', rfl⟩ : ∃ g', A = some ⟨g', 0, none⟩ := by
       rcases hrow.2 with ⟨-, h⟩ | ⟨g', cap, cur, e, -⟩
       ·omega
       ·injection e with e1 e2 e3
        exact ⟨g', e1⟩
      have hlt := World.ownsRow.lt hrow g' rfl
      exact (revSteps (w1.heap.size + 1) g' m c us wr hrow (fun k hk => by obtain ⟨x, hx, -⟩ := hus k hk; exact ⟨x, hx⟩)).mono fun e w' ⟨h1, us', h2, h3, h4, h5⟩ => ⟨h1, us', h2, h3, (Below.refl _ _).grown h4 (by omega) (fun k hk => by injection hk with hk; omega)⟩
    have HL := hid LR
    have kA : wr.cell? ⟨w1.heap.size, 1, none⟩ = some (.slice A m c) := R.r3.cell 1
    have HR := hid (show Rw w V w1.heap.size lo mid #[.slice (some ⟨g, 0, none⟩) on oc, .map (some mb), .bool S.2] S.1 vs (.slice T tn tc) j A m c Q 0 wr ∧ ∀ k, k < m → ∃ x : El, cellsOf 3 us k = encEl x ∧ (cellsOf 5 vs (Q.getD k 0)).take 3 = encEl x from ⟨R, hus⟩)
    clear R hus hrow LR
    go_wp2_with fail
    refine HL.out.mono ?_
    rintro e w6 ⟨rfl, us', h2, h3, b6⟩
    have q3 : Row w6 w1.heap.size 86 #[.slice T tn tc, .slice A m c] := HR.out.1.r3.below b6 (by omega)
    have q0 : w6.cell? ⟨w1.heap.size, 0, none⟩ = some (.slice T tn tc) := q3.cell 0
    have q1 : w6.cell? ⟨w1.heap.size, 1, none⟩ = some (.slice A m c) := q3.cell 1
    obtain ⟨y0, y1, g0, g1, y2, g2, u0, u1⟩ := walk_cells (HR.out.1.r1.below b6 (by have := HV.out.2.2.2; omega)) (.slice T tn tc) (.slice A m c)
    have FZ := Rw.answer (w := w) HV.out.2.1 HG.out.2.2.2.1 HV.out.2.2.2.2.1 HR.out.1.way HR.out.1.len (HR.out.1.bel.trans (b6.mono (by omega))) HG.out.2.2.2.2.2.1 HV.out.2.2.2.1 HG.out.2.2.2.2.2.2.1 HG.out.2.2.2.2.2.2.2.2.1 h2 HR.out.1.nil (fun k hk => by
     obtain ⟨x, x1, x2⟩ := HR.out.2 (m - 1 - k) (by omega)
     exact ⟨x, by rw [h3 k hk]; exact x1, x2⟩) (HV.out.2.2.1.trans ((HR.out.1.bel.trans (b6.mono (by omega))).mono (by have := HV.out.2.2.2; omega)))
    have HFZ := hid FZ
    clear FZ q3 h2 h3 b6 HR HL kA HV HG HP
    go_wp2
    exact bodyPost_ret (v := .tuple #[.agg #[.slice T tn tc, .slice A m c], .bool true]) (by simp [results, Tryz.results107, go_sem, u0, u1]) rfl HFZ.out
   ·obtain ⟨f, hf⟩ : ∃ f, S.1[gk]? = some f := ⟨_, List.getElem?_eq_getElem R.lt⟩
    obtain ⟨us, hrow, hus⟩ := R.row
    obtain ⟨g', T', tn', tc', e', -, -, -, hc5, ⟨e0, e1, e2, e3, -⟩, -, -⟩ := HV.out.2.1.find hf
    injection e' with e'
    injection e' with e'
    subst e'
    have hgv : g < w1.heap.size := by have := HV.out.2.2.2; omega
    replace e0 := (R.bel.cell (p := ⟨g, gk * 5, none⟩) hgv).trans e0
    replace e1 := (R.bel.cell (p := ⟨g, gk * 5 + 1, none⟩) hgv).trans e1
    replace e2 := (R.bel.cell (p := ⟨g, gk * 5 + 2, none⟩) hgv).trans e2
    have kA : wr.cell? ⟨w1.heap.size, 1, none⟩ = some (.slice A m c) := R.r3.cell 1
    have kf : wr.cell? ⟨w.heap.size, 0, none⟩ = some (.slice (some ⟨g, 0, none⟩) on oc) := R.r0.cell 0
    have i0 : (0 : Int) ≤ (gk : Int) := by omega
    have i00 : (0 : Int) < (gk : Int) := by omega
    have i1 : (gk : Int) < (on : Int) := by have := R.lt; have := HG.out.2.1; omega
    have hm60 : m ≤ 60 := by rw [← R.len]; exact R.way.len HG.out.2.2.2.1 HV.out.2.2.2.2.1 HG.out.2.2.2.2.1
    have hst := R.way.step HG.out.2.2.2.1 (by omega) hf
    have HQ := hid (show Way S.1 j (Q ++ [gk]) f.2.1 ∧ f.2.1 < gk ∧ Q.length = m ∧ gk < S.1.length ∧ us.length = m * 3 ∧ (∀ k, k < m → ∃ x : El, cellsOf 3 us k = encEl x ∧ (cellsOf 5 vs (Q.getD k 0)).take 3 = encEl x) ∧ cellsOf 5 vs gk = [.int .i64 f.1.1, .int .i64 f.1.2.1, .slice T' tn' tc', .int .i64 (f.2.1 : Int), .int .i64 (f.2.2 : Int)] ∧ V.cell? ⟨g, gk * 5 + 3, none⟩ = some (.int .i64 (f.2.1 : Int)) from ⟨hst.1, hst.2, R.len, R.lt, hrow.1, hus, hc5, e3⟩)
    have HD := hid (show Row wr.drew w.heap.size 150 #[.slice (some ⟨g, 0, none⟩) on oc, .map (some mb), .bool S.2] ∧ Row wr.drew (w.heap.size + 1) 86 #[.slice none 0 0, .slice none 0 0] ∧ Row wr.drew w1.heap.size 86 #[.slice T tn tc, .slice A m c] ∧ wr.drew.ownsRow (w1.heap.size + 1) 124 3 (.slice A m c) m us ∧ Below w1.heap.size V wr.drew from ⟨R.r0.drew, R.r1.drew, R.r3.drew, hrow.drew, R.bel.drew⟩)
    clear hst hf hrow hus hc5 e3 R h0 hgv
    go_upto_region 7 with fail
    refine AnyT.start (S := (fun w' => w'.cell? ⟨w1.heap.size, 1, none⟩ = some (.slice A m c) ∧ w'.cell? ⟨w.heap.size, 0, none⟩ = some (.slice (some ⟨g, 0, none⟩) on oc) ∧ w'.cell? ⟨g, gk * 5, none⟩ = some (.int .i64 f.1.1) ∧ w'.cell? ⟨g, gk * 5 + 1, none⟩ = some (.int .i64 f.1.2.1) ∧ w'.cell? ⟨g, gk * 5 + 2, none⟩ = some (.slice T' tn' tc'))) (fun j => j == 9 || j == 11) (by kernel_rfl) ⟨kA, kf, e0, e1, e2⟩ (fun hHeld => ?_)
    generalize wr.drew = D at HD hHeld ⊢
    refine AnyT.takeA (i := 0) (v := ?_) rfl (by kernel_rfl) (by kernel_rfl) (by kernel_rfl) (fun _ _ _ h => h) (Or.inl ⟨by rfl, ?_⟩) ?_
    rotate_left 1
    ·(intro w0 _; go_simp; try with_reducible rfl)
    try simp only [Act.put, setIfInBounds_toArray, set_cons_zero, set_cons_succ, getElem_toArray, getElem_cons_zero, getElem_cons_succ]
    refine AnyT.takeU (i := 1) (v := ?_) rfl (by kernel_rfl) (by kernel_rfl) (by kernel_rfl) (by kernel_rfl) (by kernel_rfl) (fun _ _ _ h => h) (Or.inl ⟨by rfl, ?_⟩) (by assumption) ?_
    rotate_left 1
    ·(intro w0 hSw; (try dsimp only at hSw); go_simp; try with_reducible rfl)
    try simp only [Act.put, setIfInBounds_toArray, set_cons_zero, set_cons_succ, getElem_toArray, getElem_cons_zero, getElem_cons_succ]
    refine AnyT.takeA (i := 2) (v := ?_) rfl (by kernel_rfl) (by kernel_rfl) (by kernel_rfl) (fun _ _ _ h => h) (Or.inl ⟨by rfl, ?_⟩) ?_
    rotate_left 1
    ·(intro w0 _; go_simp; try with_reducible rfl)
    try simp only [Act.put, setIfInBounds_toArray, set_cons_zero, set_cons_succ, getElem_toArray, getElem_cons_zero, getElem_cons_succ]
    refine AnyT.takeU (i := 3) (v := ?_) rfl (by kernel_rfl) (by kernel_rfl) (by kernel_rfl) (by kernel_rfl) (by kernel_rfl) (fun _ _ _ h => h) (Or.inl ⟨by rfl, ?_⟩) (by assumption) ?_
    rotate_left 1
    ·(intro w0 hSw; (try dsimp only at hSw); go_simp; try with_reducible rfl)
    try simp only [Act.put, setIfInBounds_toArray, set_cons_zero, set_cons_succ, getElem_toArray, getElem_cons_zero, getElem_cons_succ]
    refine AnyT.takeA (i := 4) (v := ?_) rfl (by kernel_rfl) (by kernel_rfl) (by kernel_rfl) (fun _ _ _ h => h) (Or.inl ⟨by rfl, ?_⟩) ?_
    rotate_left 1
    ·(intro w0 _; go_simp; try with_reducible rfl)
    try simp only [Act.put, setIfInBounds_toArray, set_cons_zero, set_cons_succ, getElem_toArray, getElem_cons_zero, getElem_cons_succ]
    refine AnyT.takeA (i := 5) (v := ?_) rfl (by kernel_rfl) (by kernel_rfl) (by kernel_rfl) (fun _ _ _ h => h) (Or.inl ⟨by rfl, ?_⟩) ?_
    rotate_left 1
    ·(intro w0 _; go_simp; try with_reducible rfl)
    try simp only [Act.put, setIfInBounds_toArray, set_cons_zero, set_cons_succ, getElem_toArray, getElem_cons_zero, getElem_cons_succ]
    refine AnyT.takeA (i := 6) (v := ?_) rfl (by kernel_rfl) (by kernel_rfl) (by kernel_rfl) (fun _ _ _ h => h) (Or.inl ⟨by rfl, ?_⟩) ?_
    rotate_left 1
    ·(intro w0 _; go_simp; try with_reducible rfl)
    try simp only [Act.put, setIfInBounds_toArray, set_cons_zero, set_cons_succ, getElem_toArray, getElem_cons_zero, getElem_cons_succ]
    refine AnyT.takeU (i := 7) (v := ?_) rfl (by kernel_rfl) (by kernel_rfl) (by kernel_rfl) (by kernel_rfl) (by kernel_rfl) (fun _ _ _ h => h) (Or.inl ⟨by rfl, ?_⟩) (by assumption) ?_
    rotate_left 1
    ·(intro w0 hSw; (try dsimp only at hSw); go_simp; try with_reducible rfl)
    try simp only [Act.put, setIfInBounds_toArray, set_cons_zero, set_cons_succ, getElem_toArray, getElem_cons_zero, getElem_cons_succ]
    refine AnyT.call (i := 8) (by kernel_rfl) rfl (fun K hK => ?_)
    try simp only [Act.put, setIfInBounds_toArray, set_cons_zero, set_cons_succ, getElem_toArray, getElem_cons_zero, getElem_cons_succ]
    rw [if_pos (by rfl)]
    go_simp
    refine hK.out _ _ (fun _ _ => ?_) (fun hKeep => ?_)
    ·exact ⟨findSpec.keep_alloc hHeld.1, findSpec.keep_alloc hHeld.2.1, findSpec.keep_alloc hHeld.2.2.1, findSpec.keep_alloc hHeld.2.2.2.1, findSpec.keep_alloc hHeld.2.2.2.2⟩
    replace hHeld := hKeep (by first | rfl | trivial) hHeld
    clear hK K hKeep
    try simp only [Act.put, setIfInBounds_toArray, set_cons_zero, set_cons_succ, getElem_toArray, getElem_cons_zero, getElem_cons_succ]
    refine AnyT.call (i := 9) (by kernel_rfl) rfl (fun K hK => ?_)
    try simp only [Act.put, setIfInBounds_toArray, set_cons_zero, set_cons_succ, getElem_toArray, getElem_cons_zero, getElem_cons_succ]
    rw [if_pos (by rfl)]
    have b3 : Below D.heap.size D (D.alloc (.cells #[.int .i64 f.1.1, .int .i64 f.1.2.1, .slice T' tn' tc'] 124)) := (Below.refl _ _).alloc (Nat.le_refl _) _
    have HAPP := hid (show (D.alloc (.cells #[.int .i64 f.1.1, .int .i64 f.1.2.1, .slice T' tn' tc'] 124)).ownsRow (w1.heap.size + 1) 124 3 (.slice A m c) m us ∧ Row (D.alloc (.cells #[.int .i64 f.1.1, .int .i64 f.1.2.1, .slice T' tn' tc'] 124)) D.heap.size 124 #[.int .i64 f.1.1, .int .i64 f.1.2.1, .slice T' tn' tc'] from ⟨HD.out.2.2.2.1.alloc _, Row.new _ _ _⟩)
    refine wp_appR _ _ 84 124 3 _ _ Tryz.underlying84 info_StepS rfl (by decide) (by decide) rfl (w1.heap.size + 1) A m c us rfl HAPP.out.1 D.heap.size 1 [.int .i64 f.1.1, .int .i64 f.1.2.1, .slice T' tn' tc'] rfl (enc_one (f.1.1, f.1.2.1, T', tn', tc')) rfl (fun i hi => (HAPP.out.2.cell i).trans (List.getElem?_toArray ..)) (by omega) (by have := HD.out.2.2.1.lt; simp; omega) ?_
    intro g4 c4 w4 h4 hg4 hat4 b4
    have y4 : w4.cell? ⟨w1.heap.size, 1, none⟩ = some (.slice A m c) := ((HD.out.2.2.1.next b3).below b4 (by omega)).cell 1
    have f4 : w4.frozen? ⟨w1.heap.size, 1, none⟩ = false := ((HD.out.2.2.1.next b3).below b4 (by omega)).free 1
    refine hK.out _ _ (fun h => by cases h) (fun _ => ?_)
    clear hK K
    try simp only [Act.put, setIfInBounds_toArray, set_cons_zero, set_cons_succ, getElem_toArray, getElem_cons_zero, getElem_cons_succ]
    refine AnyT.takeA (i := 10) (v := ?_) rfl (by kernel_rfl) (by kernel_rfl) (by kernel_rfl) (fun _ _ _ h => h) (Or.inl ⟨by rfl, ?_⟩) ?_
    rotate_left 1
    ·(intro w0 _; go_simp; try with_reducible rfl)
    try simp only [Act.put, setIfInBounds_toArray, set_cons_zero, set_cons_succ, getElem_toArray, getElem_cons_zero, getElem_cons_succ]
    refine AnyT.call (i := 11) (by kernel_rfl) rfl (fun K hK => ?_)
    try simp only [Act.put, setIfInBounds_toArray, set_cons_zero, set_cons_succ, getElem_toArray, getElem_cons_zero, getElem_cons_succ]
    rw [if_pos (by rfl)]
    go_simp
    refine hK.out _ _ (fun h => by cases h) (fun _ => ?_)
    clear hK K
    try simp only [Act.put, setIfInBounds_toArray, set_cons_zero, set_cons_succ, getElem_toArray, getElem_cons_zero, getElem_cons_succ]
    refine AnyT.done (by kernel_rfl) ?_ _
    have z1 : D.heap.size ≤ w4.heap.size := by have := hg4.size; simp at this; omega
    have b5 : Below w1.heap.size V (w4.setCell ⟨w1.heap.size, 1, none⟩ (.slice (some ⟨g4, 0, none⟩) (m + 1) c4)) := ((HD.out.2.2.2.2.trans ((b3.mono (Nat.le_of_lt HD.out.2.2.1.lt)).trans (b4.mono (by omega))))).setCell (Nat.le_refl _) _
    have r05 : Row (w4.setCell ⟨w1.heap.size, 1, none⟩ (.slice (some ⟨g4, 0, none⟩) (m + 1) c4)) w.heap.size 150 #[.slice (some ⟨g, 0, none⟩) on oc, .map (some mb), .bool S.2] := ((HD.out.1.next b3).below b4 (by have := HV.out.2.2.2; omega)).far (show w.heap.size ≠ w1.heap.size by have := HV.out.2.2.2; omega) _
    have kz : (w4.setCell ⟨w1.heap.size, 1, none⟩ (.slice (some ⟨g4, 0, none⟩) (m + 1) c4)).cell? ⟨w.heap.size, 0, none⟩ = some (.slice (some ⟨g, 0, none⟩) on oc) := r05.cell 0
    have kw : (w4.setCell ⟨w1.heap.size, 1, none⟩ (.slice (some ⟨g4, 0, none⟩) (m + 1) c4)).cell? ⟨g, gk * 5 + 3, none⟩ = some (.int .i64 (f.2.1 : Int)) := (b5.cell (p := ⟨g, gk * 5 + 3, none⟩) (by have := HV.out.2.2.2; show g < _; omega)).trans HQ.out.2.2.2.2.2.2.2
    have F := hid (show Rw w V w1.heap.size lo mid #[.slice (some ⟨g, 0, none⟩) on oc, .map (some mb), .bool S.2] S.1 vs (.slice T tn tc) j (some ⟨g4, 0, none⟩) (m + 1) c4 (Q ++ [gk]) f.2.1 (w4.setCell ⟨w1.heap.size, 1, none⟩ (.slice (some ⟨g4, 0, none⟩) (m + 1) c4)) from by
     obtain ⟨p1, p2, p3, p4, p5, p6, p7, -⟩ := HQ.out
     have hg4 := (World.ownsRow.lt h4 g4 rfl).1
     refine ⟨p1, by omega, by simp [p3], ⟨us ++ [.int .i64 f.1.1, .int .i64 f.1.2.1, .slice T' tn' tc'], h4.kept (grown_set w4 w1.heap.size 1 _) (.inr (fun e => by injection e with e; have e : g4 = w1.heap.size := e; have hg4 : w1.heap.size + 1 ≤ g4 := hg4; omega)), fun k hk => ?_⟩, (fun e => by cases e), r05, ((HD.out.2.1.next b3).below b4 (by have := HV.out.2.2.2; omega)).far (show w.heap.size + 1 ≠ w1.heap.size by have := HV.out.2.2.2; omega) _, ((HD.out.2.2.1.next b3).below b4 (by omega)).put 1 _, b5⟩
     by_cases hkm : k < m
     ·obtain ⟨x, x1, x2⟩ := p6 k hkm
      exact ⟨x, by rw [ownL.cells_left p5 hkm]; exact x1, by rw [show (Q ++ [gk]).getD k 0 = Q.getD k 0 by simp [List.getD, List.getElem?_append_left (show k < Q.length by omega)]]; exact x2⟩
     ·obtain rfl : k = m := by omega
      refine ⟨(f.1.1, f.1.2.1, T', tn', tc'), by rw [show k = k + 0 from rfl, ownL.cells_right p5]; rfl, ?_⟩
      rw [show (Q ++ [gk]).getD k 0 = gk by simp [List.getD, ← p3], p7]
      rfl)
    have G1 := hid HQ.out.2.1
    clear h4 hg4 hat4 b4 b3 y4 f4 z1 b5 r05 HQ HD HAPP kA kf e0 e1 e2
    go_wp2
    go_roundg (f.2.1)
    case measure => exact G1.out
    case rel => exact ⟨_, m + 1, c4, Q ++ [gk], rfl, F.out⟩
end reachWalk
end
section
namespace iter
open Go.RowKit base shape findW
end iter
end
section
namespace stepSpec
open Go.RowKit base ints sig term termOk endAt endOf marks app sym sub segs segsHelp kinds termFacts shifted matchMath matchSpec shape kindsR kindsW ruleMath ruleSpec stepMath walkMath stepsMath ownL varsOf
set_option maxRecDepth 100000
end stepSpec
end
section
namespace orderSpec
open Go.RowKit base ints sig term termOk endAt endOf marks app sym sub segs segsHelp kinds termFacts shifted matchMath matchSpec shape kindsR kindsW ruleMath ruleSpec stepMath walkMath stepsMath varsOf stepSpec orderMath appAt
set_option maxRecDepth 100000
structure Lo (w : World) (a v : Value) (O : Option Addr) (on oc : Nat) (L : List Int) (wr : World) : Prop where
 r : Row wr w.heap.size 32 #[a, v]
 o : Own wr (w.heap.size + 1) (.slice O on oc) L
 b : Below w.heap.size w wr
section
variable {w wr w' : World} {a v : Value} {O : Option Addr} {on oc : Nat} {L : List Int}
theorem Lo.next (h : Lo w a v O on oc L wr) (hb : Below wr.heap.size wr w') : Lo w a v O on oc L w' := ⟨h.r.next hb, Own.next h.o hb, next_trans h.b hb⟩
theorem Lo.over {O' : Option Addr} {on' oc' : Nat} {L' : List Int} (h : Lo w a v O on oc L wr) (ho : Own w' (w.heap.size + 1) (.slice O' on' oc') L') (hb : Below (w.heap.size + 1) wr w') : Lo w a v O' on' oc' L' w' := ⟨h.r.below hb (Nat.lt_succ_self _), ho, h.b.trans (hb.mono (Nat.le_succ _))⟩
end
end orderSpec
end
section
namespace orderMath
open sig term termOk termFacts endAt posMath inside ruleMath stepMath walkMath stepsMath
section
variable {E : Int → Int} {l : List Int}
end
section
variable {sg : List Int} {rs : List Rl} {t : List Int}
end
end orderMath
end
section
namespace orderSpec
open Go.RowKit base ints sig term termOk endAt endOf marks app sym sub segs segsHelp kinds termFacts shifted matchMath matchSpec shape kindsR kindsW ruleMath ruleSpec stepMath walkMath stepsMath varsOf stepSpec orderMath appAt
set_option maxRecDepth 100000
structure Lq (w : World) (a v : Value) (A : Option Addr) (n c : Nat) (all : List Int) (O : Option Addr) (on oc : Nat) (L : List Int) (wr : World) : Prop where
 t : Lo w a v O on oc L wr
 s : Own wr (w.heap.size + 1) (.slice A n c) all
 ne : ∀ k, blk A = some k → blk O ≠ some k
section
variable {w wr w' : World} {a v : Value} {A O : Option Addr} {n c on oc : Nat} {all L : List Int}
theorem Lq.next (h : Lq w a v A n c all O on oc L wr) (hb : Below wr.heap.size wr w') : Lq w a v A n c all O on oc L w' := ⟨h.t.next hb, Own.next h.s hb, h.ne⟩
end
end orderSpec
end
section
namespace orderSpec
open Go.RowKit base ints sig term termOk endAt endOf marks app sym sub segs segsHelp kinds termFacts shifted shape kindsR kindsW ruleMath ruleSpec stepMath walkMath stepsMath varsOf stepSpec orderMath appAt
set_option maxRecDepth 100000
end orderSpec
end
section
namespace bySpec
open Go.RowKit base ints sig term termOk endAt endOf marks app sym sub segs segsHelp kinds termFacts same shifted shape drawX kindsR kindsW varsOf ruleMath ruleSpec stepMath walkMath stepSpec walkSpec ownL heldT orderMath orderSpec
set_option maxRecDepth 100000
structure Wb (w : World) (T : TypeId) (a v : Value) (B : Nat) (X O : Option Addr) (xn xc on oc : Nat) (fr : List Int) (L : List St) (wr : World) : Prop where
 r0 : Row wr w.heap.size T #[a, v]
 r1 : Row wr (w.heap.size + 1) 86 #[.slice none 0 0, .slice none 0 0]
 r3 : Row wr B 86 #[.slice X xn xc, .slice O on oc]
 x : Ownd wr (w.heap.size + 1 + 1) B X xn xc fr
 o : OwnL wr (B + 1) wr.heap.size 124 sStep O on oc L
 b : Below w.heap.size w wr
 z : w.heap.size + 1 + 1 ≤ B
theorem Wb.next {w wr w' : World} {T : TypeId} {a v : Value} {B : Nat} {X O : Option Addr} {xn xc on oc : Nat} {fr : List Int} {L : List St} (h : Wb w T a v B X O xn xc on oc fr L wr) (hb : Below wr.heap.size wr w') : Wb w T a v B X O xn xc on oc fr L w' :=
 ⟨h.r0.next hb, h.r1.next hb, h.r3.next hb, h.x.next hb, (h.o.next hb).wider (Nat.le_refl _) hb.size, next_trans h.b hb, h.z⟩
theorem AnsWalk.next {w w1 w2 : World} {k : Wk} {b : Bool} {e : Ending} (h : AnsWalk w k b e w1) (hb : Below w1.heap.size w1 w2) : AnsWalk w k b e w2 := by
 obtain ⟨A0, n0, c0, A1, n1, c1, he, ho, hw⟩ := h
 exact ⟨A0, n0, c0, A1, n1, c1, he, (ho.next hb).wider (Nat.le_refl _) hb.size, next_trans hw hb⟩
end bySpec
end
section
namespace bySpec
open Go.RowKit base ints sig term termOk endAt endOf marks app sym sub segs segsHelp kinds termFacts same shifted shape drawX kindsR kindsW varsOf ruleMath ruleSpec stepMath walkMath stepSpec walkSpec walkX ownL heldT orderMath orderSpec
set_option maxRecDepth 100000
end bySpec
end
section
open Go.Lib (hid)
open List (setIfInBounds_toArray set_cons_zero set_cons_succ getElem_toArray getElem_cons_zero getElem_cons_succ)
namespace joinSpec
open Go.RowKit base ints sig term termOk termFacts marks app sub varsOf appAt sym segs segsHelp kinds same shifted shape kindsR kindsW ruleMath ruleSpec stepMath stepSpec ownL drawX walkMath stepsMath reachMath findW findSpec heldT longest walkSpec reachSpec
set_option maxRecDepth 100000
def AnsJ (w : World) (o : Option (Wk × Wk)) (e : Ending) (w' : World) : Prop := ∃ A0 n0 c0 A1 n1 c1 B0 m0 d0 B1 m1 d1, e = .returned (.tuple #[.agg #[.slice A0 n0 c0, .slice A1 n1 c1], .agg #[.slice B0 m0 d0, .slice B1 m1 d1], .bool o.isSome]) ∧
 (∃ F G, Ow w' sWalk [.slice A0 n0 c0, .slice A1 n1 c1] (o.getD (([], []), ([], []))).1 F ∧ Ow w' sWalk [.slice B0 m0 d0, .slice B1 m1 d1] (o.getD (([], []), ([], []))).2 G ∧ (F ++ G).Nodup ∧ ∀ q ∈ F ++ G, w.heap.size ≤ q ∧ q < w'.heap.size) ∧ Below w.heap.size w w'
theorem zero_ow (w : World) : Ow w sWalk [.slice none 0 0, .slice none 0 0] (([], []) : List Int × List St) [] := ⟨[.slice none 0 0], [.slice none 0 0], [], [], rfl, rfl, ⟨none, 0, 0, rfl, rfl, .inl ⟨rfl, rfl, rfl, rfl⟩⟩, ⟨none, 0, 0, rfl, rfl, .inl ⟨rfl, rfl, rfl, rfl⟩⟩⟩
theorem ansJ_no {o : Option (Wk × Wk)} (h : o = none) {w w' : World} (hb : Below w.heap.size w w') : AnsJ w o (.returned (.tuple #[.agg #[.slice none 0 0, .slice none 0 0], .agg #[.slice none 0 0, .slice none 0 0], .bool false])) w' := by
 subst h
 exact ⟨none, 0, 0, none, 0, 0, none, 0, 0, none, 0, 0, rfl, ⟨[], [], zero_ow _, zero_ow _, List.nodup_nil, fun k hk => by cases hk⟩, hb⟩
def put4 (wr : World) (i j : Nat) (x y p q : Value) : World := (((wr.setCell ⟨i, 0, none⟩ x).setCell ⟨i, 1, none⟩ y).setCell ⟨j, 0, none⟩ p).setCell ⟨j, 1, none⟩ q
theorem two_cells {wr : World} {i j : Nat} {a b c d : Value} (r : Row wr i 86 #[a, b]) (s : Row wr j 86 #[c, d]) (hij : i ≠ j) (x y p q : Value) :
  (wr.cell? ⟨i, 0, none⟩ = some a ∧ wr.cell? ⟨i, 1, none⟩ = some b ∧ wr.frozen? ⟨i, 0, none⟩ = false ∧ wr.frozen? ⟨i, 1, none⟩ = false ∧
  (wr.setCell ⟨i, 0, none⟩ x).cell? ⟨i, 1, none⟩ = some b ∧ (wr.setCell ⟨i, 0, none⟩ x).frozen? ⟨i, 1, none⟩ = false) ∧
  (((wr.setCell ⟨i, 0, none⟩ x).setCell ⟨i, 1, none⟩ y).cell? ⟨j, 0, none⟩ = some c ∧ ((wr.setCell ⟨i, 0, none⟩ x).setCell ⟨i, 1, none⟩ y).cell? ⟨j, 1, none⟩ = some d ∧ ((wr.setCell ⟨i, 0, none⟩ x).setCell ⟨i, 1, none⟩ y).frozen? ⟨j, 0, none⟩ = false ∧ ((wr.setCell ⟨i, 0, none⟩ x).setCell ⟨i, 1, none⟩ y).frozen? ⟨j, 1, none⟩ = false ∧
  (((wr.setCell ⟨i, 0, none⟩ x).setCell ⟨i, 1, none⟩ y).setCell ⟨j, 0, none⟩ p).cell? ⟨j, 1, none⟩ = some d ∧ (((wr.setCell ⟨i, 0, none⟩ x).setCell ⟨i, 1, none⟩ y).setCell ⟨j, 0, none⟩ p).frozen? ⟨j, 1, none⟩ = false) ∧
  ((((wr.setCell ⟨i, 0, none⟩ x).setCell ⟨i, 1, none⟩ y).setCell ⟨j, 0, none⟩ p).setCell ⟨j, 1, none⟩ q).cell? ⟨i, 0, none⟩ = some x ∧ ((((wr.setCell ⟨i, 0, none⟩ x).setCell ⟨i, 1, none⟩ y).setCell ⟨j, 0, none⟩ p).setCell ⟨j, 1, none⟩ q).cell? ⟨i, 1, none⟩ = some y ∧
  ((((wr.setCell ⟨i, 0, none⟩ x).setCell ⟨i, 1, none⟩ y).setCell ⟨j, 0, none⟩ p).setCell ⟨j, 1, none⟩ q).cell? ⟨j, 0, none⟩ = some p ∧ ((((wr.setCell ⟨i, 0, none⟩ x).setCell ⟨i, 1, none⟩ y).setCell ⟨j, 0, none⟩ p).setCell ⟨j, 1, none⟩ q).cell? ⟨j, 1, none⟩ = some q := by
 have ra := r.put 0 x
 have rb := ra.put 1 y
 have sb := (s.far (p := ⟨i, 0, none⟩) (Ne.symm hij) x).far (p := ⟨i, 1, none⟩) (Ne.symm hij) y
 have sc := sb.put 0 p
 have sd := sc.put 1 q
 have rd := (rb.far (p := ⟨j, 0, none⟩) hij p).far (p := ⟨j, 1, none⟩) hij q
 exact ⟨⟨r.cell 0, r.cell 1, r.free 0, r.free 1, ra.cell 1, ra.free 1⟩, ⟨sb.cell 0, sb.cell 1, sb.free 0, sb.free 1, sc.cell 1, sc.free 1⟩, rd.cell 0, rd.cell 1, sd.cell 0, sd.cell 1⟩
theorem put4_below {w wr : World} (hb : Below w.heap.size w wr) (x y p q : Value) : Below w.heap.size w (put4 wr (w.heap.size + 1) (w.heap.size + 1 + 1) x y p q) :=
 (((hb.setCell (p := ⟨w.heap.size + 1, 0, none⟩) (by show _ ≤ w.heap.size + 1; omega) _).setCell (p := ⟨w.heap.size + 1, 1, none⟩) (by show _ ≤ w.heap.size + 1; omega) _).setCell (p := ⟨w.heap.size + 1 + 1, 0, none⟩) (by show _ ≤ w.heap.size + 1 + 1; omega) _).setCell (p := ⟨w.heap.size + 1 + 1, 1, none⟩) (by show _ ≤ w.heap.size + 1 + 1; omega) _
theorem put4_block (wr : World) (i j : Nat) (x y p q : Value) (k : Nat) (h1 : k ≠ i) (h2 : k ≠ j) : (put4 wr i j x y p q).heap[k]? = wr.heap[k]? := by
 unfold put4
 rw [Below.heap_setCell _ _ _ k h2, Below.heap_setCell _ _ _ k h2, Below.heap_setCell _ _ _ k h1, Below.heap_setCell _ _ _ k h1]
theorem put4_size (wr : World) (i j : Nat) (x y p q : Value) : (put4 wr i j x y p q).heap.size = wr.heap.size := by unfold put4; simp
theorem ansJ_yes {w wr : World} {o : Option (Wk × Wk)} {k : Wk × Wk} (h : o = some k) {A0 A1 B0 B1 : Option Addr} {n0 c0 n1 c1 m0 d0 m1 d1 : Nat} {F G : List Nat} (h1 : Ow wr sWalk [.slice A0 n0 c0, .slice A1 n1 c1] k.1 F) (h2 : Ow wr sWalk [.slice B0 m0 d0, .slice B1 m1 d1] k.2 G) (h3 : (F ++ G).Nodup) (h4 : ∀ q ∈ F ++ G, w.heap.size + 1 + 1 < q ∧ q < wr.heap.size) (hb : Below w.heap.size w wr) :
  AnsJ w o (.returned (.tuple #[.agg #[.slice A0 n0 c0, .slice A1 n1 c1], .agg #[.slice B0 m0 d0, .slice B1 m1 d1], .bool true])) (put4 wr (w.heap.size + 1) (w.heap.size + 1 + 1) (.slice A0 n0 c0) (.slice A1 n1 c1) (.slice B0 m0 d0) (.slice B1 m1 d1)) := by
 subst h
 refine ⟨_, _, _, _, _, _, _, _, _, _, _, _, rfl, ⟨F, G, h1.keep fun q hq => ?_, h2.keep fun q hq => ?_, h3, fun q hq => ?_⟩, put4_below hb _ _ _ _⟩
 ·have := h4 q (List.mem_append_left _ hq)
  exact put4_block _ _ _ _ _ _ _ q (by omega) (by omega)
 ·have := h4 q (List.mem_append_right _ hq)
  exact put4_block _ _ _ _ _ _ _ q (by omega) (by omega)
 ·have := h4 q hq
  rw [put4_size]
  omega
section
variable {sg : List Int} {rs : List Rl} {a b : List Int} {x : Int} {L M : List Fi}
theorem join_no1 (h : right9 sg rs a x = false) : joinO sg rs a b x = none := by unfold joinO; rw [if_neg (by rw [h]; simp)]
theorem join_no2 (h : right9 sg rs b x = false) : joinO sg rs a b x = none := by unfold joinO; rw [if_neg (by rw [h]; simp)]
theorem join_yes {n : Nat} (h : right9 sg rs a (n : Int) = true) (h2 : right9 sg rs b (n : Int) = true) : joinO sg rs a b (n : Int) = (firstJ (fdA sg rs a n).1 (fdA sg rs b n).1).map fun p => (wkF (fdA sg rs a n).1 p.1, wkF (fdA sg rs b n).1 p.2) := by unfold joinO; rw [if_pos (by rw [h, h2]; rfl), Int.toNat_natCast]
theorem fst_go {α : Type} {f : Nat → Option α} : ∀ {n i : Nat} {y : α}, i < n → (∀ k, k < i → f k = none) → f i = some y → (List.range n).findSome? f = some y := by
 intro n
 induction n with
 | zero => intro i y h; omega
 | succ n ih =>
  intro i y h h1 h2
  rw [List.range_succ, List.findSome?_append]
  by_cases e : i = n
  ·subst e
   have : (List.range i).findSome? f = none := by
    rw [List.findSome?_eq_none_iff]
    intro k hk
    exact h1 k (List.mem_range.1 hk)
   rw [this]
   simp [h2]
  ·rw [ih (by omega) h1 h2]; rfl
theorem firstJ_some {i j : Nat} (hi : i < L.length) (h1 : ∀ k, k < i → plcO (termsF M) ((termsF L).getD k []) = none) (h2 : plcO (termsF M) ((termsF L).getD i []) = some j) : firstJ L M = some (i, j) := by
 have e : ∀ k, k < L.length → (termsF L).getD k [] = termF (L.getD k (startF [])) := fun k hk => by simp [termsF, List.getD, hk]
 unfold firstJ
 refine fst_go hi (fun k hk => ?_) ?_
 ·have := h1 k hk
  rw [e k (by omega)] at this
  show (numF M _).map _ = none
  have h9 : numF M (termF (L.getD k (startF []))) = none := this
  rw [h9]; rfl
 ·rw [e i hi] at h2
  have h9 : numF M (termF (L.getD i (startF []))) = some j := h2
  show (numF M _).map _ = _
  rw [h9]; rfl
theorem firstJ_none (h1 : ∀ k, k < L.length → plcO (termsF M) ((termsF L).getD k []) = none) : firstJ L M = none := by
 have e : ∀ k, k < L.length → (termsF L).getD k [] = termF (L.getD k (startF [])) := fun k hk => by simp [termsF, List.getD, hk]
 unfold firstJ
 rw [List.findSome?_eq_none_iff]
 intro k hk
 have hk := List.mem_range.1 hk
 have := h1 k hk
 rw [e k hk] at this
 have h9 : numF M (termF (L.getD k (startF []))) = none := this
 rw [h9]; rfl
end
theorem box3 (w : World) (t t' t'' : TypeId) (cs cs' cs'' : Array Value) : ∃ W, W = ((w.alloc (.cells cs t)).alloc (.cells cs' t')).alloc (.cells cs'' t'') ∧ Row W w.heap.size t cs ∧ Row W (w.heap.size + 1) t' cs' ∧ Row W (w.heap.size + 1 + 1) t'' cs'' ∧ Below w.heap.size w W := by
 refine ⟨_, rfl, ((Row.new w _ _).alloc _).alloc _, ?_, ?_, (((Below.refl _ _).alloc (Nat.le_refl _) _).alloc (by simp) _).alloc (by simp; omega) _⟩
 ·have := (Row.new (w.alloc (.cells cs t)) t' cs').alloc (.cells cs'' t''); simpa using this
 ·have := Row.new ((w.alloc (.cells cs t)).alloc (.cells cs' t')) t'' cs''; simpa using this
structure Js (w : World) (a v : Value) (fb gb : Nat) (fs gs : Array Value) (SA SB : Fs) (FA FB : List Value) (wr : World) : Prop where
 r1 : Row wr (w.heap.size + 1) 86 #[.slice none 0 0, .slice none 0 0]
 r2 : Row wr (w.heap.size + 1 + 1) 86 #[.slice none 0 0, .slice none 0 0]
 f : Row wr fb 156 fs
 g : Row wr gb 156 gs
 rf : Rd wr wr.heap.size sFound FA (fdD SA)
 rg : Rd wr wr.heap.size sFound FB (fdD SB)
 b : Below w.heap.size w wr
theorem Js.next {w : World} {a v : Value} {fb gb : Nat} {fs gs : Array Value} {SA SB : Fs} {FA FB : List Value} {wr w' : World} (h : Js w a v fb gb fs gs SA SB FA FB wr) (hb : Below wr.heap.size wr w') : Js w a v fb gb fs gs SA SB FA FB w' :=
 ⟨h.r1.next hb, h.r2.next hb, h.f.next hb, h.g.next hb, h.rf.next hb, h.rg.next hb, next_trans h.b hb⟩
set_option maxHeartbeats 4000000 in
theorem specJoinOf (a v u y : Value) (d : Dat sSystem) (t s : List Int) (x : Int) (w : World) (h : Rd w w.heap.size sSystem [a, v] d) (ht : Rd w w.heap.size sI [u] t) (hs : Rd w w.heap.size sI [y] s) (hz : sz sSystem d ≤ 1048576) (hz1 : sz sI t ≤ 1048576) (hz2 : sz sI s ≤ 1048576) :
  Calls Tryz.prog 113 #[.agg #[a, v], u, y, .int .i64 x] w (AnsJ w (joinO d.1 d.2 t s x)) := by
 obtain ⟨T, m, c, rfl, hT, hcT⟩ := rd_ints.1 ht
 obtain ⟨T', m', c', rfl, hT', hcT'⟩ := rd_ints.1 hs
 have hm := len_ints hT.1 hz1
 have hm' := len_ints hT'.1 hz2
 obtain ⟨W, hW, rA, rR, rQ, bel⟩ := box3 w 32 86 86 #[a, v] #[.slice none 0 0, .slice none 0 0] #[.slice none 0 0, .slice none 0 0]
 have HW := hid hW
 have L1 := hid (l9Right a v d T m c t x W (h.next bel) hz (hT.next bel) hm)
 have L2 := hid (fun (w1 : World) (bb : Below w.heap.size w w1) => l9Right a v d T' m' c' s x w1 (h.next bb) hz (hT'.next bb) hm')
 have HH := hid (show Rd w w.heap.size sSystem [a, v] d ∧ Rd w w.heap.size sI [.slice T m c] t ∧ sz sSystem d ≤ 1048576 ∧ Rd w w.heap.size sI [.slice T' m' c'] s from ⟨h, ht, hz, hs⟩)
 clear hW h ht hs hz hT hcT hT' hcT'
 cases ok : right9 d.1 d.2 t x with
 | false =>
  have HO := hid (join_no1 (b := s) ok)
  rw [ok] at L1
  clear ok
  go_enter Tryz.func113, Tryz.ntmps113
  go_wp2_with fail
  rw [← HW.out]
  refine L1.out.mono ?_
  rintro e w1 ⟨rfl, bb⟩
  obtain ⟨⟨p0, p1, p2, p3, p4, p5⟩, ⟨q0, q1, q2, q3, q4, q5⟩, u0, u1, u2, u3⟩ := two_cells (rR.next bb) (rQ.next bb) (by omega) (.slice none 0 0) (.slice none 0 0) (.slice none 0 0) (.slice none 0 0)
  have F := hid (ansJ_no HO.out (put4_below (next_trans bel bb) (.slice none 0 0) (.slice none 0 0) (.slice none 0 0) (.slice none 0 0)))
  clear bb bel rA rR rQ L1 L2 HW
  go_wp2
  exact bodyPost_ret (v := .tuple #[.agg #[.slice none 0 0, .slice none 0 0], .agg #[.slice none 0 0, .slice none 0 0], .bool false]) (by simp [results, Tryz.results113, go_sem, u0, u1, u2, u3]) rfl F.out
 | true =>
  rw [ok] at L1
  go_enter Tryz.func113, Tryz.ntmps113
  go_wp2_with fail
  rw [← HW.out]
  refine L1.out.mono ?_
  rintro e w1 ⟨rfl, bb⟩
  have b1 := next_trans bel bb
  have LL := hid (L2.out w1 b1)
  have k0 : w1.cell? ⟨w.heap.size, 0, none⟩ = some a := (rA.next bb).cell 0
  have k1 : w1.cell? ⟨w.heap.size, 1, none⟩ = some v := (rA.next bb).cell 1
  have H1 := hid (show Row w1 w.heap.size 32 #[a, v] ∧ Row w1 (w.heap.size + 1) 86 #[.slice none 0 0, .slice none 0 0] ∧ Row w1 (w.heap.size + 1 + 1) 86 #[.slice none 0 0, .slice none 0 0] ∧ Below w.heap.size w w1 from ⟨rA.next bb, rR.next bb, rQ.next bb, b1⟩)
  clear bb bel b1 rA rR rQ L1 L2 HW
  cases ok2 : right9 d.1 d.2 s x with
  | false =>
   have HO := hid (join_no2 (a := t) ok2)
   rw [ok2] at LL
   clear ok ok2
   go_wp2_with fail
   refine LL.out.mono ?_
   rintro e w2 ⟨rfl, bb⟩
   obtain ⟨⟨p0, p1, p2, p3, p4, p5⟩, ⟨q0, q1, q2, q3, q4, q5⟩, u0, u1, u2, u3⟩ := two_cells (H1.out.2.1.next bb) (H1.out.2.2.1.next bb) (by omega) (.slice none 0 0) (.slice none 0 0) (.slice none 0 0) (.slice none 0 0)
   have F := hid (ansJ_no HO.out (put4_below (next_trans H1.out.2.2.2 bb) (.slice none 0 0) (.slice none 0 0) (.slice none 0 0) (.slice none 0 0)))
   clear bb LL k0 k1 H1
   go_wp2
   exact bodyPost_ret (v := .tuple #[.agg #[.slice none 0 0, .slice none 0 0], .agg #[.slice none 0 0, .slice none 0 0], .bool false]) (by simp [results, Tryz.results113, go_sem, u0, u1, u2, u3]) rfl F.out
  | true =>
   rw [ok2] at LL
   obtain ⟨r1, r2, r3⟩ := r9_parts ok
   obtain ⟨r4, -, -⟩ := r9_parts ok2
   obtain ⟨n, rfl⟩ : ∃ n : Nat, x = (n : Int) := ⟨x.toNat, by omega⟩
   have HO := hid (join_yes ok ok2)
   have hn : n ≤ 20 := by omega
   have HQ := hid (And.intro r1 r4)
   clear ok ok2 r1 r2 r3 r4
   go_wp2_with fail
   refine LL.out.mono ?_
   rintro e w2 ⟨rfl, bb⟩
   have b2 := next_trans H1.out.2.2.2 bb
   have k0 : w2.cell? ⟨w.heap.size, 0, none⟩ = some a := (H1.out.1.next bb).cell 0
   have k1 : w2.cell? ⟨w.heap.size, 1, none⟩ = some v := (H1.out.1.next bb).cell 1
   have LF := hid (l9Find a v (.slice T m c) d t n w2 (HH.out.1.next b2) (HH.out.2.1.next b2) HH.out.2.2.1 HQ.out.1 hn)
   have LG := hid (fun (w9 : World) (b9 : Below w.heap.size w w9) => l9Find a v (.slice T' m' c') d s n w9 (HH.out.1.next b9) (HH.out.2.2.2.next b9) HH.out.2.2.1 HQ.out.2 hn)
   have H2 := hid (show Row w2 w.heap.size 32 #[a, v] ∧ Row w2 (w.heap.size + 1) 86 #[.slice none 0 0, .slice none 0 0] ∧ Row w2 (w.heap.size + 1 + 1) 86 #[.slice none 0 0, .slice none 0 0] ∧ Below w.heap.size w w2 from ⟨H1.out.1.next bb, H1.out.2.1.next bb, H1.out.2.2.1.next bb, b2⟩)
   clear bb b2 LL H1
   go_wp2_with fail
   refine LF.out.mono ?_
   rintro e w3 ⟨T2, tn, tc, P, pn, pc, Y, yn, yc, E, en, ec, rfl, hR, bb⟩
   obtain ⟨SA, hS⟩ : ∃ S, fdA d.1 d.2 t n = S := ⟨_, rfl⟩
   have hI : Inv d.1 d.2 t n SA 60 := by rw [← hS]; exact fd_inv
   have hsm := fd_small (n := n) HQ.out.1
   rw [hS] at hR hsm HO
   rw [hS]
   obtain ⟨V, hV⟩ : ∃ V, V = w3.alloc (.cells #[.slice T2 tn tc, .slice P pn pc, .slice Y yn yc, .slice E en ec, .bool SA.2] 156) := ⟨_, rfl⟩
   have bV : Below w3.heap.size w3 V := by rw [hV]; exact (Below.refl _ _).alloc (Nat.le_refl _) _
   have rV : Row V w3.heap.size 156 #[.slice T2 tn tc, .slice P pn pc, .slice Y yn yc, .slice E en ec, .bool SA.2] := by rw [hV]; exact Row.new _ _ _
   have b3 := next_trans (next_trans H2.out.2.2.2 bb) bV
   have k0 : (w3.alloc (.cells #[.slice T2 tn tc, .slice P pn pc, .slice Y yn yc, .slice E en ec, .bool SA.2] 156)).cell? ⟨w.heap.size, 0, none⟩ = some a := by rw [← hV]; exact ((H2.out.1.next bb).next bV).cell 0
   have k1 : (w3.alloc (.cells #[.slice T2 tn tc, .slice P pn pc, .slice Y yn yc, .slice E en ec, .bool SA.2] 156)).cell? ⟨w.heap.size, 1, none⟩ = some v := by rw [← hV]; exact ((H2.out.1.next bb).next bV).cell 1
   have LG2 := hid (LG.out V b3)
   have H3 := hid (show V = w3.alloc (.cells #[.slice T2 tn tc, .slice P pn pc, .slice Y yn yc, .slice E en ec, .bool SA.2] 156) ∧ Row V (w.heap.size + 1) 86 #[.slice none 0 0, .slice none 0 0] ∧ Row V (w.heap.size + 1 + 1) 86 #[.slice none 0 0, .slice none 0 0] ∧ Row V w3.heap.size 156 #[.slice T2 tn tc, .slice P pn pc, .slice Y yn yc, .slice E en ec, .bool SA.2] ∧ Rd V V.heap.size sFound [.slice T2 tn tc, .slice P pn pc, .slice Y yn yc, .slice E en ec, .bool SA.2] (fdD SA) ∧ Below w.heap.size w V from
    ⟨hV, (H2.out.2.1.next bb).next bV, (H2.out.2.2.1.next bb).next bV, rV, hR.next bV, b3⟩)
   have HI := hid (And.intro hI hsm)
   clear hR hS hI hsm bb LF LG H2 hV bV rV b3
   go_wp2_with fail
   rw [← H3.out.1]
   refine LG2.out.mono ?_
   rintro e w4 ⟨T3, sn, sc, P3, an, ac, Y3, bn, bc, E3, dn, dc, rfl, hR, bb⟩
   obtain ⟨SB, hS⟩ : ∃ S, fdA d.1 d.2 s n = S := ⟨_, rfl⟩
   have hI : Inv d.1 d.2 s n SB 60 := by rw [← hS]; exact fd_inv
   have hsm := fd_small (n := n) HQ.out.2
   rw [hS] at hR hsm HO
   rw [hS]
   obtain ⟨V2, hV2⟩ : ∃ V, V = w4.alloc (.cells #[.slice T3 sn sc, .slice P3 an ac, .slice Y3 bn bc, .slice E3 dn dc, .bool SB.2] 156) := ⟨_, rfl⟩
   have bV : Below w4.heap.size w4 V2 := by rw [hV2]; exact (Below.refl _ _).alloc (Nat.le_refl _) _
   obtain ⟨fs, hfs⟩ : ∃ fs : Array Value, fs = #[.slice T2 tn tc, .slice P pn pc, .slice Y yn yc, .slice E en ec, .bool SA.2] := ⟨_, rfl⟩
   obtain ⟨gs, hgs⟩ : ∃ gs : Array Value, gs = #[.slice T3 sn sc, .slice P3 an ac, .slice Y3 bn bc, .slice E3 dn dc, .bool SB.2] := ⟨_, rfl⟩
   have J0 := hid (show Js w a v w3.heap.size w4.heap.size fs gs SA SB [.slice T2 tn tc, .slice P pn pc, .slice Y yn yc, .slice E en ec, .bool SA.2] [.slice T3 sn sc, .slice P3 an ac, .slice Y3 bn bc, .slice E3 dn dc, .bool SB.2] V2 from
    ⟨(H3.out.2.1.next bb).next bV, (H3.out.2.2.1.next bb).next bV, by rw [hfs]; exact (H3.out.2.2.2.1.next bb).next bV, by rw [hgs, hV2]; exact Row.new _ _ _, (H3.out.2.2.2.2.1.next bb).next bV, hR.next bV, next_trans (next_trans H3.out.2.2.2.2.2 bb) bV⟩)
   have HV2 := hid hV2
   have HF := hid (And.intro hfs hgs)
   have HJ := hid (And.intro hI hsm)
   clear hR hS hI hsm bb LG2 H3 hV2 bV hfs hgs k0 k1
   have htn : (termsF SA.1).length = tn := rd_ts (parts_found J0.out.rf).1
   have htn60 : tn ≤ 60 := by rw [← htn, termsF_len]; exact HI.out.2.1
   have HTN := hid htn
   clear htn
   go_wp2_with fail
   rw [← HV2.out]
   go_loopg [13] tn (fun gg i_ wr => ∃ i : Nat, i_ = .int .i64 (i : Int) ∧ i + gg = tn ∧ (∀ k, k < i → plcO (termsF SB.1) ((termsF SA.1).getD k []) = none) ∧ Js w a v w3.heap.size w4.heap.size fs gs SA SB [.slice T2 tn tc, .slice P pn pc, .slice Y yn yc, .slice E en ec, .bool SA.2] [.slice T3 sn sc, .slice P3 an ac, .slice Y3 bn bc, .slice E3 dn dc, .bool SB.2] wr)
   case atStart => exact ⟨0, rfl, by omega, fun k hk => by omega, J0.out⟩
   case round =>
    clear J0
    obtain ⟨i, rfl, hg, hno, J⟩ := hrel
    have c0 : wr.cell? ⟨w3.heap.size, 0, none⟩ = some (.slice T2 tn tc) := by rw [J.f.cell 0, HF.out.1]; rfl
    by_cases hi : i < tn
    ·obtain ⟨tb, toff, U, un, uc, rfl, htb, ct, hU, hcU⟩ := rd_term (parts_found J.rf).1 (Below.refl _ _) hi
     obtain ⟨y, hy⟩ : ∃ y, (termsF SA.1).getD i [] = y := ⟨_, rfl⟩
     rw [hy] at hU
     have hun : un ≤ 1048576 := by rw [← hU.1, ← hy]; exact HI.out.2.2 i
     have hsn : sn ≤ 1048576 := by rw [← rd_ts (parts_found J.rg).1, termsF_len]; have := HJ.out.2.1; omega
     have JD := J.next (drew_below wr)
     have LP := hid (termPlace T3 U sn sc un uc (termsF SB.1) y wr.drew (parts_found JD.rg).1 hU.drew hsn hun HJ.out.2.2)
     have c1 : wr.cell? ⟨w4.heap.size, 0, none⟩ = some (.slice T3 sn sc) := by rw [J.g.cell 0, HF.out.2]; rfl
     have i0 : (0 : Int) ≤ (i : Int) := by omega
     have i1 : (i : Int) < (tn : Int) := by omega
     have HX := hid (show Js w a v w3.heap.size w4.heap.size fs gs SA SB [.slice (some ⟨tb, toff, none⟩) tn tc, .slice P pn pc, .slice Y yn yc, .slice E en ec, .bool SA.2] [.slice T3 sn sc, .slice P3 an ac, .slice Y3 bn bc, .slice E3 dn dc, .bool SB.2] wr.drew ∧ i + gk = tn ∧ (∀ k, k < i → plcO (termsF SB.1) ((termsF SA.1).getD k []) = none) ∧ (termsF SA.1).getD i [] = y ∧ tb < wr.drew.heap.size from ⟨JD, hg, hno, hy, htb⟩)
     clear hU hcU J JD hg hno hy htb hun hsn
     go_wp2_with fail
     go_region_held3 (fun w' => w'.cell? ⟨w3.heap.size, 0, none⟩ = some (.slice (some ⟨tb, toff, none⟩) tn tc) ∧ w'.cell? ⟨w4.heap.size, 0, none⟩ = some (.slice T3 sn sc) ∧ w'.cell? ⟨tb, toff + i, none⟩ = some (.slice U un uc))
      (go_keep)
      (first
       | (go_at_call 161; refine LP.out.mono ?_; rintro e w5 ⟨rfl, bb⟩; have s0 : w5.cell? ⟨w3.heap.size, 0, none⟩ = some (.slice (some ⟨tb, toff, none⟩) tn tc) := (by rw [(HX.out.1.f.next bb).cell 0, HF.out.1]; rfl); have s1 : w5.cell? ⟨w4.heap.size, 0, none⟩ = some (.slice T3 sn sc) := (by rw [(HX.out.1.g.next bb).cell 0, HF.out.2]; rfl); have s2 : w5.cell? ⟨tb, toff + i, none⟩ = some (.slice U un uc) := (bb.cell (p := ⟨tb, toff + i, none⟩) HX.out.2.2.2.2).trans ct))
     have J5 := hid (HX.out.1.next bb)
     clear s0 s1 s2 c0 c1 ct bb LP
     cases hp : plcO (termsF SB.1) y with
     | none =>
      have F := hid (show (∀ k, k < i + 1 → plcO (termsF SB.1) ((termsF SA.1).getD k []) = none) ∧ Js w a v w3.heap.size w4.heap.size fs gs SA SB [.slice (some ⟨tb, toff, none⟩) tn tc, .slice P pn pc, .slice Y yn yc, .slice E en ec, .bool SA.2] [.slice T3 sn sc, .slice P3 an ac, .slice Y3 bn bc, .slice E3 dn dc, .bool SB.2] w5 from ⟨fun k hk => by
       by_cases e : k = i
       ·rw [e, HX.out.2.2.2.1]; exact hp
       ·exact HX.out.2.2.1 k (by omega), J5.out⟩)
      have G := hid HX.out.2.1
      have hpl : plcI (none : Option Nat) = -1 := rfl
      rw [hpl]
      clear HX J5 hp hpl
      go_wp2
      go_roundg (gk - 1)
      case measure => have := G.out; omega
      case rel => exact ⟨i + 1, by simp, by have := G.out; omega, F.out⟩
     | some j =>
      have HO2 := hid (show joinO d.1 d.2 t s (n : Int) = some (wkF SA.1 i, wkF SB.1 j) from by
       rw [HO.out, firstJ_some (by have := HTN.out; rw [termsF_len] at this; omega) HX.out.2.2.1 (by rw [HX.out.2.2.2.1]; exact hp)]; rfl)
      have hj : j < SB.1.length := by have := (plc_spot hp).1; rwa [termsF_len] at this
      have hiA : i < SA.1.length := by have := HTN.out; rw [termsF_len] at this; omega
      have hpl : plcI (some j) = (j : Int) := rfl
      rw [hpl]
      have j0 : (0 : Int) ≤ (j : Int) := by omega
      have JE := hid (J5.out.next (drew_below w5))
      have f0 : w5.cell? ⟨w3.heap.size, 0, none⟩ = some (.slice (some ⟨tb, toff, none⟩) tn tc) := by rw [J5.out.f.cell 0, HF.out.1]; rfl
      have f1 : w5.cell? ⟨w3.heap.size, 1, none⟩ = some (.slice P pn pc) := by rw [J5.out.f.cell 1, HF.out.1]; rfl
      have f2 : w5.cell? ⟨w3.heap.size, 2, none⟩ = some (.slice Y yn yc) := by rw [J5.out.f.cell 2, HF.out.1]; rfl
      have f3 : w5.cell? ⟨w3.heap.size, 3, none⟩ = some (.slice E en ec) := by rw [J5.out.f.cell 3, HF.out.1]; rfl
      have f4 : w5.cell? ⟨w3.heap.size, 4, none⟩ = some (.bool SA.2) := by rw [J5.out.f.cell 4, HF.out.1]; rfl
      have g0 : w5.cell? ⟨w4.heap.size, 0, none⟩ = some (.slice T3 sn sc) := by rw [J5.out.g.cell 0, HF.out.2]; rfl
      have g1 : w5.cell? ⟨w4.heap.size, 1, none⟩ = some (.slice P3 an ac) := by rw [J5.out.g.cell 1, HF.out.2]; rfl
      have g2 : w5.cell? ⟨w4.heap.size, 2, none⟩ = some (.slice Y3 bn bc) := by rw [J5.out.g.cell 2, HF.out.2]; rfl
      have g3 : w5.cell? ⟨w4.heap.size, 3, none⟩ = some (.slice E3 dn dc) := by rw [J5.out.g.cell 3, HF.out.2]; rfl
      have g4 : w5.cell? ⟨w4.heap.size, 4, none⟩ = some (.bool SB.2) := by rw [J5.out.g.cell 4, HF.out.2]; rfl
      have LA := hid (l9Walk (some ⟨tb, toff, none⟩) P Y E tn tc pn pc yn yc en ec d.1 d.2 t n 60 SA i w5.drew JE.out.rf HI.out.1 HQ.out.1 hiA hn)
      have LB := hid (fun (w9 : World) (b9 : Below w5.drew.heap.size w5.drew w9) => l9Walk T3 P3 Y3 E3 sn sc an ac bn bc dn dc d.1 d.2 s n 60 SB j w9 (JE.out.rg.next b9) HJ.out.1 HQ.out.2 hj hn)
      clear hp hj hiA hpl J5 HX HO
      go_upto_region 10 with fail
      refine AnyT.start (S := (fun w' => w'.cell? ⟨w3.heap.size, 0, none⟩ = some (.slice (some ⟨tb, toff, none⟩) tn tc) ∧ w'.cell? ⟨w3.heap.size, 1, none⟩ = some (.slice P pn pc) ∧ w'.cell? ⟨w3.heap.size, 2, none⟩ = some (.slice Y yn yc) ∧ w'.cell? ⟨w3.heap.size, 3, none⟩ = some (.slice E en ec) ∧ w'.cell? ⟨w3.heap.size, 4, none⟩ = some (.bool SA.2) ∧ w'.cell? ⟨w4.heap.size, 0, none⟩ = some (.slice T3 sn sc) ∧ w'.cell? ⟨w4.heap.size, 1, none⟩ = some (.slice P3 an ac) ∧ w'.cell? ⟨w4.heap.size, 2, none⟩ = some (.slice Y3 bn bc) ∧ w'.cell? ⟨w4.heap.size, 3, none⟩ = some (.slice E3 dn dc) ∧ w'.cell? ⟨w4.heap.size, 4, none⟩ = some (.bool SB.2))) (fun j => j == 6 || j == 7) (by kernel_rfl) ⟨f0, f1, f2, f3, f4, g0, g1, g2, g3, g4⟩ (fun hHeld => ?_)
      refine AnyT.takeU (i := 0) (v := ?_) rfl (by kernel_rfl) (by kernel_rfl) (by kernel_rfl) (by kernel_rfl) (by kernel_rfl) (fun _ _ _ h => h) (Or.inl ⟨by rfl, ?_⟩) (by assumption) ?_
      rotate_left 1
      ·(intro w0 hSw; (try dsimp only at hSw); go_simp; try with_reducible rfl)
      try simp only [Act.put, setIfInBounds_toArray, set_cons_zero, set_cons_succ, getElem_toArray, getElem_cons_zero, getElem_cons_succ]
      refine AnyT.takeA (i := 1) (v := ?_) rfl (by kernel_rfl) (by kernel_rfl) (by kernel_rfl) (fun _ _ _ h => h) (Or.inl ⟨by rfl, ?_⟩) ?_
      rotate_left 1
      ·(intro w0 _; go_simp; try with_reducible rfl)
      try simp only [Act.put, setIfInBounds_toArray, set_cons_zero, set_cons_succ, getElem_toArray, getElem_cons_zero, getElem_cons_succ]
      refine AnyT.takeU (i := 3) (v := ?_) rfl (by kernel_rfl) (by kernel_rfl) (by kernel_rfl) (by kernel_rfl) (by kernel_rfl) (fun _ _ _ h => h) (Or.inl ⟨by rfl, ?_⟩) (by assumption) ?_
      rotate_left 1
      ·(intro w0 hSw; (try dsimp only at hSw); go_simp; try with_reducible rfl)
      try simp only [Act.put, setIfInBounds_toArray, set_cons_zero, set_cons_succ, getElem_toArray, getElem_cons_zero, getElem_cons_succ]
      refine AnyT.takeA (i := 4) (v := ?_) rfl (by kernel_rfl) (by kernel_rfl) (by kernel_rfl) (fun _ _ _ h => h) (Or.inl ⟨by rfl, ?_⟩) ?_
      rotate_left 1
      ·(intro w0 _; go_simp; try with_reducible rfl)
      try simp only [Act.put, setIfInBounds_toArray, set_cons_zero, set_cons_succ, getElem_toArray, getElem_cons_zero, getElem_cons_succ]
      refine AnyT.call (i := 2) (by kernel_rfl) rfl (fun K hK => ?_)
      try simp only [Act.put, setIfInBounds_toArray, set_cons_zero, set_cons_succ, getElem_toArray, getElem_cons_zero, getElem_cons_succ]
      rw [if_pos (by rfl)]
      go_simp
      (go_at_call 164; refine LA.out.mono ?_; rintro e v1 ⟨A0, n0, e0, A1, n1, e1, rfl, owA, b1⟩; have JA := JE.out.next b1; have v1f0 : v1.cell? ⟨w3.heap.size, 0, none⟩ = some (.slice (some ⟨tb, toff, none⟩) tn tc) := (by rw [JA.f.cell 0, HF.out.1]; rfl); have v1f1 : v1.cell? ⟨w3.heap.size, 1, none⟩ = some (.slice P pn pc) := (by rw [JA.f.cell 1, HF.out.1]; rfl); have v1f2 : v1.cell? ⟨w3.heap.size, 2, none⟩ = some (.slice Y yn yc) := (by rw [JA.f.cell 2, HF.out.1]; rfl); have v1f3 : v1.cell? ⟨w3.heap.size, 3, none⟩ = some (.slice E en ec) := (by rw [JA.f.cell 3, HF.out.1]; rfl); have v1f4 : v1.cell? ⟨w3.heap.size, 4, none⟩ = some (.bool SA.2) := (by rw [JA.f.cell 4, HF.out.1]; rfl); have v1g0 : v1.cell? ⟨w4.heap.size, 0, none⟩ = some (.slice T3 sn sc) := (by rw [JA.g.cell 0, HF.out.2]; rfl); have v1g1 : v1.cell? ⟨w4.heap.size, 1, none⟩ = some (.slice P3 an ac) := (by rw [JA.g.cell 1, HF.out.2]; rfl); have v1g2 : v1.cell? ⟨w4.heap.size, 2, none⟩ = some (.slice Y3 bn bc) := (by rw [JA.g.cell 2, HF.out.2]; rfl); have v1g3 : v1.cell? ⟨w4.heap.size, 3, none⟩ = some (.slice E3 dn dc) := (by rw [JA.g.cell 3, HF.out.2]; rfl); have v1g4 : v1.cell? ⟨w4.heap.size, 4, none⟩ = some (.bool SB.2) := (by rw [JA.g.cell 4, HF.out.2]; rfl); go_wp2_with fail)
      refine hK.out _ _ (fun _ _ => ?_) (fun hKeep => ?_)
      ·exact ⟨v1f0, v1f1, v1f2, v1f3, v1f4, v1g0, v1g1, v1g2, v1g3, v1g4⟩
      replace hHeld := hKeep (by first | rfl | trivial) hHeld
      clear hK K hKeep
      try simp only [Act.put, setIfInBounds_toArray, set_cons_zero, set_cons_succ, getElem_toArray, getElem_cons_zero, getElem_cons_succ]
      refine AnyT.call (i := 5) (by kernel_rfl) rfl (fun K hK => ?_)
      try simp only [Act.put, setIfInBounds_toArray, set_cons_zero, set_cons_succ, getElem_toArray, getElem_cons_zero, getElem_cons_succ]
      rw [if_pos (by rfl)]
      go_simp
      (go_at_call 164; refine (LB.out v1 b1).mono ?_; rintro e v2 ⟨B0, m0, h0, B1, m1, h1, rfl, owB, b2⟩; have JB := JA.next b2; have v2f0 : v2.cell? ⟨w3.heap.size, 0, none⟩ = some (.slice (some ⟨tb, toff, none⟩) tn tc) := (by rw [JB.f.cell 0, HF.out.1]; rfl); have v2f1 : v2.cell? ⟨w3.heap.size, 1, none⟩ = some (.slice P pn pc) := (by rw [JB.f.cell 1, HF.out.1]; rfl); have v2f2 : v2.cell? ⟨w3.heap.size, 2, none⟩ = some (.slice Y yn yc) := (by rw [JB.f.cell 2, HF.out.1]; rfl); have v2f3 : v2.cell? ⟨w3.heap.size, 3, none⟩ = some (.slice E en ec) := (by rw [JB.f.cell 3, HF.out.1]; rfl); have v2f4 : v2.cell? ⟨w3.heap.size, 4, none⟩ = some (.bool SA.2) := (by rw [JB.f.cell 4, HF.out.1]; rfl); have v2g0 : v2.cell? ⟨w4.heap.size, 0, none⟩ = some (.slice T3 sn sc) := (by rw [JB.g.cell 0, HF.out.2]; rfl); have v2g1 : v2.cell? ⟨w4.heap.size, 1, none⟩ = some (.slice P3 an ac) := (by rw [JB.g.cell 1, HF.out.2]; rfl); have v2g2 : v2.cell? ⟨w4.heap.size, 2, none⟩ = some (.slice Y3 bn bc) := (by rw [JB.g.cell 2, HF.out.2]; rfl); have v2g3 : v2.cell? ⟨w4.heap.size, 3, none⟩ = some (.slice E3 dn dc) := (by rw [JB.g.cell 3, HF.out.2]; rfl); have v2g4 : v2.cell? ⟨w4.heap.size, 4, none⟩ = some (.bool SB.2) := (by rw [JB.g.cell 4, HF.out.2]; rfl); go_wp2_with fail)
      refine hK.out _ _ (fun _ _ => ?_) (fun hKeep => ?_)
      ·exact ⟨v2f0, v2f1, v2f2, v2f3, v2f4, v2g0, v2g1, v2g2, v2g3, v2g4⟩
      replace hHeld := hKeep (by first | rfl | trivial) hHeld
      clear hK K hKeep
      try simp only [Act.put, setIfInBounds_toArray, set_cons_zero, set_cons_succ, getElem_toArray, getElem_cons_zero, getElem_cons_succ]
      obtain ⟨⟨p0, p1, p2, p3, p4, p5⟩, ⟨q0, q1, q2, q3, q4, q5⟩, u0, u1, u2, u3⟩ := two_cells JB.r1 JB.r2 (by omega) (.slice A0 n0 e0) (.slice A1 n1 e1) (.slice B0 m0 h0) (.slice B1 m1 h1)
      have F := hid (show AnsJ w (joinO d.1 d.2 t s (n : Int)) (.returned (.tuple #[.agg #[.slice A0 n0 e0, .slice A1 n1 e1], .agg #[.slice B0 m0 h0, .slice B1 m1 h1], .bool true])) (put4 v2 (w.heap.size + 1) (w.heap.size + 1 + 1) (.slice A0 n0 e0) (.slice A1 n1 e1) (.slice B0 m0 h0) (.slice B1 m1 h1)) from by
       obtain ⟨FA, oA, nA, bA⟩ := owA
       obtain ⟨FB, oB, nB, bB⟩ := owB
       have z0 : w.heap.size + 1 + 1 < w5.drew.heap.size := JE.out.r2.lt
       have z1 := b1.size
       have z2 := b2.size
       refine ansJ_yes HO2.out (oA.next b2) oB (List.nodup_append.2 ⟨nA, nB, fun x hx y hy e => ?_⟩) (fun q hq => ?_) JB.b
       ·have := bA x hx
        have := bB y hy
        omega
       ·rcases List.mem_append.1 hq with h | h
        ·have := bA q h; omega
        ·have := bB q h; omega)
      clear owA owB b1 b2 JA JB LA LB JE
      refine AnyT.call (i := 6) (by kernel_rfl) rfl (fun K hK => ?_)
      try simp only [Act.put, setIfInBounds_toArray, set_cons_zero, set_cons_succ, getElem_toArray, getElem_cons_zero, getElem_cons_succ]
      rw [if_pos (by rfl)]
      go_simp
      refine hK.out _ _ (fun h => by cases h) (fun _ => ?_)
      clear hK K
      try simp only [Act.put, setIfInBounds_toArray, set_cons_zero, set_cons_succ, getElem_toArray, getElem_cons_zero, getElem_cons_succ]
      refine AnyT.call (i := 7) (by kernel_rfl) rfl (fun K hK => ?_)
      try simp only [Act.put, setIfInBounds_toArray, set_cons_zero, set_cons_succ, getElem_toArray, getElem_cons_zero, getElem_cons_succ]
      rw [if_pos (by rfl)]
      go_simp
      refine hK.out _ _ (fun h => by cases h) (fun _ => ?_)
      clear hK K
      try simp only [Act.put, setIfInBounds_toArray, set_cons_zero, set_cons_succ, getElem_toArray, getElem_cons_zero, getElem_cons_succ]
      refine AnyT.takeA (i := 8) (v := ?_) rfl (by kernel_rfl) (by kernel_rfl) (by kernel_rfl) (fun _ _ _ h => h) (Or.inl ⟨by rfl, ?_⟩) ?_
      rotate_left 1
      ·(intro w0 _; go_simp; try with_reducible rfl)
      try simp only [Act.put, setIfInBounds_toArray, set_cons_zero, set_cons_succ, getElem_toArray, getElem_cons_zero, getElem_cons_succ]
      refine AnyT.done (by kernel_rfl) ?_ _
      go_wp2
      exact bodyPost_ret (v := .tuple #[.agg #[.slice A0 n0 e0, .slice A1 n1 e1], .agg #[.slice B0 m0 h0, .slice B1 m1 h1], .bool true]) (by simp [results, Tryz.results113, go_sem, u0, u1, u2, u3]) rfl F.out
    ·have HO2 := hid (show joinO d.1 d.2 t s (n : Int) = none from by rw [HO.out, firstJ_none (fun k hk => hno k (by have := HTN.out; rw [termsF_len] at this; omega))]; rfl)
     have i1 : ¬ (i : Int) < (tn : Int) := by omega
     obtain ⟨⟨p0, p1, p2, p3, p4, p5⟩, ⟨q0, q1, q2, q3, q4, q5⟩, u0, u1, u2, u3⟩ := two_cells J.r1 J.r2 (by omega) (.slice none 0 0) (.slice none 0 0) (.slice none 0 0) (.slice none 0 0)
     have F := hid (ansJ_no HO2.out (put4_below J.b (.slice none 0 0) (.slice none 0 0) (.slice none 0 0) (.slice none 0 0)))
     clear J hno hg HO
     go_wp2
     exact bodyPost_ret (v := .tuple #[.agg #[.slice none 0 0, .slice none 0 0], .agg #[.slice none 0 0, .slice none 0 0], .bool false]) (by simp [results, Tryz.results113, go_sem, u0, u1, u2, u3]) rfl F.out
end joinSpec
end
section
namespace bigs
open Go.RowKit base ints
theorem bigAns (A : Option Addr) (n c : Nat) (b : Bool) (w : World) (hb : decide (4096 < n) = b) (hn : n ≤ 9223372036854775807) : Calls Tryz.prog 7 #[.slice A n c] w fun e w' => w = w' ∧ e = .returned (.bool b) := by
 cases b with
 | true =>
  have h : (4096 : Int) < (n : Int) := by have := of_decide_eq_true hb; omega
  clear hb
  go_enter Tryz.func7, Tryz.ntmps7
  go_wp2
  go_ret
  exact ⟨rfl, rfl⟩
 | false =>
  have h : ¬ (4096 : Int) < (n : Int) := by have := of_decide_eq_false hb; omega
  have h2 : decide (4096 < n) = false := hb
  clear hb
  go_enter Tryz.func7, Tryz.ntmps7
  go_wp2
  go_ret
  exact ⟨rfl, rfl⟩
end bigs
end
end Go.Proofs.YtlaloakegajheaaGreat
