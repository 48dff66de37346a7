/-
  MERGED: my texts WalkSpec, WalkSpecB, WalkSpecC, BySpec, WalkSpecD, WalkX2, BySpecB, ReachWords, ReachSpec, KindsT, NormsSpec, OpenX, one behind the other, as they are. By an AI agent.
-/
import Derived.Test.YthdmhhmnipoceaaMFnExactNormalsOf7
import Derived.Deep.RegionHeld3
import Derived.ProofKit
import Derived.OpenShut
import Derived.Lib.SmallJoins
import Derived.Deep.Slices
import Derived.Deep.Fields
namespace Go.Proofs.Ythdmhhmnipoceaa
section
namespace walkSpec
open Go.RowKit base ints sig term termOk endAt endOf marks app sym sub segs segsHelp kinds termFacts same shifted shape kindsR kindsW varsOf ruleMath ruleSpec stepMath walkMath stepSpec
set_option maxRecDepth 100000
theorem rd_step {w wr : World} {B : Nat} {A : Option Addr} {n c : Nat} {L : List St} {k : Nat} (h : Rd w B sStepS [.slice A n c] L) (hb : Below B w wr) (hl : L.length = n) (hk : k < n) :
  ∃ b off u x, A = some ⟨b, off, none⟩ ∧ b < B ∧ Hid (L.getD k (0, 0, []) = x) ∧ wr.cell? ⟨b, off + k * 3, none⟩ = some (.int .i64 x.1) ∧ wr.cell? ⟨b, off + k * 3 + 1, none⟩ = some (.int .i64 x.2.1) ∧ wr.cell? ⟨b, off + k * 3 + 2, none⟩ = some u ∧ Rd wr B sI [u] x.2.2 := by
 obtain ⟨b, off, n2, c2, es, ev, -, -, hbB, hel, hp, hr⟩ := h.elem (j := k) (by rw [hl]; exact hk)
 injection ev with e1 e2 e3
 subst e1
 obtain ⟨v0, rfl⟩ := cells_Step hr
 have hpw := hp.keep (w' := wr) (fun p hp => hb.cell (p := p) (by rw [hp]; exact hbB))
 obtain ⟨-, -, p2⟩ := parts_Step hr
 exact ⟨b, off, v0, _, rfl, hbB, Lib.hid rfl, hpw 0 (by simp), hpw 1 (by simp), hpw 2 (by simp), p2.below hb⟩
end walkSpec
end
section
namespace walkSpec
open Go.RowKit base ints sig term termOk endAt endOf marks app sym sub segs segsHelp kinds termFacts same shifted shape kindsR kindsW varsOf ruleMath ruleSpec stepMath walkMath stepSpec ownL heldT
set_option maxRecDepth 100000
theorem keep_alloc {w : World} {a : Addr} {v : Value} {o : Obj} (h : w.cell? a = some v) : (w.alloc o).cell? a = some v := (World.cell?_alloc_some w a o (by rw [h]; rfl)).trans h
end walkSpec
end
section
namespace walkSpec
open Go.RowKit base ints sig term termOk endAt endOf marks app sym sub segs segsHelp kinds termFacts same shifted shape kindsR kindsW varsOf ruleMath ruleSpec stepMath walkMath stepSpec ownL heldT
set_option maxRecDepth 100000
def AnsWalk (w : World) (k : Wk) (b : Bool) (e : Ending) (w' : World) : Prop := ∃ A0 n0 c0 A1 n1 c1, e = .returned (.tuple #[.agg #[.slice A0 n0 c0, .slice A1 n1 c1], .bool b]) ∧ Owned w' w.heap.size w'.heap.size sWalk [.slice A0 n0 c0, .slice A1 n1 c1] k ∧ Below w.heap.size w w'
section
variable {sg : List Int} {rs : List Rl} {a b : Wk}
end
structure Jn (w : World) (a v f s f' s' : Value) (wr : World) : Prop where
 r0 : Row wr w.heap.size 34 #[a, v]
 r1 : Row wr (w.heap.size + 1) 168 #[f, s]
 r2 : Row wr (w.heap.size + 1 + 1) 168 #[f', s']
 r3 : Row wr (w.heap.size + 1 + 1 + 1) 168 #[.slice none 0 0, .slice none 0 0]
 b : Below w.heap.size w wr
section
variable {w wr w' : World} {a v f s f' s' : Value}
theorem Jn.next (h : Jn w a v f s f' s' wr) (hb : Below wr.heap.size wr w') : Jn w a v f s f' s' w' := ⟨h.r0.next hb, h.r1.next hb, h.r2.next hb, h.r3.next hb, next_trans h.b hb⟩
theorem Jn.size (h : Jn w a v f s f' s' wr) : w.heap.size + 1 + 1 + 1 + 1 ≤ wr.heap.size := h.r3.lt
end
end walkSpec
end
section
namespace bySpec
open Go.RowKit base ints sig term termOk endAt endOf marks app sym sub segs segsHelp kinds termFacts same shifted shape drawX kindsR kindsW varsOf ruleMath ruleSpec stepMath walkMath stepSpec walkSpec ownL heldT orderMath orderSpec
set_option maxRecDepth 100000
structure Wb (w : World) (T : TypeId) (a v : Value) (B : Nat) (X O : Option Addr) (xn xc on oc : Nat) (fr : List Int) (L : List St) (wr : World) : Prop where
 r0 : Row wr w.heap.size T #[a, v]
 r1 : Row wr (w.heap.size + 1) 168 #[.slice none 0 0, .slice none 0 0]
 r3 : Row wr B 168 #[.slice X xn xc, .slice O on oc]
 x : Ownd wr (w.heap.size + 1 + 1) B X xn xc fr
 o : OwnL wr (B + 1) wr.heap.size 67 sStep O on oc L
 b : Below w.heap.size w wr
 z : w.heap.size + 1 + 1 ≤ B
theorem Wb.next {w wr w' : World} {T : TypeId} {a v : Value} {B : Nat} {X O : Option Addr} {xn xc on oc : Nat} {fr : List Int} {L : List St} (h : Wb w T a v B X O xn xc on oc fr L wr) (hb : Below wr.heap.size wr w') : Wb w T a v B X O xn xc on oc fr L w' :=
 ⟨h.r0.next hb, h.r1.next hb, h.r3.next hb, h.x.next hb, (h.o.next hb).wider (Nat.le_refl _) hb.size, next_trans h.b hb, h.z⟩
theorem AnsWalk.next {w w1 w2 : World} {k : Wk} {b : Bool} {e : Ending} (h : AnsWalk w k b e w1) (hb : Below w1.heap.size w1 w2) : AnsWalk w k b e w2 := by
 obtain ⟨A0, n0, c0, A1, n1, c1, he, ho, hw⟩ := h
 exact ⟨A0, n0, c0, A1, n1, c1, he, (ho.next hb).wider (Nat.le_refl _) hb.size, next_trans hw hb⟩
end bySpec
end
section
namespace walkSpec
open Go.RowKit base ints sig term termOk endAt endOf marks app sym sub segs segsHelp kinds termFacts same shifted shape kindsR kindsW varsOf ruleMath ruleSpec stepMath walkMath stepSpec ownL heldT
set_option maxRecDepth 100000
section
variable {sg : List Int} {rs : List Rl} {k : Wk} {t : List Int} {x : Int}
end
structure Wi (w : World) (a v f s : Value) (B : Nat) (X O : Option Addr) (xn xc on oc : Nat) (fr : List Int) (L : List St) (wr : World) : Prop where
 r0 : Row wr w.heap.size 34 #[a, v]
 r1 : Row wr (w.heap.size + 1) 168 #[f, s]
 r2 : Row wr (w.heap.size + 1 + 1) 168 #[.slice none 0 0, .slice none 0 0]
 r3 : Row wr B 168 #[.slice X xn xc, .slice O on oc]
 x : Ownd wr (w.heap.size + 1 + 1 + 1) B X xn xc fr
 o : OwnL wr (B + 1) wr.heap.size 67 sStep O on oc L
 b : Below w.heap.size w wr
 z : w.heap.size + 1 + 1 + 1 ≤ B
theorem Wi.next {w wr w' : World} {a v f s : Value} {B : Nat} {X O : Option Addr} {xn xc on oc : Nat} {fr : List Int} {L : List St} (h : Wi w a v f s B X O xn xc on oc fr L wr) (hb : Below wr.heap.size wr w') : Wi w a v f s B X O xn xc on oc fr L w' :=
 ⟨h.r0.next hb, h.r1.next hb, h.r2.next hb, h.r3.next hb, h.x.next hb, (h.o.next hb).wider (Nat.le_refl _) hb.size, next_trans h.b hb, h.z⟩
end walkSpec
end
section
namespace walkX
open Go.RowKit base sig term termOk termFacts segs shape kindsR kindsW ruleMath stepMath walkMath walkSpec
end walkX
end
section
namespace bySpec
open Go.RowKit base ints sig term termOk endAt endOf marks app sym sub segs segsHelp kinds termFacts same shifted shape drawX kindsR kindsW varsOf ruleMath ruleSpec stepMath walkMath stepSpec walkSpec walkX ownL heldT orderMath orderSpec
set_option maxRecDepth 100000
end bySpec
end
section
namespace longest
open Go.RowKit base ints sig term termOk marks app sym sub segs segsHelp termFacts varsOf shape kindsR kindsW ruleMath ruleSpec stepMath walkMath stepSpec reachMath findW findSpec
theorem rd_one {w : World} {B g : Nat} {T : Option Addr} {m c : Nat} {t : List Int} (hr : Row w g 22 #[.slice T m c]) (hg : g < B) (hT : Rd w B sI [.slice T m c] t) : Rd w B sTs [.slice (some ⟨g, 0, none⟩) 1 1] [t] :=
 ⟨_, 1, 1, rfl, ⟨Nat.le_refl _, by omega, fun e => by cases e⟩, rfl, fun _ => ⟨g, 0, rfl, hg, fun j hj => by
  obtain rfl : j = 0 := by omega
  refine ⟨[.slice T m c], rfl, fun i hi => ?_, hT⟩
  have hi : i = 0 := by simpa using hi
  subst hi
  exact hr.cell 0⟩⟩
theorem r9_parts {sg : List Int} {rs : List Rl} {t : List Int} {n : Int} (h : right9 sg rs t n = true) : rightB sg rs t = true ∧ 0 ≤ n ∧ n ≤ 20 := by
 unfold right9 stepsB at h
 rw [Bool.and_eq_true, decide_eq_true_iff] at h
 exact h
end longest
end
section
namespace reachSpec
open Go.RowKit base ints sig term termOk termFacts marks app sub varsOf appAt sym segs segsHelp kinds same shifted shape kindsR kindsW ruleMath ruleSpec stepMath stepSpec ownL drawX walkMath stepsMath reachMath findW findSpec heldT longest
set_option maxRecDepth 100000
def AnsTs (w : World) (D : List (List Int)) (b : Bool) (e : Ending) (w' : World) : Prop := ∃ A n c, e = .returned (.tuple #[.slice A n c, .bool b]) ∧ Owned w' w.heap.size w'.heap.size sTs [.slice A n c] D ∧ Below w.heap.size w w'
theorem reach_no {sg : List Int} {rs : List Rl} {t : List Int} {x : Int} (h : right9 sg rs t x = false) : reachI sg rs t x = [] ∧ allI sg rs t x = false := ⟨by unfold reachI; rw [if_neg (by rw [h]; simp)], by unfold allI; rw [h]; rfl⟩
theorem reach_yes {sg : List Int} {rs : List Rl} {t : List Int} {n : Nat} (h : right9 sg rs t (n : Int) = true) : reachI sg rs t (n : Int) = termsF (fdA sg rs t n).1 ∧ allI sg rs t (n : Int) = (fdA sg rs t n).2 := ⟨by unfold reachI; rw [if_pos h, Int.toNat_natCast], by unfold allI; rw [h, Int.toNat_natCast]; rfl⟩
theorem parts_found {w : World} {B : Nat} {T P Y E : Option Addr} {tn tc pn pc yn yc en ec : Nat} {b : Bool} {S : Fs} (h : Rd w B sFound [.slice T tn tc, .slice P pn pc, .slice Y yn yc, .slice E en ec, .bool b] (fdD S)) :
  Rd w B sTs [.slice T tn tc] (termsF S.1) ∧ Rd w B sI [.slice P pn pc] (fromD S.1) ∧ Rd w B sStepS [.slice Y yn yc] (byD S.1) ∧ Rd w B sI [.slice E en ec] (deepD S.1) := by
 obtain ⟨h1, h2⟩ := Rd.split (ca := [.slice T tn tc]) (cb := [.slice P pn pc, .slice Y yn yc, .slice E en ec, .bool b]) h rfl
 obtain ⟨h3, h4⟩ := Rd.split (ca := [.slice P pn pc]) (cb := [.slice Y yn yc, .slice E en ec, .bool b]) h2 rfl
 obtain ⟨h5, h6⟩ := Rd.split (ca := [.slice Y yn yc]) (cb := [.slice E en ec, .bool b]) h4 rfl
 obtain ⟨h7, h8⟩ := Rd.split (ca := [.slice E en ec]) (cb := [.bool b]) h6 rfl
 exact ⟨h1, h3, h5, h7⟩
theorem termsF_len (L : List Fi) : (termsF L).length = L.length := List.length_map ..
theorem fd_small {sg : List Int} {rs : List Rl} {t : List Int} {n : Nat} (h : rightB sg rs t = true) : (fdA sg rs t n).1.length ≤ 60 ∧ ∀ k, ((termsF (fdA sg rs t n).1).getD k []).length ≤ 1048576 := ⟨fd_inv.len60, small_terms h fd_inv⟩
end reachSpec
end
section
open Go.Lib (hid)
namespace kindsT
open Go.RowKit base ints sig cursor marks app sym appAt segs segsHelp segsMark kinds shape
set_option maxRecDepth 100000
abbrev sInt64SS : Sh := .row 22 sI
set_option maxHeartbeats 2000000 in
theorem eqK_Int64SS (v u : Value) (D : List (Dat sI)) (w : World) (h : Rd w w.heap.size sInt64SS [v] D) (h' : Rd w w.heap.size sInt64SS [u] D) (hz : sz sInt64SS D ≤ 1048576) :
  Calls Try.prog 9 #[v, u] w (Yes w) := by
 obtain ⟨A, c, rfl, hcap⟩ := h.slice
 obtain ⟨A', c', rfl, hcap'⟩ := h'.slice
 obtain ⟨n, hn⟩ : ∃ n, D.length = n := ⟨_, rfl⟩
 have hn1 : n ≤ 1048576 := by rw [← hn]; exact sz_len hz
 rw [hn] at h h' hcap hcap' ⊢
 have HN := hid hn
 have H := hid h
 have H' := hid h'
 have HZ := hid hz
 clear hcap hcap' hn h h' hz
 go_enter Try.func9, Try.ntmps9
 go_wp2
 go_loopw [5] (fun i wr => ∃ k : Nat, k ≤ n ∧ i = .int .i64 k ∧ Below w.heap.size w wr) (fun i _ => n - (intOf i).toNat)
 case atStart => exact ⟨0, Nat.zero_le _, rfl, Below.refl _ _⟩
 case round =>
  obtain ⟨k, hk, rfl, hb⟩ := hrel
  by_cases hlt : k < n
  ·have hkD : k < D.length := by rw [HN.out]; exact hlt
   obtain ⟨b, off, n2, c2, es, ev, -, -, hbB, hel, hp, hrd⟩ := H.out.elem hkD
   injection ev with e1 e2 e3
   subst e1 e2 e3
   obtain ⟨b', off', n2, c2, es', ev, -, -, hbB', hel', hp', hrd'⟩ := H'.out.elem hkD
   injection ev with e1 e2 e3
   subst e1 e2 e3
   obtain ⟨v0, rfl⟩ := List.length_eq_one_iff.1 hel
   obtain ⟨u0, rfl⟩ := List.length_eq_one_iff.1 hel'
   replace hb := hb.drew
   have hpw := hp.keep (w' := wr.drew) (fun p hp => hb.cell (p := p) (by rw [hp]; exact hbB))
   have hpw' := hp'.keep (w' := wr.drew) (fun p hp => hb.cell (p := p) (by rw [hp]; exact hbB'))
   have c0 : wr.drew.cell? ⟨b, off + k, none⟩ = some (v0) := by simpa [nc] using hpw 0 (by simp)
   have c0' : wr.drew.cell? ⟨b', off' + k, none⟩ = some (u0) := by simpa [nc] using hpw' 0 (by simp)
   have L := hid (eqK_ints _ _ (D.getD k (dft sI)) wr.drew ((hrd.below hb).more hb.size) ((hrd'.below hb).more hb.size) (sz_each HZ.out hkD))
   have HB := hid hb
   have hlb : b < wr.drew.heap.size := Nat.lt_of_lt_of_le hbB hb.size
   have hlb' : b' < wr.drew.heap.size := Nat.lt_of_lt_of_le hbB' hb.size
   clear hrd hrd' hel hel' hp hp' hpw hpw' hb
   go_wp2_with fail
   go_region_held3 (fun w' => w'.cell? ⟨b, off + k, none⟩ = some (v0) ∧ w'.cell? ⟨b', off' + k, none⟩ = some (u0))
    (go_keep)
    (first | (go_at_call 11; refine L.out.mono ?_; rintro e w1 ⟨rfl, bb⟩; have m0 := (bb.cell (p := ⟨b, off + k, none⟩) hlb).trans c0; have m1 := (bb.cell (p := ⟨b', off' + k, none⟩) hlb').trans c0'))
   have HB1 := hid (next_trans HB.out bb)
   clear bb L c0 c0' m0 m1
   go_wp2
   go_roundw
   case rel => exact ⟨k + 1, hlt, by simp, HB1.out⟩
   case measure => simp [intOf]; omega
  ·have HB := hid hb
   clear hb
   go_wp2
   go_ret
   exact ⟨rfl, HB.out⟩
set_option maxHeartbeats 2000000 in
theorem markK_Int64SS (v : Value) (D : List (Dat sI)) (k : Int) (F : List Nat) (w : World) (h : Ow w sInt64SS [v] D F) (hF : F.Nodup) (hz : sz sInt64SS D ≤ 1048576) (hk0 : 0 ≤ k) (hk : k + (cntv sInt64SS D : Int) ≤ 1099511627776) :
  Calls Try.prog 14 #[v, .int .i64 k] w (AnsMarkF w sInt64SS [v] D k F) := by
 obtain ⟨A, c, rfl, hcap⟩ := h.rd.slice
 have hn1 := sz_len hz
 obtain ⟨n, hn⟩ : ∃ n, D.length = n := ⟨_, rfl⟩
 rw [hn] at h hcap hn1 ⊢
 have HN := hid hn
 have HZ := hid hz
 have S0 := hid (headMk_zero (k := k) h)
 clear h hcap hn hz
 go_enter Try.func14, Try.ntmps14
 go_wp2
 go_loopw [1, 5] (fun kk i wr => HeadMk w 22 sI (.slice A n c) D k F kk i wr) (fun _ i _ => n - (intOf i).toNat)
 case atStart => first | exact S0.out | (have h9 := S0.out; rw [Nat.mul_one] at h9; exact h9)
 case round =>
  obtain ⟨j, hj, rfl, rfl, ho, hb⟩ := hrel
  clear S0
  rw [HN.out] at hj
  by_cases hlt : j < n
  ·have hjD : j < D.length := by rw [HN.out]; exact hlt
   obtain ⟨g, n2, c2, es, Gj, ev, -, hel, hp, hg, oe, ng, gG, sub, R⟩ := ho.elem' hF (j := j) (by rw [mixed_len]; exact hjD)
   injection ev with e1 e2 e3
   subst e1 e2 e3
   rw [mixed_get hjD] at oe
   obtain ⟨v0, rfl⟩ := List.length_eq_one_iff.1 hel
   have o0 := oe
   have g0 : g ∉ Gj := fun hb => gG (hb)
   have sub0 : ∀ x ∈ Gj, x ∈ Gj := fun x hb => hb
   obtain ⟨z0, hz0⟩ : ∃ z, cntv sI ((D.getD j (dft sI))) = z := ⟨_, rfl⟩
   have hzz : cnt sI (D.getD j (dft sI)) = z0 := by rw [← hz0]; rfl
   have hcn := headMk_cnt (e := 22) hjD
   rw [hzz] at hcn
   obtain ⟨q, hq⟩ : ∃ q, k + (cnts sI D j : Int) = q := ⟨_, rfl⟩
   have q0 : 0 ≤ q := by omega
   have q1 : q + (z0 : Int) ≤ 1099511627776 := by have : (cntv sInt64SS D : Int) = (cntv (.row 22 sI) D : Nat) := rfl; omega
   have Z0 : Hid (sz sI ((D.getD j (dft sI))) ≤ 1048576) := hid (sz_each HZ.out hjD)
   have HZ0 := hid hz0
   rw [hq]
   have HEF : Hid (Gj = Gj) := hid (by rfl)
   have HR := hid R
   have HB := hid hb
   have HQ := hid hq
   have HZZ := hid hzz
   have SUB := hid sub
   have on : Only Gj wr wr := Only.refl _ _
   have c0 : wr.cell? ⟨g, j, none⟩ = some (v0) := by simpa [nc] using hp 0 (by simp)
   clear R hb hq hzz hcn ho oe sub hp hel gG hz0 
   go_wp2_with fail
   refine (markK_ints _ _ q Gj _ o0 Z0.out (by omega) (by omega)).mono ?_
   rintro e w1 ⟨he, o0, on0⟩
   rw [HZ0.out] at he
   have hgl : g < wr.heap.size := Nat.lt_of_lt_of_le hg on.size
   replace c0 := (World.cell?_of_block (a := ⟨g, j, none⟩) (on0.block g hgl g0)).trans c0
   replace on := on.trans (on0.wider sub0)
   clear on0 hgl
   obtain ⟨k0, hk0⟩ : ∃ l, q + (z0 : Int) = l := ⟨_, rfl⟩
   rw [hk0] at he
   have l0 : 0 ≤ k0 := by omega
   have u0 : k0  ≤ 1099511627776 := by omega
   subst he
   have HK0 := hid hk0
   clear hk0
   have S : HeadMk w 22 sI (.slice (some ⟨g, 0, none⟩) n c) D k F (.int .i64 k0) (.int .i64 ((j : Int) + 1)) w1 := by
    have h1 := HR.out w1 (mkc sI q (D.getD j (dft sI))) (by exact o0) on
    have h2 := headMk_step (z := z0) hjD HB.out (on.wider SUB.out) HZZ.out (by rw [HQ.out]) h1
    have h3 : k + (cnts sI D j : Int) + ((z0 : Nat) : Int) = k0 := by have := HQ.out; have := HK0.out; omega
    rw [h3] at h2
    exact h2
   have HS := hid S
   clear S on o0 c0 
   go_wp2
   go_roundw
   case rel => exact HS.out
   case measure => simp [intOf]; omega
  ·have F1 := hid (headMk_end (by rw [HN.out]; exact hlt) (by rw [HN.out]; exact hj) ho hb)
   clear ho hb
   generalize cnts sI D j = z at *
   go_wp2
   go_ret
   exact F1.out
set_option maxHeartbeats 2000000 in
theorem heldK_Int64SS (v : Value) (D : List (Dat sI)) (k : Int) (w : World) (h : Rd w w.heap.size sInt64SS [v] (mkv sInt64SS k D)) (hz : sz sInt64SS D ≤ 1048576) (hk0 : 0 ≤ k) (hk : k + (cntv sInt64SS D : Int) ≤ 1099511627776) :
  Calls Try.prog 15 #[v, .int .i64 k] w (AnsHeld w (k + (cntv sInt64SS D : Int))) := by
 obtain ⟨A, c, rfl, hcap⟩ := h.slice
 have hn1 := sz_len hz
 have hml : List.length (mkv sInt64SS k D : List (Dat sI)) = D.length := mk_len
 rw [hml] at h hcap ⊢
 have HML := hid hml
 clear hml
 obtain ⟨n, hn⟩ : ∃ n, D.length = n := ⟨_, rfl⟩
 rw [hn] at h hcap hn1 ⊢
 have HN := hid hn
 have HZ := hid hz
 have H := hid h
 clear h hcap hn hz
 go_enter Try.func15, Try.ntmps15
 go_wp2
 go_loopw [1, 5] (fun kk i wr => HeadHd w sI D k kk i wr) (fun _ i _ => n - (intOf i).toNat)
 case atStart => exact headHd_zero
 case round =>
  obtain ⟨j, hj, rfl, rfl, hb⟩ := hrel
  rw [HN.out] at hj
  by_cases hlt : j < n
  ·have hjD : j < D.length := by rw [HN.out]; exact hlt
   obtain ⟨b, off, n2, c2, es, ev, -, -, hbB, hel, hp, hr⟩ := H.out.elem (j := j) (by rw [HML.out]; exact hjD)
   injection ev with e1 e2 e3
   subst e1 e2 e3
   have hmg := mk_get (e := 22) (s := sI) (k := k) hjD
   obtain ⟨y, hy⟩ : ∃ y, D.getD j (dft sI) = y := ⟨_, rfl⟩
   rw [hmg, hy] at hr
   have HY := hid hy
   clear hmg hy
   obtain ⟨q, hq⟩ : ∃ q, k + (cnts sI D j : Int) = q := ⟨_, rfl⟩
   rw [hq] at hr ⊢
   obtain ⟨v0, rfl⟩ : ∃ v0, es = [v0] := by obtain ⟨A0, n0, c0, e0, -⟩ := hr; exact ⟨_, e0⟩
   have hpw := hp.keep (w' := wr) (fun p hp => hb.cell (p := p) (by rw [hp]; exact hbB))
   have c0 : wr.cell? ⟨b, off + j, none⟩ = some (v0) := by have h9 : wr.cell? ⟨b, off + j * 1 + 0, none⟩ = some (v0) := hpw 0 (by simp); rwa [Nat.mul_one, Nat.add_zero] at h9
   have g0 := hr
   obtain ⟨z0, hz0⟩ : ∃ z, cntv sI y = z := ⟨_, rfl⟩
   have hzz : cnt sI y = z0 := by rw [← hz0]; rfl
   have hcn := headMk_cnt (e := 22) hjD
   rw [HY.out, hzz] at hcn
   have q0 : 0 ≤ q := by omega
   have q1 : q + 0 + (z0 : Int) ≤ 1099511627776 := by have : (cntv sInt64SS D : Int) = (cntv (.row 22 sI) D : Nat) := rfl; omega
   have Z0 : Hid (sz sI y ≤ 1048576) := hid (by have := sz_each HZ.out hjD; rw [HY.out] at this; simp only [sz] at this ⊢; omega)
   have G0 : Hid (Rd w w.heap.size sI [v0] (mkv sI (q) y)) := hid g0
   have HZ0 := hid hz0
   have HB := hid hb
   have HZZ := hid hzz
   have HQ := hid hq
   have hlb : b < wr.heap.size := Nat.lt_of_lt_of_le hbB hb.size
   clear hr hel hp hpw hq hzz hcn hb g0 hz0
   go_wp2_with fail
   refine (heldK_ints _ y (q) wr ((G0.out.below HB.out).more HB.out.size) Z0.out (by omega) (by omega)).mono ?_
   rintro e w1 ⟨he, bb⟩
   rw [HZ0.out] at he
   obtain ⟨k0, hk0⟩ : ∃ l, q + (z0 : Int) = l := ⟨_, rfl⟩
   rw [hk0] at he
   have l0 : 0 ≤ k0 := by omega
   have u0 : k0  ≤ 1099511627776 := by omega
   subst he
   replace HB := hid (next_trans HB.out bb)
   clear bb
   have HK0 := hid hk0
   clear hk0
   have HS := hid (headHd_step (D := D) (k := k) (kc := k0) hjD HB.out (by rw [HQ.out, HY.out, HZZ.out]; have := HK0.out; omega))
   clear c0
   go_wp2
   go_roundw
   case rel => exact HS.out
   case measure => simp [intOf]; omega
  ·have F1 := hid (headHd_end (e := 22) (D := D) (k := k) (by rw [HN.out]; exact hlt) (by rw [HN.out]; exact hj) hb)
   clear hb
   generalize cnts sI D j = z at *
   go_wp2
   go_ret
   exact F1.out
end kindsT
end
section
open Go.Lib (hid)
namespace normsSpec
open Go.RowKit base ints sig term termOk termFacts marks app sub varsOf appAt sym segs segsHelp kinds same shifted shape kindsR kindsW ruleMath ruleSpec stepMath stepSpec ownL drawX walkMath stepsMath reachMath findW findSpec heldT longest reachSpec
set_option maxRecDepth 100000
theorem rd_off {w : World} {B g : Nat} {t : TypeId} (hg : Row w g t #[]) : ∀ {s : Sh} {cs : List Value} {d : Dat s}, Rd w B s cs d → RdQ w (fun b => b < B ∧ b ≠ g) s cs d
 | .num, _, _, h => h
 | .bit, _, _, h => h
 | .row _ s, _, _, h => by
  obtain ⟨A, n, c, e, hc, hl, h1⟩ := h
  refine ⟨A, n, c, e, hc, hl, fun h0 => ?_⟩
  obtain ⟨b, off, e1, hb, h2⟩ := h1 h0
  refine ⟨b, off, e1, ⟨hb, fun eg => ?_⟩, fun j hj => ?_⟩
  ·subst eg
   obtain ⟨es, hel, hp, -⟩ := h2 0 h0
   have h3 := hp 0 (by rw [hel]; exact nc_pos s)
   rw [hg.cell] at h3
   have h4 : 0 < es.length := by rw [hel]; exact nc_pos s
   rw [List.getElem?_eq_getElem h4] at h3
   simp at h3
  ·obtain ⟨es, hel, hp, hr⟩ := h2 j hj
   exact ⟨es, hel, hp, rd_off hg hr⟩
 | .cat a b, _, _, h => by
  obtain ⟨ca, cb, e, h1, h2⟩ := h
  exact ⟨ca, cb, e, rd_off hg h1, rd_off hg h2⟩
theorem norms_no {sg : List Int} {rs : List Rl} {t : List Int} {x : Int} (h : right9 sg rs t x = false) : normsI sg rs t x = [] := by unfold normsI; rw [(reach_no h).1]; rfl
theorem filter_step {P : List Int → Bool} {L : List (List Int)} {i : Nat} {b : Bool} (hi : i < L.length) (hb : P (L.getD i []) = b) : (L.take (i + 1)).filter P = (L.take i).filter P ++ if b = true then [L.getD i []] else [] := by
 rw [List.take_succ_eq_append_getElem hi, List.filter_append]
 have e : L.getD i [] = L[i] := by simp [List.getD, hi]
 rw [e] at hb ⊢
 cases b with
 | true => simp [hb]
 | false => simp [hb]
structure Nm (w : World) (a v : Value) (vB fb : Nat) (fs : Array Value) (T : Value) (L : List (List Int)) (P : List Int → Bool) (i b on oc : Nat) (wr : World) : Prop where
 sys : Row wr w.heap.size 34 #[a, v]
 fnd : Row wr fb 49 fs
 rd : RdQ wr (NotIn wr fun k => k = w.heap.size + 1 ∨ vB ≤ k) sTs [T] L
 o : OwnL wr (w.heap.size + 1) wr.heap.size 22 sI (some ⟨b, 0, none⟩) on oc ((L.take i).filter P)
 at_ : b = w.heap.size + 1 ∨ vB ≤ b
 bel : Below w.heap.size w wr
 z : fb < vB ∧ w.heap.size + 1 < fb ∧ vB ≤ wr.heap.size
theorem Nm.next {w : World} {a v : Value} {vB fb : Nat} {fs : Array Value} {T : Value} {L : List (List Int)} {P : List Int → Bool} {i b on oc : Nat} {wr w' : World} (h : Nm w a v vB fb fs T L P i b on oc wr) (hb : Below wr.heap.size wr w') : Nm w a v vB fb fs T L P i b on oc w' :=
 ⟨h.sys.next hb, h.fnd.next hb, notIn_below h.rd hb, (h.o.next hb).wider (Nat.le_refl _) hb.size, h.at_, next_trans h.bel hb, ⟨h.z.1, h.z.2.1, Nat.le_trans h.z.2.2 hb.size⟩⟩
set_option maxHeartbeats 4000000 in
theorem specNormalsOf (a v u : Value) (d : Dat sSystem) (t : List Int) (x : Int) (w : World) (h : Rd w w.heap.size sSystem [a, v] d) (ht : Rd w w.heap.size sI [u] t) (hz : sz sSystem d ≤ 1048576) (hz' : sz sI t ≤ 1048576) :
  Calls Try.prog 5 #[.agg #[a, v], u, .int .i64 x] w (Copy1 w sTs (normsI d.1 d.2 t x)) := by
 obtain ⟨T, m, c, rfl, hT, hcT⟩ := rd_ints.1 ht
 have hm := len_ints hT.1 hz'
 obtain ⟨W, hW, rA, rO, bel⟩ := box2 w 34 22 #[a, v] #[]
 have HW := hid hW
 have L1 := hid (l9Right a v d T m c t x W (h.next bel) hz (hT.next bel) hm)
 have HH := hid (show Rd w w.heap.size sSystem [a, v] d ∧ Rd w w.heap.size sI [.slice T m c] t ∧ sz sSystem d ≤ 1048576 from ⟨h, ht, hz⟩)
 have oL : OwnL W (w.heap.size + 1) W.heap.size 22 sI (some ⟨w.heap.size + 1, 0, none⟩) 0 0 [] := by
  rw [hW]
  have := OwnL.empty (lo := w.heap.size + 1) (hi := ((w.alloc (.cells #[a, v] 34)).alloc (.cells #[] 22)).heap.size) (w.alloc (.cells #[a, v] 34)) 22 sI (by simp) (by simp)
  simpa using this
 have HO := hid (show OwnL W (w.heap.size + 1) W.heap.size 22 sI (some ⟨w.heap.size + 1, 0, none⟩) 0 0 [] ∧ Row W w.heap.size 34 #[a, v] ∧ Row W (w.heap.size + 1) 22 #[] ∧ Below w.heap.size w W from ⟨oL, rA, rO, bel⟩)
 clear hW h ht hz hT hcT oL rA rO bel
 cases ok : right9 d.1 d.2 t x with
 | false =>
  have HN := hid (norms_no ok)
  rw [ok] at L1
  clear ok
  go_enter Try.func5, Try.ntmps5
  go_wp2_with fail
  rw [← HW.out]
  refine L1.out.mono ?_
  rintro e w1 ⟨rfl, bb⟩
  have F := hid (show Copy1 w sTs (normsI d.1 d.2 t x) (.returned (.slice (some ⟨w.heap.size + 1, 0, none⟩) 0 0)) w1 from
   ⟨_, _, _, rfl, by rw [HN.out]; exact (HO.out.1.next bb).owned.wider (Nat.le_succ _) bb.size, next_trans HO.out.2.2.2 bb⟩)
  clear bb L1 HW
  go_wp2
  go_ret
  exact F.out
 | true =>
  obtain ⟨q1, q2, q3⟩ := r9_parts ok
  obtain ⟨n, rfl⟩ : ∃ n : Nat, x = (n : Int) := ⟨x.toNat, by omega⟩
  have HN := hid (show normsI d.1 d.2 t (n : Int) = (termsF (fdA d.1 d.2 t n).1).filter (normalB d.1 d.2) from by unfold normsI; rw [(reach_yes ok).1])
  rw [ok] at L1
  have hn : n ≤ 20 := by omega
  have HQ := hid q1
  clear ok q1 q2 q3
  go_enter Try.func5, Try.ntmps5
  go_wp2_with fail
  rw [← HW.out]
  refine L1.out.mono ?_
  rintro e w1 ⟨rfl, bb⟩
  have k0 : w1.cell? ⟨w.heap.size, 0, none⟩ = some a := (HO.out.2.1.next bb).cell 0
  have k1 : w1.cell? ⟨w.heap.size, 1, none⟩ = some v := (HO.out.2.1.next bb).cell 1
  have b1 := next_trans HO.out.2.2.2 bb
  have LF := hid (l9Find a v (.slice T m c) d t n w1 (HH.out.1.next b1) (HH.out.2.1.next b1) HH.out.2.2 HQ.out hn)
  have B1 := hid (show OwnL w1 (w.heap.size + 1) w1.heap.size 22 sI (some ⟨w.heap.size + 1, 0, none⟩) 0 0 [] ∧ Row w1 w.heap.size 34 #[a, v] ∧ Row w1 (w.heap.size + 1) 22 #[] ∧ Below w.heap.size w w1 from ⟨(HO.out.1.next bb).wider (Nat.le_refl _) bb.size, HO.out.2.1.next bb, HO.out.2.2.1.next bb, b1⟩)
  clear bb L1 HW b1 HO
  go_wp2_with fail
  refine LF.out.mono ?_
  rintro e w2 ⟨T2, tn, tc, P, pn, pc, Y, yn, yc, E, en, ec, rfl, hR, bb⟩
  obtain ⟨S, hS⟩ : ∃ S, fdA d.1 d.2 t n = S := ⟨_, rfl⟩
  have hsm := fd_small (n := n) HQ.out
  rw [hS] at hR hsm HN
  rw [hS]
  obtain ⟨hT2, -⟩ := parts_found hR
  have htl : (termsF S.1).length = tn := rd_ts hT2
  have htn : tn ≤ 60 := by rw [← htl, termsF_len]; exact hsm.1
  obtain ⟨fs, hfs⟩ : ∃ fs : Array Value, fs = #[.slice T2 tn tc, .slice P pn pc, .slice Y yn yc, .slice E en ec, .bool S.2] := ⟨_, rfl⟩
  obtain ⟨V, hV⟩ : ∃ V, V = w2.alloc (.cells #[.slice T2 tn tc, .slice P pn pc, .slice Y yn yc, .slice E en ec, .bool S.2] 49) := ⟨_, rfl⟩
  have bV : Below w2.heap.size w2 V := by rw [hV]; exact (Below.refl _ _).alloc (Nat.le_refl _) _
  have rV : Row V w2.heap.size 49 fs := by rw [hV, hfs]; exact Row.new _ _ _
  have zV : V.heap.size = w2.heap.size + 1 := by rw [hV]; simp
  have zw : w.heap.size + 1 < w2.heap.size := Nat.lt_of_lt_of_le B1.out.2.2.1.lt bb.size
  have hrd : RdQ V (NotIn V fun k => k = w.heap.size + 1 ∨ V.heap.size ≤ k) sTs [.slice T2 tn tc] (termsF S.1) :=
   (rd_off ((B1.out.2.2.1.next bb).next bV) (hT2.next bV)).mono fun k hk => ⟨hk.1, fun h => by rcases h with h | h <;> omega⟩
  have N0 := hid (show Nm w a v V.heap.size w2.heap.size fs (.slice T2 tn tc) (termsF S.1) (normalB d.1 d.2) 0 (w.heap.size + 1) 0 0 V from
   ⟨(B1.out.2.1.next bb).next bV, rV, hrd, ((B1.out.1.next bb).next bV).wider (Nat.le_refl _) (Nat.le_trans bb.size bV.size), .inl rfl, next_trans (next_trans B1.out.2.2.2 bb) bV, ⟨by omega, zw, Nat.le_refl _⟩⟩)
  have HV := hid (show V = w2.alloc (.cells #[.slice T2 tn tc, .slice P pn pc, .slice Y yn yc, .slice E en ec, .bool S.2] 49) ∧ (termsF S.1).length = tn ∧ tn ≤ 60 ∧ (∀ k, ((termsF S.1).getD k []).length ≤ 1048576) from ⟨hV, htl, htn, hsm.2⟩)
  have HF := hid hfs
  clear hR hS hsm bb B1 hT2 htl htn rV LF k0 k1 bV hV zV zw hrd hfs
  go_wp2_with fail
  rw [← HV.out.1]
  go_loopg [7, 9] tn (fun g o_ i_ wr => ∃ (i b on oc : Nat), o_ = .slice (some ⟨b, 0, none⟩) on oc ∧ i_ = .int .i64 (i : Int) ∧ i + g = tn ∧ Nm w a v V.heap.size w2.heap.size fs (.slice T2 tn tc) (termsF S.1) (normalB d.1 d.2) i b on oc wr)
  case atStart => exact ⟨0, _, 0, 0, rfl, rfl, by omega, N0.out⟩
  case round =>
   clear N0
   obtain ⟨i, b, on, oc, rfl, rfl, hg, N⟩ := hrel
   have c0 : wr.cell? ⟨w2.heap.size, 0, none⟩ = some (.slice T2 tn tc) := by rw [N.fnd.cell 0, HF.out]; rfl
   by_cases hi : i < tn
   ·obtain ⟨tb, toff, U, un, uc, rfl, htb, ct, hU, hcU⟩ := rd_term (notIn_rd N.rd) (Below.refl _ _) hi
    obtain ⟨y, hy⟩ : ∃ y, (termsF S.1).getD i [] = y := ⟨_, rfl⟩
    rw [hy] at hU
    have hyl : y.length ≤ 1048576 := by rw [← hy]; exact HV.out.2.2.2 i
    have hun : un ≤ 1048576 := by rw [← hU.1]; exact hyl
    obtain ⟨bv, hbv⟩ : ∃ b, normalB d.1 d.2 y = b := ⟨_, rfl⟩
    have hst := filter_step (P := normalB d.1 d.2) (L := termsF S.1) (i := i) (b := bv) (by rw [HV.out.2.1]; exact hi) (by rw [hy]; exact hbv)
    rw [hy] at hst
    have ND := N.next (drew_below wr)
    have LN := hid (specNormalIn a v (.slice U un uc) d y wr.drew (HH.out.1.next N.bel.drew) (rd_ints.2 ⟨U, un, uc, rfl, hU.drew, hcU⟩) HH.out.2.2 (by rw [sz_ints]; exact hyl))
    rw [hbv] at LN
    have HN2 := hid (show Nm w a v V.heap.size w2.heap.size fs (.slice (some ⟨tb, toff, none⟩) tn tc) (termsF S.1) (normalB d.1 d.2) i b on oc wr.drew ∧ Seg wr.drew wr.drew.heap.size U un y ∧ Cap U un uc ∧ (List.take (i + 1) (termsF S.1)).filter (normalB d.1 d.2) = (List.take i (termsF S.1)).filter (normalB d.1 d.2) ++ (if bv = true then [y] else []) ∧ i + gk = tn ∧ tb < wr.drew.heap.size from ⟨ND, hU.drew, hcU, hst, hg, htb⟩)
    have k0 : wr.cell? ⟨w.heap.size, 0, none⟩ = some a := N.sys.cell 0
    have k1 : wr.cell? ⟨w.heap.size, 1, none⟩ = some v := N.sys.cell 1
    have i0 : (0 : Int) ≤ (i : Int) := by omega
    have i1 : (i : Int) < (tn : Int) := by omega
    have htn60 : tn ≤ 60 := HV.out.2.2.1
    have hon : on ≤ 60 := by
     have h1 := N.o.1
     rw [← h1]
     have h2 := List.length_filter_le (normalB d.1 d.2) (List.take i (termsF S.1))
     rw [List.length_take] at h2
     have := HV.out.2.2.1
     omega
    clear hU hcU hst ND N hg hbv htb hy
    go_wp2_with fail
    go_region_held3 (fun w' => w'.cell? ⟨w.heap.size, 0, none⟩ = some a ∧ w'.cell? ⟨w.heap.size, 1, none⟩ = some v ∧ w'.cell? ⟨w2.heap.size, 0, none⟩ = some (.slice (some ⟨tb, toff, none⟩) tn tc) ∧ w'.cell? ⟨tb, toff + i, none⟩ = some (.slice U un uc))
     (go_keep)
     (first
      | (go_at_call 20; refine LN.out.mono ?_; rintro e w5 ⟨rfl, bb⟩; have s0 : w5.cell? ⟨w.heap.size, 0, none⟩ = some a := (HN2.out.1.sys.next bb).cell 0; have s1 : w5.cell? ⟨w.heap.size, 1, none⟩ = some v := (HN2.out.1.sys.next bb).cell 1; have s2 : w5.cell? ⟨w2.heap.size, 0, none⟩ = some (.slice (some ⟨tb, toff, none⟩) tn tc) := (by rw [(HN2.out.1.fnd.next bb).cell 0, HF.out]; rfl); have s3 : w5.cell? ⟨tb, toff + i, none⟩ = some (.slice U un uc) := (bb.cell (p := ⟨tb, toff + i, none⟩) HN2.out.2.2.2.2.2).trans ct))
    cases bv with
    | false =>
     have F := hid (show Nm w a v V.heap.size w2.heap.size fs (.slice (some ⟨tb, toff, none⟩) tn tc) (termsF S.1) (normalB d.1 d.2) (i + 1) b on oc w5 from
      ⟨HN2.out.1.sys.next bb, HN2.out.1.fnd.next bb, notIn_below HN2.out.1.rd bb, by have h := (HN2.out.1.o.next bb).wider (Nat.le_refl _) bb.size; rw [HN2.out.2.2.2.1, if_neg (by simp), List.append_nil]; exact h, HN2.out.1.at_, next_trans HN2.out.1.bel bb, ⟨HN2.out.1.z.1, HN2.out.1.z.2.1, Nat.le_trans HN2.out.1.z.2.2 bb.size⟩⟩)
     have G := hid HN2.out.2.2.2.2.1
     clear bb LN HN2 s0 s1 s2 s3 k0 k1 c0 ct
     go_wp2
     go_roundg (gk - 1)
     case measure => have := G.out; omega
     case rel => exact ⟨i + 1, b, on, oc, rfl, by simp, by have := G.out; omega, F.out⟩
    | true =>
     have LC := hid (copyInts U un uc y w5 (HN2.out.2.1.next bb) HN2.out.2.2.1.2.2 hun)
     have N5 := hid (HN2.out.1.next bb)
     have hst := HN2.out.2.2.2.1
     rw [if_pos rfl] at hst
     have G := hid (show i + gk = tn ∧ (List.take (i + 1) (termsF S.1)).filter (normalB d.1 d.2) = (List.take i (termsF S.1)).filter (normalB d.1 d.2) ++ [y] from ⟨HN2.out.2.2.2.2.1, hst⟩)
     clear bb LN HN2 k0 k1 c0 ct hst
     go_wp2_with fail
     refine LC.out.mono ?_
     rintro e w6 ⟨X, xn, xc, rfl, oX, bb⟩
     have z6 := bb.size
     have b3 : Below w6.heap.size w6 (w6.alloc (.cells #[.slice X xn xc] 22)) := (Below.refl _ _).alloc (Nat.le_refl _) _
     have zz := N5.out.z
     have HAPP := hid (show OwnL (w6.alloc (.cells #[.slice X xn xc] 22)) (w.heap.size + 1) w5.heap.size 22 sI (some ⟨b, 0, none⟩) on oc ((List.take i (termsF S.1)).filter (normalB d.1 d.2)) ∧ OwnL (w6.alloc (.cells #[.slice X xn xc] 22)) w5.heap.size (w6.heap.size + 1) 22 sI (some ⟨w6.heap.size, 0, none⟩) 1 1 [y] from
      ⟨(N5.out.o.next bb).next b3, OwnL.single (e := 22) (s := sI) (Row.new w6 22 #[.slice X xn xc]) (((ow_ints (lo := w5.heap.size) (hi := w6.heap.size)).2 (Ownd.of_own oX)).next b3) (Nat.le_refl _) bb.size⟩)
     have N7 := hid ((N5.out.next bb).next b3)
     clear oX bb LC N5 s0 s1 s2 s3 b3
     go_wp2_with (at_builtin; refine appLm rfl _ _ 29 22 sI _ _ Try.underlying29 info_list rfl (by decide) rfl (w.heap.size + 1) w5.heap.size w5.heap.size (w6.heap.size + 1) (some ⟨b, 0, none⟩) on oc w6.heap.size 1 1 _ _ rfl HAPP.out.1 rfl HAPP.out.2 (Nat.le_refl _) (by omega) (by omega) (by omega) (by simp; omega) ?_; intro A4 oc' w4 oL4 hg4 hat4 b4 hf4; obtain ⟨O', rfl⟩ := hf4 (.inr (by omega)))
     have F := hid (show Nm w a v V.heap.size w2.heap.size fs (.slice (some ⟨tb, toff, none⟩) tn tc) (termsF S.1) (normalB d.1 d.2) (i + 1) O' (on + 1) oc' w4 from by
      have h7 := N7.out
      have ho : O' = b ∨ O' = w6.heap.size + 1 := by
       rcases hat4 with h | h
       ·left; injection h with h
       ·right; have h : some O' = some (w6.alloc (.cells #[.slice X xn xc] 22)).heap.size := h; injection h with h; simpa using h
      have hne : ∀ k, (k = w.heap.size ∨ k = w2.heap.size) → blk (some ⟨b, 0, none⟩ : Option Addr) ≠ some k := fun k hk e => by
       have e : some b = some k := e
       injection e with e
       rcases h7.at_ with h | h <;> rcases hk with h8 | h8 <;> omega
      refine ⟨Row.away h7.sys hg4 (hne _ (.inl rfl)), Row.away h7.fnd hg4 (hne _ (.inr rfl)), notIn_kept h7.rd hg4 (fun k hk => ?_) (fun k _ hk => hk), by rw [G.out.2]; exact oL4, ?_, ?_, ⟨zz.1, zz.2.1, by have := hg4.size; simp at this; omega⟩⟩
      ·have hk : some b = some k := hk
       injection hk with hk
       subst hk
       exact h7.at_
      ·rcases ho with h | h
       ·rw [h]; exact h7.at_
       ·right; omega
      ·exact h7.bel.trans (b4.mono (by omega)))
     clear oL4 hg4 hat4 b4 HAPP N7 hf4
     go_wp2
     go_roundg (gk - 1)
     case measure => have := G.out.1; omega
     case rel => exact ⟨i + 1, O', on + 1, oc', rfl, by simp, by have := G.out.1; omega, F.out⟩
   ·obtain rfl : i = tn := by omega
    have i1 : ¬ (i : Int) < (i : Int) := by omega
    have F := hid (show Copy1 w sTs (normsI d.1 d.2 t (n : Int)) (.returned (.slice (some ⟨b, 0, none⟩) on oc)) wr from
     ⟨_, _, _, rfl, by have h := N.o; rw [List.take_of_length_le (by rw [HV.out.2.1]; exact Nat.le_refl _)] at h; rw [HN.out]; exact h.owned.wider (Nat.le_succ _) (Nat.le_refl _), N.bel⟩)
    clear N hg
    go_wp2
    go_ret
    exact F.out
end normsSpec
end
section
namespace openX
open Go.ChangeShapes Go.WideShapes Go.ChangeAt Go.RowKit base segs shape
def Wf : (s : Sh) → Dat s → Prop
 | .num, (x : Int) => -9223372036854775808 ≤ x ∧ x ≤ 9223372036854775807
 | .bit, _ => True
 | .row _ s, (d : List (Dat s)) => ∀ j, j < d.length → Wf s (d.getD j (dft s))
 | .cat a b, d => Wf a d.1 ∧ Wf b d.2
mutual
def fitsB (P : Program) : Nat → Sh → TypeId → Bool
 | 0, _, _ => false
 | n + 1, s, t => match P.underlying t with
  | some (.struct fs) => P.cellsOf t == nc s && fitsL P n fs.toList 0 s
  | some (.int .i64) => match s with | .num => true | _ => false
  | some .bool => match s with | .bit => true | _ => false
  | some (.slice e) => match s with | .row _ s' => P.cellsOf e == nc s' && fitsB P n s' e | _ => false
  | _ => false
def fitsL (P : Program) : Nat → List Field → Nat → Sh → Bool
 | 0, _, _, _ => false
 | _ + 1, [], _, _ => false
 | n + 1, [f], k, s => f.offset == k && (P.cellsOf f.type == nc s && fitsB P n s f.type)
 | n + 1, f :: g :: fs, k, s => match s with | .cat a b => f.offset == k && (P.cellsOf f.type == nc a && (fitsB P n a f.type && fitsL P n (g :: fs) (k + nc a) b)) | _ => false
end
section
variable {H : Type} {enc : TypeId × Value → H} {P : Program} {w : World} {held : Bool}
theorem addr_add {b off i : Nat} : (⟨b, off, none⟩ : Addr).add i = ⟨b, off + i, none⟩ := by unfold Addr.add; split <;> simp_all
theorem rd_trod : ∀ n : Nat, (∀ (s : Sh) (t : TypeId) (fuel : Nat) (cs : List Value) (x : DataW H × List MemPlace), fitsB P n s t = true → DataW.trod enc P w 0 (fun _ => true) held fuel t cs = some x → ∃ d, Rd w w.heap.size s cs d ∧ Wf s d) ∧
  (∀ (fs : List Field) (k : Nat) (s : Sh) (cs : List Value) (m : Nat), fitsL P n fs k s = true → (∀ (i : Nat) (f : Field), fs[i]? = some f → ∃ x, DataW.trod enc P w 0 (fun _ => true) held m f.type ((cs.drop f.offset).take (P.cellsOf f.type)) = some x) →
   ∃ d, Rd w w.heap.size s ((cs.drop k).take (nc s)) d ∧ Wf s d) := by
 intro n
 induction n with
 | zero => exact ⟨fun _ _ _ _ _ h => by simp [fitsB] at h, fun _ _ _ _ _ h => by simp [fitsL] at h⟩
 | succ n ih =>
  refine ⟨fun s t fuel cs x hf h => ?_, fun fs k s cs m hf h => ?_⟩
  ·unfold fitsB at hf
   split at hf
   ·rename_i fs hu
    simp only [Bool.and_eq_true, beq_iff_eq] at hf
    obtain ⟨xs, n', hfu, hx, hlen, hxl, hg⟩ := DataW.trod_struct hu h
    obtain ⟨d, hr, hw⟩ := ih.2 fs.toList 0 s cs n' hf.2 (fun i f hi => by
     have hi' : fs[i]? = some f := by simpa using hi
     have h1 := hg i f hi'
     have hlt : i < fs.size := (Array.getElem?_eq_some_iff.1 hi').1
     exact ⟨xs[i]'(by omega), by rw [h1]; exact List.getElem?_eq_getElem (by omega)⟩)
    rw [List.drop_zero, List.take_of_length_le (by omega)] at hr
    exact ⟨d, hr, hw⟩
   ·rename_i hu
    split at hf
    ·obtain ⟨z, e1, _, hw⟩ := DataW.trod_int hu h
     refine ⟨z, e1, ?_⟩
     show -9223372036854775808 ≤ z ∧ z ≤ 9223372036854775807
     simpa [Lit.wf, IntKind.min, IntKind.max, IntKind.signed, IntKind.bits] using hw
    ·cases hf
   ·rename_i hu
    split at hf
    ·obtain ⟨z, e1, _⟩ := DataW.trod_bool hu h
     exact ⟨z, e1, trivial⟩
    ·cases hf
   ·rename_i e hu
    split at hf
    ·rename_i e0 s'
     simp only [Bool.and_eq_true, beq_iff_eq] at hf
     rcases Go.Deep.open_slice hu h with ⟨hcs, _⟩ | ⟨a, len, cap, m, n', D, Pl, hcs, _, hl, hm, hmm, _, hi⟩
     ·exact ⟨[], ⟨none, 0, 0, hcs, ⟨by omega, by omega, fun _ => rfl⟩, rfl, fun h => absurd h (by omega)⟩, fun j hj => absurd hj (Nat.not_lt_zero _)⟩
     ·have hmc : m = cap := by simpa using hmm
      subst hmc
      have hd : ∀ j, j < len → ∃ (es : List Value) (dj : Dat s'), es.length = nc s' ∧ (∀ i, i < nc s' → w.cell? ((a.add (j * nc s')).add i) = es[i]?) ∧ Rd w w.heap.size s' es dj ∧ Wf s' dj := fun j hj => by
       obtain ⟨cs', hc, ht⟩ := hi j (by omega)
       obtain ⟨dj, hr, hw⟩ := ih.1 s' e n' cs' _ hf.2 ht
       rw [hf.1] at hc
       obtain ⟨_, hcl, hat⟩ := World.cells?_some hc
       exact ⟨cs', dj, hcl, hat, hr, hw⟩
      have hspot : 0 < len → a.spot = none := fun h0 => by
       obtain ⟨es, dj, h1, h2, _⟩ := hd 0 h0
       have hp := nc_pos s'
       have h3 := h2 0 (by omega)
       rw [List.getElem?_eq_getElem (by omega)] at h3
       have := World.cell?_spot h3
       simpa [Addr.add] using this
      obtain ⟨ds, hdl, hds⟩ : ∃ ds : List (Dat s'), ds.length = len ∧ ∀ j, j < len → ∃ es : List Value, es.length = nc s' ∧ (∀ i, i < nc s' → w.cell? ((a.add (j * nc s')).add i) = es[i]?) ∧ Rd w w.heap.size s' es (ds.getD j (dft s')) ∧ Wf s' (ds.getD j (dft s')) := by
       refine ⟨(List.range len).map fun j => if hj : j < len then Classical.choose (Classical.choose_spec (hd j hj)) else dft s', by simp, fun j hj => ?_⟩
       refine ⟨Classical.choose (hd j hj), ?_⟩
       have h1 := Classical.choose_spec (Classical.choose_spec (hd j hj))
       have e1 : ((List.range len).map fun j => if hj : j < len then Classical.choose (Classical.choose_spec (hd j hj)) else dft s').getD j (dft s') = Classical.choose (Classical.choose_spec (hd j hj)) := by simp [List.getD, hj]
       rw [e1]
       exact h1
      refine ⟨ds, ⟨some a, len, m, hcs, ⟨hl, by unfold maxLen at hm; omega, fun e => by cases e⟩, hdl, fun h0 => ?_⟩, fun j hj => by
       obtain ⟨es, _, _, _, hw⟩ := hds j (by rw [← hdl]; exact hj)
       exact hw⟩
      obtain ⟨b, off, spot⟩ := a
      have hs := hspot h0
      simp only at hs
      subst hs
      refine ⟨b, off, rfl, ?_, fun j hj => ?_⟩
      ·obtain ⟨es, h1, h2, _⟩ := hds 0 h0
       have hp := nc_pos s'
       have h3 := h2 0 (by omega)
       rw [List.getElem?_eq_getElem (by omega)] at h3
       have h4 := World.block_lt_of_cell? _ _ h3
       simpa [addr_add] using h4
      ·obtain ⟨es, h1, h2, h3, _⟩ := hds j hj
       refine ⟨es, h1, fun i hi2 => ?_, h3⟩
       have := h2 i (by omega)
       rw [addr_add, addr_add] at this
       exact this
    ·cases hf
   ·cases hf
  ·match fs, hf, h with
   | [], hf, _ => simp [fitsL] at hf
   | [f], hf, h =>
    unfold fitsL at hf
    simp only [Bool.and_eq_true, beq_iff_eq] at hf
    obtain ⟨h1, h2, h3⟩ := hf
    obtain ⟨x, hx⟩ := h 0 f rfl
    rw [h1, h2] at hx
    exact ih.1 s f.type m _ x h3 hx
   | f :: g :: fs, hf, h =>
    cases s with
    | cat a b =>
     unfold fitsL at hf
     simp only [Bool.and_eq_true, beq_iff_eq] at hf
     obtain ⟨h1, h2, h3, h4⟩ := hf
     obtain ⟨x, hx⟩ := h 0 f rfl
     rw [h1, h2] at hx
     obtain ⟨d1, r1, w1⟩ := ih.1 a f.type m _ x h3 hx
     obtain ⟨d2, r2, w2⟩ := ih.2 (g :: fs) (k + nc a) b cs m h4 (fun i f' hi => h (i + 1) f' hi)
     refine ⟨(d1, d2), ⟨_, _, ?_, r1, r2⟩, w1, w2⟩
     show List.take (nc a + nc b) (List.drop k cs) = _
     rw [List.take_add, List.drop_drop]
    | num => simp [fitsL] at hf
    | bit => simp [fitsL] at hf
    | row e s' => simp [fitsL] at hf
theorem open_val {s : Sh} {t : TypeId} {v : Value} {d : DataW H} {p : List MemPlace} {n : Nat} (hf : fitsB P n s t = true) (h : DataW.Trod enc P w 0 (fun _ => true) held t v d p) : ∃ x, Rd w w.heap.size s v.cells.toList x ∧ Wf s x := by
 obtain ⟨fuel, hfu⟩ := h
 exact (rd_trod n).1 s t fuel _ _ hf hfu
end
end openX
end
end Go.Proofs.Ythdmhhmnipoceaa
