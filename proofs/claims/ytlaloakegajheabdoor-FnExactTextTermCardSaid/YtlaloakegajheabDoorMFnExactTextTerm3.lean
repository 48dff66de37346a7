/-
  MERGED: my texts TextTermSpec, SplitB, ShelfV, Parsed, ShelfX, TextHead, ParsedH, TermTextC, TextTermImpl, FieldsMark, TextTermX, WTextTerm, VarsOpen, OpenX, one behind the other, as they are. By an AI agent.
-/
import Derived.Test.YtlaloakegajheabDoorMFnExactTextTerm2
import Derived.Lib.SplitLaws
import Derived.Lib.ParseIntB
import Derived.Shelf.Strconv.ParseIntPublic10
import Derived.Test.YtlaloakegajheabDoorProg
import Derived.BigQuiet
import Derived.Shelf.Small.Wraps
import Derived.Deep.RegionHeld3
import Derived.Shelf.Vars
import Derived.Handed
import Derived.Stop.LaidErr
import Derived.Test.YtlaloakegajheabDoorRows
import Derived.ProofKit
import Derived.OpenShut
import Derived.Lib.SmallJoins
import Derived.Deep.Slices
import Derived.Deep.Fields
namespace Go.Proofs.YtlaloakegajheabDoor
section
open Go.Lib (hid)
namespace textTermSpec
open Go.RowKit base ints sig term termOk sym marks app text textL termText splitMath splitSpec wordMath numSpec
set_option maxRecDepth 100000
theorem num_len : ∀ (f : Nat) (l : List UInt8) (out r : List Int), numN f l out = some r → out.length ≤ 60 → r.length ≤ 60
 | 0, l, out, r, h, ho => by
  rw [numN] at h
  injection h with h
  rw [← h]
  exact ho
 | f + 1, [], out, r, h, ho => by
  rw [numN] at h
  injection h with h
  rw [← h]
  exact ho
 | f + 1, x :: l, out, r, h, ho => by
  rw [numN] at h
  split at h
  ·split at h
   ·rename_i h2
    exact num_len f _ _ r h (by rw [List.length_append]; have := h2.2; simp; omega)
   ·cases h
  ·exact num_len f l out r h ho
def ttO (sg : List Int) (l : List UInt8) : Option (List Int) := if l.length ≤ 400 then (numN l.length l []).bind fun t => if termOkB sg t = true ∧ termT sg t = l then some t else none else none
theorem ttO_of {sg : List Int} {l : List UInt8} {R : Option (List Int)} (h : l.length ≤ 400) (hR : numN l.length l [] = R) : ttO sg l = R.bind fun t => if termOkB sg t = true ∧ termT sg t = l then some t else none := by
 unfold ttO
 rw [if_pos h, hR]
theorem ansN_new {w wr : World} {R : Option (List Int)} (h : R = none) (hb : Below w.heap.size w wr) : AnsN w R (.returned (.tuple #[.slice (some ⟨wr.heap.size, 0, none⟩) 0 0, .bool false])) (wr.alloc (.cells #[] 2)) :=
 ⟨_, _, _, by rw [h]; rfl, by rw [h]; exact own_empty wr w.heap.size hb.size, hb.alloc hb.size _⟩
theorem str_neq {a b : List UInt8} (h : ¬ a = b) : ((bs a).toList == (bs b).toList) = false := by
 rw [beq_eq_false_iff_ne, ByteArray.toList_eq, ByteArray.toList_eq]
 exact fun e => h e
set_option maxHeartbeats 1000000 in
theorem specTextTerm0 (A : Option Addr) (n c : Nat) (sg : List Int) (l : List UInt8) (w : World) (h : Seg w w.heap.size A n sg) (hn : n ≤ 1048576) :
  Calls Tryd.prog 9 #[.agg #[.slice A n c], .string (bs l)] w (AnsN w (ttO sg l)) := by
 obtain ⟨T, hT⟩ : ∃ T, bs l = T := ⟨_, rfl⟩
 obtain ⟨N, hN⟩ : ∃ N, l.length = N := ⟨_, rfl⟩
 have hlen : ∀ v : World, (Builtin.len_ #[9] 3 #[.string T]).run Tryd.prog v = .ok (.int .i64 (N : Int)) v := by
  intro v
  rw [run_len_string (P := Tryd.prog) v 9 3 T Tryd.underlying9, ← hT, bs_size, hN]
  rfl
 rw [hT]
 have HT := hid hT
 have HN := hid hN
 have H := hid h
 obtain ⟨W, hW⟩ : ∃ W, W = w.alloc (.cells #[.slice A n c] 28) := ⟨_, rfl⟩
 have r0 : Row W w.heap.size 28 #[.slice A n c] := by rw [hW]; exact Row.new _ _ _
 have bel : Below w.heap.size w W := by rw [hW]; exact (Below.refl _ _).alloc (Nat.le_refl _) _
 have HW := hid hW
 clear hT h
 by_cases hL : N ≤ 400
 ·have a1 : ¬ (400 : Int) < (N : Int) := by omega
  have LS := hid (l10Numbers l W (by rw [hN]; omega))
  obtain ⟨Q, hQ⟩ : ∃ Q, numN l.length l [] = Q := ⟨_, rfl⟩
  have HO := hid (ttO_of (sg := sg) (by rw [hN]; exact hL) hQ)
  have hQl : ∀ r, Q = some r → r.length ≤ 60 := fun r hr => num_len _ _ _ r (hQ.trans hr) (by simp)
  rw [HT.out, hQ] at LS
  clear hN hW hQ
  go_enter Tryd.func9, Tryd.ntmps9
  go_wp2_with fail
  rw [← HW.out]
  refine LS.out.mono ?_
  rintro e w1 ⟨O, on, oc, he, oO, bb⟩
  replace r0 := r0.next bb
  replace bel := next_trans bel bb
  have c0 : w1.cell? ⟨w.heap.size, 0, none⟩ = some (.slice A n c) := r0.cell 0
  clear bb LS
  cases Q with
  | none =>
   have he2 : e = .returned (.tuple #[.slice O on oc, .bool false]) := he
   subst he2
   have F := hid (ansN_new (show ttO sg l = none by rw [HO.out]; rfl) bel)
   clear oO bel r0
   go_wp2
   go_ret2
   exact F.out
  | some t =>
   have he2 : e = .returned (.tuple #[.slice O on oc, .bool true]) := he
   subst he2
   have oT : Own w1 W.heap.size (.slice O on oc) t := oO
   have hon : on = t.length := Own.len oT
   have ht60 := hQl t rfl
   have hon9 : on ≤ 1048576 := by omega
   have LK := hid (specTermOk A O n c on oc sg t w1 (H.out.next bel) oT.seg hn hon9)
   have HOT := hid (show ttO sg l = if termOkB sg t = true ∧ termT sg t = l then some t else none from HO.out)
   clear hQl hon ht60 oO he
   go_wp2_with fail
   refine LK.out.mono ?_
   rintro e w3 ⟨he, bb⟩
   replace r0 := r0.next bb
   replace oT := Own.next oT bb
   replace bel := next_trans bel bb
   have c0 : w3.cell? ⟨w.heap.size, 0, none⟩ = some (.slice A n c) := r0.cell 0
   clear bb LK
   cases ok : termOkB sg t with
   | false =>
    rw [ok] at he
    subst he
    have F := hid (ansN_new (show ttO sg l = none by rw [HOT.out, if_neg (fun h => by rw [ok] at h; exact absurd h.1 (by simp))]) bel)
    clear ok oT bel r0
    go_wp2
    go_ret2
    exact F.out
   | true =>
    rw [ok] at he
    subst he
    have OK := hid ok
    have LX := hid (specTermText0 A O n c on oc sg t w3 (H.out.next bel) oT.seg hn hon9)
    clear ok
    go_wp2_with fail
    refine LX.out.mono ?_
    rintro e w4 ⟨rfl, bb⟩
    replace r0 := r0.next bb
    replace oT := Own.next oT bb
    replace bel := next_trans bel bb
    have c0 : w4.cell? ⟨w.heap.size, 0, none⟩ = some (.slice A n c) := r0.cell 0
    clear bb LX
    by_cases hq : termT sg t = l
    ·have hs : ttO sg l = some t := by rw [HOT.out, if_pos ⟨OK.out, hq⟩]
     rw [hq, HT.out]
     have F : AnsN w (ttO sg l) (.returned (.tuple #[.slice O on oc, .bool true])) w4 := ⟨O, on, oc, by rw [hs]; rfl, by rw [hs]; exact Own.lower oT (by rw [HW.out]; simp), bel⟩
     have HF := hid F
     clear F oT bel r0 hs hq
     go_wp2
     go_ret2
     exact HF.out
    ·have hTT : ((bs (termT sg t)).toList == T.toList) = false := by rw [← HT.out]; exact str_neq hq
     have F := hid (ansN_new (show ttO sg l = none by rw [HOT.out, if_neg (fun h => hq h.2)]) bel)
     obtain ⟨V, hV⟩ : ∃ V, bs (termT sg t) = V := ⟨_, rfl⟩
     rw [hV] at hTT ⊢
     clear hq r0 oT bel hV
     go_wp2
     go_ret2
     exact F.out
 ·have a1 : (400 : Int) < (N : Int) := by omega
  have no : ttO sg l = none := by unfold ttO; rw [HN.out, if_neg hL]
  have F := hid (show AnsN w (ttO sg l) (.returned (.tuple #[.slice (some ⟨w.heap.size + 1, 0, none⟩) 0 0, .bool false])) ((w.alloc (.cells #[.slice A n c] 28)).alloc (.cells #[] 2)) by
   have h9 := ansN_new no bel
   rw [HW.out] at h9
   simpa using h9)
  clear no hN hL bel r0 hW
  go_enter Tryd.func9, Tryd.ntmps9
  go_wp2
  go_ret2
  exact F.out
end textTermSpec
end
section
namespace splitB
open sig term termOk text textL sigText splitMath
def pv (w : List UInt8) : Option Int := match Lib.parseIntB 64 w with
 | .ok v => some v
 | _ => none
def pw (w : List UInt8) : Int := (pv w).getD 0
theorem pv_fin : ∀ d : Fin 10, pv [ch d.val] = some (d.val : Int) := by decide
theorem pv_ch {d : Nat} (h : d < 10) : pv [ch d] = some (d : Int) := pv_fin ⟨d, h⟩
end splitB
end
end Go.Proofs.YtlaloakegajheabDoor
section
namespace Go.Proofs
open Go.Shelf
def Tryd.laysPI174_ren : Go.Shelf.Ren := ⟨fun | 174 => 80 | 247 => 95 | 245 => 96 | 287 => 117 | 279 => 118 | 280 => 119 | 281 => 120 | 282 => 121 | 321 => 133 | 322 => 134 | 316 => 135 | 171 => 137 | 205 => 136 | 243 => 143 | 246 => 92 | 283 => 111 | 284 => 112 | 285 => 113 | 286 => 114 | 129 => 129 | 317 => 128 | 318 => 130 | 319 => 131 | 320 => 132 | 337 => 141 | 338 => 142 | n => n, fun | 9 => 9 | 3 => 3 | 2 => 2 | 75 => 105 | 85 => 108 | 4 => 4 | 167 => 141 | 5 => 5 | 53 => 133 | 175 => 142 | 46 => 129 | 168 => 144 | 37 => 100 | 0 => 0 | 210 => 159 | 21 => 21 | 127 => 122 | 145 => 164 | 143 => 162 | 171 => 132 | 173 => 136 | 212 => 151 | 51 => 152 | 20 => 20 | 213 => 153 | 232 => 171 | 233 => 172 | 80 => 94 | n => n, fun | 15 => 2 | 16 => 3 | 17 => 1 | 18 => 6 | 19 => 7 | n => n⟩
theorem Tryd.laysPI174 : Go.Proofs.LaysC.n174 Tryd.prog Tryd.laysPI174_ren := {
 mixed := by kernel_rfl
 f129 := Tryd.func129.trans (congrArg some (by kernel_rfl))
 f171 := Tryd.func137.trans (congrArg some (by kernel_rfl))
 f174 := Tryd.func80.trans (congrArg some (by kernel_rfl))
 f205 := Tryd.func136.trans (congrArg some (by kernel_rfl))
 f243 := Tryd.func143.trans (congrArg some (by kernel_rfl))
 f245 := Tryd.func96.trans (congrArg some (by kernel_rfl))
 f246 := Tryd.func92.trans (congrArg some (by kernel_rfl))
 f247 := Tryd.func95.trans (congrArg some (by kernel_rfl))
 f279 := Tryd.func118.trans (congrArg some (by kernel_rfl))
 f280 := Tryd.func119.trans (congrArg some (by kernel_rfl))
 f281 := Tryd.func120.trans (congrArg some (by kernel_rfl))
 f282 := Tryd.func121.trans (congrArg some (by kernel_rfl))
 f283 := Tryd.func111.trans (congrArg some (by kernel_rfl))
 f284 := Tryd.func112.trans (congrArg some (by kernel_rfl))
 f285 := Tryd.func113.trans (congrArg some (by kernel_rfl))
 f286 := Tryd.func114.trans (congrArg some (by kernel_rfl))
 f287 := Tryd.func117.trans (congrArg some (by kernel_rfl))
 f316 := Tryd.func135.trans (congrArg some (by kernel_rfl))
 f317 := Tryd.func128.trans (congrArg some (by kernel_rfl))
 f318 := Tryd.func130.trans (congrArg some (by kernel_rfl))
 f319 := Tryd.func131.trans (congrArg some (by kernel_rfl))
 f320 := Tryd.func132.trans (congrArg some (by kernel_rfl))
 f321 := Tryd.func133.trans (congrArg some (by kernel_rfl))
 f322 := Tryd.func134.trans (congrArg some (by kernel_rfl))
 f337 := Tryd.func141.trans (congrArg some (by kernel_rfl))
 f338 := Tryd.func142.trans (congrArg some (by kernel_rfl))
 t0 := Tryd.underlying0
 a0 := Tryd.isAgg0
 z0 := Tryd.sizeOf0
 v0 := Tryd.zeroValue0
 t2 := Tryd.underlying2
 a2 := Tryd.isAgg2
 z2 := Tryd.sizeOf2
 v2 := Tryd.zeroValue2
 t3 := Tryd.underlying3
 a3 := Tryd.isAgg3
 z3 := Tryd.sizeOf3
 v3 := Tryd.zeroValue3
 t4 := Tryd.underlying4
 a4 := Tryd.isAgg4
 z4 := Tryd.sizeOf4
 v4 := Tryd.zeroValue4
 t5 := Tryd.underlying5
 a5 := Tryd.isAgg5
 z5 := Tryd.sizeOf5
 v5 := Tryd.zeroValue5
 t9 := Tryd.underlying9
 a9 := Tryd.isAgg9
 z9 := Tryd.sizeOf9
 v9 := Tryd.zeroValue9
 t20 := Tryd.underlying20
 a20 := Tryd.isAgg20
 z20 := Tryd.sizeOf20
 v20 := Tryd.zeroValue20
 t21 := Tryd.underlying21
 a21 := Tryd.isAgg21
 z21 := Tryd.sizeOf21
 v21 := Tryd.zeroValue21
 t37 := Tryd.underlying100
 a37 := Tryd.isAgg100
 z37 := Tryd.sizeOf100
 v37 := Tryd.zeroValue100
 t46 := Tryd.underlying129
 a46 := Tryd.isAgg129
 z46 := Tryd.sizeOf129
 v46 := Tryd.zeroValue129
 t51 := Tryd.underlying152
 a51 := Tryd.isAgg152
 z51 := Tryd.sizeOf152
 v51 := Tryd.zeroValue152
 t53 := Tryd.underlying133
 a53 := Tryd.isAgg133
 z53 := Tryd.sizeOf133
 v53 := Tryd.zeroValue133
 t75 := Tryd.underlying105
 a75 := Tryd.isAgg105
 z75 := Tryd.sizeOf105
 v75 := Tryd.zeroValue105
 t85 := Tryd.underlying108
 a85 := Tryd.isAgg108
 z85 := Tryd.sizeOf108
 v85 := Tryd.zeroValue108
 t127 := Tryd.underlying122
 a127 := Tryd.isAgg122
 z127 := Tryd.sizeOf122
 v127 := Tryd.zeroValue122
 t143 := Tryd.underlying162
 a143 := Tryd.isAgg162
 z143 := Tryd.sizeOf162
 v143 := Tryd.zeroValue162
 t145 := Tryd.underlying164
 a145 := Tryd.isAgg164
 z145 := Tryd.sizeOf164
 v145 := Tryd.zeroValue164
 t167 := Tryd.underlying141
 a167 := Tryd.isAgg141
 z167 := Tryd.sizeOf141
 v167 := Tryd.zeroValue141
 t168 := Tryd.underlying144
 a168 := Tryd.isAgg144
 z168 := Tryd.sizeOf144
 v168 := Tryd.zeroValue144
 t171 := Tryd.underlying132
 a171 := Tryd.isAgg132
 z171 := Tryd.sizeOf132
 v171 := Tryd.zeroValue132
 t173 := Tryd.underlying136
 a173 := Tryd.isAgg136
 z173 := Tryd.sizeOf136
 v173 := Tryd.zeroValue136
 t175 := Tryd.underlying142
 a175 := Tryd.isAgg142
 z175 := Tryd.sizeOf142
 v175 := Tryd.zeroValue142
 t210 := Tryd.underlying159
 a210 := Tryd.isAgg159
 z210 := Tryd.sizeOf159
 v210 := Tryd.zeroValue159
 t212 := Tryd.underlying151
 a212 := Tryd.isAgg151
 z212 := Tryd.sizeOf151
 v212 := Tryd.zeroValue151
 t213 := Tryd.underlying153
 a213 := Tryd.isAgg153
 z213 := Tryd.sizeOf153
 t232 := Tryd.underlying171
 a232 := Tryd.isAgg171
 z232 := Tryd.sizeOf171
 v232 := Tryd.zeroValue171
 t233 := Tryd.underlying172
 a233 := Tryd.isAgg172
 z233 := Tryd.sizeOf172
 v233 := Tryd.zeroValue172
 g15 := by kernel_rfl
 g16 := by kernel_rfl
 g17 := by kernel_rfl
 g18 := by kernel_rfl
 g19 := by kernel_rfl
 t80 := Tryd.underlying94
 a80 := Tryd.isAgg94
 z80 := Tryd.sizeOf94
 v80 := Tryd.zeroValue94
 i0 := by kernel_rfl
 i2 := by kernel_rfl
 i3 := by kernel_rfl
 i4 := by kernel_rfl
 i5 := by kernel_rfl
 i9 := by kernel_rfl
 i20 := by kernel_rfl
 i21 := by kernel_rfl
 i37 := by kernel_rfl
 i46 := by kernel_rfl
 i51 := by kernel_rfl
 i53 := by kernel_rfl
 i75 := by kernel_rfl
 i80 := by kernel_rfl
 i85 := by kernel_rfl
 i127 := by kernel_rfl
 i143 := by kernel_rfl
 i145 := by kernel_rfl
 i167 := by kernel_rfl
 i168 := by kernel_rfl
 i171 := by kernel_rfl
 i173 := by kernel_rfl
 i175 := by kernel_rfl
 i210 := by kernel_rfl
 i212 := by kernel_rfl
 i232 := by kernel_rfl
 i233 := by kernel_rfl
 m15 := by kernel_rfl
 m16 := by kernel_rfl
 m17 := by kernel_rfl
 m18 := by kernel_rfl
 m19 := by kernel_rfl
 c0 := by kernel_rfl
 c2 := by kernel_rfl
 c3 := by kernel_rfl
 c4 := by kernel_rfl
 c5 := by kernel_rfl
 c9 := by kernel_rfl
 c20 := by kernel_rfl
 c21 := by kernel_rfl
 c37 := by kernel_rfl
 c46 := by kernel_rfl
 c51 := by kernel_rfl
 c53 := by kernel_rfl
 c75 := by kernel_rfl
 c80 := by kernel_rfl
 c85 := by kernel_rfl
 c127 := by kernel_rfl
 c143 := by kernel_rfl
 c145 := by kernel_rfl
 c167 := by kernel_rfl
 c168 := by kernel_rfl
 c171 := by kernel_rfl
 c173 := by kernel_rfl
 c175 := by kernel_rfl
 c210 := by kernel_rfl
 c212 := by kernel_rfl
 c213 := by kernel_rfl
 c232 := by kernel_rfl
 c233 := by kernel_rfl }
open Go.RowKit Go.Lib in
theorem Tryd.strconv_ParseInt_ok (s : ByteArray) (hmax : s.size ≤ 9223372036854775806) (v : Int) (h : Lib.parseIntB 64 s.data.toList = .ok v) (w : World) :
  Calls Tryd.prog 80 #[.string s, .int .i64 10, .int .i64 64] w fun e w' => e = .returned (.tuple #[.int .i64 v, .nilIface]) ∧ (w' = w ∨ ∃ t, w' = Lib.bytesWorld w 5 t) := Any.strconv_ParseInt_10_at64_ok Tryd.laysPI174 s hmax v h w
open Go.RowKit Go.Lib in
theorem Tryd.strconv_ParseInt_range (s : ByteArray) (hlim : s.size ≤ 281474976710656) (h : Lib.parseIntB 64 s.data.toList = .range) (ev : Value) (w : World) (hv : w.cell? ⟨3, 0, none⟩ = some ev) (hev : ev = .nilIface ∨ ∃ te pe, ev = .iface te pe) :
  Calls Tryd.prog 80 #[.string s, .int .i64 10, .int .i64 64] w fun e w' => ∃ N, e = .returned (.tuple #[.int .i64 (Lib.intSat 64 s.data.toList), .iface 144 (.pointer (some ⟨N, 0, none⟩))]) ∧ w.heap.size ≤ N ∧ w'.heap[N]? = some (.cells #[.string ⟨#[80, 97, 114, 115, 101, 73, 110, 116]⟩, .string s, ev] 159 (0, 0)) ∧ RowKit.Below w.heap.size w w' := Any.strconv_ParseInt_10_at64_range Tryd.laysPI174 s hlim h ev w hv hev
end Go.Proofs
end
namespace Go.Proofs.YtlaloakegajheabDoor
section
namespace parsed
open Go.RowKit base ints marks app sym cursor text textL splitMath splitB
set_option maxRecDepth 100000
def Vs (w : World) : Prop := (∃ m, w.cell? ⟨0, 0, none⟩ = some (.int .i64 m)) ∧ (∃ ev, w.cell? ⟨2, 0, none⟩ = some ev ∧ (ev = .nilIface ∨ ∃ te pe, ev = .iface te pe)) ∧ (∃ ev, w.cell? ⟨3, 0, none⟩ = some ev ∧ (ev = .nilIface ∨ ∃ te pe, ev = .iface te pe))
theorem cell_next {w w' : World} {p : Addr} {v : Value} (h : w.cell? p = some v) (hb : Below w.heap.size w w') : w'.cell? p = some v := (hb.cell (p := p) (Lib.lt_of_cell h)).trans h
theorem Vs.next {w w' : World} (h : Vs w) (hb : Below w.heap.size w w') : Vs w' := by
 obtain ⟨⟨m, h1⟩, ⟨e1, h2, h3⟩, ⟨e2, h4, h5⟩⟩ := h
 exact ⟨⟨m, cell_next h1 hb⟩, ⟨e1, cell_next h2 hb, h3⟩, ⟨e2, cell_next h4 hb, h5⟩⟩
def AnsTn (w : World) (y : List UInt8) (e : Ending) (w' : World) : Prop := (∃ x, e = .returned (.tuple #[.int .i64 x, .bool (pv y).isSome]) ∧ ((pv y).isSome = true → x = pw y)) ∧ Below w.heap.size w w'
theorem parseInt (y : List UInt8) (w : World) (hv : Vs w) (hl : y.length ≤ 1048576) :
  Calls Tryd.prog 80 #[.string (bs y), .int .i64 10, .int .i64 64] w fun e w' => Below w.heap.size w w' ∧ ((∃ v, pv y = some v ∧ e = .returned (.tuple #[.int .i64 v, .nilIface])) ∨ (pv y = none ∧ ∃ x p, e = .returned (.tuple #[.int .i64 x, .iface 144 (.pointer p)]))) := by
 obtain ⟨-, ⟨e1, h2, h3⟩, ⟨e2, h4, h5⟩⟩ := hv
 have hs : (bs y).size ≤ 1048576 := by rw [bs_size]; exact hl
 cases hp : Lib.parseIntB 64 (bs y).data.toList
 ·rename_i v
  refine (Tryd.strconv_ParseInt_ok (bs y) (by omega) v hp w).mono ?_
  rintro e w' ⟨rfl, hw⟩
  refine ⟨?_, .inl ⟨v, ?_, rfl⟩⟩
  ·rcases hw with rfl | ⟨t, rfl⟩
   ·exact Below.refl _ _
   ·exact Lib.bytesWorld_below _ _ _
  ·unfold pv
   rw [show Lib.parseIntB 64 y = _ from hp]
 ·have h9 : Calls Tryd.prog 80 #[.string (bs y), .int .i64 10, .int .i64 64] w fun e w' => ∃ N, e = .returned (.tuple #[.int .i64 0, .iface 144 (.pointer (some ⟨N, 0, none⟩))]) ∧ w.heap.size ≤ N ∧ w'.heap[N]? = some (.cells #[.string ⟨#[80, 97, 114, 115, 101, 73, 110, 116]⟩, .string (bs y), e1] 159 (0, 0)) ∧ Below w.heap.size w w' := Any.strconv_ParseInt_10_at64_syntax Tryd.laysPI174 (bs y) (by omega) hp e1 w h2 h3
  refine h9.mono ?_
  rintro e w' ⟨N, rfl, -, -, hb⟩
  refine ⟨hb, .inr ⟨?_, _, _, rfl⟩⟩
  unfold pv
  rw [show Lib.parseIntB 64 y = _ from hp]
 ·refine (Tryd.strconv_ParseInt_range (bs y) (by omega) hp e2 w h4 h5).mono ?_
  rintro e w' ⟨N, rfl, -, -, hb⟩
  refine ⟨hb, .inr ⟨?_, _, _, rfl⟩⟩
  unfold pv
  rw [show Lib.parseIntB 64 y = _ from hp]
set_option maxHeartbeats 1000000 in
theorem textNumber (y : List UInt8) (w : World) (hv : Vs w) (hl : y.length ≤ 1048576) :
  Calls Tryd.prog 52 #[.string (bs y)] w (AnsTn w y) := by
 have LP := Lib.hid (parseInt y w hv hl)
 clear hv hl
 obtain ⟨T, hT⟩ : ∃ T, bs y = T := ⟨_, rfl⟩
 rw [hT] at LP ⊢
 clear hT
 go_enter Tryd.func52, Tryd.ntmps52
 go_wp2_with fail
 refine LP.out.mono ?_
 rintro e w1 ⟨bb, ⟨v, hp, rfl⟩ | ⟨hp, x, p, rfl⟩⟩
 ·have F := Lib.hid (show ∀ q, AnsTn w y (.returned (.tuple #[.int .i64 v, .bool true])) (w1.drewN q) from fun q => ⟨⟨v, by rw [hp]; rfl, fun _ => by rw [pw, hp]; rfl⟩, next_trans bb (base.below_drewN (Below.refl _ _) _)⟩)
  clear LP bb hp
  go_wp2
  go_quiet (fail)
  go_wp2
  go_ret2
  exact F.out _
 ·have F := Lib.hid (show ∀ q, AnsTn w y (.returned (.tuple #[.int .i64 x, .bool false])) (w1.drewN q) from fun q => ⟨⟨x, by rw [hp]; rfl, fun h => by rw [hp] at h; cases h⟩, next_trans bb (base.below_drewN (Below.refl _ _) _)⟩)
  clear LP bb hp
  go_wp2
  go_quiet (fail)
  go_wp2
  go_ret2
  exact F.out _
end parsed
end
end Go.Proofs.YtlaloakegajheabDoor
section
namespace Go.Proofs
open Go.Shelf
def Tryd.lays103_ren : Go.Shelf.Ren := ⟨fun | 103 => 67 | 210 => 87 | 206 => 105 | n => n, fun | 9 => 9 | 4 => 4 | 24 => 83 | 3 => 3 | n => n, fun | n => n⟩
theorem Tryd.lays103 : Go.Proofs.Lays.n103 Tryd.prog Tryd.lays103_ren := {
 mixed := by kernel_rfl
 f103 := Tryd.func67.trans (congrArg some (by kernel_rfl))
 f206 := Tryd.func105.trans (congrArg some (by kernel_rfl))
 f210 := Tryd.func87.trans (congrArg some (by kernel_rfl))
 t3 := Tryd.underlying3
 a3 := Tryd.isAgg3
 z3 := Tryd.sizeOf3
 v3 := Tryd.zeroValue3
 t4 := Tryd.underlying4
 a4 := Tryd.isAgg4
 z4 := Tryd.sizeOf4
 v4 := Tryd.zeroValue4
 t9 := Tryd.underlying9
 a9 := Tryd.isAgg9
 z9 := Tryd.sizeOf9
 v9 := Tryd.zeroValue9
 t24 := Tryd.underlying83
 a24 := Tryd.isAgg83
 z24 := Tryd.sizeOf83
 v24 := Tryd.zeroValue83 }
open Go.RowKit Go.Lib in
theorem Tryd.strings_CutPrefix (s p : ByteArray) (w : World) :
  Calls Tryd.prog 67 #[.string s, .string p] w fun e w' => e = .returned (.tuple #[.string ⟨(Lib.trimPrefix s.data.toList p.data.toList).toArray⟩, .bool (Lib.hasPrefix s.data.toList p.data.toList)]) ∧ w' = w := Any.strings_CutPrefix Tryd.lays103 s p w
end Go.Proofs
end
namespace Go.Proofs.YtlaloakegajheabDoor
section
open Go.Lib (hid)
namespace textHead
open Go.RowKit base ints marks app text textL splitMath splitB parsed termText wordMath
set_option maxRecDepth 100000
def hv (y : List UInt8) : Option Int := match y with
 | [] => none
 | c :: r => if c = 120 then (pv r).map fun v => -1 - v else if c = 102 then pv r else none
theorem hv_cons (c : UInt8) (r : List UInt8) : hv (c :: r) = if c = 120 then (pv r).map fun v => -1 - v else if c = 102 then pv r else none := rfl
def hw (y : List UInt8) : Int := (hv y).getD 0
theorem pre_x (y : List UInt8) (c : UInt8) : (Lib.hasPrefix y [c] = true ∧ ∃ r, y = c :: r ∧ Lib.trimPrefix y [c] = r) ∨ (Lib.hasPrefix y [c] = false ∧ (∀ r, y ≠ c :: r) ∧ Lib.trimPrefix y [c] = y) := by
 cases y with
 | nil => exact .inr ⟨rfl, (fun r h => by cases h), rfl⟩
 | cons d r =>
  by_cases h : c = d
  ·subst h
   have hp : Lib.hasPrefix (c :: r) [c] = true := by simp [Lib.hasPrefix]
   exact .inl ⟨hp, r, rfl, by unfold Lib.trimPrefix; rw [if_pos hp]; rfl⟩
  ·have hp : Lib.hasPrefix (d :: r) [c] = false := by
    show ((c == d) && ([] : List UInt8).isPrefixOf r) = false
    rw [beq_eq_false_iff_ne.2 h, Bool.false_and]
   exact .inr ⟨hp, (fun r' e => h (by injection e with e1 e2; exact e1.symm)), by unfold Lib.trimPrefix; rw [if_neg (by rw [hp]; simp)]⟩
theorem parse_bd {l : List UInt8} {v : Int} (h : pv l = some v) : -9223372036854775808 ≤ v ∧ v ≤ 9223372036854775807 := by
 unfold pv at h
 split at h
 ·rename_i v' hp
  injection h with h
  subst h
  unfold Lib.parseIntB at hp
  split at hp
  ·cases hp
  ·simp only at hp
   split at hp
   ·cases hp
   ·cases hp
   ·rename_i u _
    split at hp
    ·cases hp
    ·split at hp
     ·cases hp
     ·rename_i h1 h2
      injection hp with hp
      subst hp
      have e : (2 : Nat) ^ (64 - 1) = 9223372036854775808 := by decide
      rw [e] at h1 h2
      split
      ·rename_i h3
       have : ¬ 9223372036854775808 < u := fun h => h2 ⟨h3, h⟩
       omega
      ·rename_i h3
       have : ¬ 9223372036854775808 ≤ u := fun h => h1 ⟨h3, h⟩
       omega
 ·cases h
def AnsTh (w : World) (y : List UInt8) (e : Ending) (w' : World) : Prop := (∃ x, e = .returned (.tuple #[.int .i64 x, .bool (hv y).isSome]) ∧ ((hv y).isSome = true → x = hw y)) ∧ Below w.heap.size w w'
set_option maxHeartbeats 1000000 in
theorem textHead (y : List UInt8) (w : World) (hvs : Vs w) (hl : y.length ≤ 1048576) :
  Calls Tryd.prog 38 #[.string (bs y)] w (AnsTh w y) := by
 have L1 := hid (Tryd.strings_CutPrefix (bs y) (bs [120]) w)
 have L2 := hid (fun (v : World) => Tryd.strings_CutPrefix (bs y) (bs [102]) v)
 have e1 : (bs y).data.toList = y := rfl
 have e2 : (bs [120]).data.toList = [120] := rfl
 have e3 : (bs [102]).data.toList = [102] := rfl
 rw [e1, e2] at L1
 rw [e1, e3] at L2
 clear e1 e2 e3
 rcases pre_x y 120 with ⟨h1, r, rfl, h2⟩ | ⟨h1, h2, h3⟩
 ·rw [h1, h2] at L1
  have LT := hid (textNumber r w hvs (by simp at hl; omega))
  have HV := hid (show hv (120 :: r) = (pv r).map fun v => -1 - v by rw [hv_cons, if_pos rfl])
  obtain ⟨T, hT⟩ : ∃ T, bs (120 :: r) = T := ⟨_, rfl⟩
  rw [hT] at L1 ⊢
  clear h1 h2 hT L2 hl hvs
  go_enter Tryd.func38, Tryd.ntmps38
  go_wp2_with fail
  refine L1.out.mono ?_
  rintro e w1 ⟨rfl, rfl⟩
  go_wp2_with fail
  refine LT.out.mono ?_
  rintro e w2 ⟨⟨x, he, hx⟩, bb⟩
  cases hp : pv r with
  | none =>
   rw [hp] at he
   have he2 : e = .returned (.tuple #[.int .i64 x, .bool false]) := he
   subst he2
   have F : ∀ z, AnsTh w1 (120 :: r) (.returned (.tuple #[.int .i64 z, .bool false])) w2 := fun z => ⟨⟨z, by rw [HV.out, hp]; rfl, fun h => by rw [HV.out, hp] at h; cases h⟩, bb⟩
   have HF := hid F
   clear F bb hx hp LT L1 he
   go_wp2
   go_ret2
   exact HF.out _
  | some v =>
   have hxv : x = v := by
    have := hx (by rw [hp]; rfl)
    rw [this, pw, hp]
    rfl
   subst hxv
   obtain ⟨b1, b2⟩ := parse_bd hp
   rw [hp] at he
   have he2 : e = .returned (.tuple #[.int .i64 x, .bool true]) := he
   subst he2
   have F : AnsTh w1 (120 :: r) (.returned (.tuple #[.int .i64 (-1 - x), .bool true])) w2 := ⟨⟨_, by rw [HV.out, hp]; rfl, fun _ => by rw [hw, HV.out, hp]; rfl⟩, bb⟩
   have HF := hid F
   clear F bb hx hp LT L1 he
   go_wp2
   go_ret2
   exact HF.out
 ·rw [h1, h3] at L1
  rcases pre_x y 102 with ⟨g1, r, rfl, g2⟩ | ⟨g1, g2, g3⟩
  ·rw [g1, g2] at L2
   have LT := hid (textNumber r w hvs (by simp at hl; omega))
   have HV := hid (show hv (102 :: r) = pv r by rw [hv_cons, if_neg (by decide), if_pos rfl])
   obtain ⟨T, hT⟩ : ∃ T, bs (102 :: r) = T := ⟨_, rfl⟩
   have hT' : (⟨(102 :: r).toArray⟩ : ByteArray) = T := hT
   rw [hT, hT'] at L1
   rw [hT] at L2 ⊢
   clear h1 h2 h3 hT hT' hl hvs g1 g2
   go_enter Tryd.func38, Tryd.ntmps38
   go_wp2_with fail
   refine L1.out.mono ?_
   rintro e w1 ⟨rfl, rfl⟩
   go_wp2_with fail
   refine (L2.out _).mono ?_
   rintro e w3 ⟨rfl, hw3⟩
   subst hw3
   go_wp2_with fail
   refine LT.out.mono ?_
   rintro e w2 ⟨⟨x, he, hx⟩, bb⟩
   cases hp : pv r with
   | none =>
    rw [hp] at he
    have he2 : e = .returned (.tuple #[.int .i64 x, .bool false]) := he
    subst he2
    have F : AnsTh w3 (102 :: r) (.returned (.tuple #[.int .i64 x, .bool false])) w2 := ⟨⟨x, by rw [HV.out, hp]; rfl, fun h => by rw [HV.out, hp] at h; cases h⟩, bb⟩
    have HF := hid F
    clear F bb hx hp LT L1 L2 he
    go_wp2
    go_ret2
    exact HF.out
   | some v =>
    rw [hp] at he
    have he2 : e = .returned (.tuple #[.int .i64 x, .bool true]) := he
    subst he2
    have hxp := hx (by rw [hp]; rfl)
    have F : AnsTh w3 (102 :: r) (.returned (.tuple #[.int .i64 x, .bool true])) w2 := ⟨⟨x, by rw [HV.out, hp]; rfl, fun _ => by rw [hxp, hw, HV.out, pw]⟩, bb⟩
    have HF := hid F
    clear F bb hx hp LT L1 L2 he hxp
    go_wp2
    go_ret2
    exact HF.out
  ·rw [g1, g3] at L2
   have LT := hid (textNumber y w hvs hl)
   have HV := hid (show hv y = none by
    unfold hv
    cases y with
    | nil => rfl
    | cons c r =>
     have c1 : ¬ c = 120 := fun e => h2 r (by rw [e])
     have c2 : ¬ c = 102 := fun e => g2 r (by rw [e])
     simp only [if_neg c1, if_neg c2])
   obtain ⟨T, hT⟩ : ∃ T, bs y = T := ⟨_, rfl⟩
   have hT' : (⟨y.toArray⟩ : ByteArray) = T := hT
   rw [hT] at LT
   rw [hT, hT'] at L1 L2
   rw [hT]
   clear h1 h2 h3 hT hT' hl hvs g1 g2 g3
   go_enter Tryd.func38, Tryd.ntmps38
   go_wp2_with fail
   refine L1.out.mono ?_
   rintro e w1 ⟨rfl, rfl⟩
   go_wp2_with fail
   refine (L2.out _).mono ?_
   rintro e w3 ⟨rfl, hw3⟩
   subst hw3
   go_wp2_with fail
   refine LT.out.mono ?_
   rintro e w2 ⟨⟨x, rfl, hx⟩, bb⟩
   have F : AnsTh w3 y (.returned (.tuple #[.int .i64 x, .bool false])) w2 := ⟨⟨x, by rw [HV.out]; rfl, fun h => by rw [HV.out] at h; cases h⟩, bb⟩
   have HF := hid F
   obtain ⟨b, hb⟩ : ∃ b, (pv y).isSome = b := ⟨_, rfl⟩
   rw [hb]
   clear F bb hx LT L1 L2 hb
   cases b with
   | false =>
    go_wp2
    go_ret2
    exact HF.out
   | true =>
    go_wp2
    go_ret2
    exact HF.out
end textHead
end
section
open Go.Lib (hid)
namespace parsedH
open Go.RowKit base ints marks app sym cursor text textL splitMath splitB parsed textHead
set_option maxRecDepth 100000
def hAll (ws : List (List UInt8)) : Bool := ws.all fun w => (hv w).isSome
def hL9 (ws : List (List UInt8)) : List Int := if hAll ws = true then ws.map hw else []
def AnsPh (w : World) (ws : List (List UInt8)) (e : Ending) (w' : World) : Prop := ∃ O on oc, e = .returned (.tuple #[.slice O on oc, .bool (hAll ws)]) ∧ Own w' w.heap.size (.slice O on oc) (hL9 ws) ∧ Below w.heap.size w w'
theorem hAll_no {ws : List (List UInt8)} {k : Nat} (hk : k < ws.length) (h : (hv (ws.getD k [])).isSome = false) : hAll ws = false := by
 unfold hAll
 rw [List.all_eq_false]
 exact ⟨ws.getD k [], by simp [List.getD, hk], by rw [h]; simp⟩
theorem hAll_take {ws : List (List UInt8)} {k : Nat} {y : List UInt8} (hk : k < ws.length) (e : ws.getD k [] = y) : hAll (ws.take (k + 1)) = (hAll (ws.take k) && (hv y).isSome) ∧ (ws.take (k + 1)).map hw = (ws.take k).map hw ++ [hw y] := by
 have e2 : ws[k] = y := by rw [← e]; simp [List.getD, hk]
 unfold hAll
 rw [List.take_succ_eq_append_getElem hk, e2]
 simp
def HeadPh (w : World) (n : Nat) (ws : List (List UInt8)) (out i : Value) (wr : World) : Prop :=
 ∃ (k : Nat) (O : Option Addr) (oc : Nat), k ≤ n ∧ i = .int .i64 k ∧ out = .slice O k oc ∧ hAll (ws.take k) = true ∧ Own wr w.heap.size (.slice O k oc) ((ws.take k).map hw) ∧ Below w.heap.size w wr
set_option maxHeartbeats 1000000 in
theorem parsedH (P : Option Addr) (n pc : Nat) (ws : List (List UInt8)) (w : World) (hvs : Vs w) (h : StrAt w w.heap.size P n ws) (hn : n ≤ 1048576) (hl : ∀ x ∈ ws, x.length ≤ 1048576) :
  Calls Tryd.prog 37 #[.func (.func 38) #[] #[], .slice P n pc] w (AnsPh w ws) := by
 have HG := hid (fun k => getD_le hl k)
 have HL := hid h.1
 have H := hid h
 have HV := hid hvs
 have S0 := hid (show HeadPh w n ws (.slice none 0 0) (.int .i64 0) w from ⟨0, none, 0, Nat.zero_le _, rfl, rfl, rfl, Own.nil _ _, Below.refl _ _⟩)
 clear h hl hvs
 go_enter Tryd.func37, Tryd.ntmps37
 go_wp2_with fail
 go_loopw [6, 13] (fun out i wr => HeadPh w n ws out i wr) (fun _ i _ => n - (intOf i).toNat)
 case atStart => exact S0.out
 case round =>
  clear S0
  obtain ⟨k, O, oc, hk, rfl, rfl, hall, ho, hb⟩ := hrel
  have hz := hb.size
  by_cases hlt : k < n
  ·obtain ⟨b, off, rfl, hbB, hc⟩ := (H.out.below hb).2 (by omega)
   have c0 := hc k hlt
   obtain ⟨y, hy⟩ : ∃ y, ws.getD k [] = y := ⟨_, rfl⟩
   have hyl : y.length ≤ 1048576 := by rw [← hy]; exact HG.out k
   have LT := hid (textHead y wr (HV.out.next hb) hyl)
   obtain ⟨e1, e2⟩ := hAll_take (ws := ws) (k := k) (by rw [HL.out]; exact hlt) hy
   rw [hy] at c0
   rw [hall, Bool.true_and] at e1
   have i0 : (0 : Int) ≤ (k : Int) := by omega
   have i1 : (k : Int) < (n : Int) := by omega
   have HC := hid hc
   have HY := hid hy
   have E1 := hid e1
   have E2 := hid e2
   clear hc hy e1 e2 hall hyl
   go_wp2_with fail
   refine LT.out.mono ?_
   rintro e w1 ⟨⟨x, he, hx⟩, bb⟩
   have ho1 := ho.next bb
   have hb1 := next_trans hb bb
   have hz1 := hb1.size
   cases hs : (hv y).isSome with
   | false =>
    rw [hs] at he
    subst he
    have F : AnsPh w ws (.returned (.tuple #[.slice none 0 0, .bool false])) w1 := by
     have no : hAll ws = false := hAll_no (by rw [HL.out]; exact hlt) (by rw [HY.out]; exact hs)
     exact ⟨none, 0, 0, by rw [no], by unfold hL9; rw [if_neg (by rw [no]; simp)]; exact Own.nil _ _, hb1⟩
    have HF := hid F
    clear F ho hb ho1 hb1 bb hs hx LT c0
    go_wp2
    go_ret2
    exact HF.out
   | true =>
    rw [hs] at he
    subst he
    have HX := hid (hx hs)
    have HS := hid hs
    clear ho hb bb hs hx LT c0
    go_wp2_with (at_builtin; refine app1 rfl _ _ rfl w.heap.size O k oc _ rfl (ho1.alloc _) w1.heap.size 1 x rfl ((Row.new _ _ _).cell 0) (by omega) (by simp; omega) ?_; intro O' oc' w2 ho2 b2)
    have S := hid (show HeadPh w n ws (.slice O' (k + 1) oc') (.int .i64 ((k : Int) + 1)) w2 from ⟨k + 1, O', oc', hlt, by simp, rfl, by rw [E1.out]; exact HS.out, by rw [E2.out, ← HX.out]; exact ho2, (hb1.alloc hb1.size _).trans b2⟩)
    clear ho1 hb1 ho2 b2
    go_wp2
    go_roundw
    case rel => exact S.out
    case measure => simp [intOf]; omega
  ·have hkn : k = n := by omega
   have i1 : ¬ (k : Int) < (n : Int) := by omega
   have e : ws.take k = ws := List.take_of_length_le (by rw [HL.out]; omega)
   rw [e] at ho hall
   have F : AnsPh w ws (.returned (.tuple #[.slice O k oc, .bool true])) wr := ⟨O, k, oc, by rw [hall], by unfold hL9; rw [if_pos hall]; exact ho, hb⟩
   have HF := hid F
   clear F ho hb e hall hkn
   go_wp2
   go_ret2
   exact HF.out
end parsedH
end
section
open Go.Lib (hid)
namespace termText
open Go.RowKit base ints sig term arity endOf cursor termOk endAt marks app sym args depth termFacts text textL
set_option maxRecDepth 100000
def AnsTx (w : World) (p : Nat) (A : Option Addr) (n c : Nat) (A' : Option Addr) (m c' : Nat) (sg t : List Int) (k : Nat) (X : List UInt8) (e : Ending) (w' : World) : Prop :=
 e = .returned (.string (bs X)) ∧ w.grownBy w' (some p) ∧ Cur w' p A n c A' m c' sg t k
def HeadTi (w : World) (p : Nat) (A : Option Addr) (n c : Nat) (A' : Option Addr) (m c' : Nat) (sg t : List Int) (T f last : Nat) (Wd : List (List UInt8)) (out i : Value) (wr : World) : Prop :=
 ∃ (k q pp r : Nat) (ws : List (List UInt8)) (O : Option Addr) (oc : Nat), i = .int .i64 k ∧ out = .slice O k oc ∧ k + q = T ∧ ws ++ wordsOf sg t (txt sg t f) q pp = Wd ∧ scan sg q (t.drop pp) = some r ∧ pp + r = last ∧ r ≤ f ∧ OwnS wr w.heap.size (.slice O k oc) ws ∧ Cur wr p A n c A' m c' sg t pp ∧ w.grownBy wr (some p)
set_option maxHeartbeats 4000000 in
theorem implTxt (p : Nat) (A : Option Addr) (n c : Nat) (A' : Option Addr) (m c' : Nat) (sg t : List Int) (hsm : Small t) : ∀ (f a j : Nat) (w : World), Cur w p A n c A' m c' sg t a → scan sg 1 (t.drop a) = some j → j ≤ f → f ≤ 500 →
  Calls Tryd.prog 71 #[.pointer (some ⟨p, 0, none⟩)] w (AnsTx w p A n c A' m c' sg t (a + j) (txt sg t f a)) := by
 intro f
 induction f with
 | zero =>
  intro a j w _ hj hf _
  have := scan_pos (q := 0) hj
  omega
 | succ f ih =>
  intro a j w h hj hf hff
  have IH := hid ih
  clear ih
  have HL := hid h.s'.1
  have hs := h.ars
  have hp : p < w.heap.size := h.row.lt
  obtain ⟨r, hjr, hat, hneg, hr⟩ := scan_args hj
  have ham : a < m := by rw [← HL.out]; exact hat
  have hzb := ar_bd hs (t.getD a 0)
  have hsa := hsm a hat
  have hHl := hdT_len hsa
  obtain ⟨z, hz⟩ : ∃ z, ar sg (t.getD a 0) = z := ⟨_, rfl⟩
  have e1 : txt sg t (f + 1) a = hdT (t.getD a 0) ++ open_ (wordsOf sg t (txt sg t f) z.toNat (a + 1)) ++ shut_ (wordsOf sg t (txt sg t f) z.toNat (a + 1)) := by rw [← hz]; rfl
  rw [hz] at hneg hzb hr
  obtain ⟨T, rfl⟩ := Int.eq_ofNat_of_zero_le (show 0 ≤ z by omega)
  rw [Int.toNat_natCast] at e1 hr
  have hwb := words_le hs hsm (f := f) (by omega) _ _ _ hr (by omega)
  obtain ⟨Wd, hWd⟩ : ∃ z, wordsOf sg t (txt sg t f) T (a + 1) = z := ⟨_, rfl⟩
  rw [hWd] at e1 hwb
  have HWD := hid hWd
  have HWB := hid hwb
  have HTL := hid (fun p j h1 h2 => txt_len hs hsm f p j h1 h2)
  obtain ⟨b, off, x, rfl, hbb, hcx, ex⟩ := h.s'.spot ham
  rw [ex.out] at hsa hHl e1
  have HZ := hid (show ar sg (t.getD a 0) = (T : Int) from hz)
  have HE := hid e1
  have HR := hid hr
  have HJR := hid (show a + 1 + r = a + j ∧ r ≤ f by omega)
  have LH := hid (headText x w.drew hsa)
  have LN := hid (next p A n c (some ⟨b, off, none⟩) m c' sg t a w.drew (h.drewN 1))
  have c1 : w.cell? ⟨p, 1, none⟩ = some (.slice (some ⟨b, off, none⟩) m c') := h.row.cell 1
  have c2 : w.cell? ⟨p, 2, none⟩ = some (.int .i64 (a : Int)) := h.row.cell 2
  have i0 : (0 : Int) ≤ (a : Int) := by omega
  have i1 : (a : Int) < (m : Int) := by omega
  obtain ⟨Hd, hHd⟩ : ∃ z, hdT x = z := ⟨_, rfl⟩
  rw [hHd] at LH HE hHl
  clear hz e1 hj hs hneg hr hjr hat hWd hwb ex hHd h
  go_enter Tryd.func71, Tryd.ntmps71
  go_wp2_with fail
  go_region_held3 (fun w' => w'.cell? ⟨p, 1, none⟩ = some (.slice (some ⟨b, off, none⟩) m c') ∧ w'.cell? ⟨p, 2, none⟩ = some (.int .i64 (a : Int)) ∧ w'.cell? ⟨b, off + a, none⟩ = some (.int .i64 x))
   (go_keep)
   (first
    | (go_at_call 62; refine LH.out.mono ?_; rintro e w9 ⟨rfl, hw9⟩; subst hw9))
  clear c1 c2 hcx LH
  go_wp2_with fail
  refine LN.out.mono ?_
  rintro e w1 ⟨hg, ⟨-, he, hc⟩ | ⟨hk', -, -⟩⟩
  ·rw [HZ.out] at he
   subst he
   have hg0 : w.grownBy w1 (some p) := grown_trans (grown_below (Below.refl w.heap.size w).drew _) hg
   have S0 : HeadTi w p A n c (some ⟨b, off, none⟩) m c' sg t T f (a + j) Wd (.slice none 0 0) (.int .i64 0) w1 := ⟨0, T, a + 1, r, [], none, 0, rfl, rfl, by omega, by rw [List.nil_append]; exact HWD.out, HR.out, HJR.out.1, HJR.out.2, OwnS.nil _ _, hc, hg0⟩
   have HS := hid S0
   clear S0 hc hg hg0 LN
   go_wp2_with fail
   go_loopw [4, 18] (fun out i wr => HeadTi w p A n c (some ⟨b, off, none⟩) m c' sg t T f (a + j) Wd out i wr) (fun _ i _ => T - (intOf i).toNat)
   case atStart => exact HS.out
   case round =>
    obtain ⟨k, q, pp, r', ws, O, oc, rfl, rfl, hkq, hwd, hsc, hlast, hrf, ho, hcu, hgr⟩ := hrel
    clear HS
    cases q with
    | zero =>
     have hk : k = T := by omega
     subst hk
     rw [scan_zero] at hsc
     have hr0 : r' = 0 := by injection hsc with hsc; omega
     have hws : ws = Wd := by rw [← hwd]; simp [wordsOf]
     subst hws
     have hwl : ws.length = k := ho.at.1
     have hcl : Cur wr p A n c (some ⟨b, off, none⟩) m c' sg t (a + j) := by rw [← hlast, hr0]; exact hcu
     by_cases h0 : k = 0
     ·have hz : ws = [] := List.length_eq_zero_iff.1 (by omega)
      have F := hid (show AnsTx w p A n c (some ⟨b, off, none⟩) m c' sg t (a + j) (txt sg t (f + 1) a) (.returned (.string (bs Hd))) wr from ⟨by rw [HE.out, hz]; unfold open_ shut_; simp, hgr, hcl⟩)
      have EK : ((k : Int) == 0) = true := by rw [h0]; rfl
      clear ho hcu hgr hcl hwd hlast hkq h0 hz hwl
      go_wp2
      go_ret
      exact F.out
     ·have hz : ws ≠ [] := fun e => h0 (by rw [← hwl, e]; rfl)
      have hjl := join_bd (M := 4096) [44] ws HWB.out
      have h4 : ws.length * (4096 + [(44 : UInt8)].length) ≤ 3 * 4097 := Nat.mul_le_mul (by omega) (by simp)
      have LJ := hid (joinOwn O k oc ws [44] wr ho (by omega) HWB.out (by simp))
      obtain ⟨J, hJ⟩ : ∃ z, Lib.join ws [44] = z := ⟨_, rfl⟩
      rw [hJ] at LJ hjl
      have E := hid (show bs Hd ++ bs [40] ++ bs J ++ bs [41] = bs (txt sg t (f + 1) a) by
       rw [bs_app, bs_app, bs_app, HE.out]
       unfold open_ shut_
       rw [if_neg hz, if_neg hz, hJ]
       simp)
      have EK : ((k : Int) == 0) = false := by simp; omega
      have hHb : (bs Hd).size ≤ 3 := by rw [bs_size]; exact hHl
      have hJb : (bs J).size ≤ 20000 := by rw [bs_size]; omega
      have o1 : ¬ 9223372036854775807 < (bs Hd).size + 1 := by omega
      have o2 : ¬ 9223372036854775807 < (bs Hd).size + 1 + (bs J).size := by omega
      have o3 : ¬ 9223372036854775807 < (bs Hd).size + 1 + (bs J).size + 1 := by omega
      clear ho hwd hlast hkq h0 hz hwl hJ hjl h4 hcu
      go_wp2_with fail
      refine LJ.out.mono ?_
      rintro e w2 ⟨rfl, bb⟩
      have F := hid (show AnsTx w p A n c (some ⟨b, off, none⟩) m c' sg t (a + j) (txt sg t (f + 1) a) (.returned (.string (bs (txt sg t (f + 1) a)))) w2 from ⟨rfl, args_over hgr bb hgr.size, hcl.below bb⟩)
      clear bb hgr hcl LJ EK
      go_wp2
      go_ret
      have F2 := F.out
      rw [← E.out] at F2
      exact F2
    | succ q =>
     obtain ⟨jj, hj, hjp, hle, hsc'⟩ := scan_first hsc
     have hkT : k < T := by omega
     obtain ⟨X, hX⟩ : ∃ z, txt sg t f pp = z := ⟨_, rfl⟩
     have HX := hid hX
     have HJ := hid hj
     have HKQ := hid hkq
     have HWS := hid (show (ws ++ [X]) ++ wordsOf sg t (txt sg t f) q (pp + jj) = Wd by
      rw [← hwd]
      simp only [wordsOf, len1_eq hj, hX, List.append_assoc, List.singleton_append])
     have HSC := hid (show scan sg q (t.drop (pp + jj)) = some (r' - jj) ∧ pp + jj + (r' - jj) = a + j ∧ r' - jj ≤ f from ⟨hsc', by omega, by omega⟩)
     have hjf : jj ≤ f := by omega
     have hsz := hgr.size
     clear hX hj hkq hwd hsc hsc' hlast hle hjp
     go_wp2_with fail
     refine (IH.out pp jj _ hcu HJ.out hjf (by omega)).mono ?_
     rintro e w2 ⟨he, hg2, hc2⟩
     rw [HX.out] at he
     subst he
     have ho2 : OwnS w2 w.heap.size (.slice O k oc) ws := ho.far hg2 (fun g hgg => by injection hgg; omega)
     have hgr2 := grown_trans hgr hg2
     have hz2 := hgr2.size
     clear ho hg2 hgr hcu
     go_wp2_with (at_builtin; refine app1S rfl _ _ rfl w.heap.size O k oc ws rfl (ho2.next ((Below.refl _ _).alloc (Nat.le_refl _) _)) w2.heap.size 1 X rfl ((Row.new _ _ _).cell 0) (by omega) (by simp; omega) ?_; intro O' oc' w3 ho3 b3)
     have hcu3 : Cur w3 p A n c (some ⟨b, off, none⟩) m c' sg t (pp + jj) := Cur.keep (Cur.alloc hc2 _) (b3.mono hp)
     have hgr3 : w.grownBy w3 (some p) := args_over (args_over hgr2 ((Below.refl _ _).alloc (Nat.le_refl _) _) hz2) b3 (Nat.le_refl _)
     have S : HeadTi w p A n c (some ⟨b, off, none⟩) m c' sg t T f (a + j) Wd (.slice O' (k + 1) oc') (.int .i64 ((k : Int) + 1)) w3 :=
      ⟨k + 1, q, pp + jj, r' - jj, ws ++ [X], O', oc', by simp, rfl, by have := HKQ.out; omega, HWS.out, HSC.out.1, HSC.out.2.1, HSC.out.2.2, ho3, hcu3, hgr3⟩
     have HSS := hid S
     clear S ho2 ho3 hc2 hgr2 b3 hcu3 hgr3
     go_wp2
     go_roundw
     case rel => exact HSS.out
     case measure => simp [intOf]; omega
  ·omega
set_option maxHeartbeats 2000000 in
theorem implTermText0 (A A' : Option Addr) (n c m c' : Nat) (sg t : List Int) (w : World) (h : Seg w w.heap.size A n sg) (h' : Seg w w.heap.size A' m t) (hn : n ≤ 1048576) (hm : m ≤ 1048576) :
  Calls Tryd.prog 42 #[.agg #[.slice A n c], .slice A' m c'] w fun e w' => e = .returned (.string (bs (termT sg t))) ∧ Below w.heap.size w w' := by
 obtain ⟨W, hW⟩ : ∃ W, W = w.alloc (.cells #[.slice A n c] 28) := ⟨_, rfl⟩
 have bel : Below w.heap.size w W := by rw [hW]; exact (Below.refl _ _).alloc (Nat.le_refl _) _
 have zW := bel.size
 replace h := (h.below bel).more bel.size
 replace h' := (h'.below bel).more bel.size
 have HW := hid hW
 have HL := hid h'.1
 clear hW
 have L := hid (cursorAt A A' n c m c' sg t 0 W h h' hn hm)
 clear h h'
 go_enter Tryd.func42, Tryd.ntmps42
 go_wp2_with fail
 rw [← HW.out]
 refine L.out.mono ?_
 rintro e w1 ⟨bb, ⟨ht, p, rfl, hp, hc⟩ | ⟨ht, rfl⟩⟩
 ·replace bel := next_trans bel bb
  obtain ⟨hok, -, -⟩ := there_parts ht
  have HT := hid (show termT sg t = txt sg t m 0 by unfold termT; rw [if_pos hok, HL.out])
  have h60 : m ≤ 60 := by rw [← HL.out]; exact (term_len hok).2
  have hsc : scan sg 1 (t.drop 0) = some m := by rw [← HL.out]; exact (termOk_parts hok).2.2
  have LT := hid (implTxt p A n c A' m c' sg t (small_of hok) m 0 m w1 hc hsc (Nat.le_refl _) (by omega))
  clear ht bb L hok hsc hc
  go_wp2_with fail
  refine LT.out.mono ?_
  rintro e w2 ⟨rfl, hg, -⟩
  have F := hid (bel.grown hg bel.size (fun k hk => by injection hk; omega))
  clear hg bel LT
  go_wp2
  go_ret
  exact ⟨by rw [HT.out]; rfl, F.out⟩
 ·have hnok : termOkB sg t = false := by
   cases e : termOkB sg t with
   | false => rfl
   | true =>
    have h1 := (term_len e).1
    have h2 : thereB sg t 0 = true := there_yes e (by omega) (by omega)
    rw [h2] at ht
    cases ht
  have F := hid (show termT sg t = [] ∧ Below w.heap.size w w1 from ⟨by unfold termT; rw [if_neg (by rw [hnok]; simp)], next_trans bel bb⟩)
  clear bb bel ht L hnok
  go_wp2
  go_ret
  exact ⟨by rw [F.out.1]; rfl, F.out.2⟩
end termText
end
section
open Go.Lib (hid)
namespace textTermImpl
open Go.RowKit base ints sig term endAt termOk sym marks app text textL termText splitMath splitB splitSpec wordMath numSpec textTermSpec parsed textHead parsedH fieldsMath
set_option maxRecDepth 100000
def fW (l : List UInt8) : List (List UInt8) := (Lib.goFieldsP mkN (bs l)).map (·.data.toList)
theorem spans_count : ∀ (f : Nat) (s : ByteArray) (pos : Nat) (st : Option Nat) (acc : List (Nat × Nat)), (Lib.spansFromP mkN s f pos st acc).1.length ≤ acc.length + f
 | 0, s, pos, st, acc => Nat.le_refl _
 | f + 1, s, pos, st, acc => by
  unfold Lib.spansFromP
  split
  ·split
   ·cases st with
    | none => have := spans_count f s (pos + (Utf8.decode s pos).2) none acc; show _ ≤ _; simp only; omega
    | some a => have := spans_count f s (pos + (Utf8.decode s pos).2) none (acc ++ [(a, pos)]); rw [List.length_append, List.length_singleton] at this; simp only; omega
   ·cases st with
    | none => have := spans_count f s (pos + (Utf8.decode s pos).2) (some pos) acc; simp only; omega
    | some a => have := spans_count f s (pos + (Utf8.decode s pos).2) (some a) acc; simp only; omega
  ·simp only; omega
theorem fW_len (l : List UInt8) : (fW l).length ≤ l.length + 1 := by
 unfold fW Lib.goFieldsP Lib.spansOfP
 rw [List.length_map, List.length_map]
 have h := spans_count (bs l).size (bs l) 0 none []
 have h2 : (bs l).size = l.length := bs_size l
 unfold Lib.closeSpans
 split
 ·rw [List.length_append]; simp at h ⊢; omega
 ·simp at h; omega
theorem fW_each (l : List UInt8) : ∀ w ∈ fW l, w.length ≤ l.length := by
 intro w hw
 unfold fW Lib.goFieldsP at hw
 rw [List.map_map] at hw
 obtain ⟨x, -, rfl⟩ := List.mem_map.1 hw
 show ((bs l).extract x.1 x.2).data.toList.length ≤ _
 have h9 : ((bs l).extract x.1 x.2).size ≤ (bs l).size := by rw [ByteArray.size_extract]; omega
 rw [bs_size] at h9
 exact h9
theorem hw_hd {n : Int} (h : -24 ≤ n ∧ n < 100) : hv (hdT n) = some n := by
 have key : ∀ m : Nat, m < 100 → pv (dg m) = some (m : Int) := by
  intro m hm
  by_cases h0 : m < 10
  ·rw [dg_one h0]; exact pv_ch h0
  ·have e : dg m = [ch (m / 10), ch (m % 10)] := by rw [dg_two h0, dg_one (by omega)]; rfl
   rw [e]
   have k2 : ∀ a b : Fin 10, pv [ch a.val, ch b.val] = some ((a.val * 10 + b.val : Nat) : Int) := by decide
   have := k2 ⟨m / 10, by omega⟩ ⟨m % 10, by omega⟩
   rw [this]
   congr 2
   show m / 10 * 10 + m % 10 = m
   omega
 unfold hdT
 split
 ·rw [hv_cons, if_pos rfl, key _ (by omega)]
  show some (-1 - ((-1 - n).toNat : Int)) = some n
  congr 1
  omega
 ·rw [hv_cons, if_neg (by decide), if_pos rfl, key _ (by omega)]
  congr 1
  omega
theorem ok_tx {sg t : List Int} {l : List UInt8} (h : termOkB sg t = true) (e : termT sg t = l) : Tx t l ∧ t.length ≤ 60 ∧ ∀ x ∈ t, -24 ≤ x ∧ x < 100 := by
 obtain ⟨h1, h2, h3⟩ := termOk_parts h
 have hx := txt_tx (sg := sg) (t := t) t.length 0 t.length h3 (Nat.le_refl _)
 rw [List.drop_zero, List.take_length] at hx
 unfold termT at e
 rw [if_pos h] at e
 rw [e] at hx
 refine ⟨hx, h2, fun x hm => ?_⟩
 obtain ⟨j, hj, rfl⟩ := List.getElem_of_mem hm
 have := small_of h j hj
 simpa [List.getD, hj] using this
theorem impl_tt {sg : List Int} {l : List UInt8} (h4 : l.length ≤ 400) : ttO sg l = if hAll (fW l) = true ∧ termOkB sg ((fW l).map hw) = true ∧ termT sg ((fW l).map hw) = l then some ((fW l).map hw) else none := by
 by_cases hc : hAll (fW l) = true ∧ termOkB sg ((fW l).map hw) = true ∧ termT sg ((fW l).map hw) = l
 ·rw [if_pos hc]
  obtain ⟨hx, h60, hs⟩ := ok_tx hc.2.1 hc.2.2
  have hn := num_tx hx l.length [] (Nat.le_refl _) (by simpa using h60) hs
  rw [ttO_of h4 hn]
  show (if _ then _ else _) = _
  rw [List.nil_append, if_pos hc.2]
 ·rw [if_neg hc]
  cases hR : numN l.length l [] with
  | none => rw [ttO_of h4 hR]; rfl
  | some t =>
   rw [ttO_of h4 hR]
   show (if _ then _ else _) = _
   by_cases ht : termOkB sg t = true ∧ termT sg t = l
   ·exfalso
    obtain ⟨hx, h60, hs⟩ := ok_tx ht.1 ht.2
    have hf := fields_words hx hs
    have e : fW l = t.map hdT := by
     unfold fW
     rw [hf, List.map_map]
     exact List.map_congr_left fun n _ => rfl
    have ha : hAll (fW l) = true := by
     unfold hAll
     rw [e, List.all_eq_true]
     intro w hw
     obtain ⟨n, hn, rfl⟩ := List.mem_map.1 hw
     rw [hw_hd (hs n hn)]
     rfl
    have em : (fW l).map hw = t := by
     rw [e, List.map_map]
     conv => rhs; rw [← List.map_id t]
     apply List.map_congr_left
     intro n hn
     show hw (hdT n) = n
     rw [hw, hw_hd (hs n hn)]
     rfl
    exact hc ⟨ha, by rw [em]; exact ht.1, by rw [em]; exact ht.2⟩
   ·rw [if_neg ht]
def Fields (l : List UInt8) (w : World) : Prop := ∀ X, Below w.heap.size w X → Calls Tryd.prog 39 #[.string (bs l), .func (.func 40) #[] #[]] X (AnsSs X (fW l))
theorem ansN_nil {w wr : World} {R : Option (List Int)} (h : R = none) (hb : Below w.heap.size w wr) : AnsN w R (.returned (.tuple #[.slice none 0 0, .bool false])) wr :=
 ⟨none, 0, 0, by rw [h]; rfl, by rw [h]; exact Own.nil _ _, hb⟩
set_option maxHeartbeats 1000000 in
theorem implTextTerm0 (A : Option Addr) (n c : Nat) (sg : List Int) (l : List UInt8) (w : World) (h : Seg w w.heap.size A n sg) (hn : n ≤ 1048576) (hvs : Vs w) (hF : Fields l w) :
  Calls Tryd.prog 11 #[.agg #[.slice A n c], .string (bs l)] w (AnsN w (ttO sg l)) := by
 obtain ⟨T, hT⟩ : ∃ T, bs l = T := ⟨_, rfl⟩
 obtain ⟨N, hN⟩ : ∃ N, l.length = N := ⟨_, rfl⟩
 have hlen : ∀ v : World, (Builtin.len_ #[9] 3 #[.string T]).run Tryd.prog v = .ok (.int .i64 (N : Int)) v := by
  intro v
  rw [run_len_string (P := Tryd.prog) v 9 3 T Tryd.underlying9, ← hT, bs_size, hN]
  rfl
 rw [hT]
 have HT := hid hT
 have HN := hid hN
 have H := hid h
 have HV := hid hvs
 obtain ⟨W, hW⟩ : ∃ W, W = w.alloc (.cells #[.slice A n c] 28) := ⟨_, rfl⟩
 have r0 : Row W w.heap.size 28 #[.slice A n c] := by rw [hW]; exact Row.new _ _ _
 have bel : Below w.heap.size w W := by rw [hW]; exact (Below.refl _ _).alloc (Nat.le_refl _) _
 have LS := hid (hF W bel)
 have HW := hid hW
 clear hT h hvs hF
 by_cases hL : N ≤ 400
 ·have a1 : ¬ (400 : Int) < (N : Int) := by omega
  have HO := hid (impl_tt (sg := sg) (l := l) (by rw [hN]; exact hL))
  have hwl := fW_len l
  have HE := hid (fun x (hx : x ∈ fW l) => (show x.length ≤ 1048576 by have := fW_each l x hx; omega))
  obtain ⟨ws, hws⟩ : ∃ z, fW l = z := ⟨_, rfl⟩
  rw [HT.out, hws] at LS
  rw [hws] at HO hwl HE
  obtain ⟨k, hk⟩ : ∃ z, ws.length = z := ⟨_, rfl⟩
  have hk9 : k ≤ 1048576 := by omega
  have HK := hid hk
  clear hN hW hws hwl
  go_enter Tryd.func11, Tryd.ntmps11
  go_wp2_with fail
  rw [← HW.out]
  refine LS.out.mono ?_
  rintro e w1 ⟨P, pc, rfl, oP, bb⟩
  rw [hk] at oP ⊢
  have LP := hid (parsedH P k pc ws w1 ((HV.out.next bel).next bb) oP.at hk9 HE.out)
  replace r0 := r0.next bb
  replace bel := next_trans bel bb
  have c0 : w1.cell? ⟨w.heap.size, 0, none⟩ = some (.slice A n c) := r0.cell 0
  clear bb LS oP hk
  go_wp2_with fail
  refine LP.out.mono ?_
  rintro e w2 ⟨O, on, oc, he, oO, bb⟩
  have z1 := bel.size
  replace r0 := r0.next bb
  replace bel := next_trans bel bb
  clear c0
  have c0 : w2.cell? ⟨w.heap.size, 0, none⟩ = some (.slice A n c) := r0.cell 0
  clear bb LP
  cases hall : hAll ws with
  | false =>
   rw [hall] at he
   subst he
   have F := hid (ansN_nil (show ttO sg l = none by rw [HO.out, if_neg (fun h => by rw [hall] at h; exact absurd h.1 (by simp))]) bel)
   clear oO bel r0 hall
   go_wp2
   go_ret2
   exact F.out
  | true =>
   rw [hall] at he
   subst he
   rw [show hL9 ws = ws.map hw by unfold hL9; rw [if_pos hall]] at oO
   have hon9 : on ≤ 1048576 := by
    have h8 := Own.len oO
    rw [List.length_map, HK.out] at h8
    omega
   obtain ⟨t, ht⟩ : ∃ z, ws.map hw = z := ⟨_, rfl⟩
   rw [ht] at oO HO
   have HOT := hid (show ttO sg l = if termOkB sg t = true ∧ termT sg t = l then some t else none by
    rw [HO.out]
    by_cases hq : termOkB sg t = true ∧ termT sg t = l
    ·rw [if_pos hq, if_pos ⟨hall, hq⟩]
    ·rw [if_neg hq, if_neg (fun h => hq h.2)])
   have LK := hid (implTermOk A O n c on oc sg t w2 (H.out.next bel) oO.seg hn hon9)
   clear hall ht HO
   go_wp2_with fail
   refine LK.out.mono ?_
   rintro e w3 ⟨he, bb⟩
   replace r0 := r0.next bb
   replace oO := Own.next oO bb
   replace bel := next_trans bel bb
   clear c0
   have c0 : w3.cell? ⟨w.heap.size, 0, none⟩ = some (.slice A n c) := r0.cell 0
   clear bb LK
   cases ok : termOkB sg t with
   | false =>
    rw [ok] at he
    subst he
    have F := hid (ansN_nil (show ttO sg l = none by rw [HOT.out, if_neg (fun h => by rw [ok] at h; exact absurd h.1 (by simp))]) bel)
    clear ok oO bel r0
    go_wp2
    go_ret2
    exact F.out
   | true =>
    rw [ok] at he
    subst he
    have OK := hid ok
    have LX := hid (implTermText0 A O n c on oc sg t w3 (H.out.next bel) oO.seg hn hon9)
    clear ok
    go_wp2_with fail
    refine LX.out.mono ?_
    rintro e w4 ⟨rfl, bb⟩
    replace r0 := r0.next bb
    replace oO := Own.next oO bb
    replace bel := next_trans bel bb
    clear c0
    have c0 : w4.cell? ⟨w.heap.size, 0, none⟩ = some (.slice A n c) := r0.cell 0
    clear bb LX
    by_cases hq : termT sg t = l
    ·have hs : ttO sg l = some t := by rw [HOT.out, if_pos ⟨OK.out, hq⟩]
     rw [hq, HT.out]
     have F : AnsN w (ttO sg l) (.returned (.tuple #[.slice O on oc, .bool true])) w4 := ⟨O, on, oc, by rw [hs]; rfl, by rw [hs]; exact Own.lower oO z1, bel⟩
     have HF := hid F
     clear F oO bel r0 hs hq
     go_wp2
     go_ret2
     exact HF.out
    ·have hTT : ((bs (termT sg t)).toList == T.toList) = false := by rw [← HT.out]; exact str_neq hq
     have F := hid (ansN_nil (show ttO sg l = none by rw [HOT.out, if_neg (fun h => hq h.2)]) bel)
     obtain ⟨V, hV⟩ : ∃ V, bs (termT sg t) = V := ⟨_, rfl⟩
     rw [hV] at hTT ⊢
     clear hq r0 oO bel hV
     go_wp2
     go_ret2
     exact F.out
 ·have a1 : (400 : Int) < (N : Int) := by omega
  have no : ttO sg l = none := by unfold ttO; rw [HN.out, if_neg hL]
  have F := hid (ansN_nil no bel)
  rw [HW.out] at F
  clear no hN hL bel r0 hW LS
  go_enter Tryd.func11, Tryd.ntmps11
  go_wp2
  go_ret2
  exact F.out
end textTermImpl
end
section
namespace fieldsMark
open Go.RowKit base text textL splitSpec fieldsMath textTermImpl
set_option maxRecDepth 100000
theorem fields (l : List UInt8) (w : World) (h : l.length ≤ 1048576) : Fields l w := by
 intro X _
 have eg : ∀ args w, (callFunc 40 args).run Tryd.prog w = .ok (.enter 40 args) w := enters_of Tryd.func40 (by kernel_rfl) rfl
 refine (Tryd.strings_FieldsFunc 40 #[] eg mkN (bs l) X (by rw [bs_size]; omega) (fun W x hx _ => isMark.isMark x hx W)).mono ?_
 rintro e w' ⟨A, rfl, -, ho, hb⟩
 have e1 : (fW l).length = (Lib.goFieldsP mkN (bs l)).length := by unfold fW; rw [List.length_map]
 have e2 : (fW l).map (fun x => Value.string (bs x)) = (Lib.goFieldsP mkN (bs l)).map Value.string := by
  unfold fW
  rw [List.map_map]
  exact List.map_congr_left fun x _ => rfl
 refine ⟨some ⟨A, 0, none⟩, (Lib.goFieldsP mkN (bs l)).length, by rw [e1], ?_, hb⟩
 unfold OwnS
 rw [e1, e2]
 exact ho
end fieldsMark
end
section
namespace textTermX
open Go.RowKit base ints sig cursor marks app sym appAt segs segsHelp segsMark kinds shape kindsR text textL sigText splitMath splitSpec numSpec textTermSpec parsed textTermImpl
set_option maxRecDepth 100000
theorem specTextTerm (v : Value) (d : Dat sSig) (l : List UInt8) (w : World) (h : Rd w w.heap.size sSig [v] d) (hz : sz sSig d ≤ 1048576) (_ : Vs w) :
  Calls Tryd.prog 9 #[.agg #[v], .string (bs l)] w fun e w' => ∃ A n c, e = .returned (.tuple #[.slice A n c, .bool (ttO d l).isSome]) ∧ Seg w' w'.heap.size A n ((ttO d l).getD []) ∧ Below w.heap.size w w' := by
 obtain ⟨A, n, c, rfl, hA, -⟩ := rd_ints.1 h
 refine (specTextTerm0 A n c d l w hA (by have h1 := hA.1; rw [sz_ints] at hz; omega)).mono ?_
 rintro e w' ⟨O, on, oc, he, ho, hb⟩
 exact ⟨O, on, oc, he, ho.seg, hb⟩
theorem implTextTerm (v : Value) (d : Dat sSig) (l : List UInt8) (w : World) (h : Rd w w.heap.size sSig [v] d) (hz : sz sSig d ≤ 1048576) (hv : Vs w) (hl : l.length ≤ 1048576) :
  Calls Tryd.prog 11 #[.agg #[v], .string (bs l)] w fun e w' => ∃ A n c, e = .returned (.tuple #[.slice A n c, .bool (ttO d l).isSome]) ∧ Own w' w.heap.size (.slice A n c) ((ttO d l).getD []) ∧ Below w.heap.size w w' := by
 obtain ⟨A, n, c, rfl, hA, -⟩ := rd_ints.1 h
 exact implTextTerm0 A n c d l w hA (by have h1 := hA.1; rw [sz_ints] at hz; omega) hv (fieldsMark.fields l w hl)
theorem specTextTerm' (v : Value) (d : Dat sSig) (l : List UInt8) (w : World) (h : Rd w w.heap.size sSig [v] d) (hz : sz sSig d ≤ 1048576) (hv : Vs w) (_ : l.length ≤ 1048576) :
  Calls Tryd.prog 9 #[.agg #[v], .string (bs l)] w fun e w' => ∃ A n c, e = .returned (.tuple #[.slice A n c, .bool (ttO d l).isSome]) ∧ Seg w' w'.heap.size A n ((ttO d l).getD []) ∧ Below w.heap.size w w' := specTextTerm v d l w h hz hv
theorem tt_len (d : List Int) (l : List UInt8) : ((ttO d l).getD []).length ≤ 1048576 := by
 cases h : ttO d l with
 | none => simp
 | some t =>
  unfold ttO at h
  split at h
  ·cases hn : wordMath.numN l.length l [] with
   | none => rw [hn] at h; cases h
   | some r =>
    rw [hn] at h
    have h2 : (if termOk.termOkB d r = true ∧ termText.termT d r = l then some r else none) = some t := h
    have h3 := num_len _ _ _ r hn (by simp)
    split at h2
    ·injection h2 with h2
     subst h2
     show r.length ≤ _
     omega
    ·cases h2
  ·cases h
end textTermX
end
section
open Go.Lib (hid)
namespace wTextTerm
open Go.RowKit base ints sig cursor marks app sym appAt segs segsHelp segsMark kinds shape kindsR text textL sigText splitMath splitSpec numSpec textTermSpec parsed textTermImpl textTermX
set_option maxRecDepth 100000
set_option maxHeartbeats 8000000 in
theorem law (v0_0 : Value) (d0 : Dat sSig) (l1 : List UInt8) (w : World) (s0 : Rd w w.heap.size sSig [v0_0] d0) (hv : Vs w) :
  Calls Tryd.prog 3 #[.agg #[v0_0], .string (bs l1)] w (Fine w) := by
 obtain ⟨W, hW⟩ : ∃ W, W = w.alloc (.cells #[v0_0] 24) := ⟨_, rfl⟩
 have rA0 : Row W (w.heap.size) 24 #[v0_0] := by rw [hW]; have := Row.new (w) 24 #[v0_0]; simpa using this
 have bW : Below w.heap.size w W := by rw [hW]; exact (Below.refl w.heap.size w).alloc (by simp) (.cells #[v0_0] 24)
 have zA0 := rA0.lt
 replace s0 := s0.next bW
 have HV0 := hid (hv.next bW)
 clear hv
 have HW := hid hW
 clear hW
 obtain ⟨t0, ht0⟩ : ∃ z, sz sSig d0 = z := ⟨_, rfl⟩
 have HT0 := hid ht0
 clear ht0
 obtain ⟨v, hv⟩ : ∃ v, (ttO d0 l1).isSome = v := ⟨_, rfl⟩
 have HV := hid hv
 clear hv
 have ev : (v != v) = false := by simp
 by_cases hs1 : l1.length ≤ 1048576
 case neg =>
  have hs : (1048576 : Int) < ((bs l1).size : Int) := by rw [bs_size]; omega
  go_enter Tryd.func3, Tryd.ntmps3
  go_wp2_with fail
  rw [← HW.out]
  go_ret
  exact ⟨rfl, bW⟩
 have hq1 : ¬ (1048576 : Int) < ((bs l1).size : Int) := by rw [bs_size]; omega
 go_enter Tryd.func3, Tryd.ntmps3
 go_wp2_with fail
 rw [← HW.out]
 clear HW
 have bel := Below.refl W.heap.size W
 have cA0_0 : W.cell? ⟨w.heap.size, 0, none⟩ = some (v0_0) := (rA0.next bel).cell 0
 refine (szK_Sig _ d0 (1048576) _ (s0.next bel) (by omega) (by omega)).mono ?_
 rintro e w1 ⟨he, bb⟩
 rw [HT0.out] at he
 replace bel := next_trans bel bb
 have zw1 := bb.size
 clear bb
 by_cases q0 : t0 ≤ 1048576
 case neg =>
  rw [if_pos (by omega)] at he
  subst he
  have F := hid (bW.trans (bel.mono bW.size))
  clear bel bW cA0_0
  go_wp2
  go_ret
  exact ⟨rfl, F.out⟩
 rw [if_neg (by omega)] at he
 subst he
 have h0 : Hid (sz sSig d0 ≤ 1048576) := hid (by rw [HT0.out]; omega)
 clear cA0_0
 have cA0_0 : w1.cell? ⟨w.heap.size, 0, none⟩ = some (v0_0) := (rA0.next bel).cell 0
 have hlen : ((ttO d0 l1).getD []).length ≤ 1048576 := tt_len d0 l1
 obtain ⟨ys, hys⟩ : ∃ ys, (ttO d0 l1).getD [] = ys := ⟨_, rfl⟩
 rw [hys] at hlen
 have HY := hid hys
 clear hys
 replace hlen := hid hlen
 obtain ⟨k0, hk0⟩ : ∃ z, cntv sSig d0 = z := ⟨_, rfl⟩
 have hK0 : k0 ≤ 1 * 1048576 := by have j1 := cntv_le sSig d0; have j2 := h0.out; have j3 : wd sSig = 1 := rfl; rw [hk0, j3] at j1; omega
 have HK0 := hid hk0
 clear hk0
 go_wp2_with fail
 refine (toK_Sig _ d0 _ (s0.next bel) h0.out).mono ?_
 rintro e w2 ⟨p0A0, p0n0, p0c0, rfl, op0, bb⟩
 replace bel := next_trans bel bb
 have zw2 := bb.size
 clear bb
 clear cA0_0
 have cA0_0 : w2.cell? ⟨w.heap.size, 0, none⟩ = some (v0_0) := (rA0.next bel).cell 0
 go_wp2_with fail
 refine (specTextTerm' _ d0 l1 _ op0.rd h0.out (HV0.out.next bel) hs1).mono ?_
 rintro e w3 ⟨wA, wn, wc, he, o0, bb⟩
 rw [HV.out] at he
 rw [HY.out] at o0
 subst he
 replace op0 := op0.next bb
 replace bel := next_trans bel bb
 have zw3 := bb.size
 clear bb
 have sw := o0
 clear o0
 clear op0
 clear cA0_0
 have cA0_0 : w3.cell? ⟨w.heap.size, 0, none⟩ = some (v0_0) := (rA0.next bel).cell 0
 have belw := Below.refl w3.heap.size w3
 clear cA0_0
 have cA0_0 : w3.cell? ⟨w.heap.size, 0, none⟩ = some (v0_0) := (rA0.next bel).cell 0
 go_wp2_with fail
 refine (toK_Sig _ d0 _ (s0.next bel) h0.out).mono ?_
 rintro e w4 ⟨x0A0, x0n0, x0c0, rfl, ox0, bb⟩
 replace bel := next_trans bel bb
 replace belw := next_trans belw bb
 have zw4 := bb.size
 clear bb
 clear cA0_0
 have cA0_0 : w4.cell? ⟨w.heap.size, 0, none⟩ = some (v0_0) := (rA0.next bel).cell 0
 have dA0_0 : (w4.alloc (.cells #[.slice x0A0 x0n0 x0c0] 28)).cell? ⟨w.heap.size, 0, none⟩ = some (v0_0) := ((rA0.next bel).alloc _).cell 0
 go_wp2_with fail
 obtain ⟨w5, hw⟩ : ∃ W, W = w4.alloc (.cells #[.slice x0A0 x0n0 x0c0] 28) := ⟨_, rfl⟩
 rw [← hw]
 have rx0 : Row w5 w4.heap.size 28 #[.slice x0A0 x0n0 x0c0] := by rw [hw]; exact Row.new _ _ _
 have bb : Below w4.heap.size w4 w5 := by rw [hw]; exact (Below.refl _ _).alloc (Nat.le_refl _) _
 have yrx0 : w4.heap.size < w5.heap.size := by rw [hw]; simp
 clear hw
 replace ox0 := ox0.next bb
 replace bel := next_trans bel bb
 replace belw := next_trans belw bb
 have zw5 := bb.size
 clear bb
 clear dA0_0
 clear cA0_0
 have cA0_0 : w5.cell? ⟨w.heap.size, 0, none⟩ = some (v0_0) := (rA0.next bel).cell 0
 have cx0_0 : w5.cell? ⟨w4.heap.size, 0, none⟩ = some (.slice x0A0 x0n0 x0c0) := (rx0).cell 0
 refine (implTextTerm _ d0 l1 _ ox0.rd h0.out (HV0.out.next bel) hs1).mono ?_
 rintro e w6 ⟨gA, gn, gc, he, o0, bb⟩
 rw [HV.out] at he
 rw [HY.out] at o0
 subst he
 replace ox0 := ox0.next bb
 replace rx0 := rx0.next bb
 replace bel := next_trans bel bb
 replace belw := next_trans belw bb
 have zw6 := bb.size
 clear bb
 have og := Ownd.of_own o0
 clear o0
 clear cA0_0 cx0_0
 have cA0_0 : w6.cell? ⟨w.heap.size, 0, none⟩ = some (v0_0) := (rA0.next bel).cell 0
 have cx0_0 : w6.cell? ⟨w4.heap.size, 0, none⟩ = some (.slice x0A0 x0n0 x0c0) := (rx0).cell 0
 have hlenn : gn ≤ 1048576 := by rw [← og.rd.1]; exact hlen.out
 go_wp2_with fail
 refine (intsEq _ _ _ _ _ _ ys _ og.rd (sw.next belw) hlenn).mono ?_
 rintro e w7 ⟨rfl, bb⟩
 replace ox0 := ox0.next bb
 replace rx0 := rx0.next bb
 replace og := og.next bb
 replace bel := next_trans bel bb
 replace belw := next_trans belw bb
 have zw7 := bb.size
 clear bb
 clear cA0_0 cx0_0
 have cA0_0 : w7.cell? ⟨w.heap.size, 0, none⟩ = some (v0_0) := (rA0.next bel).cell 0
 have cx0_0 : w7.cell? ⟨w4.heap.size, 0, none⟩ = some (.slice x0A0 x0n0 x0c0) := (rx0).cell 0
 go_wp2_with fail
 replace ox0 := ox0.drew
 replace rx0 := rx0.drew
 replace og := og.drew
 replace bel := bel.drew
 replace belw := belw.drew
 have zdw7 := (drew_below w7).size
 go_region_held3 (fun w' => w'.cell? ⟨w4.heap.size, 0, none⟩ = some (.slice x0A0 x0n0 x0c0) ∧ w'.cell? ⟨w.heap.size, 0, none⟩ = some (v0_0))
  (go_keep)
  (first
   | (go_at_call 10; refine (toK_Sig _ d0 _ (s0.next bel) h0.out).mono ?_; rintro e w8 ⟨t0A0, t0n0, t0c0, rfl, ot, bb⟩; replace ox0 := ox0.next bb; replace rx0 := rx0.next bb; replace og := og.next bb; replace bel := next_trans bel bb; replace belw := next_trans belw bb; have k0_0w8 : w8.cell? ⟨w.heap.size, 0, none⟩ = some (v0_0) := (rA0.next bel).cell 0; have l0_0w8 : w8.cell? ⟨w4.heap.size, 0, none⟩ = some (.slice x0A0 x0n0 x0c0) := rx0.cell 0; have zqw8 := bb.size; clear bb)
   | (go_at_call 13; refine (eqK_Sig _ _ d0 _ ox0.rd ot.rd h0.out).mono ?_; rintro e w9 ⟨rfl, bb⟩; replace ox0 := ox0.next bb; replace rx0 := rx0.next bb; replace og := og.next bb; replace bel := next_trans bel bb; replace belw := next_trans belw bb; have k0_0w9 : w9.cell? ⟨w.heap.size, 0, none⟩ = some (v0_0) := (rA0.next bel).cell 0; have l0_0w9 : w9.cell? ⟨w4.heap.size, 0, none⟩ = some (.slice x0A0 x0n0 x0c0) := rx0.cell 0; have zqw9 := bb.size; clear bb ot))
 clear k0_0w8 l0_0w8 k0_0w9 l0_0w9
 clear cA0_0 cx0_0
 have cA0_0 : w9.cell? ⟨w.heap.size, 0, none⟩ = some (v0_0) := (rA0.next bel).cell 0
 have cx0_0 : w9.cell? ⟨w4.heap.size, 0, none⟩ = some (.slice x0A0 x0n0 x0c0) := (rx0).cell 0
 obtain ⟨Fox0, fox0, nox0, box0⟩ := ox0
 go_wp2_with fail
 refine (markK_Sig _ d0 (1) Fox0 _ fox0 nox0 h0.out (by omega) (by rw [HK0.out]; omega)).mono ?_
 rintro e w10 ⟨he, omox0, onox0⟩
 rw [HK0.out] at he
 have bt := onox0.btw box0
 clear onox0
 clear omox0 fox0 nox0 box0
 subst he
 replace rx0 := Row.btw rx0 bt (by omega)
 replace og := og.btw bt (by omega)
 replace bel := Below.btw bel bt (by omega) bel.size
 replace belw := Below.btw belw bt (by omega) belw.size
 have zw10 := bt.size
 clear bt
 clear cA0_0 cx0_0
 have cA0_0 : w10.cell? ⟨w.heap.size, 0, none⟩ = some (v0_0) := (rA0.next bel).cell 0
 have cx0_0 : w10.cell? ⟨w4.heap.size, 0, none⟩ = some (.slice x0A0 x0n0 x0c0) := (rx0).cell 0
 clear rx0
 clear cA0_0 cx0_0
 have cA0_0 : w10.cell? ⟨w.heap.size, 0, none⟩ = some (v0_0) := (rA0.next bel).cell 0
 go_wp2_with fail
 refine (intsEq _ _ _ _ _ _ ys _ og.rd (sw.next belw) hlenn).mono ?_
 rintro e w11 ⟨rfl, bb⟩
 replace og := og.next bb
 replace bel := next_trans bel bb
 replace belw := next_trans belw bb
 have zw11 := bb.size
 clear bb
 clear cA0_0
 have cA0_0 : w11.cell? ⟨w.heap.size, 0, none⟩ = some (v0_0) := (rA0.next bel).cell 0
 go_wp2_with fail
 refine (intsMark (w5.heap.size) (w6.heap.size) _ _ _ ys 1 _ og hlenn (by omega) (by omega)).mono ?_
 rintro e w12 ⟨he, om, bt⟩
 subst he
 clear og
 replace bel := Below.btw bel bt (by omega) bel.size
 replace belw := Below.btw belw bt (by omega) belw.size
 have zw12 := bt.size
 clear bt
 clear cA0_0
 have cA0_0 : w12.cell? ⟨w.heap.size, 0, none⟩ = some (v0_0) := (rA0.next bel).cell 0
 go_wp2_with fail
 refine (intsHeld _ _ _ 1 _ om.rd hlenn (by omega) (by omega)).mono ?_
 rintro e w13 ⟨rfl, bb⟩
 replace om := om.next bb
 replace bel := next_trans bel bb
 replace belw := next_trans belw bb
 have zw13 := bb.size
 clear bb
 clear cA0_0
 have cA0_0 : w13.cell? ⟨w.heap.size, 0, none⟩ = some (v0_0) := (rA0.next bel).cell 0
 go_wp2_with fail
 refine (toK_Sig _ d0 _ (s0.next bel) h0.out).mono ?_
 rintro e w14 ⟨p0A0, p0n0, p0c0, rfl, op0, bb⟩
 replace om := om.next bb
 replace bel := next_trans bel bb
 replace belw := next_trans belw bb
 have zw14 := bb.size
 clear bb
 clear cA0_0
 have cA0_0 : w14.cell? ⟨w.heap.size, 0, none⟩ = some (v0_0) := (rA0.next bel).cell 0
 go_wp2_with fail
 refine (implTextTerm _ d0 l1 _ op0.rd h0.out (HV0.out.next bel) hs1).mono ?_
 rintro e w15 ⟨hA, hn, hc, he, o0, bb⟩
 rw [HV.out] at he
 rw [HY.out] at o0
 subst he
 replace om := om.next bb
 replace op0 := op0.next bb
 replace bel := next_trans bel bb
 replace belw := next_trans belw bb
 have zw15 := bb.size
 clear bb
 have sh := Own.seg o0
 clear o0
 clear op0
 clear cA0_0
 have cA0_0 : w15.cell? ⟨w.heap.size, 0, none⟩ = some (v0_0) := (rA0.next bel).cell 0
 have belh := Below.refl w15.heap.size w15
 clear cA0_0
 have cA0_0 : w15.cell? ⟨w.heap.size, 0, none⟩ = some (v0_0) := (rA0.next bel).cell 0
 go_wp2_with fail
 refine (intsEq _ _ _ _ _ _ ys _ (sh.next belh) (sw.next belw) (by rw [← sh.1]; exact hlen.out)).mono ?_
 rintro e w16 ⟨rfl, bb⟩
 replace om := om.next bb
 replace bel := next_trans bel bb
 replace belw := next_trans belw bb
 replace belh := next_trans belh bb
 have zw16 := bb.size
 clear bb
 clear cA0_0
 have cA0_0 : w16.cell? ⟨w.heap.size, 0, none⟩ = some (v0_0) := (rA0.next bel).cell 0
 go_wp2_with fail
 refine (intsHeld _ _ _ 1 _ om.rd hlenn (by omega) (by omega)).mono ?_
 rintro e w17 ⟨rfl, bb⟩
 replace om := om.next bb
 replace bel := next_trans bel bb
 replace belw := next_trans belw bb
 replace belh := next_trans belh bb
 have zw17 := bb.size
 clear bb
 clear cA0_0
 have cA0_0 : w17.cell? ⟨w.heap.size, 0, none⟩ = some (v0_0) := (rA0.next bel).cell 0
 have F := hid (bW.trans (bel.mono bW.size))
 clear bel belw belh om bW cA0_0
 go_wp2
 go_ret
 exact ⟨rfl, F.out⟩
end wTextTerm
end
section
namespace varsOpen
open Go.RowKit parsed
theorem gES : Tryd.prog.globalNamed "strconv.ErrSyntax" = some 2 := by kernel_rfl
theorem gEST : (Tryd.prog.globals[2]?).map (·.type) = some 105 := by kernel_rfl
theorem gER : Tryd.prog.globalNamed "strconv.ErrRange" = some 3 := by kernel_rfl
theorem gERT : (Tryd.prog.globals[3]?).map (·.type) = some 105 := by kernel_rfl
theorem cellsS : Tryd.prog.cellsOf 164 = 1 := by kernel_rfl
theorem cells9 : Tryd.prog.cellsOf 9 = 1 := by kernel_rfl
theorem star : "*" ++ "errors.errorString" = "*errors.errorString" := by decide
theorem rowE (u : TypeId) (h : Tryd.prog.typeName? 3 u = some "*errors.errorString") : u = 162 :=
 typeName_ptr_named (nm := "errors.errorString") (by rw [star]; kernel_rfl) (by kernel_rfl) (by decide) u (by rw [star]; exact h)
theorem vs_laid {w : World} {r : List (String × DataW Unit)} (h : w.ShapedOpen Tryd.prog) (hL : laidMet Tryd.prog (("strconv.ErrRange", Rows.laid_strconv_ErrRange) :: ("strconv.ErrSyntax", Rows.laid_strconv_ErrSyntax) :: r) w) : Vs w := by
 obtain ⟨a1, s1, hv1, -, -, -⟩ := laid_sentinel hL gER gERT Tryd.underlying105 rowE Tryd.underlying162 Tryd.underlying164 rfl rfl Tryd.underlying9 cellsS cells9
 obtain ⟨a0, s0, hv0, -, -, -⟩ := laid_sentinel hL.tail gES gEST Tryd.underlying105 rowE Tryd.underlying162 Tryd.underlying164 rfl rfl Tryd.underlying9 cellsS cells9
 exact ⟨cell_of_shapedOpen_int (P := Tryd.prog) (t := 3) (zero := #[.int .i64 0]) h (of_decide_eq_true (by kernel_rfl)) (by kernel_rfl) rfl (by kernel_rfl) (by kernel_rfl) Tryd.underlying3,
  ⟨_, by have h0 := World.var?_cell gES hv0 0; simpa using h0, .inr ⟨_, _, rfl⟩⟩, ⟨_, by have h0 := World.var?_cell gER hv1 0; simpa using h0, .inr ⟨_, _, rfl⟩⟩⟩
theorem handed {H : Type} {enc : TypeId × Value → H} {a : Assume} {C : Checked} {os : Os} {f : FuncId} {fn : Func} {s : ChangeSpec} {conds : List PathCond} {apart fresh handsOn again : Bool} {X : World → Array Value → Prop}
  (hX : ∀ (w w' : World) (args : Array Value), w.heap = w'.heap → X w args → X w' args)
  (own : ownKnob C.prog.godebug = none) (started : os.Started) (noInit : C.prog.inits.idxOf? f = none) (hfn : C.prog.funcs[f]? = some fn)
  (witness : ∃ (w : World) (tape : Tape) (i : Input), w.os = os ∧ (w.forCall tape i).Shaped C.prog ∧ i.vars = [] ∧ Input.okWide C.prog (w.forCall tape i) .any w.heap.size f i ∧
   ((s.pre enc C.prog fn conds apart (w.forCall tape i).memory i.args ∧ X (w.forCall tape i).memory i.args) ∧ sizedMet enc C.prog fn (OpenSpec.ofChange s) apart (w.forCall tape i).memory i.args) ∧ a.holds C.prog (lone (Frame.enter C.prog f i.args .normal) [] (w.forCall tape i)))
  (contract : ∀ (W : World) (base : Nat) (args : Array Value) (ds gs : List (DataW H)) (before : List MemPlace),
   (∀ (j : Nat) t v, fn.params[j]? = some t → args[j]? = some v → Value.okWide C.prog W .any base t v) →
   DataW.Whole enc C.prog fn.params.toList s.vars apart W args.toList ds gs before →
   W.ShapedOpen C.prog → X W args →
   Calls C.prog f args W fun e W' => ∃ v, e = .returned v ∧ s.post enc C.prog fn apart fresh handsOn again W args v W') :
  ReturnsInHanded a C os f .any (fun w args => (s.pre enc C.prog fn conds apart w args ∧ X w args) ∧ sizedMet enc C.prog fn (OpenSpec.ofChange s) apart w args) (s.post enc C.prog fn apart fresh handsOn again) := by
 refine returnsInHanded_of_calls own started noInit witness ?_
 intro w tape i _ hsh _ hok hpre hholds
 obtain ⟨_, _, _, fn', hfn', _, _, _, _, hval⟩ := hok
 have e : fn' = fn := Option.some.inj (hfn'.symm.trans hfn)
 subst e
 obtain ⟨⟨⟨ds, gs, before, hw, hc⟩, hx⟩, hz⟩ := hpre
 have hw' := DataW.Whole.of_heap (w' := w.forCall tape i) (by rfl) hw
 refine (contract (w.forCall tape i) w.heap.size i.args ds gs before hval hw' hsh (hX _ _ _ (by rfl) hx)).mono fun e W' ⟨v, he, hp⟩ => ?_
 subst he
 exact ChangeSpec.post_blind hp
end varsOpen
end
section
namespace openX
open Go.ChangeShapes Go.WideShapes Go.ChangeAt Go.RowKit base segs shape
def Wf : (s : Sh) → Dat s → Prop
 | .num, (x : Int) => -9223372036854775808 ≤ x ∧ x ≤ 9223372036854775807
 | .bit, _ => True
 | .row _ s, (d : List (Dat s)) => ∀ j, j < d.length → Wf s (d.getD j (dft s))
 | .cat a b, d => Wf a d.1 ∧ Wf b d.2
mutual
def fitsB (P : Program) : Nat → Sh → TypeId → Bool
 | 0, _, _ => false
 | n + 1, s, t => match P.underlying t with
  | some (.struct fs) => P.cellsOf t == nc s && fitsL P n fs.toList 0 s
  | some (.int .i64) => match s with | .num => true | _ => false
  | some .bool => match s with | .bit => true | _ => false
  | some (.slice e) => match s with | .row _ s' => P.cellsOf e == nc s' && fitsB P n s' e | _ => false
  | _ => false
def fitsL (P : Program) : Nat → List Field → Nat → Sh → Bool
 | 0, _, _, _ => false
 | _ + 1, [], _, _ => false
 | n + 1, [f], k, s => f.offset == k && (P.cellsOf f.type == nc s && fitsB P n s f.type)
 | n + 1, f :: g :: fs, k, s => match s with | .cat a b => f.offset == k && (P.cellsOf f.type == nc a && (fitsB P n a f.type && fitsL P n (g :: fs) (k + nc a) b)) | _ => false
end
section
variable {H : Type} {enc : TypeId × Value → H} {P : Program} {w : World} {held : Bool}
theorem addr_add {b off i : Nat} : (⟨b, off, none⟩ : Addr).add i = ⟨b, off + i, none⟩ := by unfold Addr.add; split <;> simp_all
theorem rd_trod : ∀ n : Nat, (∀ (s : Sh) (t : TypeId) (fuel : Nat) (cs : List Value) (x : DataW H × List MemPlace), fitsB P n s t = true → DataW.trod enc P w 0 (fun _ => true) held fuel t cs = some x → ∃ d, Rd w w.heap.size s cs d ∧ Wf s d) ∧
  (∀ (fs : List Field) (k : Nat) (s : Sh) (cs : List Value) (m : Nat), fitsL P n fs k s = true → (∀ (i : Nat) (f : Field), fs[i]? = some f → ∃ x, DataW.trod enc P w 0 (fun _ => true) held m f.type ((cs.drop f.offset).take (P.cellsOf f.type)) = some x) →
   ∃ d, Rd w w.heap.size s ((cs.drop k).take (nc s)) d ∧ Wf s d) := by
 intro n
 induction n with
 | zero => exact ⟨fun _ _ _ _ _ h => by simp [fitsB] at h, fun _ _ _ _ _ h => by simp [fitsL] at h⟩
 | succ n ih =>
  refine ⟨fun s t fuel cs x hf h => ?_, fun fs k s cs m hf h => ?_⟩
  ·unfold fitsB at hf
   split at hf
   ·rename_i fs hu
    simp only [Bool.and_eq_true, beq_iff_eq] at hf
    obtain ⟨xs, n', hfu, hx, hlen, hxl, hg⟩ := DataW.trod_struct hu h
    obtain ⟨d, hr, hw⟩ := ih.2 fs.toList 0 s cs n' hf.2 (fun i f hi => by
     have hi' : fs[i]? = some f := by simpa using hi
     have h1 := hg i f hi'
     have hlt : i < fs.size := (Array.getElem?_eq_some_iff.1 hi').1
     exact ⟨xs[i]'(by omega), by rw [h1]; exact List.getElem?_eq_getElem (by omega)⟩)
    rw [List.drop_zero, List.take_of_length_le (by omega)] at hr
    exact ⟨d, hr, hw⟩
   ·rename_i hu
    split at hf
    ·obtain ⟨z, e1, _, hw⟩ := DataW.trod_int hu h
     refine ⟨z, e1, ?_⟩
     show -9223372036854775808 ≤ z ∧ z ≤ 9223372036854775807
     simpa [Lit.wf, IntKind.min, IntKind.max, IntKind.signed, IntKind.bits] using hw
    ·cases hf
   ·rename_i hu
    split at hf
    ·obtain ⟨z, e1, _⟩ := DataW.trod_bool hu h
     exact ⟨z, e1, trivial⟩
    ·cases hf
   ·rename_i e hu
    split at hf
    ·rename_i e0 s'
     simp only [Bool.and_eq_true, beq_iff_eq] at hf
     rcases Go.Deep.open_slice hu h with ⟨hcs, _⟩ | ⟨a, len, cap, m, n', D, Pl, hcs, _, hl, hm, hmm, _, hi⟩
     ·exact ⟨[], ⟨none, 0, 0, hcs, ⟨by omega, by omega, fun _ => rfl⟩, rfl, fun h => absurd h (by omega)⟩, fun j hj => absurd hj (Nat.not_lt_zero _)⟩
     ·have hmc : m = cap := by simpa using hmm
      subst hmc
      have hd : ∀ j, j < len → ∃ (es : List Value) (dj : Dat s'), es.length = nc s' ∧ (∀ i, i < nc s' → w.cell? ((a.add (j * nc s')).add i) = es[i]?) ∧ Rd w w.heap.size s' es dj ∧ Wf s' dj := fun j hj => by
       obtain ⟨cs', hc, ht⟩ := hi j (by omega)
       obtain ⟨dj, hr, hw⟩ := ih.1 s' e n' cs' _ hf.2 ht
       rw [hf.1] at hc
       obtain ⟨_, hcl, hat⟩ := World.cells?_some hc
       exact ⟨cs', dj, hcl, hat, hr, hw⟩
      have hspot : 0 < len → a.spot = none := fun h0 => by
       obtain ⟨es, dj, h1, h2, _⟩ := hd 0 h0
       have hp := nc_pos s'
       have h3 := h2 0 (by omega)
       rw [List.getElem?_eq_getElem (by omega)] at h3
       have := World.cell?_spot h3
       simpa [Addr.add] using this
      obtain ⟨ds, hdl, hds⟩ : ∃ ds : List (Dat s'), ds.length = len ∧ ∀ j, j < len → ∃ es : List Value, es.length = nc s' ∧ (∀ i, i < nc s' → w.cell? ((a.add (j * nc s')).add i) = es[i]?) ∧ Rd w w.heap.size s' es (ds.getD j (dft s')) ∧ Wf s' (ds.getD j (dft s')) := by
       refine ⟨(List.range len).map fun j => if hj : j < len then Classical.choose (Classical.choose_spec (hd j hj)) else dft s', by simp, fun j hj => ?_⟩
       refine ⟨Classical.choose (hd j hj), ?_⟩
       have h1 := Classical.choose_spec (Classical.choose_spec (hd j hj))
       have e1 : ((List.range len).map fun j => if hj : j < len then Classical.choose (Classical.choose_spec (hd j hj)) else dft s').getD j (dft s') = Classical.choose (Classical.choose_spec (hd j hj)) := by simp [List.getD, hj]
       rw [e1]
       exact h1
      refine ⟨ds, ⟨some a, len, m, hcs, ⟨hl, by unfold maxLen at hm; omega, fun e => by cases e⟩, hdl, fun h0 => ?_⟩, fun j hj => by
       obtain ⟨es, _, _, _, hw⟩ := hds j (by rw [← hdl]; exact hj)
       exact hw⟩
      obtain ⟨b, off, spot⟩ := a
      have hs := hspot h0
      simp only at hs
      subst hs
      refine ⟨b, off, rfl, ?_, fun j hj => ?_⟩
      ·obtain ⟨es, h1, h2, _⟩ := hds 0 h0
       have hp := nc_pos s'
       have h3 := h2 0 (by omega)
       rw [List.getElem?_eq_getElem (by omega)] at h3
       have h4 := World.block_lt_of_cell? _ _ h3
       simpa [addr_add] using h4
      ·obtain ⟨es, h1, h2, h3, _⟩ := hds j hj
       refine ⟨es, h1, fun i hi2 => ?_, h3⟩
       have := h2 i (by omega)
       rw [addr_add, addr_add] at this
       exact this
    ·cases hf
   ·cases hf
  ·match fs, hf, h with
   | [], hf, _ => simp [fitsL] at hf
   | [f], hf, h =>
    unfold fitsL at hf
    simp only [Bool.and_eq_true, beq_iff_eq] at hf
    obtain ⟨h1, h2, h3⟩ := hf
    obtain ⟨x, hx⟩ := h 0 f rfl
    rw [h1, h2] at hx
    exact ih.1 s f.type m _ x h3 hx
   | f :: g :: fs, hf, h =>
    cases s with
    | cat a b =>
     unfold fitsL at hf
     simp only [Bool.and_eq_true, beq_iff_eq] at hf
     obtain ⟨h1, h2, h3, h4⟩ := hf
     obtain ⟨x, hx⟩ := h 0 f rfl
     rw [h1, h2] at hx
     obtain ⟨d1, r1, w1⟩ := ih.1 a f.type m _ x h3 hx
     obtain ⟨d2, r2, w2⟩ := ih.2 (g :: fs) (k + nc a) b cs m h4 (fun i f' hi => h (i + 1) f' hi)
     refine ⟨(d1, d2), ⟨_, _, ?_, r1, r2⟩, w1, w2⟩
     show List.take (nc a + nc b) (List.drop k cs) = _
     rw [List.take_add, List.drop_drop]
    | num => simp [fitsL] at hf
    | bit => simp [fitsL] at hf
    | row e s' => simp [fitsL] at hf
theorem open_val {s : Sh} {t : TypeId} {v : Value} {d : DataW H} {p : List MemPlace} {n : Nat} (hf : fitsB P n s t = true) (h : DataW.Trod enc P w 0 (fun _ => true) held t v d p) : ∃ x, Rd w w.heap.size s v.cells.toList x ∧ Wf s x := by
 obtain ⟨fuel, hfu⟩ := h
 exact (rd_trod n).1 s t fuel _ _ hf hfu
end
end openX
end
end Go.Proofs.YtlaloakegajheabDoor
