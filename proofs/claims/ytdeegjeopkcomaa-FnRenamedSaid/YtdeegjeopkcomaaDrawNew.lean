/-
  CONTRACT: spec.l1New. Conditions: at most 4096 bytes. By an AI agent.
-/
import Derived.Test.YtdeegjeopkcomaaDrawAny
namespace Go.Proofs.Ytdeegjeopkcomaa.drawTwo
open Go.RowKit Go.Proofs.Ytdeegjeopkcomaa.base Go.Proofs.Ytdeegjeopkcomaa.ints Go.Proofs.Ytdeegjeopkcomaa.sig Go.Proofs.Ytdeegjeopkcomaa.term Go.Proofs.Ytdeegjeopkcomaa.cursor Go.Proofs.Ytdeegjeopkcomaa.termOk Go.Proofs.Ytdeegjeopkcomaa.marks Go.Proofs.Ytdeegjeopkcomaa.app Go.Proofs.Ytdeegjeopkcomaa.sym Go.Proofs.Ytdeegjeopkcomaa.dice Go.Proofs.Ytdeegjeopkcomaa.drawSig Go.Proofs.Ytdeegjeopkcomaa.drawTerm Go.Proofs.Ytdeegjeopkcomaa.drawAny
set_option maxRecDepth 100000

/-- a new cursor -/
def AnsNew (w : World) (A : Option Addr) (n c : Nat) (e : Ending) (w' : World) : Prop := ∃ p, e = .returned (.pointer (some ⟨p, 0, none⟩)) ∧ w.heap.size ≤ p ∧ Dice w' p A n c ∧ Below w.heap.size w w'

set_option maxHeartbeats 1000000 in
theorem new_ (A : Option Addr) (n c : Nat) (w : World) (h : SegB w w.heap.size A n) (hn : n ≤ 4096) :
    Calls Try.prog 59 #[.slice A n c] w (AnsNew w A n c) := by
  go_enter Try.func59, Try.ntmps59
  go_wp2_with fail
  go_loop [3, 4] (fun hh i => ∃ (k : Nat) (h0 : Int), k ≤ n ∧ i = .int .i64 k ∧ hh = .int .i64 h0) (fun _ i => n - (intOf i).toNat)
  case atStart => exact ⟨0, _, Nat.zero_le _, rfl, rfl⟩
  case round =>
    obtain ⟨k, h0, hk, rfl, rfl⟩ := hrel
    by_cases hlt : k < n
    · obtain ⟨b, off, rfl, hb, hc⟩ := h (by omega)
      obtain ⟨y, hy0, hy1, hy⟩ := hc k hlt
      clear hc h
      go_wp2
      go_round
      case rel => exact ⟨k + 1, _, hlt, by go_num, rfl⟩
      case measure => simp [intOf]; omega
    · have F : AnsNew w A n c (.returned (.pointer (some ⟨w.heap.size, 0, none⟩))) (w.alloc (.cells #[.slice A n c, .int .i64 0, .int .i64 h0] 94)) :=
        ⟨_, rfl, Nat.le_refl _, ⟨0, h0, Row.new _ _ _, Nat.zero_le _, h.keep (fun q hq => World.cell?_alloc_lt w _ q hq), hn⟩, (Below.refl _ _).alloc (Nat.le_refl _) _⟩
      have HF := Lib.hid F
      clear F h
      go_wp2
      go_ret
      exact HF.out

end Go.Proofs.Ytdeegjeopkcomaa.drawTwo
