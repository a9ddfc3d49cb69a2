/-
  Contracts of the utf package's functions that only read bytes: IndexFunc and ContainsFunc at notContinuation, span, begins, prefix, Right.
-/
import Derived.Test.YtoilcigmpeaedaaGreatDoorUtfA
import Derived.Test.YtoilcigmpeaedaaGreatDoorUtfWords
import Derived.Deep.QuietTactic
import Derived.BigQuiet
import Derived.Laws.BitsAllLaws
namespace Go.Proofs.YtoilcigmpeaedaaGreatDoor.Utf
open Go.RowKit

def IdxPost (bs : List UInt8) (w : World) (e : Ending) (w' : World) : Prop := ∃ r : Int, e = .returned (.int .i64 r) ∧ decide (0 ≤ r) = bs.any notc ∧ w = w'

theorem any_take_succ (bs : List UInt8) (k : Nat) (b : UInt8) (h : bs[k]? = some b) : (bs.take (k + 1)).any notc = ((bs.take k).any notc || notc b) := by
  rw [List.take_add_one, h]; simp
set_option maxHeartbeats 400000 in
theorem indexFunc_any (A : Option Addr) (c : Nat) (bs : List UInt8) (w : World) (h : Rd w A (cB bs)) (hl : bs.length ≤ 1000000) :
    Calls Tryz.prog 147 #[.slice A bs.length c, .func (.func 141) #[] #[]] w (IdxPost bs w) := by
  have H := Lib.hid h; clear h
  go_enter Tryz.func147, Tryz.ntmps147
  go_wp2
  go_loop [8] (fun i => ∃ k : Nat, k ≤ bs.length ∧ i = .int .i64 k ∧ Hid ((bs.take k).any notc = false)) (fun i => bs.length - (intOf i).toNat)
  case atStart => exact ⟨0, Nat.zero_le _, rfl, by simp [Hid]⟩
  case round =>
    obtain ⟨k, hk, rfl, ht⟩ := hrel
    by_cases hlt : k < bs.length
    · obtain ⟨b, hb⟩ : ∃ b, bs[k]? = some b := ⟨bs[k], by simp [hlt]⟩
      obtain ⟨ad, rfl, hblk, hc⟩ := H.out k _ (cB_at bs k b hb)
      have HB := Lib.hid hb; clear hb
      cases hn : notc b with
      | true =>
        go_wp2_with (go_at_call 141; refine (notContinuation_any _ _).mono ?_; rintro e w' ⟨rfl, rfl⟩)
        go_ret
        refine ⟨k, rfl, ?_, rfl⟩
        have := any_take_succ bs k b HB.out
        rw [hn, Bool.or_true] at this
        have h2 : bs.any notc = true := by
          rw [← List.take_append_drop (k + 1) bs, List.any_append, this, Bool.true_or]
        rw [h2]; simp
      | false =>
        go_wp2_with (go_at_call 141; refine (notContinuation_any _ _).mono ?_; rintro e w' ⟨rfl, rfl⟩)
        go_round
        case rel => exact ⟨k + 1, by omega, by go_num, by show _ = false; rw [any_take_succ bs k b HB.out, hn, ht.out]; rfl⟩
        case measure => simp [intOf]; omega
    · go_wp2
      go_ret
      refine ⟨-1, rfl, ?_, rfl⟩
      have := ht.out
      rw [List.take_of_length_le (by omega)] at this
      rw [this]; rfl

theorem containsFunc_any (A : Option Addr) (c : Nat) (bs : List UInt8) (w : World) (h : Rd w A (cB bs)) (hl : bs.length ≤ 1000000) :
    Calls Tryz.prog 140 #[.slice A bs.length c, .func (.func 141) #[] #[]] w fun e w' => e = .returned (.bool (bs.any notc)) ∧ w = w' := by
  have H := Lib.hid h; clear h
  go_enter Tryz.func140, Tryz.ntmps140
  go_wp2_with fail
  refine (indexFunc_any A c bs _ H.out hl).mono ?_
  rintro e w' ⟨r, rfl, hr, rfl⟩
  have HR := Lib.hid hr; clear hr
  go_wp2
  go_ret
  exact ⟨by rw [← HR.out]; rfl, rfl⟩
end Go.Proofs.YtoilcigmpeaedaaGreatDoor.Utf
