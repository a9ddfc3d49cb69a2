/-
  Contracts of what the laws of layer 7 use besides the package: told, refused, works (the chapter's examples hold: it returns true).
-/
import Derived.Test.YthdndbeknmcniaaDoorB64F
namespace Go.Proofs.YthdndbeknmcniaaDoor.B64
open Go.RowKit Utf

theorem ba_same (a : ByteArray) : (a.toList == a.toList) = true := by simp
set_option maxRecDepth 100000 in
set_option maxHeartbeats 2000000 in
theorem told_is (s t : ByteArray) (h1 : s.size ≤ 4096) (h2 : t.size ≤ 8192) (h : t.data.toList = encL s.data.toList) (w : World) : Calls Tryd.prog 17 #[.string s, .string t] w fun e w' => e = .returned (.bool true) ∧ Below w.heap.size w w' := by
  have ht : t = ⟨(encL s.data.toList).toArray⟩ := ba_eq (by simpa using h)
  have hd : decV' t.data.toList = .tuple #[.string s, .int .i64 0] := by
    rw [decV_some _ s.data.toList (by rw [h]; exact decL_enc _)]
  have HE := Lib.hid (encode_any s w h1)
  rw [← ht] at HE
  have HD := fun W => Lib.hid (decode_any t W h2)
  rw [hd] at HD
  clear hd ht h
  go_enter Tryd.func17, Tryd.ntmps17
  go_wp2_with (first
    | (go_at_call 8; refine HE.out.mono ?_; rintro e w1 ⟨rfl, hb1⟩)
    | (go_at_call 13; refine (HD _).out.mono ?_; rintro e w2 ⟨rfl, hb2⟩))
  go_ret
  exact ⟨rfl, up hb1 hb2⟩
set_option maxRecDepth 100000 in
set_option maxHeartbeats 2000000 in
theorem refused_is (s : ByteArray) (h2 : s.size ≤ 8192) (h : decL s.data.toList = none) (w : World) : Calls Tryd.prog 18 #[.string s] w fun e w' => e = .returned (.bool true) ∧ Below w.heap.size w w' := by
  have HD := fun W => Lib.hid (decode_any s W h2)
  rw [decV_none _ h] at HD
  clear h
  go_enter Tryd.func18, Tryd.ntmps18
  go_wp2_with (go_at_call 13; refine (HD _).out.mono ?_; rintro e w2 ⟨rfl, hb2⟩)
  go_ret
  exact ⟨rfl, hb2⟩
theorem ixW (k : Nat) (hk : k < 7) : ∃ S : ByteArray, S.size ≤ 8192 ∧ decL S.data.toList = none ∧ ∀ W, (Instr.index 45 (.agg #[.string ⟨#[90, 109, 56, 61, 61]⟩, .string ⟨#[90, 109, 57]⟩, .string ⟨#[90]⟩, .string ⟨#[90, 109, 57, 118, 61]⟩, .string ⟨#[90, 109, 45, 118]⟩, .string ⟨#[61]⟩, .string ⟨#[90, 103, 61]⟩]) (.int .i64 (k : Int))).run Tryd.prog W = .ok (.string S) W := by
  rcases (show k = 0 ∨ k = 1 ∨ k = 2 ∨ k = 3 ∨ k = 4 ∨ k = 5 ∨ k = 6 by omega) with rfl | rfl | rfl | rfl | rfl | rfl | rfl
  · exact ⟨⟨#[90, 109, 56, 61, 61]⟩, by decide, by decide +kernel, fun _ => by kernel_rfl⟩
  · exact ⟨⟨#[90, 109, 57]⟩, by decide, by decide +kernel, fun _ => by kernel_rfl⟩
  · exact ⟨⟨#[90]⟩, by decide, by decide +kernel, fun _ => by kernel_rfl⟩
  · exact ⟨⟨#[90, 109, 57, 118, 61]⟩, by decide, by decide +kernel, fun _ => by kernel_rfl⟩
  · exact ⟨⟨#[90, 109, 45, 118]⟩, by decide, by decide +kernel, fun _ => by kernel_rfl⟩
  · exact ⟨⟨#[61]⟩, by decide, by decide +kernel, fun _ => by kernel_rfl⟩
  · exact ⟨⟨#[90, 103, 61]⟩, by decide, by decide +kernel, fun _ => by kernel_rfl⟩
set_option maxRecDepth 100000 in
set_option maxHeartbeats 4000000 in
theorem works_any (w : World) : Calls Tryd.prog 12 #[] w fun e w' => e = .returned (.bool true) ∧ Below w.heap.size w w' := by
  have HD : ∀ W, Hid (Calls Tryd.prog 13 #[.string ⟨#[90, 109, 56]⟩] W fun e w' => e = .returned (.tuple #[.string ⟨#[102, 111]⟩, .int .i64 0]) ∧ Below W.heap.size W w') := fun W => by
    have := decode_any ⟨#[90, 109, 56]⟩ W (by decide)
    rw [decV_some _ [102, 111] (by decide +kernel)] at this
    exact Lib.hid this
  have hG : Below w.heap.size w w := Below.refl _ _
  have HS := fun n W h => Lib.hid (size_any n W h)
  go_enter Tryd.func12, Tryd.ntmps12
  go_wp2_with (first
    | (go_at_call 17; refine (told_is _ _ (by decide) (by decide) (by decide +kernel) _).mono ?_; rintro e w1 ⟨rfl, hb1⟩; have hG := up hG hb1; clear hb1)
    | (go_at_call 13; refine (HD _).out.mono ?_; rintro e w6 ⟨rfl, hb6⟩; have hG := up hG hb6; clear hb6))
  go_loopw [24] (fun i wr => ∃ k : Nat, k ≤ 7 ∧ i = .int .i64 k ∧ Hid (Below w.heap.size w wr)) (fun i _ => 7 - (intOf i).toNat)
  case atStart => exact ⟨0, by omega, rfl, hG⟩
  case round =>
    clear hG HD
    obtain ⟨k, hk, rfl, hid⟩ := hrel
    by_cases hk2 : k < 7
    · obtain ⟨S, hS1, hS2, hix⟩ := ixW k hk2
      have HR := Lib.hid (refused_is S hS1 hS2 wr)
      have hG := hid.out
      clear hS1 hS2 hid HS
      go_wp2_with (go_at_call 18; refine HR.out.mono ?_; rintro e w7 ⟨rfl, hb7⟩; have hG := up hG hb7; clear hb7)
      refine ⟨⟨k + 1, by omega, by go_num, hG⟩, ?_⟩
      show 7 - ((k : Int) + 1).toNat < 7 - (k : Int).toNat
      omega
    · obtain rfl : k = 7 := by omega
      go_wp2_with (go_at_call 10; refine (HS _ _ (by decide)).out.mono ?_; rintro e w8 ⟨rfl, rfl⟩)
      go_ret
      exact ⟨by kernel_rfl, hid.out⟩
end Go.Proofs.YthdndbeknmcniaaDoor.B64
