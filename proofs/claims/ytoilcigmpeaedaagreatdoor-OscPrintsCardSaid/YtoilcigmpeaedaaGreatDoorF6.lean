/-
  OscA
-/
import Derived.Lib.IndexBytes
import Derived.Lib.IndexMore
import Derived.WalkLawsBesides
import Derived.Defers
import Derived.Recover
import Derived.Test.YtoilcigmpeaedaaGreatDoorProg
import Derived.Test.YtoilcigmpeaedaaGreatDoorF1
import Derived.Test.YtoilcigmpeaedaaGreatDoorF2
import Derived.Test.YtoilcigmpeaedaaGreatDoorF4
import Derived.Test.YtoilcigmpeaedaaGreatDoorF5
namespace Go.Proofs.YtoilcigmpeaedaaGreatDoor.Osc
open Go.RowKit Utf

/-- the panic by which a malformed string is abandoned -/
def mal : List PanicEntry := [{ v := .iface 9 (.string ⟨#[109, 97, 108, 102, 111, 114, 109, 101, 100]⟩), recovered := false }]
theorem demand_yes (w : World) : Calls Tryz.prog 34 #[.bool true] w fun e w' => e = .returned (.tuple #[]) ∧ w' = w := by
  go_enter Tryz.func34, Tryz.ntmps34
  go_wp2
  go_end0
  exact ⟨rfl, rfl⟩
theorem demand_no (w : World) : Calls Tryz.prog 34 #[.bool false] w fun e w' => e = .panicked mal ∧ w' = w := by
  go_enter Tryz.func34, Tryz.ntmps34
  go_wp2
  exact ⟨rfl, rfl, rfl⟩
theorem isClip_any (s : ByteArray) (w : World) : Calls Tryz.prog 53 #[.string s] w fun e w' => e = .returned (.bool (decide ((s.size : Int) ≤ 378))) ∧ w' = w := by
  go_enter Tryz.func53, Tryz.ntmps53
  go_wp2
  go_ret
  exact ⟨rfl, rfl⟩
theorem cut_ix : ∀ l : List UInt8, (cutL l = none ∧ Lib.indexByte l 59 = -1) ∨ ∃ i : Nat, i < l.length ∧ Lib.indexByte l 59 = (i : Int) ∧ cutL l = some (l.take i, l.drop (i + 1))
  | [] => .inl ⟨rfl, rfl⟩
  | b :: r => by
    by_cases hb : b = 59
    · subst hb
      exact .inr ⟨0, by simp, by simp [Lib.indexByte], by simp [cutL]⟩
    · rcases cut_ix r with ⟨h1, h2⟩ | ⟨i, h0, h1, h2⟩
      · exact .inl ⟨by simp [cutL, hb, h1], by simp [Lib.indexByte, hb, h2]⟩
      · refine .inr ⟨i + 1, by simp; omega, ?_, by simp [cutL, hb, h2]⟩
        have : (i : Int) ≠ -1 := by omega
        simp [Lib.indexByte, hb, h1, this]
def cutV (s : ByteArray) : Value := match cutL s.data.toList with
  | some p => .tuple #[.string ⟨p.1.toArray⟩, .string ⟨p.2.toArray⟩, .bool true]
  | none => .tuple #[.string s, .string ⟨#[]⟩, .bool false]
theorem ext_front (s : ByteArray) (i : Nat) : (⟨(s.data.toList.take i).toArray⟩ : ByteArray) = s.extract 0 i := by
  apply ByteArray.ext
  apply Array.toList_inj.1
  simp only [ByteArray.data_extract, Array.toList_extract, List.extract_eq_take_drop, Nat.sub_zero, List.drop_zero]
theorem ext_back (s : ByteArray) (i : Nat) : (⟨(s.data.toList.drop i).toArray⟩ : ByteArray) = s.extract i s.size := by
  apply ByteArray.ext
  apply Array.toList_inj.1
  simp only [ByteArray.data_extract, Array.toList_extract, List.extract_eq_take_drop]
  rw [List.take_of_length_le (by simp)]
set_option maxRecDepth 100000 in
set_option maxHeartbeats 2000000 in
theorem slcut_any (s : ByteArray) (w : World) (hs : s.size ≤ 1000000) : Calls Tryz.prog 87 #[.string s, .string ⟨#[59]⟩] w fun e w' => e = .returned (cutV s) ∧ Below w.heap.size w w' := by
  unfold cutV
  have HX := Lib.hid (fun W => Tryz.stringslite_Index_one s 59 W)
  rcases cut_ix s.data.toList with ⟨h1, h2⟩ | ⟨i, h0, h1, h2⟩
  · rw [h1]
    rw [h2] at HX
    clear h1 h2
    go_enter Tryz.func87, Tryz.ntmps87
    go_wp2_with (go_at_call 104; refine (HX.out _).mono ?_; rintro e w1 ⟨rfl, rfl⟩)
    go_ret3
    exact ⟨rfl, Below.refl _ _⟩
  · rw [h2]
    dsimp only
    rw [ext_front, ext_back]
    rw [h1] at HX
    clear h1 h2
    have hi : i < s.size := by simpa using h0
    have c1 : (0 : Int) ≤ (i : Int) := by omega
    have c2 : (i : Int) ≤ (s.size : Int) := by omega
    have c3 : (0 : Int) ≤ (i : Int) + 1 := by omega
    have c4 : (i : Int) + 1 ≤ (s.size : Int) := by omega
    clear h0
    go_enter Tryz.func87, Tryz.ntmps87
    go_wp2_with (go_at_call 104; refine (HX.out _).mono ?_; rintro e w1 ⟨rfl, rfl⟩)
    go_region
    go_wp2
    go_ret3
    exact ⟨by kernel_rfl, (Below.refl _ _).drew⟩
set_option maxRecDepth 100000 in
set_option maxHeartbeats 2000000 in
theorem scut_any (s : ByteArray) (w : World) (hs : s.size ≤ 1000000) : Calls Tryz.prog 63 #[.string s, .string ⟨#[59]⟩] w fun e w' => e = .returned (cutV s) ∧ Below w.heap.size w w' := by
  have H := Lib.hid (fun W => slcut_any s W hs)
  obtain ⟨a, b, c, hv⟩ : ∃ a b c, cutV s = .tuple #[.string a, .string b, .bool c] := by
    unfold cutV; split <;> exact ⟨_, _, _, rfl⟩
  rw [hv] at H ⊢
  clear hv
  go_enter Tryz.func63, Tryz.ntmps63
  go_wp2_with (go_at_call 87; refine (H.out _).mono ?_; rintro e w1 ⟨rfl, hb⟩)
  go_ret3
  exact ⟨by kernel_rfl, hb⟩
set_option maxRecDepth 100000 in
set_option maxHeartbeats 2000000 in
theorem field_some (s : ByteArray) (a b : List UInt8) (h : cutL s.data.toList = some (a, b)) (w : World) (hs : s.size ≤ 1000000) : Calls Tryz.prog 35 #[.string s] w fun e w' => e = .returned (.tuple #[.string ⟨a.toArray⟩, .string ⟨b.toArray⟩]) ∧ Below w.heap.size w w' := by
  have H := Lib.hid (fun W => scut_any s W hs)
  unfold cutV at H
  rw [h] at H
  clear h
  go_enter Tryz.func35, Tryz.ntmps35
  go_wp2_with (first
    | (go_at_call 63; refine (H.out _).mono ?_; rintro e w1 ⟨rfl, hb⟩)
    | (go_at_call 34; refine (demand_yes _).mono ?_; rintro e w2 ⟨rfl, rfl⟩))
  go_ret2
  exact ⟨by kernel_rfl, hb⟩
set_option maxRecDepth 100000 in
set_option maxHeartbeats 2000000 in
theorem field_none (s : ByteArray) (h : cutL s.data.toList = none) (w : World) (hs : s.size ≤ 1000000) : Calls Tryz.prog 35 #[.string s] w fun e w' => e = .panicked mal ∧ Below w.heap.size w w' := by
  have H := Lib.hid (fun W => scut_any s W hs)
  unfold cutV at H
  rw [h] at H
  clear h
  go_enter Tryz.func35, Tryz.ntmps35
  go_wp2_with (first
    | (go_at_call 63; refine (H.out _).mono ?_; rintro e w1 ⟨rfl, hb⟩)
    | (go_at_call 34; refine (demand_no _).mono ?_; rintro e w2 ⟨rfl, rfl⟩))
  exact ⟨rfl, rfl, hb⟩
end Go.Proofs.YtoilcigmpeaedaaGreatDoor.Osc
