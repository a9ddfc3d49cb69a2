/-
  Contract of the laws' works: the chapter's examples hold.
-/
import Derived.Test.YtoilcigmpeaedaaGreatDoorOscO
namespace Go.Proofs.YtoilcigmpeaedaaGreatDoor.Osc
open Go.RowKit Utf Col

theorem rep_any (c : UInt8) (n : Nat) (hn : n ≤ 100000) (W : World) : Calls Tryz.prog 19 #[.string ⟨#[c]⟩, .int .i64 (n : Int)] W fun e w' => e = .returned (.string ⟨(List.replicate n c).toArray⟩) ∧ Below W.heap.size W w' := by
  have := Tryz.strings_Repeat ⟨#[c]⟩ n W (by omega) (by show 1 * n ≤ _; omega)
  have e : Lib.repeatL (⟨#[c]⟩ : ByteArray).data.toList n = List.replicate n c := B64.repeat_one c n
  rw [e] at this
  exact this
theorem par_long (s : List UInt8) (h : 512 < s.length) : parO s = none := by unfold parO; rw [if_pos h]
/-- as far as the world has come -/
structure EB (w W : World) : Prop where
  b : Below w.heap.size w W
  e : Env W
theorem EB.keep {w W W' : World} (h : EB w W) (hb : Below W.heap.size W W') : EB w W' := ⟨B64.up h.b hb, h.e.keep hb⟩
theorem EB.refl {w : World} (h : Env w) : EB w w := ⟨Below.refl _ _, h⟩
set_option maxRecDepth 100000 in
set_option maxHeartbeats 4000000 in
theorem works_any (w : World) (he : Env w) : Calls Tryz.prog 12 #[] w fun e w' => e = .returned (.bool true) ∧ Below w.heap.size w w' := by
  have HB := Lib.hid (EB.refl he)
  have HP1 : ∀ W, Env W → Calls Tryz.prog 10 #[actV ⟨44, 0, 0, 0, 0, [255]⟩] W fun e w' => e = .returned (.tuple #[.string ⟨#[]⟩, .int .i64 2]) ∧ Below W.heap.size W w' := fun W h => by
    have := print_any ⟨44, 0, 0, 0, 0, [255]⟩ W h (by decide)
    rwa [prtV, show prtO ⟨44, 0, 0, 0, 0, [255]⟩ = none by decide +kernel] at this
  have HP2 : ∀ W, Env W → Calls Tryz.prog 10 #[actV ⟨45, 0, 0, 1, 1, []⟩] W fun e w' => e = .returned (.tuple #[.string ⟨#[]⟩, .int .i64 2]) ∧ Below W.heap.size W w' := fun W h => by
    have := print_any ⟨45, 0, 0, 1, 1, []⟩ W h (by decide)
    rwa [prtV, show prtO ⟨45, 0, 0, 1, 1, []⟩ = none by decide +kernel] at this
  have HP1 := Lib.hid HP1
  have HP2 := Lib.hid HP2
  clear he
  go_enter Tryz.func12, Tryz.ntmps12
  go_upto_region 4 with (first
    | (go_at_call 17; refine (titled_any _ _).mono ?_; rintro e W1 ⟨rfl, hb1⟩; have HB := Lib.hid (HB.out.keep hb1); clear hb1)
    | (go_at_call 20; refine (clip_any _ _).mono ?_; rintro e W1 ⟨rfl, hb1⟩; have HB := Lib.hid (HB.out.keep hb1); clear hb1)
    | (go_at_call 22; refine (palette_any _ _ _).mono ?_; rintro e W1 ⟨rfl, hb1⟩; have HB := Lib.hid (HB.out.keep hb1); clear hb1)
    | (go_at_call 21; refine (told_yes _ _ (by decide +kernel) (by decide) _ HB.out.e).mono ?_; rintro e W1 ⟨rfl, hb1⟩; have HB := Lib.hid (HB.out.keep hb1); clear hb1)
    | (go_at_call 15; refine (says_yes _ _ (by decide +kernel) _ HB.out.e).mono ?_; rintro e W1 ⟨rfl, hb1⟩; have HB := Lib.hid (HB.out.keep hb1); clear hb1)
    | (go_at_call 18; refine (none_yes _ (by decide +kernel) _ HB.out.e).mono ?_; rintro e W1 ⟨rfl, hb1⟩; have HB := Lib.hid (HB.out.keep hb1); clear hb1))
  go_upto_region 5 with (first
    | (go_at_call 17; refine (titled_any [255] _).mono ?_; rintro e W1 ⟨rfl, hb1⟩; have HB := Lib.hid (HB.out.keep hb1); clear hb1)
    | (go_at_call 10; refine (HP1.out _ HB.out.e).mono ?_; rintro e W1 ⟨rfl, hb1⟩; have HB := Lib.hid (HB.out.keep hb1); clear hb1))
  unfold actV at HP2
  dsimp only at HP2
  go_upto_region 6 with (go_at_call 10; refine (HP2.out _ HB.out.e).mono ?_; rintro e W1 ⟨rfl, hb1⟩; have HB := Lib.hid (HB.out.keep hb1); clear hb1)
  go_wp2_with fail
  go_ret
  exact ⟨rfl, HB.out.b⟩
end Go.Proofs.YtoilcigmpeaedaaGreatDoor.Osc
