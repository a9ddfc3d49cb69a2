/-
  The walk of the law OscKnown.
-/
import Derived.Test.YtoilcigmpeaedaaGreatDoorOscQ
namespace Go.Proofs.YtoilcigmpeaedaaGreatDoor.Osc
open Go.RowKit Utf Col

theorem rep_all (n : Nat) (c : Int) (h : okT c = true) : (List.replicate n c).all okT = true := by
  rw [List.all_eq_true]
  intro x hx
  rw [(List.mem_replicate.1 hx).2]; exact h
theorem text_rep (n : Nat) : textL (List.replicate n 116) = List.replicate n 116 := by
  induction n with
  | zero => rfl
  | succ n ih => rw [List.replicate_succ, List.replicate_succ, textL, ih]; rfl
theorem tit_rep (n : Nat) (h : n ≤ 510) : titB (List.replicate n 116) = true := by
  have := tit_text (List.replicate n 116) (rep_all n 116 (by decide)) (by rw [text_rep, List.length_replicate]; exact h)
  rwa [text_rep] at this
theorem prt_of_tit (t : List UInt8) (h : titB t = true) : prtO ⟨44, 0, 0, 0, 0, t⟩ = some (50 :: 59 :: t) := by
  unfold prtO
  rw [if_pos ⟨rfl, rfl, rfl, rfl, rfl, h⟩]
theorem prt_of_clp (t : List UInt8) (h : t.length ≤ 378) : prtO ⟨46, 0, 0, 0, 0, t⟩ = some (53 :: 50 :: 59 :: 99 :: 59 :: B64.encL t) := by
  unfold prtO
  rw [if_neg (by intro hc; exact absurd hc.1 (by show ¬ (46 : Int) = 44; decide)), if_neg (by intro hc; exact absurd hc.1 (by show ¬ (46 : Int) = 45; decide)), if_pos ⟨rfl, rfl, rfl, rfl, rfl, h⟩]
theorem prt_tit_no (t : List UInt8) (h : titB t = false) : prtO ⟨44, 0, 0, 0, 0, t⟩ = none := by
  unfold prtO
  rw [if_neg (by rintro ⟨-, -, -, -, -, h6⟩; dsimp only at h6; rw [h] at h6; cases h6), if_neg (by intro hc; exact absurd hc.1 (by show ¬ (44 : Int) = 45; decide)), if_neg (by intro hc; exact absurd hc.1 (by show ¬ (44 : Int) = 46; decide))]
theorem prt_clp_no (t : List UInt8) (h : ¬ t.length ≤ 378) : prtO ⟨46, 0, 0, 0, 0, t⟩ = none := by
  unfold prtO
  rw [if_neg (by intro hc; exact absurd hc.1 (by show ¬ (46 : Int) = 44; decide)), if_neg (by intro hc; exact absurd hc.1 (by show ¬ (46 : Int) = 45; decide)), if_neg (by rintro ⟨-, -, -, -, -, h6⟩; exact h h6)]
theorem printN (a : A6) (h : prtO a = none) (hs : a.t.length ≤ 1000000) (W : World) (he : Env W) : Calls Tryz.prog 10 #[actV a] W fun e w' => e = .returned (.tuple #[.string ⟨#[]⟩, .int .i64 2]) ∧ Below W.heap.size W w' := by
  have := print_any a W he hs
  rwa [prtV, h] at this
theorem printS (a : A6) (s : List UInt8) (h : prtO a = some s) (hs : a.t.length ≤ 1000000) (W : World) (he : Env W) : Calls Tryz.prog 10 #[actV a] W fun e w' => e = .returned (.tuple #[.string ⟨s.toArray⟩, .int .i64 0]) ∧ Below W.heap.size W w' := by
  have := print_any a W he hs
  rwa [prtV, h] at this
set_option maxRecDepth 100000 in
set_option maxHeartbeats 4000000 in
theorem known_any (w : World) (he : Env w) : Calls Tryz.prog 8 #[] w fun e w' => e = .returned (.bool true) ∧ Below w.heap.size w w' := by
  have HB := Lib.hid (EB.refl he)
  clear he
  have HR1 := Lib.hid (show ∀ W, Calls Tryz.prog 19 #[.string ⟨#[116]⟩, .int .i64 510] W fun e w' => e = .returned (.string ⟨(List.replicate 510 116).toArray⟩) ∧ Below W.heap.size W w' from fun W => rep_any 116 510 (by decide) W)
  have HR2 := Lib.hid (show ∀ W, Calls Tryz.prog 19 #[.string ⟨#[99]⟩, .int .i64 378] W fun e w' => e = .returned (.string ⟨(List.replicate 378 99).toArray⟩) ∧ Below W.heap.size W w' from fun W => rep_any 99 378 (by decide) W)
  have ht := tit_rep 510 (by decide)
  obtain ⟨L, hL⟩ : ∃ L : List UInt8, L = List.replicate 510 116 := ⟨_, rfl⟩
  obtain ⟨C, hC⟩ : ∃ C : List UInt8, C = List.replicate 378 99 := ⟨_, rfl⟩
  have hLl : L.length = 510 := by rw [hL, List.length_replicate]
  have hCl : C.length = 378 := by rw [hC, List.length_replicate]
  rw [← hL] at HR1 ht
  rw [← hC] at HR2
  clear hL hC
  obtain ⟨S, hS⟩ : ∃ S : List UInt8, S = 53 :: 50 :: 59 :: 99 :: 59 :: B64.encL C := ⟨_, rfl⟩
  have hSl : S.length = 509 := by rw [hS]; simp only [List.length_cons, B64.encL_len, hCl]
  have HT1 := Lib.hid (show ∀ W, Calls Tryz.prog 17 #[.string (⟨L.toArray⟩ ++ ⟨#[116]⟩)] W fun e w' => e = .returned (actV ⟨44, 0, 0, 0, 0, L ++ [116]⟩) ∧ Below W.heap.size W w' from fun W => by
    rw [app_l L [116]]; exact titled_any _ W)
  have HT2 := Lib.hid (show ∀ W, Calls Tryz.prog 20 #[.string (⟨C.toArray⟩ ++ ⟨#[99]⟩)] W fun e w' => e = .returned (actV ⟨46, 0, 0, 0, 0, C ++ [99]⟩) ∧ Below W.heap.size W w' from fun W => by
    rw [app_l C [99]]; exact clip_any _ W)
  have HP1 := Lib.hid (fun W h => printN ⟨44, 0, 0, 0, 0, L ++ [116]⟩ (prt_tit_no _ (tit_long _ (by simp [hLl]))) (by simp [hLl]) W h)
  have HP2 := Lib.hid (fun W h => printN ⟨46, 0, 0, 0, 0, C ++ [99]⟩ (prt_clp_no _ (by simp [hCl])) (by simp [hCl]) W h)
  have HP3 := Lib.hid (fun W h => printS ⟨46, 0, 0, 0, 0, C⟩ S (by rw [hS]; exact prt_of_clp C (by omega)) (by simp [hCl]) W h)
  have HS1 := Lib.hid (show ∀ W, Env W → Calls Tryz.prog 15 #[.string (⟨#[50, 59]⟩ ++ ⟨L.toArray⟩), actV ⟨44, 0, 0, 0, 0, L⟩] W fun e w' => e = .returned (.bool true) ∧ Below W.heap.size W w' from fun W h => by
    rw [app_l [50, 59] L]; exact says_yes _ _ (back (prt_of_tit L ht)).1 W h)
  have HN1 := Lib.hid (show ∀ W, Env W → Calls Tryz.prog 18 #[.string (⟨#[50, 59]⟩ ++ ⟨L.toArray⟩ ++ ⟨#[116]⟩)] W fun e w' => e = .returned (.bool true) ∧ Below W.heap.size W w' from fun W h => by
    rw [app_l [50, 59] L, app_l _ [116]]; exact none_yes _ (par_long _ (by simp [hLl])) W h)
  have HS2 := Lib.hid (fun W h => says_yes ⟨S.toArray⟩ ⟨46, 0, 0, 0, 0, C⟩ (by rw [hS]; exact (back (prt_of_clp C (by omega))).1) W h)
  have HQ1 := Lib.hid (fun W h => printN ⟨45, 256, 0, 2, 0, []⟩ (by decide +kernel) (by decide) W h)
  have HQ2 := Lib.hid (fun W h => printN ⟨45, 0, 0, 2, -1, []⟩ (by decide +kernel) (by decide) W h)
  have HQ3 := Lib.hid (fun W h => printN ⟨44, 1, 0, 0, 0, []⟩ (by decide +kernel) (by decide) W h)
  have HQ4 := Lib.hid (fun W h => printN ⟨2, 0, 0, 0, 0, []⟩ (by decide +kernel) (by decide) W h)
  have hl1 : ¬ 9223372036854775807 < L.length + 1 := by omega
  have hl2 : ¬ 9223372036854775807 < C.length + 1 := by omega
  have hl3 : ¬ 9223372036854775807 < 2 + L.length := by omega
  have hl4 : ¬ 9223372036854775807 < 2 + L.length + 1 := by omega
  have hS5 : ((S.length : Int) == 509) = true := by rw [hSl]; rfl
  clear hS ht hLl hCl hSl
  go_enter Tryz.func8, Tryz.ntmps8
  go_upto_region 2 with (go_at_call 19; refine (HR1.out _).mono ?_; rintro e W1 ⟨rfl, hb1⟩; have HB := Lib.hid (HB.out.keep hb1); clear hb1)
  go_upto_region 3 with (go_at_call 19; refine (HR2.out _).mono ?_; rintro e W1 ⟨rfl, hb1⟩; have HB := Lib.hid (HB.out.keep hb1); clear hb1)
  go_upto_region 4 with (first
    | (go_at_call 17; refine (HT1.out _).mono ?_; rintro e W1 ⟨rfl, hb1⟩; have HB := Lib.hid (HB.out.keep hb1); clear hb1)
    | (go_at_call 10; refine (HP1.out _ HB.out.e).mono ?_; rintro e W1 ⟨rfl, hb1⟩; have HB := Lib.hid (HB.out.keep hb1); clear hb1))
  go_upto_region 5 with (first
    | (go_at_call 20; refine (HT2.out _).mono ?_; rintro e W1 ⟨rfl, hb1⟩; have HB := Lib.hid (HB.out.keep hb1); clear hb1)
    | (go_at_call 10; refine (HP2.out _ HB.out.e).mono ?_; rintro e W1 ⟨rfl, hb1⟩; have HB := Lib.hid (HB.out.keep hb1); clear hb1))
  go_upto_region 6 with (first
    | (go_at_call 20; refine (clip_any C _).mono ?_; rintro e W1 ⟨rfl, hb1⟩; have HB := Lib.hid (HB.out.keep hb1); clear hb1)
    | (go_at_call 10; refine (HP3.out _ HB.out.e).mono ?_; rintro e W1 ⟨rfl, hb1⟩; have HB := Lib.hid (HB.out.keep hb1); clear hb1))
  go_wp2_with fail
  refine (titled_any L _).mono ?_
  rintro e W1 ⟨rfl, hb1⟩
  have HB := Lib.hid (HB.out.keep hb1)
  clear hb1
  go_wp2_with fail
  refine (HS1.out _ HB.out.e).mono ?_
  rintro e W1 ⟨rfl, hb1⟩
  have HB := Lib.hid (HB.out.keep hb1)
  clear hb1
  go_wp2_with fail
  refine (HN1.out _ HB.out.e).mono ?_
  rintro e W1 ⟨rfl, hb1⟩
  have HB := Lib.hid (HB.out.keep hb1)
  clear hb1
  go_wp2_with fail
  refine (clip_any C _).mono ?_
  rintro e W1 ⟨rfl, hb1⟩
  have HB := Lib.hid (HB.out.keep hb1)
  clear hb1
  go_wp2_with fail
  refine (HS2.out _ HB.out.e).mono ?_
  rintro e W1 ⟨rfl, hb1⟩
  have HB := Lib.hid (HB.out.keep hb1)
  clear hb1
  go_upto_region 8 with (first
    | (go_at_call 17; refine (titled_any _ _).mono ?_; rintro e W1 ⟨rfl, hb1⟩; have HB := Lib.hid (HB.out.keep hb1); clear hb1)
    | (go_at_call 20; refine (clip_any _ _).mono ?_; rintro e W1 ⟨rfl, hb1⟩; have HB := Lib.hid (HB.out.keep hb1); clear hb1)
    | (go_at_call 22; refine (palette_any _ _ _).mono ?_; rintro e W1 ⟨rfl, hb1⟩; have HB := Lib.hid (HB.out.keep hb1); clear hb1)
    | (go_at_call 21; refine (told_yes _ _ (by decide +kernel) (by decide) _ HB.out.e).mono ?_; rintro e W1 ⟨rfl, hb1⟩; have HB := Lib.hid (HB.out.keep hb1); clear hb1)
    | (go_at_call 18; refine (none_yes _ (by decide +kernel) _ HB.out.e).mono ?_; rintro e W1 ⟨rfl, hb1⟩; have HB := Lib.hid (HB.out.keep hb1); clear hb1))
  go_upto_region 9 with (first
    | (go_at_call 17; refine (titled_any _ _).mono ?_; rintro e W1 ⟨rfl, hb1⟩; have HB := Lib.hid (HB.out.keep hb1); clear hb1)
    | (go_at_call 20; refine (clip_any _ _).mono ?_; rintro e W1 ⟨rfl, hb1⟩; have HB := Lib.hid (HB.out.keep hb1); clear hb1)
    | (go_at_call 22; refine (palette_any _ _ _).mono ?_; rintro e W1 ⟨rfl, hb1⟩; have HB := Lib.hid (HB.out.keep hb1); clear hb1)
    | (go_at_call 21; refine (told_yes _ _ (by decide +kernel) (by decide) _ HB.out.e).mono ?_; rintro e W1 ⟨rfl, hb1⟩; have HB := Lib.hid (HB.out.keep hb1); clear hb1)
    | (go_at_call 18; refine (none_yes _ (by decide +kernel) _ HB.out.e).mono ?_; rintro e W1 ⟨rfl, hb1⟩; have HB := Lib.hid (HB.out.keep hb1); clear hb1))
  go_upto_region 10 with (first
    | (go_at_call 22; refine (palette_any 256 0 _).mono ?_; rintro e W1 ⟨rfl, hb1⟩; have HB := Lib.hid (HB.out.keep hb1); clear hb1)
    | (go_at_call 10; refine (HQ1.out _ HB.out.e).mono ?_; rintro e W1 ⟨rfl, hb1⟩; have HB := Lib.hid (HB.out.keep hb1); clear hb1))
  go_upto_region 11 with (first
    | (go_at_call 22; refine (palette_any 0 (-1) _).mono ?_; rintro e W1 ⟨rfl, hb1⟩; have HB := Lib.hid (HB.out.keep hb1); clear hb1)
    | (go_at_call 10; refine (HQ2.out _ HB.out.e).mono ?_; rintro e W1 ⟨rfl, hb1⟩; have HB := Lib.hid (HB.out.keep hb1); clear hb1))
  unfold actV at HQ3 HQ4
  dsimp only at HQ3 HQ4
  go_upto_region 12 with (first
    | (go_at_call 10; refine (HQ3.out _ HB.out.e).mono ?_; rintro e W1 ⟨rfl, hb1⟩; have HB := Lib.hid (HB.out.keep hb1); clear hb1))
  go_upto_region 13 with (first
    | (go_at_call 10; refine (HQ4.out _ HB.out.e).mono ?_; rintro e W1 ⟨rfl, hb1⟩; have HB := Lib.hid (HB.out.keep hb1); clear hb1))
  go_wp2_with (go_at_call 12; refine (works_any _ HB.out.e).mono ?_; rintro e W1 ⟨rfl, hb1⟩; have HB := Lib.hid (HB.out.keep hb1); clear hb1)
  go_ret
  exact ⟨rfl, HB.out.b⟩
end Go.Proofs.YtoilcigmpeaedaaGreatDoor.Osc
