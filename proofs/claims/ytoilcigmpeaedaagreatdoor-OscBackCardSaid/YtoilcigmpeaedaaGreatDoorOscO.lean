/-
  Contracts of what the laws use: title, titled, palette, clip, says, none, told.
-/
import Derived.Test.YtoilcigmpeaedaaGreatDoorOscP
import Derived.Test.YtoilcigmpeaedaaGreatDoorOscJ
import Derived.Test.YtoilcigmpeaedaaGreatDoorUtfO
namespace Go.Proofs.YtoilcigmpeaedaaGreatDoor.Osc
open Go.RowKit Utf Col

theorem cv1 (z y : Int) (h : IntKind.u64.wrap z = y) (W : World) : (convert 3 69 (.int .i64 z)).run Tryz.prog W = .ok (.int .u64 y) W := by
  rw [← h]
  go_simp
theorem cv2 (x : Int) (h0 : 0 ≤ x) (h1 : x < 95) (W : World) : (convert 69 3 (.int .u64 x)).run Tryz.prog W = .ok (.int .i64 x) W := by
  have h3 : IntKind.i64.wrap x = x := IntWalk.i64_in _ (by omega)
  go_simp
theorem addT_len (s : List UInt8) (z : Int) (h : s.length + (encL (fixC z)).length ≤ 510) : addT s z = s ++ encL (fixC z) := by rw [addT, if_pos h]
theorem addT_no (s : List UInt8) (z : Int) (h : ¬ s.length + (encL (fixC z)).length ≤ 510) : addT s z = s := by rw [addT, if_neg h]
theorem app_l (a b : List UInt8) : (⟨a.toArray⟩ : ByteArray) ++ (⟨b.toArray⟩ : ByteArray) = ⟨(a ++ b).toArray⟩ := by
  apply ByteArray.ext
  rw [ByteArray.data_append]
  simp
set_option maxRecDepth 100000 in
set_option maxHeartbeats 4000000 in
theorem title_any (A : Option Addr) (c n : Nat) (zs : List Int) (hn : zs.length = n) (w : World) (h : Rd w A (cI zs)) (hz : ∀ z ∈ zs, -9223372036854775808 ≤ z ∧ z ≤ 9223372036854775807) (hl : n ≤ 9223372036854775807) :
    Calls Tryz.prog 16 #[.slice A n c] w fun e w' => e = .returned (.string ⟨(titF zs).toArray⟩) ∧ Below w.heap.size w w' := by
  have H := Lib.hid h; clear h
  have HZ := Lib.hid hz; clear hz
  go_enter Tryz.func16, Tryz.ntmps16
  go_wp2
  go_loopw [3, 4] (fun v i wr => ∃ k : Nat, k ≤ n ∧ k ≤ 200 ∧ i = .int .i64 (k : Int) ∧ ∃ s : List UInt8, s.length ≤ 510 ∧ v = .string ⟨s.toArray⟩ ∧ Hid (s = (zs.take k).foldl addT []) ∧ Hid (Below w.heap.size w wr)) (fun _ i _ => 200 - (intOf i).toNat)
  case atStart => exact ⟨0, by omega, by omega, rfl, [], by simp, rfl, Lib.hid rfl, Lib.hid (Below.refl _ _)⟩
  case round =>
    obtain ⟨k, hk, hk2, rfl, s, hs, rfl, hp, hb⟩ := hrel
    by_cases hlt : k < n
    · by_cases h2 : k < 200
      · obtain ⟨z, hz⟩ : ∃ z, zs[k]? = some z := ⟨zs[k]'(by omega), List.getElem?_eq_getElem (by omega)⟩
        obtain ⟨ad, rfl, hblk, hc⟩ := ((H.out).below hb.out) k _ (cI_at zs k z hz)
        have hzb := HZ.out z (List.mem_of_getElem? hz)
        have HP := Lib.hid (fun e : List UInt8 => fun h : e = addT s z => show e = (zs.take (k + 1)).foldl addT [] by rw [h, fold_snoc zs k z hz, hp.out])
        have hb2 : k < n := hlt
        clear hp hz
        have he := encL_len (fixC z)
        obtain ⟨E, hE⟩ : ∃ E, E = encL (fixC z) := ⟨_, rfl⟩
        rw [← hE] at he
        have hadd := fun h : s.length + E.length ≤ 510 => addT_len s z (by rw [← hE]; exact h)
        have hno := fun h : ¬ s.length + E.length ≤ 510 => addT_no s z (by rw [← hE]; exact h)
        rw [← hE] at hadd
        have HE := Lib.hid hE
        have HA := Lib.hid hadd
        have HO := Lib.hid hno
        clear hE hadd hno
        have HPU := Lib.hid (fun W => rput_any (fixC z) W)
        rw [← HE.out] at HPU
        clear HE
        have HCK := Lib.hid (fun W => rcheck_any z W)
        cases hck : chk z with
        | false =>
          rw [hck] at HCK
          have hok : okT z = false := by rw [okT, hck]; rfl
          obtain ⟨y, hy⟩ : ∃ y : Int, y = z % 18446744073709551616 := ⟨_, rfl⟩
          have hy0 : 0 ≤ y := by omega
          obtain ⟨x, hx⟩ : ∃ x : Int, x = y % 95 := ⟨_, rfl⟩
          have hx2 : 0 ≤ x := by omega
          have hx3 : x < 95 := by omega
          have hfx : fixC z = 32 + x := by rw [fixC, if_neg (by rw [hok]; decide), hx, hy]
          rw [hfx] at HPU
          have r1 := cv1 z y (by rw [IntKind.wrap_u64, hy])
          have r2 : y.tmod 95 = x := by rw [Int.tmod_eq_emod_of_nonneg hy0, hx]
          have r3 := cv2 x hx2 hx3
          have r4 : (32 : Int) + x ≤ 200 := by omega
          have r5 : (0 : Int) ≤ 32 + x := by omega
          clear hx hfx hok hy hy0
          by_cases h5 : s.length + E.length ≤ 510
          · have hR := Lib.hid (HP.out _ (HA.out h5).symm)
            have d5 : decide ((s.length : Int) + (E.length : Int) ≤ 510) = true := decide_eq_true (by omega)
            have hq : (⟨s.toArray⟩ : ByteArray) ++ (⟨E.toArray⟩ : ByteArray) = ⟨(s ++ E).toArray⟩ := app_l s E
            have hl9 : ¬ 9223372036854775807 < s.length + E.length := by omega
            have hl8 : (s ++ E).length ≤ 510 := by rw [List.length_append]; exact h5
            go_wp2_with (first
              | (go_at_call 41; refine (HCK.out _).mono ?_; rintro e w1 ⟨rfl, rfl⟩)
              | (go_at_call 42; refine (HPU.out _).mono ?_; rintro e w1 ⟨rfl, hb1⟩; have hb := Lib.hid (B64.up hb.out hb1); clear hb1))
            refine ⟨⟨k + 1, by omega, by omega, by go_num, s ++ E, hl8, ?_, hR, hb⟩, ?_⟩
            · first | rfl | exact congrArg Value.string hq
            · show 200 - ((k : Int) + 1).toNat < 200 - (k : Int).toNat
              omega
          · have hR := Lib.hid (HP.out _ (HO.out h5).symm)
            have d5 : decide ((s.length : Int) + (E.length : Int) ≤ 510) = false := decide_eq_false (by omega)
            go_wp2_with (first
              | (go_at_call 41; refine (HCK.out _).mono ?_; rintro e w1 ⟨rfl, rfl⟩)
              | (go_at_call 42; refine (HPU.out _).mono ?_; rintro e w1 ⟨rfl, hb1⟩; have hb := Lib.hid (B64.up hb.out hb1); clear hb1))
            refine ⟨⟨k + 1, by omega, by omega, by go_num, s, hs, rfl, hR, hb⟩, ?_⟩
            show 200 - ((k : Int) + 1).toNat < 200 - (k : Int).toNat
            omega
        | true =>
          rw [hck] at HCK
          by_cases h32 : z < 32
          · have hok : okT z = false := by rw [okT, badC, decide_eq_true h32]; simp
            have d32 : decide (z < 32) = true := decide_eq_true h32
            obtain ⟨y, hy⟩ : ∃ y : Int, y = z % 18446744073709551616 := ⟨_, rfl⟩
            have hy0 : 0 ≤ y := by omega
            obtain ⟨x, hx⟩ : ∃ x : Int, x = y % 95 := ⟨_, rfl⟩
            have hx2 : 0 ≤ x := by omega
            have hx3 : x < 95 := by omega
            have hfx : fixC z = 32 + x := by rw [fixC, if_neg (by rw [hok]; decide), hx, hy]
            rw [hfx] at HPU
            have r1 := cv1 z y (by rw [IntKind.wrap_u64, hy])
            have r2 : y.tmod 95 = x := by rw [Int.tmod_eq_emod_of_nonneg hy0, hx]
            have r3 := cv2 x hx2 hx3
            have r4 : (32 : Int) + x ≤ 200 := by omega
            have r5 : (0 : Int) ≤ 32 + x := by omega
            clear hx hfx hok hy hy0
            by_cases h5 : s.length + E.length ≤ 510
            · have hR := Lib.hid (HP.out _ (HA.out h5).symm)
              have d5 : decide ((s.length : Int) + (E.length : Int) ≤ 510) = true := decide_eq_true (by omega)
              have hq : (⟨s.toArray⟩ : ByteArray) ++ (⟨E.toArray⟩ : ByteArray) = ⟨(s ++ E).toArray⟩ := app_l s E
              have hl9 : ¬ 9223372036854775807 < s.length + E.length := by omega
              have hl8 : (s ++ E).length ≤ 510 := by rw [List.length_append]; exact h5
              go_wp2_with (first
                | (go_at_call 41; refine (HCK.out _).mono ?_; rintro e w1 ⟨rfl, rfl⟩)
                | (go_at_call 42; refine (HPU.out _).mono ?_; rintro e w1 ⟨rfl, hb1⟩; have hb := Lib.hid (B64.up hb.out hb1); clear hb1))
              refine ⟨⟨k + 1, by omega, by omega, by go_num, s ++ E, hl8, ?_, hR, hb⟩, ?_⟩
              · first | rfl | exact congrArg Value.string hq
              · show 200 - ((k : Int) + 1).toNat < 200 - (k : Int).toNat
                omega
            · have hR := Lib.hid (HP.out _ (HO.out h5).symm)
              have d5 : decide ((s.length : Int) + (E.length : Int) ≤ 510) = false := decide_eq_false (by omega)
              go_wp2_with (first
                | (go_at_call 41; refine (HCK.out _).mono ?_; rintro e w1 ⟨rfl, rfl⟩)
                | (go_at_call 42; refine (HPU.out _).mono ?_; rintro e w1 ⟨rfl, hb1⟩; have hb := Lib.hid (B64.up hb.out hb1); clear hb1))
              refine ⟨⟨k + 1, by omega, by omega, by go_num, s, hs, rfl, hR, hb⟩, ?_⟩
              show 200 - ((k : Int) + 1).toNat < 200 - (k : Int).toNat
              omega
          · have d32 : decide (z < 32) = false := decide_eq_false h32
            by_cases h127 : 127 ≤ z
            · have d127 : decide (127 ≤ z) = true := decide_eq_true h127
              by_cases h159 : z ≤ 159
              · have d159 : decide (z ≤ 159) = true := decide_eq_true h159
                have hok : okT z = false := by rw [okT, badC, d127, d159]; simp
                obtain ⟨y, hy⟩ : ∃ y : Int, y = z % 18446744073709551616 := ⟨_, rfl⟩
                have hy0 : 0 ≤ y := by omega
                obtain ⟨x, hx⟩ : ∃ x : Int, x = y % 95 := ⟨_, rfl⟩
                have hx2 : 0 ≤ x := by omega
                have hx3 : x < 95 := by omega
                have hfx : fixC z = 32 + x := by rw [fixC, if_neg (by rw [hok]; decide), hx, hy]
                rw [hfx] at HPU
                have r1 := cv1 z y (by rw [IntKind.wrap_u64, hy])
                have r2 : y.tmod 95 = x := by rw [Int.tmod_eq_emod_of_nonneg hy0, hx]
                have r3 := cv2 x hx2 hx3
                have r4 : (32 : Int) + x ≤ 200 := by omega
                have r5 : (0 : Int) ≤ 32 + x := by omega
                clear hx hfx hok hy hy0
                by_cases h5 : s.length + E.length ≤ 510
                · have hR := Lib.hid (HP.out _ (HA.out h5).symm)
                  have d5 : decide ((s.length : Int) + (E.length : Int) ≤ 510) = true := decide_eq_true (by omega)
                  have hq : (⟨s.toArray⟩ : ByteArray) ++ (⟨E.toArray⟩ : ByteArray) = ⟨(s ++ E).toArray⟩ := app_l s E
                  have hl9 : ¬ 9223372036854775807 < s.length + E.length := by omega
                  have hl8 : (s ++ E).length ≤ 510 := by rw [List.length_append]; exact h5
                  go_wp2_with (first
                    | (go_at_call 41; refine (HCK.out _).mono ?_; rintro e w1 ⟨rfl, rfl⟩)
                    | (go_at_call 42; refine (HPU.out _).mono ?_; rintro e w1 ⟨rfl, hb1⟩; have hb := Lib.hid (B64.up hb.out hb1); clear hb1))
                  refine ⟨⟨k + 1, by omega, by omega, by go_num, s ++ E, hl8, ?_, hR, hb⟩, ?_⟩
                  · first | rfl | exact congrArg Value.string hq
                  · show 200 - ((k : Int) + 1).toNat < 200 - (k : Int).toNat
                    omega
                · have hR := Lib.hid (HP.out _ (HO.out h5).symm)
                  have d5 : decide ((s.length : Int) + (E.length : Int) ≤ 510) = false := decide_eq_false (by omega)
                  go_wp2_with (first
                    | (go_at_call 41; refine (HCK.out _).mono ?_; rintro e w1 ⟨rfl, rfl⟩)
                    | (go_at_call 42; refine (HPU.out _).mono ?_; rintro e w1 ⟨rfl, hb1⟩; have hb := Lib.hid (B64.up hb.out hb1); clear hb1))
                  refine ⟨⟨k + 1, by omega, by omega, by go_num, s, hs, rfl, hR, hb⟩, ?_⟩
                  show 200 - ((k : Int) + 1).toNat < 200 - (k : Int).toNat
                  omega
              · have d159 : decide (z ≤ 159) = false := decide_eq_false h159
                have hok : okT z = true := by rw [okT, badC, d159, d127, d32, hck]; rfl
                have hfx : fixC z = z := by rw [fixC, if_pos hok]
                rw [hfx] at HPU
                clear hfx hok
                by_cases h5 : s.length + E.length ≤ 510
                · have hR := Lib.hid (HP.out _ (HA.out h5).symm)
                  have d5 : decide ((s.length : Int) + (E.length : Int) ≤ 510) = true := decide_eq_true (by omega)
                  have hq : (⟨s.toArray⟩ : ByteArray) ++ (⟨E.toArray⟩ : ByteArray) = ⟨(s ++ E).toArray⟩ := app_l s E
                  have hl9 : ¬ 9223372036854775807 < s.length + E.length := by omega
                  have hl8 : (s ++ E).length ≤ 510 := by rw [List.length_append]; exact h5
                  go_wp2_with (first
                    | (go_at_call 41; refine (HCK.out _).mono ?_; rintro e w1 ⟨rfl, rfl⟩)
                    | (go_at_call 42; refine (HPU.out _).mono ?_; rintro e w1 ⟨rfl, hb1⟩; have hb := Lib.hid (B64.up hb.out hb1); clear hb1))
                  refine ⟨⟨k + 1, by omega, by omega, by go_num, s ++ E, hl8, ?_, hR, hb⟩, ?_⟩
                  · first | rfl | exact congrArg Value.string hq
                  · show 200 - ((k : Int) + 1).toNat < 200 - (k : Int).toNat
                    omega
                · have hR := Lib.hid (HP.out _ (HO.out h5).symm)
                  have d5 : decide ((s.length : Int) + (E.length : Int) ≤ 510) = false := decide_eq_false (by omega)
                  go_wp2_with (first
                    | (go_at_call 41; refine (HCK.out _).mono ?_; rintro e w1 ⟨rfl, rfl⟩)
                    | (go_at_call 42; refine (HPU.out _).mono ?_; rintro e w1 ⟨rfl, hb1⟩; have hb := Lib.hid (B64.up hb.out hb1); clear hb1))
                  refine ⟨⟨k + 1, by omega, by omega, by go_num, s, hs, rfl, hR, hb⟩, ?_⟩
                  show 200 - ((k : Int) + 1).toNat < 200 - (k : Int).toNat
                  omega
            · have d127 : decide (127 ≤ z) = false := decide_eq_false h127
              have hok : okT z = true := by rw [okT, badC, d127, d32, hck]; rfl
              have hfx : fixC z = z := by rw [fixC, if_pos hok]
              rw [hfx] at HPU
              clear hfx hok
              by_cases h5 : s.length + E.length ≤ 510
              · have hR := Lib.hid (HP.out _ (HA.out h5).symm)
                have d5 : decide ((s.length : Int) + (E.length : Int) ≤ 510) = true := decide_eq_true (by omega)
                have hq : (⟨s.toArray⟩ : ByteArray) ++ (⟨E.toArray⟩ : ByteArray) = ⟨(s ++ E).toArray⟩ := app_l s E
                have hl9 : ¬ 9223372036854775807 < s.length + E.length := by omega
                have hl8 : (s ++ E).length ≤ 510 := by rw [List.length_append]; exact h5
                go_wp2_with (first
                  | (go_at_call 41; refine (HCK.out _).mono ?_; rintro e w1 ⟨rfl, rfl⟩)
                  | (go_at_call 42; refine (HPU.out _).mono ?_; rintro e w1 ⟨rfl, hb1⟩; have hb := Lib.hid (B64.up hb.out hb1); clear hb1))
                refine ⟨⟨k + 1, by omega, by omega, by go_num, s ++ E, hl8, ?_, hR, hb⟩, ?_⟩
                · first | rfl | exact congrArg Value.string hq
                · show 200 - ((k : Int) + 1).toNat < 200 - (k : Int).toNat
                  omega
              · have hR := Lib.hid (HP.out _ (HO.out h5).symm)
                have d5 : decide ((s.length : Int) + (E.length : Int) ≤ 510) = false := decide_eq_false (by omega)
                go_wp2_with (first
                  | (go_at_call 41; refine (HCK.out _).mono ?_; rintro e w1 ⟨rfl, rfl⟩)
                  | (go_at_call 42; refine (HPU.out _).mono ?_; rintro e w1 ⟨rfl, hb1⟩; have hb := Lib.hid (B64.up hb.out hb1); clear hb1))
                refine ⟨⟨k + 1, by omega, by omega, by go_num, s, hs, rfl, hR, hb⟩, ?_⟩
                show 200 - ((k : Int) + 1).toNat < 200 - (k : Int).toNat
                omega
      · obtain rfl : k = 200 := by omega
        have hf := Lib.hid (show s = titF zs from hp.out)
        clear hp
        go_wp2_with fail
        go_ret
        exact ⟨by rw [← hf.out]; rfl, hb.out⟩
    · obtain rfl : k = n := by omega
      have hf := Lib.hid (show s = titF zs by rw [titF, hp.out, List.take_of_length_le (by omega), List.take_of_length_le (by omega)])
      clear hp
      go_wp2_with fail
      go_ret
      exact ⟨by rw [← hf.out]; rfl, hb.out⟩
set_option maxRecDepth 100000 in
set_option maxHeartbeats 2000000 in
theorem titled_any (t : List UInt8) (w : World) : Calls Tryz.prog 17 #[.string ⟨t.toArray⟩] w fun e w' => e = .returned (actV ⟨44, 0, 0, 0, 0, t⟩) ∧ Below w.heap.size w w' := by
  have HZ := Lib.hid (bz_new w)
  have HB := Lib.hid (B64.below_box w (.cells #[.int .i64 0, .int .i64 0, .int .i64 0, .int .i64 0, .int .i64 0, .string ⟨#[]⟩] 25))
  go_enter Tryz.func17, Tryz.ntmps17
  go_upto_region 1 with fail
  generalize (w.alloc (.cells #[.int .i64 0, .int .i64 0, .int .i64 0, .int .i64 0, .int .i64 0, .string ⟨#[]⟩] 25)) = W at HZ HB ⊢
  obtain ⟨⟨x0, x1, x2, x3, x4, x5⟩, f0, f1, f2, f3, f4, f5⟩ := boxz HZ.out
  go_wp2
  refine bodyPost_ret (ret_cell1 rfl _ _ ⟨w.heap.size, 0, none⟩ _ rfl (load_act (box_set6 HZ.out ⟨44, 0, 0, 0, 0, t⟩))) rfl ?_
  exact ⟨rfl, below_set6 HB.out (Nat.le_refl _) ⟨44, 0, 0, 0, 0, t⟩⟩
set_option maxRecDepth 100000 in
set_option maxHeartbeats 2000000 in
theorem clip_any (t : List UInt8) (w : World) : Calls Tryz.prog 20 #[.string ⟨t.toArray⟩] w fun e w' => e = .returned (actV ⟨46, 0, 0, 0, 0, t⟩) ∧ Below w.heap.size w w' := by
  have HZ := Lib.hid (bz_new w)
  have HB := Lib.hid (B64.below_box w (.cells #[.int .i64 0, .int .i64 0, .int .i64 0, .int .i64 0, .int .i64 0, .string ⟨#[]⟩] 25))
  go_enter Tryz.func20, Tryz.ntmps20
  go_upto_region 1 with fail
  generalize (w.alloc (.cells #[.int .i64 0, .int .i64 0, .int .i64 0, .int .i64 0, .int .i64 0, .string ⟨#[]⟩] 25)) = W at HZ HB ⊢
  obtain ⟨⟨x0, x1, x2, x3, x4, x5⟩, f0, f1, f2, f3, f4, f5⟩ := boxz HZ.out
  go_wp2
  refine bodyPost_ret (ret_cell1 rfl _ _ ⟨w.heap.size, 0, none⟩ _ rfl (load_act (box_set6 HZ.out ⟨46, 0, 0, 0, 0, t⟩))) rfl ?_
  exact ⟨rfl, below_set6 HB.out (Nat.le_refl _) ⟨46, 0, 0, 0, 0, t⟩⟩
set_option maxRecDepth 100000 in
set_option maxHeartbeats 2000000 in
theorem palette_any (n x : Int) (w : World) : Calls Tryz.prog 22 #[.int .i64 n, .int .i64 x] w fun e w' => e = .returned (actV ⟨45, n, 0, 2, x, []⟩) ∧ Below w.heap.size w w' := by
  have HZ := Lib.hid (bz_new w)
  have HB := Lib.hid (B64.below_box w (.cells #[.int .i64 0, .int .i64 0, .int .i64 0, .int .i64 0, .int .i64 0, .string ⟨#[]⟩] 25))
  go_enter Tryz.func22, Tryz.ntmps22
  go_upto_region 1 with fail
  generalize (w.alloc (.cells #[.int .i64 0, .int .i64 0, .int .i64 0, .int .i64 0, .int .i64 0, .string ⟨#[]⟩] 25)) = W at HZ HB ⊢
  obtain ⟨⟨x0, x1, x2, x3, x4, x5⟩, f0, f1, f2, f3, f4, f5⟩ := boxz HZ.out
  go_wp2
  refine bodyPost_ret (ret_cell1 rfl _ _ ⟨w.heap.size, 0, none⟩ _ rfl (load_act (box_set6 HZ.out ⟨45, n, 0, 2, x, []⟩))) rfl ?_
  exact ⟨rfl, below_set6 HB.out (Nat.le_refl _) ⟨45, n, 0, 2, x, []⟩⟩
theorem says_arg (a : A6) : actV a = .agg #[.int .i64 a.k, .int .i64 a.n, .int .i64 a.m, .int .i64 a.c0, .int .i64 a.c1, .string ⟨a.t.toArray⟩] := rfl
set_option maxRecDepth 100000 in
set_option maxHeartbeats 4000000 in
theorem says_yes (s : ByteArray) (a : A6) (h : parO s.data.toList = some a) (w : World) (he : Env w) : Calls Tryz.prog 15 #[.string s, actV a] w fun e w' => e = .returned (.bool true) ∧ Below w.heap.size w w' := by
  have HP := Lib.hid (fun W h => parse_any s W h)
  rw [h] at HP
  unfold parV at HP
  have HE := Lib.hid he
  have HQ : ∀ W, (binOp .eql 25 (actV a) (actV a)).run Tryz.prog W = .ok (.bool true) W := fun W => by
    rw [eqlA, eqA_iff, decide_eq_true rfl]
  clear h he
  obtain ⟨k, n, m, c0, c1, t⟩ := a
  unfold actV at HP HQ ⊢
  dsimp only at HP HQ ⊢
  have hb0 := fun o => B64.below_box w o
  go_enter Tryz.func15, Tryz.ntmps15
  go_wp2_with fail
  refine (HP.out _ (HE.out.keep (hb0 _))).mono ?_
  rintro e w1 ⟨rfl, hb1⟩
  have HX := Lib.hid ((bx_new w k n m c0 c1 t).keep hb1)
  obtain ⟨y0, y1, y2, y3, y4, y5⟩ := box6 (HX.out.alloc (.cells #[.int .i64 k, .int .i64 n, .int .i64 m, .int .i64 c0, .int .i64 c1, .string ⟨t.toArray⟩] 25))
  obtain ⟨z0, z1, z2, z3, z4, z5⟩ := box6 (bx_new w1 k n m c0 c1 t)
  have hG := Lib.hid (B64.up (hb0 _) hb1)
  clear hb1
  go_wp2_with fail
  go_ret
  exact ⟨rfl, hG.out.alloc hG.out.size _⟩
theorem zero6 : (Value.agg #[.int .i64 0, .int .i64 0, .int .i64 0, .int .i64 0, .int .i64 0, .string ⟨#[]⟩]) = actV ⟨0, 0, 0, 0, 0, []⟩ := rfl
set_option maxRecDepth 100000 in
set_option maxHeartbeats 4000000 in
theorem none_yes (s : ByteArray) (h : parO s.data.toList = none) (w : World) (he : Env w) : Calls Tryz.prog 18 #[.string s] w fun e w' => e = .returned (.bool true) ∧ Below w.heap.size w w' := by
  have HP := Lib.hid (fun W h => parse_any s W h)
  rw [h] at HP
  unfold parV at HP
  have HE := Lib.hid he
  have HQ : ∀ W, (binOp .eql 25 (actV ⟨0, 0, 0, 0, 0, []⟩) (actV ⟨0, 0, 0, 0, 0, []⟩)).run Tryz.prog W = .ok (.bool true) W := fun W => by
    rw [eqlA, eqA_iff, decide_eq_true rfl]
  clear h he
  unfold actV at HP HQ
  dsimp only at HP HQ
  go_enter Tryz.func18, Tryz.ntmps18
  go_wp2_with fail
  refine (HP.out _ HE.out).mono ?_
  rintro e w1 ⟨rfl, hb1⟩
  obtain ⟨z0, z1, z2, z3, z4, z5⟩ := box6 (bx_new w1 0 0 0 0 0 [])
  have hG := Lib.hid hb1
  clear hb1
  go_wp2_with fail
  go_ret
  exact ⟨rfl, hG.out.alloc hG.out.size _⟩
set_option maxRecDepth 100000 in
set_option maxHeartbeats 4000000 in
theorem told_yes (a : A6) (s : List UInt8) (h : prtO a = some s) (hs : a.t.length ≤ 1000000) (w : World) (he : Env w) : Calls Tryz.prog 21 #[actV a, .string ⟨s.toArray⟩] w fun e w' => e = .returned (.bool true) ∧ Below w.heap.size w w' := by
  have HP := Lib.hid (fun W h => print_any a W h hs)
  unfold prtV at HP
  rw [h] at HP
  have HS := Lib.hid (fun W h0 => says_yes ⟨s.toArray⟩ a (back h).1 W h0)
  have HE := Lib.hid he
  clear h he hs
  obtain ⟨k, n, m, c0, c1, t⟩ := a
  unfold actV at HP HS ⊢
  dsimp only at HP HS ⊢
  have hb0 := fun o => B64.below_box w o
  have h5 : (s == s) = true := by simp
  go_enter Tryz.func21, Tryz.ntmps21
  go_wp2_with fail
  refine (HP.out _ (HE.out.keep (hb0 _))).mono ?_
  rintro e w1 ⟨rfl, hb1⟩
  have HX := Lib.hid ((bx_new w k n m c0 c1 t).keep hb1)
  have HE := Lib.hid ((HE.out.keep (hb0 _)).keep hb1)
  obtain ⟨y0, y1, y2, y3, y4, y5⟩ := box6 HX.out
  have hG := Lib.hid (B64.up (hb0 _) hb1)
  clear hb1
  go_wp2_with fail
  refine (HS.out _ HE.out).mono ?_
  rintro e w2 ⟨rfl, hb2⟩
  have hG := Lib.hid (B64.up hG.out hb2)
  clear hb2
  go_wp2_with fail
  go_ret
  exact ⟨rfl, hG.out⟩
end Go.Proofs.YtoilcigmpeaedaaGreatDoor.Osc
