/-
  The walk of the law OscCanon.
-/
import Derived.Test.YtoilcigmpeaedaaGreatDoorOscQ
namespace Go.Proofs.YtoilcigmpeaedaaGreatDoor.Osc
open Go.RowKit Utf Col

theorem ix6 (a b c d e f : ByteArray) (k : Nat) (hk : k < 6) : ∃ T : ByteArray, ∀ W, (Instr.index 39 (.agg #[.string a, .string b, .string c, .string d, .string e, .string f]) (.int .i64 (k : Int))).run Tryz.prog W = .ok (.string T) W := by
  rcases (show k = 0 ∨ k = 1 ∨ k = 2 ∨ k = 3 ∨ k = 4 ∨ k = 5 by omega) with rfl | rfl | rfl | rfl | rfl | rfl
  · exact ⟨a, fun _ => by kernel_rfl⟩
  · exact ⟨b, fun _ => by kernel_rfl⟩
  · exact ⟨c, fun _ => by kernel_rfl⟩
  · exact ⟨d, fun _ => by kernel_rfl⟩
  · exact ⟨e, fun _ => by kernel_rfl⟩
  · exact ⟨f, fun _ => by kernel_rfl⟩
theorem prt_of (a : A6) (h : prtO a = none) : prtV a = .tuple #[.string ⟨#[]⟩, .int .i64 2] := by rw [prtV, h]
theorem prt_is (a : A6) (u : List UInt8) (h : prtO a = some u) : prtV a = .tuple #[.string ⟨u.toArray⟩, .int .i64 0] := by rw [prtV, h]
theorem parO_len (s : List UInt8) (a : A6) (h : parO s = some a) : s.length ≤ 512 := by
  unfold parO at h
  split at h
  · cases h
  · omega
/-- the text in an action that Parse answers is short -/
theorem prt_short (a : A6) (u : List UInt8) (h : prtO a = some u) : a.t.length ≤ 1000 := by
  unfold prtO at h
  split at h
  · rename_i hc
    have := hc.2.2.2.2.2
    unfold titB at this
    simp only [Bool.and_eq_true, decide_eq_true_eq] at this
    omega
  · split at h
    · rename_i hc; rw [hc.2.2.1]; simp
    · split at h
      · rename_i hc; omega
      · cases h
set_option maxRecDepth 100000 in
set_option maxHeartbeats 4000000 in
theorem canon_any (s : ByteArray) (w : World) (hs : s.size ≤ 9223372036854775807) (he : Env w) : Calls Tryz.prog 6 #[.string s] w fun e w' => e = .returned (.bool true) ∧ Below w.heap.size w w' := by
  have HB := Lib.hid (EB.refl he)
  clear he
  obtain ⟨q, hqe⟩ : ∃ q, q = s.extract 0 (min (s.size : Int) 600).toNat := ⟨_, rfl⟩
  have hq : q.size ≤ 600 := by rw [hqe, ByteArray.size_extract]; omega
  go_enter Tryz.func6, Tryz.ntmps6
  go_wp2_with fail
  refine (works_any _ HB.out.e).mono ?_
  rintro e w1 ⟨rfl, hb1⟩
  have HB := Lib.hid (HB.out.keep hb1)
  clear hb1
  go_upto_region 4 with fail
  rw [← hqe]
  clear hqe
  have hl1 : ¬ 9223372036854775807 < 2 + q.size := by omega
  have hl2 : ¬ 9223372036854775807 < 5 + q.size := by omega
  have hl3 : ¬ 9223372036854775807 < 6 + q.size := by omega
  go_wp2_with fail
  have HI := Lib.hid (fun k hk => ix6 q (⟨#[48, 59]⟩ ++ q) (⟨#[50, 59]⟩ ++ q) (⟨#[52, 59]⟩ ++ q) (⟨#[53, 50, 59, 99, 59]⟩ ++ q) (⟨#[52, 59, 50, 53, 53, 59]⟩ ++ q) k hk)
  clear hl1 hl2 hl3 hq hs
  go_loopw [28] (fun i wr => ∃ k : Nat, k ≤ 6 ∧ i = .int .i64 (k : Int) ∧ Hid (EB w wr)) (fun i _ => 6 - (intOf i).toNat)
  case atStart => exact ⟨0, by omega, rfl, HB⟩
  case round =>
    clear HB
    obtain ⟨k, hk, rfl, HB⟩ := hrel
    by_cases hk2 : k < 6
    · obtain ⟨T, hT⟩ := HI.out k hk2
      have HP := Lib.hid (parse_any T wr HB.out.e)
      have hTl : T.data.toList.length = T.size := by simp
      cases ho : parO T.data.toList with
      | none =>
        rw [ho] at HP
        unfold parV actV at HP
        have HQ : ∀ W, (binOp .neq 25 (actV ⟨0, 0, 0, 0, 0, []⟩) (actV ⟨0, 0, 0, 0, 0, []⟩)).run Tryz.prog W = .ok (.bool false) W := fun W => by
          rw [neqA, eqA_iff, decide_eq_true rfl]; rfl
        have HR := fun W h => print_any ⟨0, 0, 0, 0, 0, []⟩ W h (by decide)
        rw [prt_of _ (by decide +kernel)] at HR
        unfold actV at HQ HR
        dsimp only at HP HQ HR
        have HR := Lib.hid HR
        clear ho hTl HI
        go_wp2_with fail
        refine HP.out.mono ?_
        rintro e w2 ⟨rfl, hb2⟩
        have HB := Lib.hid (HB.out.keep hb2)
        have hX := bx_new w2 0 0 0 0 0 []
        have HB := Lib.hid (HB.out.keep (B64.below_box _ (.cells #[.int .i64 0, .int .i64 0, .int .i64 0, .int .i64 0, .int .i64 0, .string ⟨#[]⟩] 25)))
        clear hb2
        go_wp2_with fail
        refine (HR.out _ HB.out.e).mono ?_
        rintro e w3 ⟨rfl, hb3⟩
        obtain ⟨y0, y1, y2, y3, y4, y5⟩ := box6 (hX.keep hb3)
        have HB := Lib.hid (HB.out.keep hb3)
        clear hb3 hX
        go_wp2_with fail
        refine ⟨⟨k + 1, by omega, by go_num, HB⟩, ?_⟩
        show 6 - ((k : Int) + 1).toNat < 6 - (k : Int).toNat
        omega
      | some a =>
        rw [ho] at HP
        obtain ⟨u, hu⟩ := canon ho
        have HR := fun W h => print_any a W h (by have := prt_short a u hu; omega)
        rw [prt_is a u hu] at HR
        have HS := Lib.hid (fun W h => says_yes ⟨u.toArray⟩ a (back hu).1 W h)
        have hul := (back hu).2
        have hT5 := parO_len _ a ho
        have d1 : decide (512 < (u.length : Int)) = false := decide_eq_false (by omega)
        have d2 : decide (512 < (T.size : Int)) = false := decide_eq_false (by omega)
        unfold parV at HP
        unfold actV at HP HR HS
        dsimp only at HP HR HS
        have HR := Lib.hid HR
        clear ho hTl HI hu hul hT5
        obtain ⟨ak, an, am, a0, a1, at'⟩ := a
        dsimp only at HP HR HS
        go_wp2_with fail
        refine HP.out.mono ?_
        rintro e w2 ⟨rfl, hb2⟩
        have HB := Lib.hid (HB.out.keep hb2)
        have hX := bx_new w2 ak an am a0 a1 at'
        have HB := Lib.hid (HB.out.keep (B64.below_box _ (.cells #[.int .i64 ak, .int .i64 an, .int .i64 am, .int .i64 a0, .int .i64 a1, .string ⟨at'.toArray⟩] 25)))
        clear hb2
        go_wp2_with fail
        refine (HR.out _ HB.out.e).mono ?_
        rintro e w3 ⟨rfl, hb3⟩
        obtain ⟨y0, y1, y2, y3, y4, y5⟩ := box6 (hX.keep hb3)
        have HB := Lib.hid (HB.out.keep hb3)
        clear hb3 hX
        go_wp2_with fail
        refine (HS.out _ HB.out.e).mono ?_
        rintro e w4 ⟨rfl, hb4⟩
        have HB := Lib.hid (HB.out.keep hb4)
        clear hb4 y0 y1 y2 y3 y4 y5
        go_wp2_with fail
        refine ⟨⟨k + 1, by omega, by go_num, HB⟩, ?_⟩
        show 6 - ((k : Int) + 1).toNat < 6 - (k : Int).toNat
        omega
    · obtain rfl : k = 6 := by omega
      go_wp2_with fail
      go_ret
      exact ⟨rfl, HB.out.b⟩
end Go.Proofs.YtoilcigmpeaedaaGreatDoor.Osc
