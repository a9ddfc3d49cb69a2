/-
  The laws' drafts; contract of their Action.
-/
import Derived.Test.YtoilcigmpeaedaaGreatDoorOscQ
namespace Go.Proofs.YtoilcigmpeaedaaGreatDoor.Osc
open Go.RowKit Utf Col

structure Dr where
  wh : Nat
  n : Nat
  rgb : Nat
  zs : List Int
  cl : List UInt8
/-- a draft's value, and that its numbers lie in w -/
structure DrV (w : World) (v : Value) (d : Dr) : Prop where
  h0 : d.wh < 256
  h1 : d.n < 256
  h2 : d.rgb < 4294967296
  h3 : d.zs.length ≤ 9223372036854775807
  h4 : d.cl.length ≤ 9223372036854775807
  h5 : ∀ z ∈ d.zs, -9223372036854775808 ≤ z ∧ z ≤ 9223372036854775807
  v : ∃ A c, v = .agg #[.int .u8 (d.wh : Int), .int .u8 (d.n : Int), .int .u32 (d.rgb : Int), .slice A d.zs.length c, .string ⟨d.cl.toArray⟩] ∧ Rd w A (cI d.zs)
theorem DrV.below {w w' : World} {v : Value} {d : Dr} (h : DrV w v d) (hb : Below w.heap.size w w') : DrV w' v d :=
  ⟨h.h0, h.h1, h.h2, h.h3, h.h4, h.h5, let ⟨A, c, e, r⟩ := h.v; ⟨A, c, e, r.below hb⟩⟩
def draA (d : Dr) : A6 := if d.wh % 3 = 0 then ⟨44, 0, 0, 0, 0, titF d.zs⟩ else if d.wh % 3 = 1 then ⟨45, (d.n : Int), 0, 2, ((d.rgb % 16777216 : Nat) : Int), []⟩ else ⟨46, 0, 0, 0, 0, d.cl.take 378⟩
theorem dra_has (d : Dr) (h : d.n < 256) : ∃ u, prtO (draA d) = some u := by
  unfold draA
  split
  · exact ⟨_, by unfold prtO; rw [if_pos ⟨rfl, rfl, rfl, rfl, rfl, titF_ok _⟩]⟩
  · split
    · exact ⟨_, by unfold prtO; rw [if_neg (by intro hc; exact absurd hc.1 (by show ¬ (45 : Int) = 44; decide)), if_pos ⟨rfl, rfl, rfl, by dsimp only; omega, by dsimp only; omega, rfl, by dsimp only; omega, by dsimp only; omega⟩]⟩
    · exact ⟨_, by unfold prtO; rw [if_neg (by intro hc; exact absurd hc.1 (by show ¬ (46 : Int) = 44; decide)), if_neg (by intro hc; exact absurd hc.1 (by show ¬ (46 : Int) = 45; decide)), if_pos ⟨rfl, rfl, rfl, rfl, rfl, by dsimp only; rw [List.length_take]; omega⟩]⟩
theorem dra_len (d : Dr) : (draA d).t.length ≤ 510 := by
  unfold draA
  split
  · exact titF_len _
  · split
    · simp
    · dsimp only; rw [List.length_take]; omega
def c5 (d : Dr) (A : Option Addr) (c : Nat) : List Value := [.int .u8 (d.wh : Int), .int .u8 (d.n : Int), .int .u32 (d.rgb : Int), .slice A d.zs.length c, .string ⟨d.cl.toArray⟩]
set_option maxRecDepth 100000 in
set_option maxHeartbeats 4000000 in
theorem action_any (v : Value) (d : Dr) (w : World) (h : DrV w v d) : Calls Tryz.prog 9 #[v] w fun e w' => e = .returned (actV (draA d)) ∧ Below w.heap.size w w' := by
  obtain ⟨h0, h1, h2, h3, h4, h5, A, c, rfl, hr⟩ := h
  obtain ⟨wh, n, rgb, zs, cl⟩ := d
  dsimp only at *
  have HT := Lib.hid (fun W hb => title_any A c zs.length zs rfl W (hr.below hb) h5 h3)
  have hb0 : Below w.heap.size w ((w.alloc (.cells #[.int .u8 (wh : Int), .int .u8 (n : Int), .int .u32 (rgb : Int), .slice A zs.length c, .string ⟨cl.toArray⟩] 29)).alloc (.cells #[.int .i64 0, .int .i64 0, .int .i64 0, .int .i64 0, .int .i64 0, .string ⟨#[]⟩] 25)) := B64.up (B64.below_box _ _) (B64.below_box _ _)
  have hD : B64.Box ((w.alloc (.cells #[.int .u8 (wh : Int), .int .u8 (n : Int), .int .u32 (rgb : Int), .slice A zs.length c, .string ⟨cl.toArray⟩] 29)).alloc (.cells #[.int .i64 0, .int .i64 0, .int .i64 0, .int .i64 0, .int .i64 0, .string ⟨#[]⟩] 25)) w.heap.size [.int .u8 (wh : Int), .int .u8 (n : Int), .int .u32 (rgb : Int), .slice A zs.length c, .string ⟨cl.toArray⟩] := (B64.Box.new w _ _).alloc _
  have hZ : B64.Box ((w.alloc (.cells #[.int .u8 (wh : Int), .int .u8 (n : Int), .int .u32 (rgb : Int), .slice A zs.length c, .string ⟨cl.toArray⟩] 29)).alloc (.cells #[.int .i64 0, .int .i64 0, .int .i64 0, .int .i64 0, .int .i64 0, .string ⟨#[]⟩] 25)) (w.heap.size + 1) z6 := by
    have := bz_new (w.alloc (.cells #[.int .u8 (wh : Int), .int .u8 (n : Int), .int .u32 (rgb : Int), .slice A zs.length c, .string ⟨cl.toArray⟩] 29))
    rwa [show (w.alloc (.cells #[.int .u8 (wh : Int), .int .u8 (n : Int), .int .u32 (rgb : Int), .slice A zs.length c, .string ⟨cl.toArray⟩] 29)).heap.size = w.heap.size + 1 by simp] at this
  have hb0 := Lib.hid hb0
  have hD := Lib.hid hD
  have hZ := Lib.hid hZ
  obtain ⟨m, hm1, hm3⟩ : ∃ m : Nat, (wh : Int) % 3 = (m : Int) ∧ m = wh % 3 := ⟨wh % 3, by omega, rfl⟩
  have hm2 : (wh : Int).tmod 3 = (m : Int) := by rw [Int.tmod_eq_emod_of_nonneg (by omega)]; exact hm1
  have hm4 : (m : Int) < 3 := by omega
  have HM := Lib.hid hm3
  have w0 : (wh : Int) < 256 := by omega
  clear hr h5 hm1 hm3
  go_enter Tryz.func9, Tryz.ntmps9
  go_upto_region 1 with fail
  generalize ((w.alloc (.cells #[.int .u8 (wh : Int), .int .u8 (n : Int), .int .u32 (rgb : Int), .slice A zs.length c, .string ⟨cl.toArray⟩] 29)).alloc (.cells #[.int .i64 0, .int .i64 0, .int .i64 0, .int .i64 0, .int .i64 0, .string ⟨#[]⟩] 25)) = W at hb0 hD hZ ⊢
  have u0 := hD.out.cell 0 _ rfl
  have u1 := hD.out.cell 1 _ rfl
  have u2 := hD.out.cell 2 _ rfl
  have u3 := hD.out.cell 3 _ rfl
  have u4 := hD.out.cell 4 _ rfl
  by_cases k0 : m = 0
  · have e0 : ((m : Int) == 0) = true := by rw [k0]; rfl
    have hA := Lib.hid (show draA ⟨wh, n, rgb, zs, cl⟩ = ⟨44, 0, 0, 0, 0, titF zs⟩ by unfold draA; rw [if_pos (by rw [← HM.out]; exact k0)])
    clear k0
    go_wp2_with fail
    refine (HT.out _ hb0.out).mono ?_
    rintro e w1 ⟨rfl, hb1⟩
    have hZ := Lib.hid (hZ.out.keep hb1)
    have hG := Lib.hid (B64.up hb0.out hb1)
    clear hb1 u0 u1 u2 u3 u4
    obtain ⟨⟨x0, x1, x2, x3, x4, x5⟩, f0, f1, f2, f3, f4, f5⟩ := boxz hZ.out
    go_wp2_with fail
    refine bodyPost_ret (ret_cell1 rfl _ _ ⟨w.heap.size + 1, 0, none⟩ _ rfl (load_act (box_set6 hZ.out ⟨44, 0, 0, 0, 0, titF zs⟩))) rfl ?_
    exact ⟨by rw [hA.out], below_set6 hG.out (by omega) ⟨44, 0, 0, 0, 0, titF zs⟩⟩
  · have e0 : ((m : Int) == 0) = false := by rw [beq_eq_false_iff_ne]; omega
    obtain ⟨⟨x0, x1, x2, x3, x4, x5⟩, f0, f1, f2, f3, f4, f5⟩ := boxz hZ.out
    by_cases k1 : m = 1
    · have e1 : ((m : Int) == 1) = true := by rw [k1]; rfl
      obtain ⟨r, hr1, hr2⟩ : ∃ r : Nat, (rgb : Int) % 16777216 = (r : Int) ∧ r = rgb % 16777216 := ⟨rgb % 16777216, by omega, rfl⟩
      have hr3 : (rgb : Int).tmod 16777216 = (r : Int) := by rw [Int.tmod_eq_emod_of_nonneg (by omega)]; exact hr1
      have hA := Lib.hid (show draA ⟨wh, n, rgb, zs, cl⟩ = ⟨45, n, 0, 2, r, []⟩ by unfold draA; rw [if_neg (by rw [← HM.out]; exact k0), if_pos (by rw [← HM.out]; exact k1), hr2])
      have hr4 : (r : Int) ≤ 16777215 := by omega
      have hr5 : (0 : Int) ≤ r := by omega
      have n0 : (n : Int) ≤ 255 := by omega
      clear k0 k1 hr1 hr2 h2
      go_wp2_with fail
      refine bodyPost_ret (ret_cell1 rfl _ _ ⟨w.heap.size + 1, 0, none⟩ _ rfl (load_act (box_set6 hZ.out ⟨45, n, 0, 2, r, []⟩))) rfl ?_
      exact ⟨by rw [hA.out], below_set6 hb0.out (by omega) ⟨45, n, 0, 2, r, []⟩⟩
    · have e1 : ((m : Int) == 1) = false := by rw [beq_eq_false_iff_ne]; omega
      have hA := Lib.hid (show draA ⟨wh, n, rgb, zs, cl⟩ = ⟨46, 0, 0, 0, 0, cl.take 378⟩ by unfold draA; rw [if_neg (by rw [← HM.out]; exact k0), if_neg (by rw [← HM.out]; exact k1)])
      clear k0 k1
      have ec := Lib.hid (show (⟨cl.toArray⟩ : ByteArray).extract 0 (min (cl.length : Int) 378).toNat = ⟨(cl.take 378).toArray⟩ by
        rw [← ext_front ⟨cl.toArray⟩]
        show (⟨(cl.take _).toArray⟩ : ByteArray) = _
        by_cases hq : cl.length ≤ 378
        · rw [List.take_of_length_le (by omega), List.take_of_length_le hq]
        · rw [show (min (cl.length : Int) 378).toNat = 378 by omega])
      go_wp2_with fail
      rw [ec.out]
      refine bodyPost_ret (ret_cell1 rfl _ _ ⟨w.heap.size + 1, 0, none⟩ _ rfl (load_act (box_set6 hZ.out ⟨46, 0, 0, 0, 0, cl.take 378⟩))) rfl ?_
      exact ⟨by rw [hA.out], below_set6 hb0.out (by omega) ⟨46, 0, 0, 0, 0, cl.take 378⟩⟩
end Go.Proofs.YtoilcigmpeaedaaGreatDoor.Osc
