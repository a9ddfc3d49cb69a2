/-
  The walk of the law OscParses.
-/
import Derived.Deep.CutBlock
import Derived.Test.YtoilcigmpeaedaaGreatDoorF26
import Derived.Test.YtoilcigmpeaedaaGreatDoorF32
import Derived.Test.YtoilcigmpeaedaaGreatDoorF34
namespace Go.Proofs.YtoilcigmpeaedaaGreatDoor.Osc
open Go.RowKit Utf Col

theorem prt_pos (a : A6) (u : List UInt8) (h : prtO a = some u) : 0 < u.length := by
  unfold prtO at h
  split at h
  · injection h with h; subst h; simp
  · split at h
    · injection h with h; subst h; simp
    · split at h
      · injection h with h; subst h; simp
      · cases h
theorem head6 (W : World) (b : Nat) (h : B64.Box W b [.string ⟨#[48, 59]⟩, .string ⟨#[50, 59]⟩, .string ⟨#[52, 59]⟩, .string ⟨#[52, 59, 55, 59]⟩, .string ⟨#[53, 50, 59, 99, 59]⟩, .string ⟨#[53, 50, 59]⟩]) (x : Nat) (hx : x < 6) :
    ∃ H : ByteArray, H.size ≤ 5 ∧ W.cell? ⟨b, x, none⟩ = some (.string H) := by
  rcases (show x = 0 ∨ x = 1 ∨ x = 2 ∨ x = 3 ∨ x = 4 ∨ x = 5 by omega) with rfl | rfl | rfl | rfl | rfl | rfl
  · exact ⟨_, by decide, h.cell 0 _ rfl⟩
  · exact ⟨_, by decide, h.cell 1 _ rfl⟩
  · exact ⟨_, by decide, h.cell 2 _ rfl⟩
  · exact ⟨_, by decide, h.cell 3 _ rfl⟩
  · exact ⟨_, by decide, h.cell 4 _ rfl⟩
  · exact ⟨_, by decide, h.cell 5 _ rfl⟩
theorem ix5 (a b c d e : ByteArray) (P : ByteArray → Prop) (ha : P a) (hb : P b) (hc : P c) (hd : P d) (he : P e) (k : Nat) (hk : k < 5) : ∃ S : ByteArray, P S ∧ ∀ W, (Instr.index 40 (.agg #[.string a, .string b, .string c, .string d, .string e]) (.int .i64 (k : Int))).run Tryz.prog W = .ok (.string S) W := by
  rcases (show k = 0 ∨ k = 1 ∨ k = 2 ∨ k = 3 ∨ k = 4 by omega) with rfl | rfl | rfl | rfl | rfl
  · exact ⟨a, ha, fun _ => by kernel_rfl⟩
  · exact ⟨b, hb, fun _ => by kernel_rfl⟩
  · exact ⟨c, hc, fun _ => by kernel_rfl⟩
  · exact ⟨d, hd, fun _ => by kernel_rfl⟩
  · exact ⟨e, he, fun _ => by kernel_rfl⟩
theorem prtV_told (a : A6) (u : List UInt8) (h : prtO a = some u) (T : ByteArray) (hT : T = ⟨u.toArray⟩) : prtV a = .tuple #[.string T, .int .i64 0] := by rw [prtV, h, hT]
set_option maxRecDepth 100000 in
set_option maxHeartbeats 8000000 in
theorem parses_any (s : ByteArray) (v : Value) (d : Dr) (at' : UInt16) (c : UInt8) (w : World) (hs : s.size ≤ 9223372036854775807) (hd : DrV w v d) (he : Env w) :
    Calls Tryz.prog 4 #[.string s, v, .int .u16 (at'.toNat : Int), .int .u8 (c.toNat : Int)] w fun e w' => e = .returned (.bool true) ∧ Below w.heap.size w w' := by
  have HB := Lib.hid (EB.refl he)
  obtain ⟨u, hu⟩ := dra_has d hd.h1
  have hul := (back hu).2
  have hup := prt_pos _ u hu
  have hdl := dra_len d
  have HA := fun W hb => action_any v d W (hd.below hb)
  obtain ⟨-, -, -, -, -, -, A, cp, rfl, -⟩ := hd
  obtain ⟨T, hT⟩ : ∃ T : ByteArray, T = ⟨u.toArray⟩ := ⟨_, rfl⟩
  have hT1 : T.size ≤ 512 := by rw [hT, Lib.size_mk]; exact hul
  have hT0 : 0 < T.size := by rw [hT, Lib.size_mk]; exact hup
  have HR := fun W => rprint_any (draA d) W (by omega)
  rw [prtV_told _ u hu T hT] at HR
  obtain ⟨q, hqe⟩ : ∃ q, q = s.extract 0 (min (s.size : Int) 600).toNat := ⟨_, rfl⟩
  have hq : q.size ≤ 600 := by rw [hqe, ByteArray.size_extract]; omega
  have HQ := Lib.hid hqe
  have HA := Lib.hid HA
  have HR := Lib.hid HR
  obtain ⟨p, hpe⟩ : ∃ p, p = at'.toNat := ⟨_, rfl⟩
  have hp0 : (p : Int) ≤ 65535 := by have := at'.toNat_lt; omega
  rw [← hpe]
  have hc0 : (c.toNat : Int) < 256 := by have := c.toNat_lt; omega
  have hTl : T.data.toList.length = T.size := by simp
  obtain ⟨j, hj1, hjl⟩ : ∃ j : Nat, (p : Int) % (T.size : Int) = (j : Int) ∧ j < T.size := ⟨p % T.size, (Int.natCast_emod _ _).symm, Nat.mod_lt _ hT0⟩
  have hj2 : (p : Int).tmod (T.size : Int) = (j : Int) := by rw [Int.tmod_eq_emod_of_nonneg (by omega)]; exact hj1
  obtain ⟨k, hk1, hkl⟩ : ∃ k : Nat, (p : Int) % ((T.size : Int) + 1) = (k : Int) ∧ k < T.size + 1 := ⟨p % (T.size + 1), (Int.natCast_emod p (T.size + 1)).symm, Nat.mod_lt _ (by omega)⟩
  have hk2 : (p : Int).tmod ((T.size : Int) + 1) = (k : Int) := by rw [Int.tmod_eq_emod_of_nonneg (by omega)]; exact hk1
  have HJ := Lib.hid (And.intro hj2 hjl)
  have HK0 := Lib.hid (And.intro hk2 hkl)
  clear hj1 hj2 hjl hk1 hk2 hkl
  have hb0 := fun o => B64.below_box w o
  clear hT hu hul hup hdl hqe hpe
  go_enter Tryz.func4, Tryz.ntmps4
  go_upto_region 2 with fail
  rw [← HQ.out]
  go_wp2_with fail
  refine (HA.out _ (hb0 _)).mono ?_
  rintro e w1 ⟨rfl, hb1⟩
  have HB := Lib.hid ((HB.out.keep (hb0 _)).keep hb1)
  clear hb1
  go_wp2_with fail
  refine (HR.out _).mono ?_
  rintro e w2 ⟨rfl, hb2⟩
  have HB := Lib.hid (HB.out.keep hb2)
  clear hb2
  obtain ⟨c5, w5, hrun, hc5, hrow, hb5, hz5⟩ := Col.run_row (P := Tryz.prog) w2 9 38 T Tryz.underlying9 Tryz.underlying38 Tryz.underlying5
  go_upto_if 34 with fail
  have h1 : (0 : Int) < T.size := by omega
  obtain ⟨hj2, hjl⟩ := HJ.out
  have j1 : (0 : Int) ≤ j := by omega
  have j2 : (j : Int) < T.size := by omega
  obtain ⟨b0, hb0'⟩ : ∃ b, T.data.toList[j]? = some b := ⟨T.data.toList[j]'(by omega), List.getElem?_eq_getElem (by omega)⟩
  have hcell := hrow.cell j b0 hb0'
  have hfro := hrow.frozen j (by omega)
  have hlt := hrow.lt
  have HS := Lib.hid (hrow.set j c)
  have HBL := Lib.hid (EB.keep HB.out (hb5.setCell (p := ⟨w2.heap.size, j, none⟩) (Nat.le_refl _) (.int .u8 (c.toNat : Int))))
  have hne1 : ¬ ((T.size : Int) = 0) := by omega
  have wp1 : IntKind.i64.wrap (p : Int) = (p : Int) := IntWalk.i64_in _ (by omega)
  have wj1 : IntKind.i64.wrap (j : Int) = (j : Int) := IntWalk.i64_in _ (by omega)
  clear hb0' hrow hb5 HB
  go_upto_region 6 with fail
  generalize (w5.setCell ⟨w2.heap.size, j, none⟩ (.int .u8 (c.toNat : Int))) = wb at HS HBL ⊢
  have hb9 : (T.data.toList.set j c).length = T.size := by rw [List.length_set]; exact hTl
  generalize T.data.toList.set j c = b9 at HS hb9
  clear hcell hfro hlt hrun hz5 h1 j1 j2 hne1 wj1 hj2 hjl
  go_upto_region 7 with fail
  have hBX := B64.Box.new wb #[.string ⟨#[48, 59]⟩, .string ⟨#[50, 59]⟩, .string ⟨#[52, 59]⟩, .string ⟨#[52, 59, 55, 59]⟩, .string ⟨#[53, 50, 59, 99, 59]⟩, .string ⟨#[53, 50, 59]⟩] 39
  have HS := Lib.hid (HS.out.keep (B64.below_box _ (.cells #[.string ⟨#[48, 59]⟩, .string ⟨#[50, 59]⟩, .string ⟨#[52, 59]⟩, .string ⟨#[52, 59, 55, 59]⟩, .string ⟨#[53, 50, 59, 99, 59]⟩, .string ⟨#[53, 50, 59]⟩] 39)))
  have HB := Lib.hid (HBL.out.keep (B64.below_box _ (.cells #[.string ⟨#[48, 59]⟩, .string ⟨#[50, 59]⟩, .string ⟨#[52, 59]⟩, .string ⟨#[52, 59, 55, 59]⟩, .string ⟨#[53, 50, 59, 99, 59]⟩, .string ⟨#[53, 50, 59]⟩] 39)))
  generalize (wb.alloc (.cells #[.string ⟨#[48, 59]⟩, .string ⟨#[50, 59]⟩, .string ⟨#[52, 59]⟩, .string ⟨#[52, 59, 55, 59]⟩, .string ⟨#[53, 50, 59, 99, 59]⟩, .string ⟨#[53, 50, 59]⟩] 39)) = wc at hBX HS HB ⊢
  generalize wb.heap.size = B6 at hBX ⊢
  clear HBL
  obtain ⟨x, hx1, hxl⟩ : ∃ x : Nat, (c.toNat : Int) % 6 = (x : Int) ∧ x < 6 := ⟨c.toNat % 6, by omega, by omega⟩
  have hx2 : (c.toNat : Int).tmod 6 = (x : Int) := by rw [Int.tmod_eq_emod_of_nonneg (by omega)]; exact hx1
  obtain ⟨H, hH1, hH2⟩ := head6 wc.drew B6 hBX.drew x hxl
  have hcv : (convert 38 9 (.slice (some ⟨w2.heap.size, 0, none⟩) T.size c5)).run Tryz.prog wc.drew = .ok (.string ⟨b9.toArray⟩) wc.drew :=
    Col.run_str wc.drew 38 9 5 ⟨w2.heap.size, 0, none⟩ T.size c5 b9 hb9 Tryz.underlying38 Tryz.underlying5 Tryz.underlying9 ((HS.out.rd).below ((Below.refl _ _).drew))
  obtain ⟨U, hU⟩ : ∃ U : ByteArray, U = ⟨b9.toArray⟩ := ⟨_, rfl⟩
  rw [← hU] at hcv
  have hUs : U.size ≤ 512 := by rw [hU, Lib.size_mk, hb9]; exact hT1
  obtain ⟨hk2, hkl⟩ := HK0.out
  have k1 : (0 : Int) ≤ k := by omega
  have k2 : (k : Int) ≤ T.size := by omega
  have wd : IntKind.i64.wrap ((T.size : Int) + 1) = (T.size : Int) + 1 := IntWalk.i64_in _ (by omega)
  have wk : IntKind.i64.wrap (k : Int) = (k : Int) := IntWalk.i64_in _ (by omega)
  have hne : ¬ ((T.size : Int) + 1 = 0) := by omega
  have x0 : (0 : Int) ≤ x := by omega
  have x6 : (x : Int) < 6 := by omega
  have hl5 : ¬ 9223372036854775807 < H.size + q.size := by omega
  clear hU hb9 hBX HS hx1 hxl
  go_region_held3 (fun W => (convert 38 9 (.slice (some ⟨w2.heap.size, 0, none⟩) T.size c5)).run Tryz.prog W = .ok (.string U) W ∧ W.cell? ⟨B6, x, none⟩ = some (.string H)) (first | (with_reducible exact ⟨hcv, hH2⟩)) (fail)
  rename_i K5 hK5 x5
  show K5 _ _
  refine hK5 _ _ ?_
  clear hK5 x5 hcv hH2 HJ HK0 hk2 hkl k1 wd wk hne x0 x6 hx2
  have HB := Lib.hid (HB.out.keep (Below.refl _ _).drew)
  generalize wc.drew = wd0 at HB ⊢
  have HI := Lib.hid (fun i hi => ix5 q T U (T.extract 0 k) (H ++ q) (fun S => S.size ≤ 8000) (by omega) (by omega) (by omega) (by show ByteArray.size _ ≤ _; rw [ByteArray.size_extract]; omega) (by show ByteArray.size _ ≤ _; rw [ByteArray.size_append]; omega) i hi)
  generalize T.extract 0 k = X4 at HI ⊢
  generalize H ++ q = X5 at HI ⊢
  clear hl5 hH1 hUs hq hT1 hT0 k2
  go_wp2_with fail
  go_loopw [63] (fun iv wr => ∃ i : Nat, i ≤ 5 ∧ iv = .int .i64 (i : Int) ∧ Hid (EB w wr)) (fun iv _ => 5 - (intOf iv).toNat)
  case atStart => exact ⟨0, by omega, rfl, HB⟩
  case round =>
    clear HB
    obtain ⟨i, hi, rfl, HB⟩ := hrel
    by_cases hi2 : i < 5
    · obtain ⟨S, hS1, hS⟩ := HI.out i hi2
      have HP := fun W h => parse_any S W h
      have HQ2 := fun W => rparse_any S W hS1
      have hq : ∃ (a : A6) (b : Bool), parV (parO S.data.toList) = .tuple #[actV a, .bool b] := by
        cases parO S.data.toList with
        | none => exact ⟨_, _, rfl⟩
        | some a => exact ⟨a, _, rfl⟩
      obtain ⟨a, b, hab⟩ := hq
      rw [hab] at HP HQ2
      have HN : ∀ W, (binOp .neq 25 (actV a) (actV a)).run Tryz.prog W = .ok (.bool false) W := fun W => by
        rw [neqA, eqA_iff, decide_eq_true rfl]; rfl
      unfold actV at HP HQ2 HN
      obtain ⟨ak, an, am, a0, a1, at''⟩ := a
      dsimp only at HP HQ2 HN
      have HP := Lib.hid HP
      have HQ2 := Lib.hid HQ2
      have hbb : (b != b) = false := by cases b <;> rfl
      clear hab HI hS1
      go_wp2_with fail
      refine (HP.out _ HB.out.e).mono ?_
      rintro e w6 ⟨rfl, hb6⟩
      have HB := Lib.hid (HB.out.keep hb6)
      have hX := bx_new w6 ak an am a0 a1 at''
      have HB := Lib.hid (HB.out.keep (B64.below_box _ (.cells #[.int .i64 ak, .int .i64 an, .int .i64 am, .int .i64 a0, .int .i64 a1, .string ⟨at''.toArray⟩] 25)))
      clear hb6
      go_wp2_with fail
      refine (HQ2.out _).mono ?_
      rintro e w7 ⟨rfl, hb7⟩
      have HB := Lib.hid (HB.out.keep hb7)
      have hX := Lib.hid ((hX.keep hb7).alloc (.cells #[.int .i64 ak, .int .i64 an, .int .i64 am, .int .i64 a0, .int .i64 a1, .string ⟨at''.toArray⟩] 25))
      have hY := bx_new w7 ak an am a0 a1 at''
      have HB := Lib.hid (HB.out.keep (B64.below_box _ (.cells #[.int .i64 ak, .int .i64 an, .int .i64 am, .int .i64 a0, .int .i64 a1, .string ⟨at''.toArray⟩] 25)))
      obtain ⟨y0, y1, y2, y3, y4, y5⟩ := box6 hX.out
      obtain ⟨z0, z1, z2, z3, z4, z5⟩ := box6 hY
      clear hb7 hY
      go_wp2_with fail
      refine ⟨⟨i + 1, by omega, by go_num, HB⟩, ?_⟩
      show 5 - ((i : Int) + 1).toNat < 5 - (i : Int).toNat
      omega
    · obtain rfl : i = 5 := by omega
      go_wp2_with fail
      refine (works_any _ HB.out.e).mono ?_
      rintro e w8 ⟨rfl, hb8⟩
      have HB := Lib.hid (HB.out.keep hb8)
      clear hb8
      go_wp2_with fail
      go_ret
      exact ⟨rfl, HB.out.b⟩
end Go.Proofs.YtoilcigmpeaedaaGreatDoor.Osc
