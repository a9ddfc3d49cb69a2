/-
  The walk of the law Base64Known.
-/
import Derived.Test.YthdndbeknmcniaaDoorB64W
namespace Go.Proofs.YthdndbeknmcniaaDoor.B64
open Go.RowKit Utf

theorem size_is (n v : Int) (w : World) (h : -9223372036854775808 ≤ n ∧ n ≤ 9223372036854775807) (hv : sizeI n = v) : Calls Tryd.prog 10 #[.int .i64 n] w fun e w' => e = .returned (.int .i64 v) ∧ w' = w := by
  rw [← hv]
  exact size_any n w h
theorem rep_any (c : UInt8) (n : Nat) (hn : n ≤ 100000) (W : World) : Calls Tryd.prog 16 #[.string ⟨#[c]⟩, .int .i64 (n : Int)] W fun e w' => e = .returned (.string ⟨(List.replicate n c).toArray⟩) ∧ Below W.heap.size W w' := by
  have := Tryd.strings_Repeat ⟨#[c]⟩ n W (by omega) (by show 1 * n ≤ _; omega)
  have e : Lib.repeatL (⟨#[c]⟩ : ByteArray).data.toList n = List.replicate n c := repeat_one c n
  rw [e] at this
  exact this
theorem rep_four {α : Type} (n : Nat) (c : α) : List.replicate (4 * (n + 1)) c = c :: c :: c :: c :: List.replicate (4 * n) c := by
  rw [show 4 * (n + 1) = 4 * n + 1 + 1 + 1 + 1 by omega]
  rfl
theorem zeros (n : Nat) : decE 0 0 (List.replicate (4 * n) 0) = (0, 0) ∧ (decV 0 0 (List.replicate (4 * n) 0)).length = 3 * n := by
  induction n with
  | zero => exact ⟨rfl, rfl⟩
  | succ n ih =>
    rw [rep_four]
    simp [decE, decV, ih.1, ih.2]
    omega
theorem vals_rep (n : Nat) : valsL (List.replicate n 65) = some (List.replicate n 0) := by
  have h : List.replicate n (65 : UInt8) = (List.replicate n 0).map ch := by
    rw [List.map_replicate]; rfl
  rw [h]
  exact vals_map _ (fun v hv => by rw [(List.mem_replicate.1 hv).2]; omega)
theorem trim_rep (n : Nat) : trimL (List.replicate n 65) = List.replicate n 65 := by
  have := trim_pad (List.replicate n 65) (fun c hc => by rw [(List.mem_replicate.1 hc).2]; decide) 0
  simpa using this
theorem dec_rep (n : Nat) : ∃ x : List UInt8, x.length = 3 * n ∧ decL (List.replicate (4 * n) 65) = some x := by
  refine ⟨decV 0 0 (List.replicate (4 * n) 0), (zeros n).2, ?_⟩
  have ht := trim_rep (4 * n)
  refine (decL_pad _ (.inl ht.symm)).2.2 _ ?_ ?_
  · rw [ht, vals_rep]
  · rw [(zeros n).1]; rfl

set_option maxRecDepth 100000 in
set_option maxHeartbeats 4000000 in
theorem known_any (w : World) : Calls Tryd.prog 7 #[] w fun e w' => e = .returned (.bool true) ∧ Below w.heap.size w w' := by
  have hG : Below w.heap.size w w := Below.refl _ _
  obtain ⟨X, hX⟩ : ∃ X : ByteArray, X = ⟨(List.replicate 4096 120).toArray⟩ := ⟨_, rfl⟩
  obtain ⟨Y, hY⟩ : ∃ Y : ByteArray, Y = ⟨(List.replicate 8193 65).toArray⟩ := ⟨_, rfl⟩
  obtain ⟨Z, hZ⟩ : ∃ Z : ByteArray, Z = ⟨(List.replicate 8192 65).toArray⟩ := ⟨_, rfl⟩
  have hXs : X.size = 4096 := by rw [hX, Lib.size_mk, List.length_replicate]
  have hYs : Y.size = 8193 := by rw [hY, Lib.size_mk, List.length_replicate]
  have hZs : Z.size = 8192 := by rw [hZ, Lib.size_mk, List.length_replicate]
  have HX := Lib.hid (fun W => rep_any 120 4096 (by decide) W)
  have HY := Lib.hid (fun W => rep_any 65 8193 (by decide) W)
  have HZ := Lib.hid (fun W => rep_any 65 8192 (by decide) W)
  rw [← hX] at HX
  rw [← hY] at HY
  rw [← hZ] at HZ
  obtain ⟨T, hT⟩ : ∃ T : ByteArray, T = ⟨(encL X.data.toList).toArray⟩ := ⟨_, rfl⟩
  have hTs : T.size = 5464 := by
    have : X.data.toList.length = 4096 := by rw [← hXs]; simp
    rw [hT, Lib.size_mk, encL_len, this]
  have HE := Lib.hid (fun W => encode_any X W (by omega))
  rw [← hT] at HE
  have HL := Lib.hid (fun W => encode_long (X ++ ⟨#[120]⟩) W (by rw [ByteArray.size_append, hXs]; decide))
  have HDL := Lib.hid (fun W => decode_long Y W (by omega))
  have HD := Lib.hid (fun W => decode_any Z W (by omega))
  obtain ⟨x, hx1, hx2⟩ := dec_rep 2048
  have hx3 : decV' Z.data.toList = .tuple #[.string ⟨x.toArray⟩, .int .i64 0] := decV_some _ _ (by rw [hZ]; exact hx2)
  rw [hx3] at HD
  obtain ⟨M, hM⟩ : ∃ M : ByteArray, M = ⟨x.toArray⟩ := ⟨_, rfl⟩
  have hMs : M.size = 6144 := by rw [hM, Lib.size_mk, hx1]
  rw [← hM] at HD
  clear hX hY hZ hT hx1 hx2 hx3 hM
  go_enter Tryd.func7, Tryd.ntmps7
  go_wp2_with fail
  refine (HX.out _).mono ?_
  rintro e w1 ⟨rfl, hb⟩
  have hG := up hG hb
  clear hb
  go_wp2_with fail
  refine (HE.out _).mono ?_
  rintro e w2 ⟨rfl, hb⟩
  have hG := up hG hb
  clear hb
  go_wp2_with fail
  refine (HL.out _).mono ?_
  rintro e w3 ⟨rfl, rfl⟩
  go_wp2_with fail
  refine (HY.out _).mono ?_
  rintro e w4 ⟨rfl, hb⟩
  have hG := up hG hb
  clear hb
  go_wp2_with fail
  refine (HDL.out _).mono ?_
  rintro e w5 ⟨rfl, rfl⟩
  go_wp2_with fail
  refine (HZ.out _).mono ?_
  rintro e w6 ⟨rfl, hb⟩
  have hG := up hG hb
  clear hb
  go_wp2_with fail
  refine (HD.out _).mono ?_
  rintro e w7 ⟨rfl, hb⟩
  have hG := up hG hb
  clear hb
  go_wp2_with fail
  refine (told_is _ _ (by decide) (by decide) (by decide +kernel) _).mono ?_
  rintro e w8 ⟨rfl, hb⟩
  have hG := up hG hb
  clear hb
  go_wp2_with fail
  refine (told_is _ _ (by decide) (by decide) (by decide +kernel) _).mono ?_
  rintro e w9 ⟨rfl, hb⟩
  have hG := up hG hb
  clear hb
  go_wp2_with fail
  refine (told_is _ _ (by decide) (by decide) (by decide +kernel) _).mono ?_
  rintro e w10 ⟨rfl, hb⟩
  have hG := up hG hb
  clear hb
  go_wp2_with fail
  refine (works_any _).mono ?_
  rintro e w11 ⟨rfl, hb⟩
  have hG := up hG hb
  clear hb
  go_wp2_with fail
  refine (size_is (-1) 0 _ (by decide) (by decide)).mono ?_
  rintro e w12 ⟨rfl, rfl⟩
  go_wp2_with fail
  refine (size_is 4611686018427387904 1466015503704 _ (by decide) (by decide)).mono ?_
  rintro e w13 ⟨rfl, rfl⟩
  go_wp2_with fail
  refine (size_is 1099511627776 1466015503704 _ (by decide) (by decide)).mono ?_
  rintro e w14 ⟨rfl, rfl⟩
  go_wp2_with fail
  refine (refused_is _ (by decide) (by decide +kernel) _).mono ?_
  rintro e w15 ⟨rfl, hb⟩
  have hG := up hG hb
  clear hb
  go_wp2_with fail
  refine (refused_is _ (by decide) (by decide +kernel) _).mono ?_
  rintro e w16 ⟨rfl, hb⟩
  have hG := up hG hb
  clear hb
  go_wp2_with fail
  refine (refused_is _ (by decide) (by decide +kernel) _).mono ?_
  rintro e w17 ⟨rfl, hb⟩
  have hG := up hG hb
  clear hb
  go_wp2_with fail
  refine (refused_is _ (by decide) (by decide +kernel) _).mono ?_
  rintro e w18 ⟨rfl, hb⟩
  have hG := up hG hb
  clear hb
  go_wp2_with fail
  refine (refused_is _ (by decide) (by decide +kernel) _).mono ?_
  rintro e w19 ⟨rfl, hb⟩
  have hG := up hG hb
  clear hb
  go_wp2
  go_ret
  exact ⟨by kernel_rfl, hG⟩
end Go.Proofs.YthdndbeknmcniaaDoor.B64
