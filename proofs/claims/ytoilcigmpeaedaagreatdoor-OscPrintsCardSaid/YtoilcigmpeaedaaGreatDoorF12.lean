/-
  UtfG
-/
import Derived.Deep.RegionHeld3
import Derived.Test.YtoilcigmpeaedaaGreatDoorF9
namespace Go.Proofs.YtoilcigmpeaedaaGreatDoor.Utf
open Go.RowKit

theorem and_i64 (a : Nat) (ha : a < 9223372036854775808) : bits .and .i64 (a : Int) 63 = ((a % 64 : Nat) : Int) := by
  show IntKind.i64.wrap ((BitVec.ofInt 64 (a : Int) &&& BitVec.ofInt 64 ((63 : Nat) : Int)).toNat : Int) = _
  rw [BitVec.toNat_and, ofInt64 a ha, ofInt64 63 (by omega), IntKind.wrap_i64, show a &&& 63 = a % 64 from Nat.and_two_pow_sub_one_eq_mod a 6]
  omega
theorem or_lit (m q v k : Nat) (hm : m = v * 2 ^ k) (hq : q < 2 ^ k) (h1 : m < 1000) (h2 : q < 1000) : bits .or .i64 (m : Int) (q : Int) = ((m + q : Nat) : Int) := by
  rw [or_i64 m q (by omega) (by omega)]
  subst hm
  rw [or_add v q k hq]
theorem wrap_u8 (b : UInt8) : IntKind.u8.wrap (b.toNat : Int) = (b.toNat : Int) := by
  have := b.toNat_lt
  rw [IntKind.wrap_u8]; omega
theorem u8_of (n : Nat) (h : n < 256) : ((UInt8.ofNat n).toNat : Int) = (n : Int) := by rw [UInt8.toNat_ofNat']; omega
theorem cB_snoc (a : List UInt8) (b : UInt8) : cB a ++ [.int .u8 (b.toNat : Int)] = cB (a ++ [b]) := by simp [cB]

set_option maxRecDepth 100000 in
set_option maxHeartbeats 4000000 in
theorem add_1 (v : Value) (n0 : Nat) (xs : List UInt8) (x : Nat) (w : World) (base : Nat) (hx2 : x < 128) (hk : chk (x : Int) = true) (hown : w.ownsRow base 5 1 v n0 (cB xs)) (hm : Mk w) (hb0 : 4 < base) (hbs : base ≤ w.heap.size) (hl : n0 ≤ 900000) :
    Calls Tryz.prog 95 #[v, .int .i64 (x : Int)] w fun e w' => ∃ v', e = .returned v' ∧ w'.ownsRow base 5 1 v' (n0 + 1) (cB (xs ++ encV x)) ∧ Below base w w' := by
  obtain ⟨i1, hi1, hy0, hy1, hy2⟩ := info_parts infoB
  have henc : encV x = [UInt8.ofNat x] := by
    unfold encV
    rw [if_pos hx2]
  obtain ⟨y0, hy0'⟩ : ∃ y, y = UInt8.ofNat x := ⟨_, rfl⟩
  rw [← hy0'] at henc
  have e1 : bits .or .i64 0 (x : Int) = (y0.toNat : Int) := by
    rw [hy0', u8_of _ (by omega)]
    have h := or_i64 0 x (by omega) (by omega)
    rw [Nat.zero_or] at h
    exact h
  clear hy0'
  have e2 := wrap_u8 y0
  have Hc := Lib.hid (show cl (x : Int) = 1 by rcases cl_cases (x : Int) with ⟨h1, h2⟩ | ⟨h1, h1', h2⟩ | ⟨h1, h1', h2⟩ | ⟨h1, h2⟩ <;> first | exact h2 | omega)
  have He := Lib.hid henc; clear henc
  have HO := Lib.hid hown; clear hown
  have hm3 : w.cell? ⟨4, 1, none⟩ = some (.int .i64 0) := hm.2 1 (by omega)
  clear hm
  have Hk := Lib.hid hk; clear hk
  have h0 : v.ownBlock ≠ some 4 := fun e => by have := ((HO.out).lt 4 e).1; omega
  have H0 := Lib.hid h0; clear h0
  have hw0 : 4 < w.heap.size := by omega
  go_enter Tryz.func95, Tryz.ntmps95
  go_wp2_with fail
  refine (check_any _ _).mono ?_
  rintro e w' ⟨rfl, rfl⟩
  rw [Hk.out]
  go_wp2_with fail
  refine (codeLength_any _ _).mono ?_
  rintro e w' ⟨rfl, rfl⟩
  rw [Hc.out]
  go_wp2_with fail
  go_region_held3 (fun w' => w'.cell? ⟨4, 1, none⟩ = some (.int .i64 0))
    (first
      | go_keep
      | (rw [hgrow.cell_far _ (by first | (simp; done) | (simp; omega)) (Ne.symm H0.out)]; assumption))
    ((refine step_append_lies _ (by rfl) _ _ _ (by rfl) base 5 i1 _ 1 1 Tryz.underlying38 hi1 hy0 hy1 hy2 rfl (by omega) v n0 (cB xs) (by rfl) (((HO.out).alloc _).drew)
        ⟨w.heap.size, 0, none⟩ 1 1 [.int .u8 (y0.toNat : Int)] (by rfl) (by rfl) (World.news_of_block (cs := #[.int .u8 (y0.toNat : Int)]) (t := 5) (fr := (0, 0)) (heap_alloc_new w _)) (by simp [Value.oneCell'])
        (by omega) (by unfold maxLen; omega) (by omega) (by simp; omega) (w.heap.size + 1) (by simp) ?_; intro gg cap w1 hown1 hgrow hat hlt))
  have hb1 : Below base w w1 := ((Below.refl _ _).alloc hbs _).trans ((Below.refl _ _).drew.trans ((Below.refl base _).grown hgrow (by simp; omega) (fun k hk => ((HO.out).lt k hk).1)))
  rw [cB_snoc] at hown1
  have HO1 := Lib.hid hown1; clear hown1 hgrow hat hlt hm3
  go_wp2_with fail
  go_loopw [0, 6] (fun v' sh wr => ∃ j : Nat, j ≤ 0 ∧ sh = .int .i64 (6 * (j : Int)) ∧ Hid (wr.ownsRow base 5 1 v' (n0 + (1 - j)) (cB (xs ++ (encV x).take (1 - j)))) ∧ Below base w wr) (fun _ sh _ => (intOf sh).toNat)
  case atStart => exact ⟨0, by omega, by go_num, by rw [He.out]; exact HO1.out, hb1⟩
  case round =>
    obtain ⟨j, hj, rfl, hown2, hb2⟩ := hrel
    have hsz : base ≤ wr.heap.size := Nat.le_trans hbs hb2.size
    rcases (show j = 0 by omega) with rfl
    · clear  e1 e2
      go_wp2_with fail
      go_ret
      exact ⟨_, rfl, by have := hown2.out; rw [He.out] at this ⊢; exact this, hb2⟩

set_option maxRecDepth 100000 in
set_option maxHeartbeats 4000000 in
theorem add_2 (v : Value) (n0 : Nat) (xs : List UInt8) (x : Nat) (w : World) (base : Nat) (hx1 : 128 ≤ x) (hx2 : x < 2048) (hk : chk (x : Int) = true) (hown : w.ownsRow base 5 1 v n0 (cB xs)) (hm : Mk w) (hb0 : 4 < base) (hbs : base ≤ w.heap.size) (hl : n0 ≤ 900000) :
    Calls Tryz.prog 95 #[v, .int .i64 (x : Int)] w fun e w' => ∃ v', e = .returned v' ∧ w'.ownsRow base 5 1 v' (n0 + 2) (cB (xs ++ encV x)) ∧ Below base w w' := by
  obtain ⟨i1, hi1, hy0, hy1, hy2⟩ := info_parts infoB
  have henc : encV x = [UInt8.ofNat (192 + x / 64), UInt8.ofNat (128 + x % 64)] := by
    unfold encV
    rw [if_neg (by omega), if_pos hx2]
  obtain ⟨y0, hy0'⟩ : ∃ y, y = UInt8.ofNat (192 + x / 64) := ⟨_, rfl⟩
  obtain ⟨y1, hy1'⟩ : ∃ y, y = UInt8.ofNat (128 + x % 64) := ⟨_, rfl⟩
  rw [← hy0', ← hy1'] at henc
  have e1 : bits .or .i64 192 ((x : Int) / 64) = (y0.toNat : Int) := by
    rw [hy0', u8_of _ (by omega), show ((x : Int) / 64) = ((x / 64 : Nat) : Int) by omega]
    exact or_lit 192 (x / 64) 3 6 rfl (by omega) (by omega) (by omega)
  obtain ⟨r1, hr1⟩ : ∃ r : Nat, r = x % 64 := ⟨_, rfl⟩
  have ea1 : bits .and .i64 (x : Int) 63 = (r1 : Int) := by
    rw [hr1]
    exact and_i64 _ (by omega)
  have eb1 : bits .or .i64 128 (r1 : Int) = (y1.toNat : Int) := by
    rw [hy1', u8_of _ (by omega), ← hr1]
    exact or_lit 128 r1 2 6 rfl (by omega) (by omega) (by omega)
  have ec1 := wrap_u8 y1
  clear hr1
  clear hy0' hy1'
  have e2 := wrap_u8 y0
  have Hc := Lib.hid (show cl (x : Int) = 2 by rcases cl_cases (x : Int) with ⟨h1, h2⟩ | ⟨h1, h1', h2⟩ | ⟨h1, h1', h2⟩ | ⟨h1, h2⟩ <;> first | exact h2 | omega)
  have He := Lib.hid henc; clear henc
  have HO := Lib.hid hown; clear hown
  have hm3 : w.cell? ⟨4, 2, none⟩ = some (.int .i64 192) := hm.2 2 (by omega)
  clear hm
  have Hk := Lib.hid hk; clear hk
  have h0 : v.ownBlock ≠ some 4 := fun e => by have := ((HO.out).lt 4 e).1; omega
  have H0 := Lib.hid h0; clear h0
  have hw0 : 4 < w.heap.size := by omega
  go_enter Tryz.func95, Tryz.ntmps95
  go_wp2_with fail
  refine (check_any _ _).mono ?_
  rintro e w' ⟨rfl, rfl⟩
  rw [Hk.out]
  go_wp2_with fail
  refine (codeLength_any _ _).mono ?_
  rintro e w' ⟨rfl, rfl⟩
  rw [Hc.out]
  go_wp2_with fail
  go_region_held3 (fun w' => w'.cell? ⟨4, 2, none⟩ = some (.int .i64 192))
    (first
      | go_keep
      | (rw [hgrow.cell_far _ (by first | (simp; done) | (simp; omega)) (Ne.symm H0.out)]; assumption))
    ((refine step_append_lies _ (by rfl) _ _ _ (by rfl) base 5 i1 _ 1 1 Tryz.underlying38 hi1 hy0 hy1 hy2 rfl (by omega) v n0 (cB xs) (by rfl) (((HO.out).alloc _).drew)
        ⟨w.heap.size, 0, none⟩ 1 1 [.int .u8 (y0.toNat : Int)] (by rfl) (by rfl) (World.news_of_block (cs := #[.int .u8 (y0.toNat : Int)]) (t := 5) (fr := (0, 0)) (heap_alloc_new w _)) (by simp [Value.oneCell'])
        (by omega) (by unfold maxLen; omega) (by omega) (by simp; omega) (w.heap.size + 1) (by simp) ?_; intro gg cap w1 hown1 hgrow hat hlt))
  have hb1 : Below base w w1 := ((Below.refl _ _).alloc hbs _).trans ((Below.refl _ _).drew.trans ((Below.refl base _).grown hgrow (by simp; omega) (fun k hk => ((HO.out).lt k hk).1)))
  rw [cB_snoc] at hown1
  have HO1 := Lib.hid hown1; clear hown1 hgrow hat hlt hm3
  go_wp2_with fail
  go_loopw [0, 6] (fun v' sh wr => ∃ j : Nat, j ≤ 1 ∧ sh = .int .i64 (6 * (j : Int)) ∧ Hid (wr.ownsRow base 5 1 v' (n0 + (2 - j)) (cB (xs ++ (encV x).take (2 - j)))) ∧ Below base w wr) (fun _ sh _ => (intOf sh).toNat)
  case atStart => exact ⟨1, by omega, by go_num, by rw [He.out]; exact HO1.out, hb1⟩
  case round =>
    obtain ⟨j, hj, rfl, hown2, hb2⟩ := hrel
    have hsz : base ≤ wr.heap.size := Nat.le_trans hbs hb2.size
    rcases (show j = 0 ∨ j = 1 by omega) with rfl | rfl
    · clear ea1 eb1 ec1 e1 e2
      go_wp2_with fail
      go_ret
      exact ⟨_, rfl, by have := hown2.out; rw [He.out] at this ⊢; exact this, hb2⟩
    · have HO2 := Lib.hid ((hown2.out).alloc (.cells #[.int .u8 (y1.toNat : Int)] 5)); clear hown2
      go_wp2_with (at_builtin; refine wpList_appB _ rfl _ _ 38 rfl base 5 i1 _ 1 Tryz.underlying38 hi1 hy0 hy1 hy2 rfl _ _ _ rfl HO2.out (some ⟨wr.heap.size, 0, none⟩) 1 1 (cB [y1]) rfl (cB_len _) (Rd.one _ _ _) (cB_one _) (by omega) (by omega) (by simp; omega) ?_; intro v3 w3 hown3 hb3)
      go_roundw
      case rel => exact ⟨0, by omega, by go_num, by rw [← cB_append, List.append_assoc] at hown3; rw [He.out] at hown3 ⊢; exact hown3, (hb2.alloc hsz _).trans hb3⟩
      case measure => simp [intOf]

set_option maxRecDepth 100000 in
set_option maxHeartbeats 4000000 in
theorem add_3 (v : Value) (n0 : Nat) (xs : List UInt8) (x : Nat) (w : World) (base : Nat) (hx1 : 2048 ≤ x) (hx2 : x < 65536) (hk : chk (x : Int) = true) (hown : w.ownsRow base 5 1 v n0 (cB xs)) (hm : Mk w) (hb0 : 4 < base) (hbs : base ≤ w.heap.size) (hl : n0 ≤ 900000) :
    Calls Tryz.prog 95 #[v, .int .i64 (x : Int)] w fun e w' => ∃ v', e = .returned v' ∧ w'.ownsRow base 5 1 v' (n0 + 3) (cB (xs ++ encV x)) ∧ Below base w w' := by
  obtain ⟨i1, hi1, hy0, hy1, hy2⟩ := info_parts infoB
  have henc : encV x = [UInt8.ofNat (224 + x / 4096), UInt8.ofNat (128 + x / 64 % 64), UInt8.ofNat (128 + x % 64)] := by
    unfold encV
    rw [if_neg (by omega), if_neg (by omega), if_pos hx2]
  obtain ⟨y0, hy0'⟩ : ∃ y, y = UInt8.ofNat (224 + x / 4096) := ⟨_, rfl⟩
  obtain ⟨y1, hy1'⟩ : ∃ y, y = UInt8.ofNat (128 + x / 64 % 64) := ⟨_, rfl⟩
  obtain ⟨y2, hy2'⟩ : ∃ y, y = UInt8.ofNat (128 + x % 64) := ⟨_, rfl⟩
  rw [← hy0', ← hy1', ← hy2'] at henc
  have e1 : bits .or .i64 224 ((x : Int) / 4096) = (y0.toNat : Int) := by
    rw [hy0', u8_of _ (by omega), show ((x : Int) / 4096) = ((x / 4096 : Nat) : Int) by omega]
    exact or_lit 224 (x / 4096) 7 5 rfl (by omega) (by omega) (by omega)
  obtain ⟨r1, hr1⟩ : ∃ r : Nat, r = x / 64 % 64 := ⟨_, rfl⟩
  have ea1 : bits .and .i64 ((x : Int) / 64) 63 = (r1 : Int) := by
    rw [hr1]
    rw [show ((x : Int) / 64) = ((x / 64 : Nat) : Int) by omega]; exact and_i64 _ (by omega)
  have eb1 : bits .or .i64 128 (r1 : Int) = (y1.toNat : Int) := by
    rw [hy1', u8_of _ (by omega), ← hr1]
    exact or_lit 128 r1 2 6 rfl (by omega) (by omega) (by omega)
  have ec1 := wrap_u8 y1
  clear hr1
  obtain ⟨r2, hr2⟩ : ∃ r : Nat, r = x % 64 := ⟨_, rfl⟩
  have ea2 : bits .and .i64 (x : Int) 63 = (r2 : Int) := by
    rw [hr2]
    exact and_i64 _ (by omega)
  have eb2 : bits .or .i64 128 (r2 : Int) = (y2.toNat : Int) := by
    rw [hy2', u8_of _ (by omega), ← hr2]
    exact or_lit 128 r2 2 6 rfl (by omega) (by omega) (by omega)
  have ec2 := wrap_u8 y2
  clear hr2
  clear hy0' hy1' hy2'
  have e2 := wrap_u8 y0
  have Hc := Lib.hid (show cl (x : Int) = 3 by rcases cl_cases (x : Int) with ⟨h1, h2⟩ | ⟨h1, h1', h2⟩ | ⟨h1, h1', h2⟩ | ⟨h1, h2⟩ <;> first | exact h2 | omega)
  have He := Lib.hid henc; clear henc
  have HO := Lib.hid hown; clear hown
  have hm3 : w.cell? ⟨4, 3, none⟩ = some (.int .i64 224) := hm.2 3 (by omega)
  clear hm
  have Hk := Lib.hid hk; clear hk
  have h0 : v.ownBlock ≠ some 4 := fun e => by have := ((HO.out).lt 4 e).1; omega
  have H0 := Lib.hid h0; clear h0
  have hw0 : 4 < w.heap.size := by omega
  go_enter Tryz.func95, Tryz.ntmps95
  go_wp2_with fail
  refine (check_any _ _).mono ?_
  rintro e w' ⟨rfl, rfl⟩
  rw [Hk.out]
  go_wp2_with fail
  refine (codeLength_any _ _).mono ?_
  rintro e w' ⟨rfl, rfl⟩
  rw [Hc.out]
  go_wp2_with fail
  go_region_held3 (fun w' => w'.cell? ⟨4, 3, none⟩ = some (.int .i64 224))
    (first
      | go_keep
      | (rw [hgrow.cell_far _ (by first | (simp; done) | (simp; omega)) (Ne.symm H0.out)]; assumption))
    ((refine step_append_lies _ (by rfl) _ _ _ (by rfl) base 5 i1 _ 1 1 Tryz.underlying38 hi1 hy0 hy1 hy2 rfl (by omega) v n0 (cB xs) (by rfl) (((HO.out).alloc _).drew)
        ⟨w.heap.size, 0, none⟩ 1 1 [.int .u8 (y0.toNat : Int)] (by rfl) (by rfl) (World.news_of_block (cs := #[.int .u8 (y0.toNat : Int)]) (t := 5) (fr := (0, 0)) (heap_alloc_new w _)) (by simp [Value.oneCell'])
        (by omega) (by unfold maxLen; omega) (by omega) (by simp; omega) (w.heap.size + 1) (by simp) ?_; intro gg cap w1 hown1 hgrow hat hlt))
  have hb1 : Below base w w1 := ((Below.refl _ _).alloc hbs _).trans ((Below.refl _ _).drew.trans ((Below.refl base _).grown hgrow (by simp; omega) (fun k hk => ((HO.out).lt k hk).1)))
  rw [cB_snoc] at hown1
  have HO1 := Lib.hid hown1; clear hown1 hgrow hat hlt hm3
  go_wp2_with fail
  go_loopw [0, 6] (fun v' sh wr => ∃ j : Nat, j ≤ 2 ∧ sh = .int .i64 (6 * (j : Int)) ∧ Hid (wr.ownsRow base 5 1 v' (n0 + (3 - j)) (cB (xs ++ (encV x).take (3 - j)))) ∧ Below base w wr) (fun _ sh _ => (intOf sh).toNat)
  case atStart => exact ⟨2, by omega, by go_num, by rw [He.out]; exact HO1.out, hb1⟩
  case round =>
    obtain ⟨j, hj, rfl, hown2, hb2⟩ := hrel
    have hsz : base ≤ wr.heap.size := Nat.le_trans hbs hb2.size
    rcases (show j = 0 ∨ j = 1 ∨ j = 2 by omega) with rfl | rfl | rfl
    · clear ea1 eb1 ec1 ea2 eb2 ec2 e1 e2
      go_wp2_with fail
      go_ret
      exact ⟨_, rfl, by have := hown2.out; rw [He.out] at this ⊢; exact this, hb2⟩
    · have HO2 := Lib.hid ((hown2.out).alloc (.cells #[.int .u8 (y2.toNat : Int)] 5)); clear hown2
      go_wp2_with (at_builtin; refine wpList_appB _ rfl _ _ 38 rfl base 5 i1 _ 1 Tryz.underlying38 hi1 hy0 hy1 hy2 rfl _ _ _ rfl HO2.out (some ⟨wr.heap.size, 0, none⟩) 1 1 (cB [y2]) rfl (cB_len _) (Rd.one _ _ _) (cB_one _) (by omega) (by omega) (by simp; omega) ?_; intro v3 w3 hown3 hb3)
      go_roundw
      case rel => exact ⟨0, by omega, by go_num, by rw [← cB_append, List.append_assoc] at hown3; rw [He.out] at hown3 ⊢; exact hown3, (hb2.alloc hsz _).trans hb3⟩
      case measure => simp [intOf]
    · have HO2 := Lib.hid ((hown2.out).alloc (.cells #[.int .u8 (y1.toNat : Int)] 5)); clear hown2
      go_wp2_with (at_builtin; refine wpList_appB _ rfl _ _ 38 rfl base 5 i1 _ 1 Tryz.underlying38 hi1 hy0 hy1 hy2 rfl _ _ _ rfl HO2.out (some ⟨wr.heap.size, 0, none⟩) 1 1 (cB [y1]) rfl (cB_len _) (Rd.one _ _ _) (cB_one _) (by omega) (by omega) (by simp; omega) ?_; intro v3 w3 hown3 hb3)
      go_roundw
      case rel => exact ⟨1, by omega, by go_num, by rw [← cB_append, List.append_assoc] at hown3; rw [He.out] at hown3 ⊢; exact hown3, (hb2.alloc hsz _).trans hb3⟩
      case measure => simp [intOf]

set_option maxRecDepth 100000 in
set_option maxHeartbeats 4000000 in
theorem add_4 (v : Value) (n0 : Nat) (xs : List UInt8) (x : Nat) (w : World) (base : Nat) (hx1 : 65536 ≤ x) (hx2 : x ≤ 1114111) (hk : chk (x : Int) = true) (hown : w.ownsRow base 5 1 v n0 (cB xs)) (hm : Mk w) (hb0 : 4 < base) (hbs : base ≤ w.heap.size) (hl : n0 ≤ 900000) :
    Calls Tryz.prog 95 #[v, .int .i64 (x : Int)] w fun e w' => ∃ v', e = .returned v' ∧ w'.ownsRow base 5 1 v' (n0 + 4) (cB (xs ++ encV x)) ∧ Below base w w' := by
  obtain ⟨i1, hi1, hy0, hy1, hy2⟩ := info_parts infoB
  have henc : encV x = [UInt8.ofNat (240 + x / 262144), UInt8.ofNat (128 + x / 4096 % 64), UInt8.ofNat (128 + x / 64 % 64), UInt8.ofNat (128 + x % 64)] := by
    unfold encV
    rw [if_neg (by omega), if_neg (by omega), if_neg (by omega)]
  obtain ⟨y0, hy0'⟩ : ∃ y, y = UInt8.ofNat (240 + x / 262144) := ⟨_, rfl⟩
  obtain ⟨y1, hy1'⟩ : ∃ y, y = UInt8.ofNat (128 + x / 4096 % 64) := ⟨_, rfl⟩
  obtain ⟨y2, hy2'⟩ : ∃ y, y = UInt8.ofNat (128 + x / 64 % 64) := ⟨_, rfl⟩
  obtain ⟨y3, hy3'⟩ : ∃ y, y = UInt8.ofNat (128 + x % 64) := ⟨_, rfl⟩
  rw [← hy0', ← hy1', ← hy2', ← hy3'] at henc
  have e1 : bits .or .i64 240 ((x : Int) / 262144) = (y0.toNat : Int) := by
    rw [hy0', u8_of _ (by omega), show ((x : Int) / 262144) = ((x / 262144 : Nat) : Int) by omega]
    exact or_lit 240 (x / 262144) 30 3 rfl (by omega) (by omega) (by omega)
  obtain ⟨r1, hr1⟩ : ∃ r : Nat, r = x / 4096 % 64 := ⟨_, rfl⟩
  have ea1 : bits .and .i64 ((x : Int) / 4096) 63 = (r1 : Int) := by
    rw [hr1]
    rw [show ((x : Int) / 4096) = ((x / 4096 : Nat) : Int) by omega]; exact and_i64 _ (by omega)
  have eb1 : bits .or .i64 128 (r1 : Int) = (y1.toNat : Int) := by
    rw [hy1', u8_of _ (by omega), ← hr1]
    exact or_lit 128 r1 2 6 rfl (by omega) (by omega) (by omega)
  have ec1 := wrap_u8 y1
  clear hr1
  obtain ⟨r2, hr2⟩ : ∃ r : Nat, r = x / 64 % 64 := ⟨_, rfl⟩
  have ea2 : bits .and .i64 ((x : Int) / 64) 63 = (r2 : Int) := by
    rw [hr2]
    rw [show ((x : Int) / 64) = ((x / 64 : Nat) : Int) by omega]; exact and_i64 _ (by omega)
  have eb2 : bits .or .i64 128 (r2 : Int) = (y2.toNat : Int) := by
    rw [hy2', u8_of _ (by omega), ← hr2]
    exact or_lit 128 r2 2 6 rfl (by omega) (by omega) (by omega)
  have ec2 := wrap_u8 y2
  clear hr2
  obtain ⟨r3, hr3⟩ : ∃ r : Nat, r = x % 64 := ⟨_, rfl⟩
  have ea3 : bits .and .i64 (x : Int) 63 = (r3 : Int) := by
    rw [hr3]
    exact and_i64 _ (by omega)
  have eb3 : bits .or .i64 128 (r3 : Int) = (y3.toNat : Int) := by
    rw [hy3', u8_of _ (by omega), ← hr3]
    exact or_lit 128 r3 2 6 rfl (by omega) (by omega) (by omega)
  have ec3 := wrap_u8 y3
  clear hr3
  clear hy0' hy1' hy2' hy3'
  have e2 := wrap_u8 y0
  have Hc := Lib.hid (show cl (x : Int) = 4 by rcases cl_cases (x : Int) with ⟨h1, h2⟩ | ⟨h1, h1', h2⟩ | ⟨h1, h1', h2⟩ | ⟨h1, h2⟩ <;> first | exact h2 | omega)
  have He := Lib.hid henc; clear henc
  have HO := Lib.hid hown; clear hown
  have hm3 : w.cell? ⟨4, 4, none⟩ = some (.int .i64 240) := hm.2 4 (by omega)
  clear hm
  have Hk := Lib.hid hk; clear hk
  have h0 : v.ownBlock ≠ some 4 := fun e => by have := ((HO.out).lt 4 e).1; omega
  have H0 := Lib.hid h0; clear h0
  have hw0 : 4 < w.heap.size := by omega
  go_enter Tryz.func95, Tryz.ntmps95
  go_wp2_with fail
  refine (check_any _ _).mono ?_
  rintro e w' ⟨rfl, rfl⟩
  rw [Hk.out]
  go_wp2_with fail
  refine (codeLength_any _ _).mono ?_
  rintro e w' ⟨rfl, rfl⟩
  rw [Hc.out]
  go_wp2_with fail
  go_region_held3 (fun w' => w'.cell? ⟨4, 4, none⟩ = some (.int .i64 240))
    (first
      | go_keep
      | (rw [hgrow.cell_far _ (by first | (simp; done) | (simp; omega)) (Ne.symm H0.out)]; assumption))
    ((refine step_append_lies _ (by rfl) _ _ _ (by rfl) base 5 i1 _ 1 1 Tryz.underlying38 hi1 hy0 hy1 hy2 rfl (by omega) v n0 (cB xs) (by rfl) (((HO.out).alloc _).drew)
        ⟨w.heap.size, 0, none⟩ 1 1 [.int .u8 (y0.toNat : Int)] (by rfl) (by rfl) (World.news_of_block (cs := #[.int .u8 (y0.toNat : Int)]) (t := 5) (fr := (0, 0)) (heap_alloc_new w _)) (by simp [Value.oneCell'])
        (by omega) (by unfold maxLen; omega) (by omega) (by simp; omega) (w.heap.size + 1) (by simp) ?_; intro gg cap w1 hown1 hgrow hat hlt))
  have hb1 : Below base w w1 := ((Below.refl _ _).alloc hbs _).trans ((Below.refl _ _).drew.trans ((Below.refl base _).grown hgrow (by simp; omega) (fun k hk => ((HO.out).lt k hk).1)))
  rw [cB_snoc] at hown1
  have HO1 := Lib.hid hown1; clear hown1 hgrow hat hlt hm3
  go_wp2_with fail
  go_loopw [0, 6] (fun v' sh wr => ∃ j : Nat, j ≤ 3 ∧ sh = .int .i64 (6 * (j : Int)) ∧ Hid (wr.ownsRow base 5 1 v' (n0 + (4 - j)) (cB (xs ++ (encV x).take (4 - j)))) ∧ Below base w wr) (fun _ sh _ => (intOf sh).toNat)
  case atStart => exact ⟨3, by omega, by go_num, by rw [He.out]; exact HO1.out, hb1⟩
  case round =>
    obtain ⟨j, hj, rfl, hown2, hb2⟩ := hrel
    have hsz : base ≤ wr.heap.size := Nat.le_trans hbs hb2.size
    rcases (show j = 0 ∨ j = 1 ∨ j = 2 ∨ j = 3 by omega) with rfl | rfl | rfl | rfl
    · clear ea1 eb1 ec1 ea2 eb2 ec2 ea3 eb3 ec3 e1 e2
      go_wp2_with fail
      go_ret
      exact ⟨_, rfl, by have := hown2.out; rw [He.out] at this ⊢; exact this, hb2⟩
    · have HO2 := Lib.hid ((hown2.out).alloc (.cells #[.int .u8 (y3.toNat : Int)] 5)); clear hown2
      go_wp2_with (at_builtin; refine wpList_appB _ rfl _ _ 38 rfl base 5 i1 _ 1 Tryz.underlying38 hi1 hy0 hy1 hy2 rfl _ _ _ rfl HO2.out (some ⟨wr.heap.size, 0, none⟩) 1 1 (cB [y3]) rfl (cB_len _) (Rd.one _ _ _) (cB_one _) (by omega) (by omega) (by simp; omega) ?_; intro v3 w3 hown3 hb3)
      go_roundw
      case rel => exact ⟨0, by omega, by go_num, by rw [← cB_append, List.append_assoc] at hown3; rw [He.out] at hown3 ⊢; exact hown3, (hb2.alloc hsz _).trans hb3⟩
      case measure => simp [intOf]
    · have HO2 := Lib.hid ((hown2.out).alloc (.cells #[.int .u8 (y2.toNat : Int)] 5)); clear hown2
      go_wp2_with (at_builtin; refine wpList_appB _ rfl _ _ 38 rfl base 5 i1 _ 1 Tryz.underlying38 hi1 hy0 hy1 hy2 rfl _ _ _ rfl HO2.out (some ⟨wr.heap.size, 0, none⟩) 1 1 (cB [y2]) rfl (cB_len _) (Rd.one _ _ _) (cB_one _) (by omega) (by omega) (by simp; omega) ?_; intro v3 w3 hown3 hb3)
      go_roundw
      case rel => exact ⟨1, by omega, by go_num, by rw [← cB_append, List.append_assoc] at hown3; rw [He.out] at hown3 ⊢; exact hown3, (hb2.alloc hsz _).trans hb3⟩
      case measure => simp [intOf]
    · have HO2 := Lib.hid ((hown2.out).alloc (.cells #[.int .u8 (y1.toNat : Int)] 5)); clear hown2
      go_wp2_with (at_builtin; refine wpList_appB _ rfl _ _ 38 rfl base 5 i1 _ 1 Tryz.underlying38 hi1 hy0 hy1 hy2 rfl _ _ _ rfl HO2.out (some ⟨wr.heap.size, 0, none⟩) 1 1 (cB [y1]) rfl (cB_len _) (Rd.one _ _ _) (cB_one _) (by omega) (by omega) (by simp; omega) ?_; intro v3 w3 hown3 hb3)
      go_roundw
      case rel => exact ⟨2, by omega, by go_num, by rw [← cB_append, List.append_assoc] at hown3; rw [He.out] at hown3 ⊢; exact hown3, (hb2.alloc hsz _).trans hb3⟩
      case measure => simp [intOf]

set_option maxRecDepth 100000 in
set_option maxHeartbeats 4000000 in
theorem add_bad (v : Value) (n0 : Nat) (xs : List UInt8) (c : Int) (w : World) (base : Nat) (hk : chk c = false) (hown : w.ownsRow base 5 1 v n0 (cB xs)) (hm : Mk w) (hb0 : 4 < base) (hbs : base ≤ w.heap.size) (hl : n0 ≤ 900000) :
    Calls Tryz.prog 95 #[v, .int .i64 c] w fun e w' => ∃ v', e = .returned v' ∧ w'.ownsRow base 5 1 v' (n0 + 3) (cB (xs ++ encV 65533)) ∧ Below base w w' := by
  obtain ⟨i1, hi1, hy0, hy1, hy2⟩ := info_parts infoB
  have henc : encV 65533 = [239, 191, 189] := by decide +kernel
  have e1 : bits .or .i64 224 15 = 239 := by decide +kernel
  have e2 : IntKind.u8.wrap 239 = 239 := by decide +kernel
  have ea1 : bits .and .i64 1023 63 = 63 := by decide +kernel
  have eb1 : bits .or .i64 128 63 = 191 := by decide +kernel
  have ec1 : IntKind.u8.wrap 191 = 191 := by decide +kernel
  have ea2 : bits .and .i64 65533 63 = 61 := by decide +kernel
  have eb2 : bits .or .i64 128 61 = 189 := by decide +kernel
  have ec2 : IntKind.u8.wrap 189 = 189 := by decide +kernel
  have Hc := Lib.hid (show cl 65533 = 3 by decide +kernel)
  have He := Lib.hid henc; clear henc
  have HO := Lib.hid hown; clear hown
  have hm3 : w.cell? ⟨4, 3, none⟩ = some (.int .i64 224) := hm.2 3 (by omega)
  clear hm
  have Hk := Lib.hid hk; clear hk
  have h0 : v.ownBlock ≠ some 4 := fun e => by have := ((HO.out).lt 4 e).1; omega
  have H0 := Lib.hid h0; clear h0
  have hw0 : 4 < w.heap.size := by omega
  go_enter Tryz.func95, Tryz.ntmps95
  go_wp2_with fail
  refine (check_any _ _).mono ?_
  rintro e w' ⟨rfl, rfl⟩
  rw [Hk.out]
  go_wp2_with fail
  refine (codeLength_any _ _).mono ?_
  rintro e w' ⟨rfl, rfl⟩
  rw [Hc.out]
  go_wp2_with fail
  go_region_held3 (fun w' => w'.cell? ⟨4, 3, none⟩ = some (.int .i64 224))
    (first
      | go_keep
      | (rw [hgrow.cell_far _ (by first | (simp; done) | (simp; omega)) (Ne.symm H0.out)]; assumption))
    ((refine step_append_lies _ (by rfl) _ _ _ (by rfl) base 5 i1 _ 1 1 Tryz.underlying38 hi1 hy0 hy1 hy2 rfl (by omega) v n0 (cB xs) (by rfl) (((HO.out).alloc _).drew)
        ⟨w.heap.size, 0, none⟩ 1 1 [.int .u8 (239 : Int)] (by rfl) (by rfl) (World.news_of_block (cs := #[.int .u8 (239 : Int)]) (t := 5) (fr := (0, 0)) (heap_alloc_new w _)) (by simp [Value.oneCell'])
        (by omega) (by unfold maxLen; omega) (by omega) (by simp; omega) (w.heap.size + 1) (by simp) ?_; intro gg cap w1 hown1 hgrow hat hlt))
  have hb1 : Below base w w1 := ((Below.refl _ _).alloc hbs _).trans ((Below.refl _ _).drew.trans ((Below.refl base _).grown hgrow (by simp; omega) (fun k hk => ((HO.out).lt k hk).1)))
  rw [show cB xs ++ [Value.int .u8 239] = cB (xs ++ [239]) from by simp [cB]] at hown1
  have HO1 := Lib.hid hown1; clear hown1 hgrow hat hlt hm3
  go_wp2_with fail
  go_loopw [0, 6] (fun v' sh wr => ∃ j : Nat, j ≤ 2 ∧ sh = .int .i64 (6 * (j : Int)) ∧ Hid (wr.ownsRow base 5 1 v' (n0 + (3 - j)) (cB (xs ++ (encV 65533).take (3 - j)))) ∧ Below base w wr) (fun _ sh _ => (intOf sh).toNat)
  case atStart => exact ⟨2, by omega, by go_num, by rw [He.out]; exact HO1.out, hb1⟩
  case round =>
    obtain ⟨j, hj, rfl, hown2, hb2⟩ := hrel
    have hsz : base ≤ wr.heap.size := Nat.le_trans hbs hb2.size
    rcases (show j = 0 ∨ j = 1 ∨ j = 2 by omega) with rfl | rfl | rfl
    · clear ea1 eb1 ec1 ea2 eb2 ec2 e1 e2
      go_wp2_with fail
      go_ret
      exact ⟨_, rfl, by have := hown2.out; rw [He.out] at this ⊢; exact this, hb2⟩
    · have HO2 := Lib.hid ((hown2.out).alloc (.cells #[.int .u8 (189 : Int)] 5)); clear hown2
      go_wp2_with (at_builtin; refine wpList_appB _ rfl _ _ 38 rfl base 5 i1 _ 1 Tryz.underlying38 hi1 hy0 hy1 hy2 rfl _ _ _ rfl HO2.out (some ⟨wr.heap.size, 0, none⟩) 1 1 (cB [189]) rfl (cB_len _) (Rd.one _ _ _) (cB_one _) (by omega) (by omega) (by simp; omega) ?_; intro v3 w3 hown3 hb3)
      go_roundw
      case rel => exact ⟨0, by omega, by go_num, by rw [← cB_append, List.append_assoc] at hown3; rw [He.out] at hown3 ⊢; exact hown3, (hb2.alloc hsz _).trans hb3⟩
      case measure => simp [intOf]
    · have HO2 := Lib.hid ((hown2.out).alloc (.cells #[.int .u8 (191 : Int)] 5)); clear hown2
      go_wp2_with (at_builtin; refine wpList_appB _ rfl _ _ 38 rfl base 5 i1 _ 1 Tryz.underlying38 hi1 hy0 hy1 hy2 rfl _ _ _ rfl HO2.out (some ⟨wr.heap.size, 0, none⟩) 1 1 (cB [191]) rfl (cB_len _) (Rd.one _ _ _) (cB_one _) (by omega) (by omega) (by simp; omega) ?_; intro v3 w3 hown3 hb3)
      go_roundw
      case rel => exact ⟨1, by omega, by go_num, by rw [← cB_append, List.append_assoc] at hown3; rw [He.out] at hown3 ⊢; exact hown3, (hb2.alloc hsz _).trans hb3⟩
      case measure => simp [intOf]

theorem add_any (v : Value) (n0 : Nat) (xs : List UInt8) (c : Int) (w : World) (base : Nat) (hown : w.ownsRow base 5 1 v n0 (cB xs)) (hm : Mk w) (hb0 : 4 < base) (hbs : base ≤ w.heap.size) (hl : n0 ≤ 900000) :
    Calls Tryz.prog 95 #[v, .int .i64 c] w fun e w' => ∃ v', e = .returned v' ∧ w'.ownsRow base 5 1 v' (n0 + (encL c).length) (cB (xs ++ encL c)) ∧ Below base w w' := by
  cases hk : chk c with
  | false =>
    have he : encL c = encV 65533 := by simp [encL, hk]
    rw [he]
    exact add_bad v n0 xs c w base hk hown hm hb0 hbs hl
  | true =>
    have he : encL c = encV c.toNat := by simp [encL, hk]
    rw [he]
    have hr : 0 ≤ c ∧ c ≤ 1114111 := by simp [chk] at hk; omega
    obtain ⟨x, rfl⟩ := Int.eq_ofNat_of_zero_le hr.1
    rw [Int.toNat_natCast]
    rcases (show x < 128 ∨ (128 ≤ x ∧ x < 2048) ∨ (2048 ≤ x ∧ x < 65536) ∨ (65536 ≤ x ∧ x ≤ 1114111) by omega) with h | ⟨h, h'⟩ | ⟨h, h'⟩ | ⟨h, h'⟩
    · rw [show (encV x).length = 1 by unfold encV; rw [if_pos h]; rfl]
      exact add_1 v n0 xs x w base h hk hown hm hb0 hbs hl
    · rw [show (encV x).length = 2 by unfold encV; rw [if_neg (by omega), if_pos h']; rfl]
      exact add_2 v n0 xs x w base h h' hk hown hm hb0 hbs hl
    · rw [show (encV x).length = 3 by unfold encV; rw [if_neg (by omega), if_neg (by omega), if_pos h']; rfl]
      exact add_3 v n0 xs x w base h h' hk hown hm hb0 hbs hl
    · rw [show (encV x).length = 4 by unfold encV; rw [if_neg (by omega), if_neg (by omega), if_neg (by omega)]; rfl]
      exact add_4 v n0 xs x w base h h' hk hown hm hb0 hbs hl
end Go.Proofs.YtoilcigmpeaedaaGreatDoor.Utf
