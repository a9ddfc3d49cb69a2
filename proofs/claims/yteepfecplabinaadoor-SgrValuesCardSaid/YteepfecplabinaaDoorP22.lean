/-
  SgrD
-/
import Derived.Test.YteepfecplabinaaDoorP14
import Derived.Test.YteepfecplabinaaDoorP15
import Derived.Test.YteepfecplabinaaDoorP21
namespace Go.Proofs.YteepfecplabinaaDoor.Sgr
open Go.RowKit Utf

set_option maxRecDepth 100000 in
theorem tz_1 (w : World) (he : Env w) : Calls Tryd.prog 60 #[.int .u64 1] w fun e w' => e = .returned (.int .i64 0) ∧ w = w' := by
  have hc : Calls Tryd.prog 98 #[.int .u64 1] w fun e w' => e = .returned (.int .i64 0) ∧ w = w' := by
    have d := he.deb 0 0 rfl
    have e1 : (IntKind.u64.wrap (bits BinOp.and IntKind.u64 1 (IntKind.u64.wrap (-1)) * 285870213051353865) / 288230376151711744) = 0 := by decide +kernel
    go_enter Tryd.func98, Tryd.ntmps98
    go_wp2
    go_ret
    exact ⟨rfl, rfl⟩
  have HC := Lib.hid hc
  clear hc he
  go_enter Tryd.func60, Tryd.ntmps60
  go_wp2_with (go_at_call 98; refine HC.out.mono ?_; rintro e w1 ⟨rfl, rfl⟩)
  go_ret
  exact ⟨rfl, rfl⟩

set_option maxRecDepth 100000 in
theorem tz_2 (w : World) (he : Env w) : Calls Tryd.prog 60 #[.int .u64 2] w fun e w' => e = .returned (.int .i64 1) ∧ w = w' := by
  have hc : Calls Tryd.prog 98 #[.int .u64 2] w fun e w' => e = .returned (.int .i64 1) ∧ w = w' := by
    have d := he.deb 1 1 rfl
    have e1 : (IntKind.u64.wrap (bits BinOp.and IntKind.u64 2 (IntKind.u64.wrap (-2)) * 285870213051353865) / 288230376151711744) = 1 := by decide +kernel
    go_enter Tryd.func98, Tryd.ntmps98
    go_wp2
    go_ret
    exact ⟨rfl, rfl⟩
  have HC := Lib.hid hc
  clear hc he
  go_enter Tryd.func60, Tryd.ntmps60
  go_wp2_with (go_at_call 98; refine HC.out.mono ?_; rintro e w1 ⟨rfl, rfl⟩)
  go_ret
  exact ⟨rfl, rfl⟩

set_option maxRecDepth 100000 in
theorem tz_4 (w : World) (he : Env w) : Calls Tryd.prog 60 #[.int .u64 4] w fun e w' => e = .returned (.int .i64 2) ∧ w = w' := by
  have hc : Calls Tryd.prog 98 #[.int .u64 4] w fun e w' => e = .returned (.int .i64 2) ∧ w = w' := by
    have d := he.deb 3 2 rfl
    have e1 : (IntKind.u64.wrap (bits BinOp.and IntKind.u64 4 (IntKind.u64.wrap (-4)) * 285870213051353865) / 288230376151711744) = 3 := by decide +kernel
    go_enter Tryd.func98, Tryd.ntmps98
    go_wp2
    go_ret
    exact ⟨rfl, rfl⟩
  have HC := Lib.hid hc
  clear hc he
  go_enter Tryd.func60, Tryd.ntmps60
  go_wp2_with (go_at_call 98; refine HC.out.mono ?_; rintro e w1 ⟨rfl, rfl⟩)
  go_ret
  exact ⟨rfl, rfl⟩

set_option maxRecDepth 100000 in
theorem tz_8 (w : World) (he : Env w) : Calls Tryd.prog 60 #[.int .u64 8] w fun e w' => e = .returned (.int .i64 3) ∧ w = w' := by
  have hc : Calls Tryd.prog 98 #[.int .u64 8] w fun e w' => e = .returned (.int .i64 3) ∧ w = w' := by
    have d := he.deb 7 3 rfl
    have e1 : (IntKind.u64.wrap (bits BinOp.and IntKind.u64 8 (IntKind.u64.wrap (-8)) * 285870213051353865) / 288230376151711744) = 7 := by decide +kernel
    go_enter Tryd.func98, Tryd.ntmps98
    go_wp2
    go_ret
    exact ⟨rfl, rfl⟩
  have HC := Lib.hid hc
  clear hc he
  go_enter Tryd.func60, Tryd.ntmps60
  go_wp2_with (go_at_call 98; refine HC.out.mono ?_; rintro e w1 ⟨rfl, rfl⟩)
  go_ret
  exact ⟨rfl, rfl⟩

set_option maxRecDepth 100000 in
theorem tz_16 (w : World) (he : Env w) : Calls Tryd.prog 60 #[.int .u64 16] w fun e w' => e = .returned (.int .i64 4) ∧ w = w' := by
  have hc : Calls Tryd.prog 98 #[.int .u64 16] w fun e w' => e = .returned (.int .i64 4) ∧ w = w' := by
    have d := he.deb 15 4 rfl
    have e1 : (IntKind.u64.wrap (bits BinOp.and IntKind.u64 16 (IntKind.u64.wrap (-16)) * 285870213051353865) / 288230376151711744) = 15 := by decide +kernel
    go_enter Tryd.func98, Tryd.ntmps98
    go_wp2
    go_ret
    exact ⟨rfl, rfl⟩
  have HC := Lib.hid hc
  clear hc he
  go_enter Tryd.func60, Tryd.ntmps60
  go_wp2_with (go_at_call 98; refine HC.out.mono ?_; rintro e w1 ⟨rfl, rfl⟩)
  go_ret
  exact ⟨rfl, rfl⟩

set_option maxRecDepth 100000 in
theorem tz_32 (w : World) (he : Env w) : Calls Tryd.prog 60 #[.int .u64 32] w fun e w' => e = .returned (.int .i64 5) ∧ w = w' := by
  have hc : Calls Tryd.prog 98 #[.int .u64 32] w fun e w' => e = .returned (.int .i64 5) ∧ w = w' := by
    have d := he.deb 31 5 rfl
    have e1 : (IntKind.u64.wrap (bits BinOp.and IntKind.u64 32 (IntKind.u64.wrap (-32)) * 285870213051353865) / 288230376151711744) = 31 := by decide +kernel
    go_enter Tryd.func98, Tryd.ntmps98
    go_wp2
    go_ret
    exact ⟨rfl, rfl⟩
  have HC := Lib.hid hc
  clear hc he
  go_enter Tryd.func60, Tryd.ntmps60
  go_wp2_with (go_at_call 98; refine HC.out.mono ?_; rintro e w1 ⟨rfl, rfl⟩)
  go_ret
  exact ⟨rfl, rfl⟩

set_option maxRecDepth 100000 in
theorem tz_64 (w : World) (he : Env w) : Calls Tryd.prog 60 #[.int .u64 64] w fun e w' => e = .returned (.int .i64 6) ∧ w = w' := by
  have hc : Calls Tryd.prog 98 #[.int .u64 64] w fun e w' => e = .returned (.int .i64 6) ∧ w = w' := by
    have d := he.deb 63 6 rfl
    have e1 : (IntKind.u64.wrap (bits BinOp.and IntKind.u64 64 (IntKind.u64.wrap (-64)) * 285870213051353865) / 288230376151711744) = 63 := by decide +kernel
    go_enter Tryd.func98, Tryd.ntmps98
    go_wp2
    go_ret
    exact ⟨rfl, rfl⟩
  have HC := Lib.hid hc
  clear hc he
  go_enter Tryd.func60, Tryd.ntmps60
  go_wp2_with (go_at_call 98; refine HC.out.mono ?_; rintro e w1 ⟨rfl, rfl⟩)
  go_ret
  exact ⟨rfl, rfl⟩

set_option maxRecDepth 100000 in
theorem tz_128 (w : World) (he : Env w) : Calls Tryd.prog 60 #[.int .u64 128] w fun e w' => e = .returned (.int .i64 7) ∧ w = w' := by
  have hc : Calls Tryd.prog 98 #[.int .u64 128] w fun e w' => e = .returned (.int .i64 7) ∧ w = w' := by
    have d := he.deb 62 7 rfl
    have e1 : (IntKind.u64.wrap (bits BinOp.and IntKind.u64 128 (IntKind.u64.wrap (-128)) * 285870213051353865) / 288230376151711744) = 62 := by decide +kernel
    go_enter Tryd.func98, Tryd.ntmps98
    go_wp2
    go_ret
    exact ⟨rfl, rfl⟩
  have HC := Lib.hid hc
  clear hc he
  go_enter Tryd.func60, Tryd.ntmps60
  go_wp2_with (go_at_call 98; refine HC.out.mono ?_; rintro e w1 ⟨rfl, rfl⟩)
  go_ret
  exact ⟨rfl, rfl⟩

set_option maxRecDepth 100000 in
theorem tz_3 (w : World) (he : Env w) : Calls Tryd.prog 60 #[.int .u64 3] w fun e w' => e = .returned (.int .i64 0) ∧ w = w' := by
  have hc : Calls Tryd.prog 98 #[.int .u64 3] w fun e w' => e = .returned (.int .i64 0) ∧ w = w' := by
    have d := he.deb 0 0 rfl
    have e1 : (IntKind.u64.wrap (bits BinOp.and IntKind.u64 3 (IntKind.u64.wrap (-3)) * 285870213051353865) / 288230376151711744) = 0 := by decide +kernel
    go_enter Tryd.func98, Tryd.ntmps98
    go_wp2
    go_ret
    exact ⟨rfl, rfl⟩
  have HC := Lib.hid hc
  clear hc he
  go_enter Tryd.func60, Tryd.ntmps60
  go_wp2_with (go_at_call 98; refine HC.out.mono ?_; rintro e w1 ⟨rfl, rfl⟩)
  go_ret
  exact ⟨rfl, rfl⟩

/-- a row of numbers that a call hands back, in a block of its own -/
def RowPost (w : World) (p : List Int) (e : Ending) (w' : World) : Prop := ∃ v, e = .returned v ∧ w'.ownsRow w.heap.size 3 1 v p.length (cI p) ∧ Below w.heap.size w w'
theorem own_lit (w W : World) (zs : List Int) (n : Nat) (hn : n = zs.length) (hl : n ≤ maxLen) (hb : Below w.heap.size w W) : (W.alloc (.cells (cI zs).toArray 3)).ownsRow w.heap.size 3 1 (.slice (some ⟨W.heap.size, 0, none⟩) n n) n (cI zs) := by
  subst hn
  refine ⟨by rw [cI_len, Nat.mul_one], .inr ⟨W.heap.size, zs.length, (cI zs).toArray, rfl, hb.size, heap_alloc_new W _, Nat.le_refl _, hl, by rw [List.size_toArray, cI_len, Nat.mul_one], List.take_of_length_le (by simp [cI_len])⟩⟩
theorem row_lit (w W : World) (g : Nat) (zs : List Int) (n : Nat) (hg : g = W.heap.size) (hn : n = zs.length) (hl : n ≤ maxLen) (hb : Below w.heap.size w W) : RowPost w zs (.returned (.slice (some ⟨g, 0, none⟩) n n)) (W.alloc (.cells (cI zs).toArray 3)) := by
  have := own_lit w W zs n hn hl hb
  subst hn hg
  exact ⟨_, rfl, this, hb.alloc hb.size _⟩
theorem RowPost.drew {w W : World} {p : List Int} {e : Ending} (h : RowPost w p e W) : RowPost w p e W.drew := by
  obtain ⟨v, h1, h2, h3⟩ := h
  exact ⟨v, h1, own_below h2 ((Below.refl _ _).drew), h3.drew⟩
theorem ofInt64 (a : Nat) (ha : a < 9223372036854775808) : (BitVec.ofInt 64 (a : Int)).toNat = a := by
  rw [BitVec.ofInt_natCast, BitVec.toNat_ofNat]; exact Nat.mod_eq_of_lt (by omega)
theorem and255 (a : Nat) (ha : a < 9223372036854775808) : bits .and .i64 (a : Int) 255 = ((a % 256 : Nat) : Int) := by
  show IntKind.i64.wrap ((BitVec.ofInt 64 (a : Int) &&& BitVec.ofInt 64 ((255 : Nat) : Int)).toNat : Int) = _
  rw [BitVec.toNat_and, ofInt64 a ha, ofInt64 255 (by omega), IntKind.wrap_i64, show a &&& 255 = a % 256 from Nat.and_two_pow_sub_one_eq_mod a 8]
  omega
theorem and255' (a : Int) (h0 : 0 ≤ a) (ha : a < 9223372036854775808) : bits .and .i64 a 255 = a % 256 := by
  obtain ⟨n, rfl⟩ := Int.eq_ofNat_of_zero_le h0
  rw [and255 n (by omega)]; omega
/-- the parts of an underline -/
def undV (m : Int) : List Int := if m = 1 then [4] else if m = 0 then [24] else [4, m]
theorem under_any (m : Int) (w : World) : Calls Tryd.prog 61 #[.int .i64 m] w (RowPost w (undV m)) := by
  by_cases h0 : m = 0
  · subst h0
    go_enter Tryd.func61, Tryd.ntmps61
    go_wp2
    go_ret
    exact row_lit w w _ [24] 1 rfl rfl (by decide) (Below.refl _ _)
  · by_cases h1 : m = 1
    · subst h1
      go_enter Tryd.func61, Tryd.ntmps61
      go_wp2
      go_ret
      exact row_lit w w _ [4] 1 rfl rfl (by decide) (Below.refl _ _)
    · have e0 : (m == 0) = false := by simp [h0]
      have e1 : (m == 1) = false := by simp [h1]
      have He := Lib.hid (show undV m = [4, m] by unfold undV; rw [if_neg h1, if_neg h0])
      clear h0 h1
      go_enter Tryd.func61, Tryd.ntmps61
      go_wp2
      go_ret
      rw [He.out]
      exact row_lit w w _ [4, m] 2 rfl rfl (by decide) (Below.refl _ _)
/-- the parts of a color -/
def colP (n k c : Int) : List Int :=
  let f := 38 + 10 * (n - 4)
  if k = 0 then [f + 1] else if k = 2 then [f, 2, -1, c / 65536, c / 256 % 256, c % 256] else if n ≠ 6 ∧ c < 8 then [f - 8 + c] else if n ≠ 6 ∧ c < 16 then [f + 44 + c] else [f, 5, c]
set_option maxRecDepth 100000 in
set_option maxHeartbeats 1000000 in
theorem colors_any (n k c : Int) (w : World) (hn : n = 4 ∨ n = 5 ∨ n = 6) (hk : Col.okC k c = true) : Calls Tryd.prog 62 #[.int .i64 n, .agg #[.int .i64 k, .int .i64 c]] w (RowPost w (colP n k c)) := by
  have n0 : 0 ≤ n := by omega
  have n6 : n ≤ 6 := by omega
  have HB := Lib.hid (fun W => base_any n W n0 n6)
  have hb0 := below_box w (.cells #[.int .i64 k, .int .i64 c] 46)
  simp only [Col.okC, decide_eq_true_eq] at hk
  rcases hk with ⟨rfl, rfl⟩ | ⟨rfl, h1, h2⟩ | ⟨rfl, h1, h2⟩
  · have He := Lib.hid (show colP n 0 0 = [30 + 10 * (n - 4) + 9] by simp only [colP, if_true, List.cons.injEq, and_true]; omega)
    clear hn
    have H0 := Lib.hid hb0; clear hb0
    go_enter Tryd.func62, Tryd.ntmps62
    go_wp2_with (go_at_call 89; refine (HB.out _).mono ?_; rintro e w1 ⟨rfl, rfl⟩)
    go_ret
    rw [He.out]
    exact row_lit w _ _ [30 + 10 * (n - 4) + 9] 1 (World.size_alloc _ _).symm rfl (by decide) H0.out
  · by_cases h16 : c < 16 ∧ n ≠ 6
    · have He := Lib.hid (show colP n 1 c = [shortV n c] by
        unfold colP shortV
        rw [if_neg (by omega), if_neg (by omega)]
        by_cases h8 : c < 8
        · rw [if_pos ⟨h16.2, h8⟩, if_pos h8]; simp only [List.cons.injEq, and_true]; omega
        · rw [if_neg (by omega), if_pos ⟨h16.2, h16.1⟩, if_neg h8]; simp only [List.cons.injEq, and_true]; omega)
      have HS := Lib.hid (fun W => short_any n c W n0 n6 h1 (by omega))
      have g1 : decide (c < 16) = true := decide_eq_true h16.1
      have g2 : (n != 6) = true := by simp [h16.2]
      clear hn h16
      have H0 := Lib.hid hb0; clear hb0
      go_enter Tryd.func62, Tryd.ntmps62
      go_wp2_with (go_at_call 90; refine (HS.out _).mono ?_; rintro e w1 ⟨rfl, rfl⟩)
      go_ret
      rw [He.out]
      exact row_lit w _ _ [shortV n c] 1 (World.size_alloc _ _).symm rfl (by decide) H0.out
    · have He := Lib.hid (show colP n 1 c = [30 + 10 * (n - 4) + 8, 5, c] by
        unfold colP
        rw [if_neg (by omega), if_neg (by omega), if_neg (by omega), if_neg (by omega)]; simp only [List.cons.injEq, and_true]; omega)
      have hX := Lib.hid (Par.Box.new w #[.int .i64 1, .int .i64 c] 46)
      have H0 := Lib.hid hb0; clear hb0
      by_cases h15 : c < 16
      · obtain rfl : n = 6 := by omega
        have g1 : decide (c < 16) = true := decide_eq_true h15
        clear hn h16 h15
        go_enter Tryd.func62, Tryd.ntmps62
        go_upto_region 7 with fail
        obtain ⟨w1, hw1⟩ : ∃ W, W = w.alloc (.cells #[.int .i64 1, .int .i64 c] 46) := ⟨_, rfl⟩
        rw [← hw1] at hX H0 ⊢
        clear hw1
        go_region_held3 (fun W => W.cell? ⟨w.heap.size, 1, none⟩ = some (.int .i64 c)) (first | (with_reducible exact hX.out.drew.cell 1 _ rfl) | (with_reducible exact (hX.out.drew.alloc _).cell 1 _ rfl) | (with_reducible exact (hX.out.alloc _).drew.cell 1 _ rfl)) ((go_at_call 89; refine (HB.out _).mono ?_; rintro e w1 ⟨rfl, rfl⟩))
        go_wp2_with fail
        go_ret
        rw [He.out]
        exact (row_lit w _ _ [58, 5, c] 3 rfl rfl (by decide) H0.out).drew
      · have g1 : decide (c < 16) = false := decide_eq_false h15
        have i1 : (4 : Int) ≤ n := by omega
        clear hn h16 h15
        go_enter Tryd.func62, Tryd.ntmps62
        go_upto_region 7 with fail
        obtain ⟨w1, hw1⟩ : ∃ W, W = w.alloc (.cells #[.int .i64 1, .int .i64 c] 46) := ⟨_, rfl⟩
        rw [← hw1] at hX H0 ⊢
        clear hw1
        go_region_held3 (fun W => W.cell? ⟨w.heap.size, 1, none⟩ = some (.int .i64 c)) (first | (with_reducible exact hX.out.drew.cell 1 _ rfl) | (with_reducible exact (hX.out.drew.alloc _).cell 1 _ rfl) | (with_reducible exact (hX.out.alloc _).drew.cell 1 _ rfl)) ((go_at_call 89; refine (HB.out _).mono ?_; rintro e w1 ⟨rfl, rfl⟩))
        have ew : IntKind.i64.wrap (30 + 10 * (n - 4) + 8) = 30 + 10 * (n - 4) + 8 := IntWalk.i64_in _ (by omega)
        rw [ew]
        clear ew
        go_wp2_with fail
        go_ret
        rw [He.out]
        exact (row_lit w _ _ [30 + 10 * (n - 4) + 8, 5, c] 3 rfl rfl (by decide) H0.out).drew
  · have He := Lib.hid (show colP n 2 c = [30 + 10 * (n - 4) + 8, 2, -1, c / 65536, c / 256 % 256, c % 256] by
      unfold colP
      rw [if_neg (by omega), if_pos rfl]; simp only [List.cons.injEq, and_true]; omega)
    have hX := Lib.hid (Par.Box.new w #[.int .i64 2, .int .i64 c] 46)
    have H0 := Lib.hid hb0; clear hb0
    have a1 := and255' (c / 256) (by omega) (by omega)
    have a2 := and255' c (by omega) (by omega)
    have i1 : (4 : Int) ≤ n := by omega
    clear hn
    go_enter Tryd.func62, Tryd.ntmps62
    go_upto_region 4 with fail
    obtain ⟨w1, hw1⟩ : ∃ W, W = w.alloc (.cells #[.int .i64 2, .int .i64 c] 46) := ⟨_, rfl⟩
    rw [← hw1] at hX H0 ⊢
    clear hw1
    go_region_held3 (fun W => W.cell? ⟨w.heap.size, 1, none⟩ = some (.int .i64 c)) (first | (with_reducible exact hX.out.drew.cell 1 _ rfl) | (with_reducible exact (hX.out.drew.alloc _).cell 1 _ rfl) | (with_reducible exact (hX.out.alloc _).drew.cell 1 _ rfl)) ((go_at_call 89; refine (HB.out _).mono ?_; rintro e w1 ⟨rfl, rfl⟩))
    have ew : IntKind.i64.wrap (30 + 10 * (n - 4) + 8) = 30 + 10 * (n - 4) + 8 := IntWalk.i64_in _ (by omega)
    rw [ew]
    clear ew
    go_wp2_with fail
    go_ret
    rw [He.out]
    exact (row_lit w _ _ [30 + 10 * (n - 4) + 8, 2, -1, c / 65536, c / 256 % 256, c % 256] 6 rfl rfl (by decide) H0.out).drew
end Go.Proofs.YteepfecplabinaaDoor.Sgr
