/-
  ColB ColC
-/
import Derived.Deep.RegionWith
import Derived.Test.YtoilcigmpeaedaaGreatDoorF15
namespace Go.Proofs.YtoilcigmpeaedaaGreatDoor.Col
open Go.RowKit Utf

/-- what digit answers -/
def digV (b : UInt8) : Value := .tuple #[.int .i64 ((dig b).getD 0 : Nat), .bool (dig b).isSome]
theorem digV_some (b : UInt8) (d : Nat) (z : Int) (h : dig b = some d) (hz : z = d) : Value.tuple #[.int .i64 z, .bool true] = digV b := by
  rw [digV, h, hz]; rfl
theorem digV_none (b : UInt8) (h : dig b = none) : Value.tuple #[.int .i64 0, .bool false] = digV b := by
  rw [digV, h]; rfl
set_option maxRecDepth 100000 in
set_option maxHeartbeats 2000000 in
theorem digit_any (b : UInt8) (w : World) : Calls Tryz.prog 88 #[.int .u8 (b.toNat : Int)] w fun e w' => e = .returned (digV b) ∧ w = w' := by
  have hb : (b.toNat : Int) < 256 := by have := b.toNat_lt; omega
  by_cases h1 : 48 ≤ b.toNat ∧ b.toNat ≤ 57
  · have hf := Lib.hid (digV_some b (b.toNat - 48) ((b.toNat : Int) - 48) (by rw [dig, if_pos h1]) (by omega))
    have g1 : (48 : Int) ≤ b.toNat := by omega
    have g2 : (b.toNat : Int) ≤ 57 := by omega
    clear h1
    go_enter Tryz.func88, Tryz.ntmps88
    go_wp2
    go_ret2
    exact ⟨congrArg _ hf.out, rfl⟩
  · rcases (show (b.toNat : Int) < 48 ∨ ((48 : Int) ≤ b.toNat ∧ (57 : Int) < b.toNat) by omega) with g1 | ⟨g1, g2⟩
    · have hf := Lib.hid (digV_none b (by rw [dig, if_neg h1, if_neg (by omega), if_neg (by omega)]))
      clear h1
      go_enter Tryz.func88, Tryz.ntmps88
      go_wp2
      go_ret2
      exact ⟨congrArg _ hf.out, rfl⟩
    · by_cases h2 : 97 ≤ b.toNat ∧ b.toNat ≤ 102
      · have hf := Lib.hid (digV_some b (b.toNat - 97 + 10) ((b.toNat : Int) - 97 + 10) (by rw [dig, if_neg h1, if_pos h2]) (by omega))
        have g3 : (97 : Int) ≤ b.toNat := by omega
        have g4 : (b.toNat : Int) ≤ 102 := by omega
        clear h1 h2
        go_enter Tryz.func88, Tryz.ntmps88
        go_wp2
        go_ret2
        exact ⟨congrArg _ hf.out, rfl⟩
      · by_cases h3 : 65 ≤ b.toNat ∧ b.toNat ≤ 70
        · have hf := Lib.hid (digV_some b (b.toNat - 65 + 10) ((b.toNat : Int) - 65 + 10) (by rw [dig, if_neg h1, if_neg h2, if_pos h3]) (by omega))
          have g3 : (b.toNat : Int) < 97 := by omega
          have g4 : (65 : Int) ≤ b.toNat := by omega
          have g5 : (b.toNat : Int) ≤ 70 := by omega
          clear h1 h2 h3
          go_enter Tryz.func88, Tryz.ntmps88
          go_wp2
          go_ret2
          exact ⟨congrArg _ hf.out, rfl⟩
        · have hf := Lib.hid (digV_none b (by rw [dig, if_neg h1, if_neg h2, if_neg h3]))
          rcases (show (b.toNat : Int) < 65 ∨ ((65 : Int) ≤ b.toNat ∧ (70 : Int) < b.toNat ∧ (b.toNat : Int) < 97) ∨ ((97 : Int) ≤ b.toNat ∧ (102 : Int) < b.toNat) by omega) with g3 | ⟨g3, g4, g5⟩ | ⟨g3, g4⟩
          · clear h1 h2 h3
            have g4 : (b.toNat : Int) < 97 := by omega
            go_enter Tryz.func88, Tryz.ntmps88
            go_wp2
            go_ret2
            exact ⟨congrArg _ hf.out, rfl⟩
          · clear h1 h2 h3
            go_enter Tryz.func88, Tryz.ntmps88
            go_wp2
            go_ret2
            exact ⟨congrArg _ hf.out, rfl⟩
          · clear h1 h2 h3
            have g5 : (65 : Int) ≤ b.toNat := by omega
            have g6 : (70 : Int) < b.toNat := by omega
            go_enter Tryz.func88, Tryz.ntmps88
            go_wp2
            go_ret2
            exact ⟨congrArg _ hf.out, rfl⟩

theorem ofInt64 (a : Nat) (ha : a < 9223372036854775808) : (BitVec.ofInt 64 (a : Int)).toNat = a := by
  rw [BitVec.ofInt_natCast, BitVec.toNat_ofNat]; exact Nat.mod_eq_of_lt (by omega)
theorem or_i64 (a b : Nat) (ha : a < 9223372036854775808) (hb : b < 9223372036854775808) : bits .or .i64 (a : Int) (b : Int) = ((a ||| b : Nat) : Int) := by
  have hx : a ||| b < 2 ^ 63 := Nat.or_lt_two_pow (by omega) (by omega)
  show IntKind.i64.wrap ((BitVec.ofInt 64 (a : Int) ||| BitVec.ofInt 64 (b : Int)).toNat : Int) = _
  rw [BitVec.toNat_or, ofInt64 a ha, ofInt64 b hb, IntKind.wrap_i64]
  omega
theorem or_add (v q k : Nat) (hq : q < 2 ^ k) : (v * 2 ^ k) ||| q = v * 2 ^ k + q := by
  rw [Nat.mul_comm, ← Nat.two_pow_add_eq_or_of_lt hq]
theorem and255 (a : Nat) (ha : a < 9223372036854775808) : bits .and .i64 (a : Int) 255 = ((a % 256 : Nat) : Int) := by
  show IntKind.i64.wrap ((BitVec.ofInt 64 (a : Int) &&& BitVec.ofInt 64 ((255 : Nat) : Int)).toNat : Int) = _
  rw [BitVec.toNat_and, ofInt64 a ha, ofInt64 255 (by omega), IntKind.wrap_i64, show a &&& 255 = a % 256 from Nat.and_two_pow_sub_one_eq_mod a 8]
  omega
theorem and255' (a : Int) (h0 : 0 ≤ a) (ha : a < 9223372036854775808) : bits .and .i64 a 255 = a % 256 := by
  obtain ⟨n, rfl⟩ := Int.eq_ofNat_of_zero_le h0
  rw [and255 n (by omega)]; omega
theorem or_join (r g b : Nat) (h1 : r ≤ 255) (h2 : g ≤ 255) (h3 : b ≤ 255) : bits .or .i64 (bits .or .i64 ((r : Int) * 65536) ((g : Int) * 256)) (b : Int) = (r : Int) * 65536 + (g : Int) * 256 + (b : Int) := by
  have e1 : (r : Int) * 65536 = ((r * 65536 : Nat) : Int) := by omega
  have e2 : (g : Int) * 256 = ((g * 256 : Nat) : Int) := by omega
  rw [e1, e2, or_i64 _ _ (by omega) (by omega), show r * 65536 = r * 2 ^ 16 from rfl, or_add r _ 16 (by omega), or_i64 _ _ (by omega) (by omega), show r * 2 ^ 16 + g * 256 = (r * 256 + g) * 2 ^ 8 by omega, or_add _ b 8 (by omega)]
  omega

theorem join_any (r g b : Int) (w : World) (h1 : 0 ≤ r) (h2 : r ≤ 255) (h3 : 0 ≤ g) (h4 : g ≤ 255) (h5 : 0 ≤ b) (h6 : b ≤ 255) : Calls Tryz.prog 96 #[.int .i64 r, .int .i64 g, .int .i64 b] w fun e w' => e = .returned (.int .i64 (r * 65536 + g * 256 + b)) ∧ w = w' := by
  have hf := Lib.hid (show bits .or .i64 (bits .or .i64 (r * 65536) (g * 256)) b = r * 65536 + g * 256 + b by
    obtain ⟨r, rfl⟩ := Int.eq_ofNat_of_zero_le h1
    obtain ⟨g, rfl⟩ := Int.eq_ofNat_of_zero_le h3
    obtain ⟨b, rfl⟩ := Int.eq_ofNat_of_zero_le h5
    exact or_join r g b (by omega) (by omega) (by omega))
  go_enter Tryz.func96, Tryz.ntmps96
  go_wp2
  go_ret
  exact ⟨by rw [← hf.out]; rfl, rfl⟩

theorem lev_bd (n : Nat) (h : n < 6) : 0 ≤ lev n ∧ lev n ≤ 255 ∧ levT[n]? = some (lev n) := by
  have : ∀ n : Fin 6, 0 ≤ lev n.val ∧ lev n.val ≤ 255 ∧ levT[n.val]? = some (lev n.val) := by decide +kernel
  exact this ⟨n, h⟩
theorem pal_lo (n : Nat) (h : n < 16) : basT[n]? = some (pal n) := by
  have : ∀ n : Fin 16, basT[n.val]? = some (pal n.val) := by decide +kernel
  exact this ⟨n, h⟩
theorem pal_mid (n : Nat) (h1 : 16 ≤ n) (h2 : n < 232) : pal n = lev ((n - 16) / 36) * 65536 + lev ((n - 16) / 6 % 6) * 256 + lev ((n - 16) % 6) := by
  rw [pal, if_neg (by omega), if_pos h2]
theorem pal_hi (n : Nat) (h1 : 232 ≤ n) : pal n = (8 + 10 * ((n : Int) - 232)) * 65536 + (8 + 10 * ((n : Int) - 232)) * 256 + (8 + 10 * ((n : Int) - 232)) := by
  rw [pal, if_neg (by omega), if_neg (by omega)]; omega

set_option maxRecDepth 100000 in
set_option maxHeartbeats 2000000 in
theorem palette_any (n : Nat) (w : World) (h : Tc w) (hn : n < 256) : Calls Tryz.prog 80 #[.int .i64 (n : Int)] w fun e w' => e = .returned (.int .i64 (pal n)) ∧ Below w.heap.size w w' := by
  by_cases h1 : n < 16
  · have hc := h.bas n _ (pal_lo n h1)
    have hlt := h.2.1.1
    clear h
    go_enter Tryz.func80, Tryz.ntmps80
    go_wp2
    go_ret
    exact ⟨rfl, Below.refl _ _⟩
  · by_cases h2 : n < 232
    · obtain ⟨m, rfl⟩ : ∃ m, n = m + 16 := ⟨n - 16, by omega⟩
      have hp := pal_mid (m + 16) (by omega) h2
      rw [Nat.add_sub_cancel] at hp
      obtain ⟨i, hi⟩ : ∃ i, m / 36 = i := ⟨_, rfl⟩
      obtain ⟨j, hj⟩ : ∃ j, m / 6 = j := ⟨_, rfl⟩
      obtain ⟨l, hl⟩ : ∃ l, j % 6 = l := ⟨_, rfl⟩
      obtain ⟨o, ho⟩ : ∃ o, m % 6 = o := ⟨_, rfl⟩
      rw [hi, hj, hl, ho] at hp
      have q1 : IntKind.i64.wrap ((m : Int) / 36) = (i : Int) := by rw [IntWalk.i64_in _ (by omega)]; omega
      have q2 : IntKind.i64.wrap ((m : Int) / 6) = (j : Int) := by rw [IntWalk.i64_in _ (by omega)]; omega
      have q3 : (j : Int) % 6 = (l : Int) := by omega
      have q4 : (m : Int) % 6 = (o : Int) := by omega
      have q5 : i < 6 := by omega
      have q6 : l < 6 := by omega
      have q7 : o < 6 := by omega
      have q8 : j < 36 := by omega
      have r5 : (i : Int) < 6 := by omega
      have r6 : (l : Int) < 6 := by omega
      have r7 : (o : Int) < 6 := by omega
      have r8 : (j : Int) < 36 := by omega
      clear hi hj hl ho
      obtain ⟨a1, a2, a3⟩ := lev_bd i q5
      obtain ⟨b1, b2, b3⟩ := lev_bd l q6
      obtain ⟨c1, c2, c3⟩ := lev_bd o q7
      have hf := Lib.hid hp; clear hp
      have ha := h.lev _ _ a3
      have hb := h.lev _ _ b3
      have hc := h.lev _ _ c3
      have hlt := h.2.2.1
      clear h a3 b3 c3
      go_enter Tryz.func80, Tryz.ntmps80
      go_wp2_with fail
      go_quiet ((go_at_call 96; exact (join_any _ _ _ _ a1 a2 b1 b2 c1 c2).mono fun _ _ ⟨he, hm⟩ => ⟨he, _, hm.symm⟩))
      go_wp2
      go_ret
      exact ⟨by rw [hf.out]; rfl, below_drewN' (Below.refl _ _) _⟩
    · have hf := Lib.hid (pal_hi n (by omega))
      go_enter Tryz.func80, Tryz.ntmps80
      go_wp2_with (go_at_call 96; refine (join_any _ _ _ _ (by omega) (by omega) (by omega) (by omega) (by omega) (by omega)).mono ?_; rintro e w' ⟨rfl, rfl⟩)
      go_ret
      exact ⟨by rw [hf.out]; rfl, Below.refl _ _⟩
end Go.Proofs.YtoilcigmpeaedaaGreatDoor.Col

namespace Go.Proofs.YtoilcigmpeaedaaGreatDoor.Col
open Go.RowKit Utf

/-- what Rgb answers -/
def rgbV (k n : Int) : Value := .tuple #[.int .i64 ((rgbC k n).getD 0), .bool (rgbC k n).isSome]
theorem rgbV_none (k n : Int) (h : rgbC k n = none) : Value.tuple #[.int .i64 0, .bool false] = rgbV k n := by rw [rgbV, h]; rfl
theorem rgbV_some (k n x : Int) (h : rgbC k n = some x) : Value.tuple #[.int .i64 x, .bool true] = rgbV k n := by rw [rgbV, h]; rfl
theorem ok_cases (k n : Int) (h : okC k n = true) : (k = 0 ∧ n = 0) ∨ (k = 1 ∧ 0 ≤ n ∧ n ≤ 255) ∨ (k = 2 ∧ 0 ≤ n ∧ n ≤ 16777215) := by simpa [okC] using h

set_option maxRecDepth 100000 in
set_option maxHeartbeats 2000000 in
theorem rgb_any (k n : Int) (w : World) (h : Tc w) : Calls Tryz.prog 51 #[colV k n] w fun e w' => e = .returned (rgbV k n) ∧ Below w.heap.size w w' := by
  have H := Lib.hid h; clear h
  cases ho : okC k n with
  | false =>
    have hf := Lib.hid (rgbV_none k n (by rw [rgbC, ho]; rfl))
    have he := Lib.hid (show errC k n = 130 by rw [errC, ho]; rfl)
    clear ho
    unfold colV
    go_enter Tryz.func51, Tryz.ntmps51
    go_wp2_with fail
    refine (check_any k n _ ((H.out).keep (below_box _ _))).mono ?_
    rw [he.out]
    rintro e w1 ⟨rfl, hb1⟩
    go_wp2
    go_ret2
    exact ⟨congrArg _ hf.out, (below_box _ _).trans (hb1.mono (by simp))⟩
  | true =>
    have he := Lib.hid (show errC k n = 0 by rw [errC, ho]; rfl)
    rcases ok_cases k n ho with ⟨rfl, rfl⟩ | ⟨rfl, h1, h2⟩ | ⟨rfl, h1, h2⟩
    · have hf := Lib.hid (rgbV_none 0 0 rfl)
      clear ho
      unfold colV
      go_enter Tryz.func51, Tryz.ntmps51
      go_wp2_with fail
      refine (check_any 0 0 _ ((H.out).keep (below_box _ _))).mono ?_
      rw [he.out]
      rintro e w1 ⟨rfl, hb1⟩
      have c0 := (hb1.cell (p := ⟨w.heap.size, 0, none⟩) (by simp))
      go_wp2
      go_ret2
      exact ⟨congrArg _ hf.out, (below_box _ _).trans (hb1.mono (by simp))⟩
    · obtain ⟨m, rfl⟩ := Int.eq_ofNat_of_zero_le h1
      have hf := Lib.hid (rgbV_some 1 (m : Int) (pal m) (by rw [rgbC, ho, if_pos rfl, if_neg (by omega), if_pos rfl, Int.toNat_natCast]))
      clear ho
      unfold colV
      go_enter Tryz.func51, Tryz.ntmps51
      go_wp2_with fail
      refine (check_any 1 (m : Int) _ ((H.out).keep (below_box _ _))).mono ?_
      rw [he.out]
      rintro e w1 ⟨rfl, hb1⟩
      have c0 := (hb1.cell (p := ⟨w.heap.size, 0, none⟩) (by simp))
      have c1 := (hb1.cell (p := ⟨w.heap.size, 1, none⟩) (by simp))
      go_wp2_with fail
      have hb2 : Below w.heap.size w w1 := (below_box _ _).trans (hb1.mono (by simp))
      refine (palette_any m _ ((H.out).keep hb2) (by omega)).mono ?_
      rintro e w2 ⟨rfl, hb3⟩
      go_wp2
      go_ret2
      exact ⟨congrArg _ hf.out, hb2.trans (hb3.mono hb2.size)⟩
    · have hf := Lib.hid (rgbV_some 2 n n (by rw [rgbC, ho, if_pos rfl, if_neg (by omega), if_neg (by omega)]))
      clear ho
      unfold colV
      go_enter Tryz.func51, Tryz.ntmps51
      go_wp2_with fail
      refine (check_any 2 n _ ((H.out).keep (below_box _ _))).mono ?_
      rw [he.out]
      rintro e w1 ⟨rfl, hb1⟩
      have c0 := (hb1.cell (p := ⟨w.heap.size, 0, none⟩) (by simp))
      have c1 := (hb1.cell (p := ⟨w.heap.size, 1, none⟩) (by simp))
      go_wp2
      go_ret2
      exact ⟨congrArg _ hf.out, (below_box _ _).trans (hb1.mono (by simp))⟩

/-- the three components of a number lie in three boxes -/
def Dat (w : World) (B : Nat) (x : Int) : Prop := B + 2 < w.heap.size ∧ w.cell? ⟨B, 0, none⟩ = some (.int .i64 (x / 65536)) ∧ w.cell? ⟨B + 1, 0, none⟩ = some (.int .i64 (x / 256 % 256)) ∧ w.cell? ⟨B + 2, 0, none⟩ = some (.int .i64 (x % 256))
theorem Dat.keep {w w' : World} {B : Nat} {x : Int} (h : Dat w B x) (hb : Below w.heap.size w w') : Dat w' B x := by
  obtain ⟨h0, h1, h2, h3⟩ := h
  exact ⟨Nat.lt_of_lt_of_le h0 hb.size, (hb.cell (p := ⟨B, 0, none⟩) (show B < _ by omega)).trans h1, (hb.cell (p := ⟨B + 1, 0, none⟩) (show B + 1 < _ by omega)).trans h2, (hb.cell (p := ⟨B + 2, 0, none⟩) (show B + 2 < _ by omega)).trans h3⟩
theorem cell_new (w : World) (v : Value) (t : TypeId) : (w.alloc (.cells #[v] t)).cell? ⟨w.heap.size, 0, none⟩ = some v := by
  have := cell_one_new w v t 0 v rfl
  exact this
theorem cell_box (w : World) (o : Obj) (B k : Nat) (v : Value) (h : w.cell? ⟨B, k, none⟩ = some v) (hb : B < w.heap.size) : (w.alloc o).cell? ⟨B, k, none⟩ = some v := ((below_box w o).cell (p := ⟨B, k, none⟩) hb).trans h
theorem dat_new (w : World) (x : Int) (t : TypeId) : Dat (((w.alloc (.cells #[.int .i64 (x / 65536)] t)).alloc (.cells #[.int .i64 (x / 256 % 256)] t)).alloc (.cells #[.int .i64 (x % 256)] t)) w.heap.size x := by
  refine ⟨by simp, ?_, ?_, ?_⟩
  · exact cell_box _ _ _ _ _ (cell_box _ _ _ _ _ (cell_new _ _ _) (by simp)) (by simp; omega)
  · have := cell_new (w.alloc (.cells #[.int .i64 (x / 65536)] t)) (.int .i64 (x / 256 % 256)) t
    rw [World.size_alloc] at this
    exact cell_box _ _ _ _ _ this (by simp)
  · have := cell_new ((w.alloc (.cells #[.int .i64 (x / 65536)] t)).alloc (.cells #[.int .i64 (x / 256 % 256)] t)) (.int .i64 (x % 256)) t
    rw [World.size_alloc, World.size_alloc] at this
    exact this

theorem w64_in (n : Int) (h : -9223372036854775808 ≤ n ∧ n ≤ 9223372036854775807) : wrap64 n = n := by unfold wrap64; omega
theorem dst_w (x y : Int) (h1 : 0 ≤ x) (h2 : x ≤ 16777215) (h3 : 0 ≤ y) (h4 : y ≤ 16777215) : wrap64 (wrap64 (wrap64 ((x / 65536 - y / 65536) * (x / 65536 - y / 65536)) + wrap64 ((x / 256 % 256 - y / 256 % 256) * (x / 256 % 256 - y / 256 % 256))) + wrap64 ((x % 256 - y % 256) * (x % 256 - y % 256))) = dst x y := by
  have b1 := sq_bd (x / 65536 - y / 65536) (by omega) (by omega)
  have b2 := sq_bd (x / 256 % 256 - y / 256 % 256) (by omega) (by omega)
  have b3 := sq_bd (x % 256 - y % 256) (by omega) (by omega)
  unfold dst
  generalize (x / 65536 - y / 65536) * (x / 65536 - y / 65536) = a at *
  generalize (x / 256 % 256 - y / 256 % 256) * (x / 256 % 256 - y / 256 % 256) = b at *
  generalize (x % 256 - y % 256) * (x % 256 - y % 256) = c at *
  rw [w64_in a (by omega), w64_in b (by omega), w64_in c (by omega), w64_in (a + b) (by omega), w64_in _ (by omega)]
theorem nearL_succ_yes (x : Int) (k : Nat) (h : dst x (pal (k + 1)) < dst x (pal (nearL x k))) : nearL x (k + 1) = k + 1 := by rw [nearL, if_pos h]
theorem nearL_succ_no (x : Int) (k : Nat) (h : ¬ dst x (pal (k + 1)) < dst x (pal (nearL x k))) : nearL x (k + 1) = nearL x k := by rw [nearL, if_neg h]
/-- what Nearest answers -/
def nearV (x : Int) : Value := .tuple #[.int .i64 (nearC x), .int .i64 (nearE x)]
end Go.Proofs.YtoilcigmpeaedaaGreatDoor.Col
