/-
  Contracts of the reference's Check, Index, Rgb, Far, Nearest of layer 3.
-/
import Derived.Test.YtddgigiajenmkaaDoorColF
namespace Go.Proofs.YtddgigiajenmkaaDoor.Col
open Go.RowKit Utf

set_option maxRecDepth 100000 in
set_option maxHeartbeats 2000000 in
theorem rcheck_any (k n : Int) (w : World) : Calls Tryd.prog 15 #[colV k n] w fun e w' => e = .returned (.int .i64 (errC k n)) ∧ Below w.heap.size w w' := by
  unfold colV
  by_cases k0 : k = 0
  · subst k0
    by_cases n0 : n = 0
    · subst n0
      have hf := Lib.hid (errC_ok 0 0 (by omega))
      go_enter Tryd.func15, Tryd.ntmps15
      go_wp2
      go_ret
      exact ⟨by rw [hf.out]; rfl, below_box _ _⟩
    · have hf := Lib.hid (errC_no 0 n (by omega))
      have d0 : (n == 0) = false := by simp [n0]
      go_enter Tryd.func15, Tryd.ntmps15
      go_wp2
      go_ret
      exact ⟨by rw [hf.out]; rfl, below_box _ _⟩
  · have d0 : (k == 0) = false := by simp [k0]
    by_cases k1 : k = 1
    · subst k1
      by_cases n0 : 0 ≤ n
      · by_cases n1 : n ≤ 255
        · have hf := Lib.hid (errC_ok 1 n (by omega))
          go_enter Tryd.func15, Tryd.ntmps15
          go_wp2
          go_ret
          exact ⟨by rw [hf.out]; rfl, below_box _ _⟩
        · have hf := Lib.hid (errC_no 1 n (by omega))
          have n1 : 255 < n := by omega
          go_enter Tryd.func15, Tryd.ntmps15
          go_wp2
          go_ret
          exact ⟨by rw [hf.out]; rfl, below_box _ _⟩
      · have hf := Lib.hid (errC_no 1 n (by omega))
        have n1 : n < 0 := by omega
        go_enter Tryd.func15, Tryd.ntmps15
        go_wp2
        go_ret
        exact ⟨by rw [hf.out]; rfl, below_box _ _⟩
    · have d1 : (k == 1) = false := by simp [k1]
      by_cases k2 : k = 2
      · subst k2
        by_cases n0 : 0 ≤ n
        · by_cases n1 : n ≤ 16777215
          · have hf := Lib.hid (errC_ok 2 n (by omega))
            have e1 : decide (n ≤ 16777215) = true := decide_eq_true n1
            go_enter Tryd.func15, Tryd.ntmps15
            go_wp2
            go_ret
            exact ⟨by rw [hf.out]; rfl, below_box _ _⟩
          · have hf := Lib.hid (errC_no 2 n (by omega))
            have e1 : decide (n ≤ 16777215) = false := decide_eq_false n1
            clear n1
            go_enter Tryd.func15, Tryd.ntmps15
            go_wp2
            go_ret
            exact ⟨by rw [hf.out]; rfl, below_box _ _⟩
        · have hf := Lib.hid (errC_no 2 n (by omega))
          have n1 : n < 0 := by omega
          go_enter Tryd.func15, Tryd.ntmps15
          go_wp2
          go_ret
          exact ⟨by rw [hf.out]; rfl, below_box _ _⟩
      · have d2 : (k == 2) = false := by simp [k2]
        have hf := Lib.hid (errC_no k n (by omega))
        go_enter Tryd.func15, Tryd.ntmps15
        go_wp2
        go_ret
        exact ⟨by rw [hf.out]; rfl, below_box _ _⟩

theorem far_w (x y : Int) (h1 : 0 ≤ x) (h2 : x ≤ 16777215) (h3 : 0 ≤ y) (h4 : y ≤ 16777215) : wrap64 (wrap64 (wrap64 ((x / 65536 - y / 65536) * (x / 65536 - y / 65536)) + wrap64 ((x / 256 % 256 - y / 256 % 256) * (x / 256 % 256 - y / 256 % 256))) + wrap64 ((x % 256 - y % 256) * (x % 256 - y % 256))) = dst y x := by
  rw [dst_w x y h1 h2 h3 h4, dst_comm]
set_option maxRecDepth 100000 in
set_option maxHeartbeats 2000000 in
theorem rfar_any (x y : Int) (w : World) (h1 : 0 ≤ x) (h2 : x ≤ 16777215) (h3 : 0 ≤ y) (h4 : y ≤ 16777215) : Calls Tryd.prog 30 #[.int .i64 x, .int .i64 y] w fun e w' => e = .returned (.int .i64 (dst y x)) ∧ w = w' := by
  have hf := Lib.hid (far_w x y h1 h2 h3 h4)
  go_enter Tryd.func30, Tryd.ntmps30
  go_wp2
  go_ret
  exact ⟨by rw [← hf.out]; rfl, rfl⟩

/-- the array that the reference lays -/
theorem pal_mid' (m : Nat) (h : m < 216) : pal (m + 16) = lev (m / 36) * 65536 + lev (m / 6 % 6) * 256 + lev (m % 6) := by
  have := pal_mid (m + 16) (by omega) (by omega)
  rwa [Nat.add_sub_cancel] at this
theorem bas_at (n : Nat) (h : n < 16) (h' : n < (cI basT).length) : (cI basT)[n] = .int .i64 (pal n) := by
  have := cI_at basT n _ (pal_lo n h)
  exact (List.getElem?_eq_some_iff.1 this).2
theorem pal_hi' (n : Nat) (h1 : 232 ≤ n) : pal n = (8 + 10 * ((n : Int) - 232)) * 65793 := by
  rw [pal, if_neg (by omega), if_neg (by omega)]
set_option maxRecDepth 100000 in
set_option maxHeartbeats 4000000 in
theorem rindex_lo (n : Nat) (w : World) (h1 : n < 16) : Calls Tryd.prog 17 #[.int .i64 (n : Int)] w fun e w' => e = .returned (.int .i64 (pal n)) ∧ Below w.heap.size w w' := by
  go_enter Tryd.func17, Tryd.ntmps17
  go_wp2
  go_ret
  exact ⟨congrArg Ending.returned (bas_at n h1 (by rw [cI_len]; exact h1)), below_box _ _⟩
set_option maxRecDepth 100000 in
set_option maxHeartbeats 4000000 in
theorem rindex_hi (n : Nat) (w : World) (h1 : 232 ≤ n) (hn : n < 256) : Calls Tryd.prog 17 #[.int .i64 (n : Int)] w fun e w' => e = .returned (.int .i64 (pal n)) ∧ Below w.heap.size w w' := by
  have hf := Lib.hid (pal_hi' n h1)
  go_enter Tryd.func17, Tryd.ntmps17
  go_wp2
  go_ret
  exact ⟨by rw [hf.out]; rfl, below_box _ _⟩
theorem cell_row (w : World) (l : List Int) (t : TypeId) (B i : Nat) (z : Int) (hB : B = w.heap.size) (hz : l[i]? = some z) : (w.alloc (.cells (cI l).toArray t)).cell? ⟨B, i, none⟩ = some (.int .i64 z) := by
  subst hB
  rw [cell_of_row _ _ _ (cI l).toArray t (0, 0) (heap_alloc_new w _)]
  simpa using cI_at l i z hz
set_option maxRecDepth 100000 in
set_option maxHeartbeats 4000000 in
theorem rindex_mid (m : Nat) (w : World) (h2 : m < 216) : Calls Tryd.prog 17 #[.int .i64 ((m + 16 : Nat) : Int)] w fun e w' => e = .returned (.int .i64 (pal (m + 16))) ∧ Below w.heap.size w w' := by
  have hp := pal_mid' m h2
  obtain ⟨i, hi⟩ : ∃ i, m / 36 = i := ⟨_, rfl⟩
  obtain ⟨j, hj⟩ : ∃ j, m / 6 = j := ⟨_, rfl⟩
  obtain ⟨l, hl⟩ : ∃ l, j % 6 = l := ⟨_, rfl⟩
  obtain ⟨o, ho⟩ : ∃ o, m % 6 = o := ⟨_, rfl⟩
  rw [hi, hj, hl, ho] at hp
  have q1 : IntKind.i64.wrap ((m : Int) / 36) = (i : Int) := by rw [IntWalk.i64_in _ (by omega)]; omega
  have q2 : IntKind.i64.wrap ((m : Int) / 6) = (j : Int) := by rw [IntWalk.i64_in _ (by omega)]; omega
  have q3 : (j : Int) % 6 = (l : Int) := by omega
  have q4 : (m : Int) % 6 = (o : Int) := by omega
  have r5 : (i : Int) < 6 := by omega
  have r6 : (l : Int) < 6 := by omega
  have r7 : (o : Int) < 6 := by omega
  have r8 : (j : Int) < 36 := by omega
  obtain ⟨a1, a2, a3⟩ := lev_bd i (by omega)
  obtain ⟨b1, b2, b3⟩ := lev_bd l (by omega)
  obtain ⟨c1, c2, c3⟩ := lev_bd o (by omega)
  clear hi hj hl ho
  have hf := Lib.hid hp; clear hp
  go_enter Tryd.func17, Tryd.ntmps17
  go_wp2_with fail
  have k1 := cell_row (w.alloc (.cells (cI basT).toArray 57)) levT 55 (w.heap.size + 1) i _ (by simp) a3
  have k2 := cell_row (w.alloc (.cells (cI basT).toArray 57)) levT 55 (w.heap.size + 1) l _ (by simp) b3
  have k3 := cell_row (w.alloc (.cells (cI basT).toArray 57)) levT 55 (w.heap.size + 1) o _ (by simp) c3
  have hlt : w.heap.size + 1 < ((w.alloc (.cells (cI basT).toArray 57)).alloc (.cells (cI levT).toArray 55)).heap.size := by simp
  have hB : Below w.heap.size w ((w.alloc (.cells (cI basT).toArray 57)).alloc (.cells (cI levT).toArray 55)) := ((Below.refl _ w).alloc (Nat.le_refl _) _).alloc (by simp) _
  change Code.wp _ _ _ _ ((w.alloc (.cells (cI basT).toArray 57)).alloc (.cells (cI levT).toArray 55))
  generalize (w.alloc (.cells (cI basT).toArray 57)).alloc (.cells (cI levT).toArray 55) = W at k1 k2 k3 hlt hB ⊢
  clear a3 b3 c3
  go_quiet (fail)
  go_wp2
  go_ret
  exact ⟨by rw [hf.out]; rfl, below_drewN' hB _⟩
theorem rindex_any (n : Nat) (w : World) (hn : n < 256) : Calls Tryd.prog 17 #[.int .i64 (n : Int)] w fun e w' => e = .returned (.int .i64 (pal n)) ∧ Below w.heap.size w w' := by
  by_cases h1 : n < 16
  · exact rindex_lo n w h1
  · by_cases h2 : 232 ≤ n
    · exact rindex_hi n w h2 hn
    · obtain ⟨m, rfl⟩ : ∃ m, n = m + 16 := ⟨n - 16, by omega⟩
      exact rindex_mid m w (by omega)
end Go.Proofs.YtddgigiajenmkaaDoor.Col
