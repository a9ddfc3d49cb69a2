/-
  StyK StyL StyM StyN
-/
import Derived.Test.YteepfecplabinaaDoorP14
import Derived.Test.YteepfecplabinaaDoorP16
namespace Go.Proofs.YteepfecplabinaaDoor.Sty
open Go.RowKit Utf Col

theorem attr_yes (m : Int) (h : m = 1 ∨ m = 2 ∨ m = 4 ∨ m = 8 ∨ m = 16 ∨ m = 32 ∨ m = 64 ∨ m = 128) : attr m = true := decide_eq_true h
theorem attr_not (m : Int) (h : ¬ (m = 1 ∨ m = 2 ∨ m = 4 ∨ m = 8 ∨ m = 16 ∨ m = 32 ∨ m = 64 ∨ m = 128)) : attr m = false := decide_eq_false h
def pw (k : Nat) : Int := [1, 2, 4, 8, 16, 32, 64, 128].getD k 0
set_option maxRecDepth 100000 in
set_option maxHeartbeats 4000000 in
theorem rattribute_any (m : Int) (w : World) : Calls Tryd.prog 63 #[.int .i64 m] w fun e w' => e = .returned (.bool (attr m)) ∧ w = w' := by
  have x0 : ∀ W, (Instr.index 109 (.agg #[.int .i64 1, .int .i64 2, .int .i64 4, .int .i64 8, .int .i64 16, .int .i64 32, .int .i64 64, .int .i64 128]) (.int .i64 0)).run Tryd.prog W = .ok (.int .i64 1) W := fun _ => by kernel_rfl
  have x1 : ∀ W, (Instr.index 109 (.agg #[.int .i64 1, .int .i64 2, .int .i64 4, .int .i64 8, .int .i64 16, .int .i64 32, .int .i64 64, .int .i64 128]) (.int .i64 1)).run Tryd.prog W = .ok (.int .i64 2) W := fun _ => by kernel_rfl
  have x2 : ∀ W, (Instr.index 109 (.agg #[.int .i64 1, .int .i64 2, .int .i64 4, .int .i64 8, .int .i64 16, .int .i64 32, .int .i64 64, .int .i64 128]) (.int .i64 2)).run Tryd.prog W = .ok (.int .i64 4) W := fun _ => by kernel_rfl
  have x3 : ∀ W, (Instr.index 109 (.agg #[.int .i64 1, .int .i64 2, .int .i64 4, .int .i64 8, .int .i64 16, .int .i64 32, .int .i64 64, .int .i64 128]) (.int .i64 3)).run Tryd.prog W = .ok (.int .i64 8) W := fun _ => by kernel_rfl
  have x4 : ∀ W, (Instr.index 109 (.agg #[.int .i64 1, .int .i64 2, .int .i64 4, .int .i64 8, .int .i64 16, .int .i64 32, .int .i64 64, .int .i64 128]) (.int .i64 4)).run Tryd.prog W = .ok (.int .i64 16) W := fun _ => by kernel_rfl
  have x5 : ∀ W, (Instr.index 109 (.agg #[.int .i64 1, .int .i64 2, .int .i64 4, .int .i64 8, .int .i64 16, .int .i64 32, .int .i64 64, .int .i64 128]) (.int .i64 5)).run Tryd.prog W = .ok (.int .i64 32) W := fun _ => by kernel_rfl
  have x6 : ∀ W, (Instr.index 109 (.agg #[.int .i64 1, .int .i64 2, .int .i64 4, .int .i64 8, .int .i64 16, .int .i64 32, .int .i64 64, .int .i64 128]) (.int .i64 6)).run Tryd.prog W = .ok (.int .i64 64) W := fun _ => by kernel_rfl
  have x7 : ∀ W, (Instr.index 109 (.agg #[.int .i64 1, .int .i64 2, .int .i64 4, .int .i64 8, .int .i64 16, .int .i64 32, .int .i64 64, .int .i64 128]) (.int .i64 7)).run Tryd.prog W = .ok (.int .i64 128) W := fun _ => by kernel_rfl
  go_enter Tryd.func63, Tryd.ntmps63
  go_wp2_with fail
  go_loopw [3] (fun i wr => ∃ k : Nat, k ≤ 8 ∧ i = .int .i64 k ∧ Hid (w = wr ∧ ∀ j, j < k → m ≠ pw j)) (fun i _ => 8 - (intOf i).toNat)
  case atStart => exact ⟨0, by omega, rfl, Lib.hid ⟨rfl, fun j hj => by omega⟩⟩
  case round =>
    obtain ⟨k, hk, rfl, hid⟩ := hrel
    obtain ⟨rfl, hq⟩ := hid.out
    clear hid
    rcases (show k = 0 ∨ k = 1 ∨ k = 2 ∨ k = 3 ∨ k = 4 ∨ k = 5 ∨ k = 6 ∨ k = 7 ∨ k = 8 by omega) with rfl | rfl | rfl | rfl | rfl | rfl | rfl | rfl | rfl
    · rw [show (((0 : Nat)) : Int) = 0 from rfl]
      by_cases hm : m = 1
      · have Hf := Lib.hid (attr_yes m (by omega))
        subst hm
        clear hq
        go_wp2
        go_ret
        exact ⟨by rw [Hf.out]; rfl, rfl⟩
      · have Hq := Lib.hid (show ∀ j, j < 1 → m ≠ pw j from fun j hj => by
          rcases Nat.lt_succ_iff_lt_or_eq.1 hj with h | h
          · exact hq j h
          · subst h; exact hm)
        have d0 : (m == 1) = false := by simp [hm]
        clear hq hm
        go_wp2
        go_roundw
        case rel => exact ⟨1, by omega, rfl, Lib.hid ⟨by trivial, Hq.out⟩⟩
        case measure => simp [intOf]
    · rw [show (((1 : Nat)) : Int) = 1 from rfl]
      by_cases hm : m = 2
      · have Hf := Lib.hid (attr_yes m (by omega))
        subst hm
        clear hq
        go_wp2
        go_ret
        exact ⟨by rw [Hf.out]; rfl, rfl⟩
      · have Hq := Lib.hid (show ∀ j, j < 2 → m ≠ pw j from fun j hj => by
          rcases Nat.lt_succ_iff_lt_or_eq.1 hj with h | h
          · exact hq j h
          · subst h; exact hm)
        have d0 : (m == 2) = false := by simp [hm]
        clear hq hm
        go_wp2
        go_roundw
        case rel => exact ⟨2, by omega, rfl, Lib.hid ⟨by trivial, Hq.out⟩⟩
        case measure => simp [intOf]
    · rw [show (((2 : Nat)) : Int) = 2 from rfl]
      by_cases hm : m = 4
      · have Hf := Lib.hid (attr_yes m (by omega))
        subst hm
        clear hq
        go_wp2
        go_ret
        exact ⟨by rw [Hf.out]; rfl, rfl⟩
      · have Hq := Lib.hid (show ∀ j, j < 3 → m ≠ pw j from fun j hj => by
          rcases Nat.lt_succ_iff_lt_or_eq.1 hj with h | h
          · exact hq j h
          · subst h; exact hm)
        have d0 : (m == 4) = false := by simp [hm]
        clear hq hm
        go_wp2
        go_roundw
        case rel => exact ⟨3, by omega, rfl, Lib.hid ⟨by trivial, Hq.out⟩⟩
        case measure => simp [intOf]
    · rw [show (((3 : Nat)) : Int) = 3 from rfl]
      by_cases hm : m = 8
      · have Hf := Lib.hid (attr_yes m (by omega))
        subst hm
        clear hq
        go_wp2
        go_ret
        exact ⟨by rw [Hf.out]; rfl, rfl⟩
      · have Hq := Lib.hid (show ∀ j, j < 4 → m ≠ pw j from fun j hj => by
          rcases Nat.lt_succ_iff_lt_or_eq.1 hj with h | h
          · exact hq j h
          · subst h; exact hm)
        have d0 : (m == 8) = false := by simp [hm]
        clear hq hm
        go_wp2
        go_roundw
        case rel => exact ⟨4, by omega, rfl, Lib.hid ⟨by trivial, Hq.out⟩⟩
        case measure => simp [intOf]
    · rw [show (((4 : Nat)) : Int) = 4 from rfl]
      by_cases hm : m = 16
      · have Hf := Lib.hid (attr_yes m (by omega))
        subst hm
        clear hq
        go_wp2
        go_ret
        exact ⟨by rw [Hf.out]; rfl, rfl⟩
      · have Hq := Lib.hid (show ∀ j, j < 5 → m ≠ pw j from fun j hj => by
          rcases Nat.lt_succ_iff_lt_or_eq.1 hj with h | h
          · exact hq j h
          · subst h; exact hm)
        have d0 : (m == 16) = false := by simp [hm]
        clear hq hm
        go_wp2
        go_roundw
        case rel => exact ⟨5, by omega, rfl, Lib.hid ⟨by trivial, Hq.out⟩⟩
        case measure => simp [intOf]
    · rw [show (((5 : Nat)) : Int) = 5 from rfl]
      by_cases hm : m = 32
      · have Hf := Lib.hid (attr_yes m (by omega))
        subst hm
        clear hq
        go_wp2
        go_ret
        exact ⟨by rw [Hf.out]; rfl, rfl⟩
      · have Hq := Lib.hid (show ∀ j, j < 6 → m ≠ pw j from fun j hj => by
          rcases Nat.lt_succ_iff_lt_or_eq.1 hj with h | h
          · exact hq j h
          · subst h; exact hm)
        have d0 : (m == 32) = false := by simp [hm]
        clear hq hm
        go_wp2
        go_roundw
        case rel => exact ⟨6, by omega, rfl, Lib.hid ⟨by trivial, Hq.out⟩⟩
        case measure => simp [intOf]
    · rw [show (((6 : Nat)) : Int) = 6 from rfl]
      by_cases hm : m = 64
      · have Hf := Lib.hid (attr_yes m (by omega))
        subst hm
        clear hq
        go_wp2
        go_ret
        exact ⟨by rw [Hf.out]; rfl, rfl⟩
      · have Hq := Lib.hid (show ∀ j, j < 7 → m ≠ pw j from fun j hj => by
          rcases Nat.lt_succ_iff_lt_or_eq.1 hj with h | h
          · exact hq j h
          · subst h; exact hm)
        have d0 : (m == 64) = false := by simp [hm]
        clear hq hm
        go_wp2
        go_roundw
        case rel => exact ⟨7, by omega, rfl, Lib.hid ⟨by trivial, Hq.out⟩⟩
        case measure => simp [intOf]
    · rw [show (((7 : Nat)) : Int) = 7 from rfl]
      by_cases hm : m = 128
      · have Hf := Lib.hid (attr_yes m (by omega))
        subst hm
        clear hq
        go_wp2
        go_ret
        exact ⟨by rw [Hf.out]; rfl, rfl⟩
      · have Hq := Lib.hid (show ∀ j, j < 8 → m ≠ pw j from fun j hj => by
          rcases Nat.lt_succ_iff_lt_or_eq.1 hj with h | h
          · exact hq j h
          · subst h; exact hm)
        have d0 : (m == 128) = false := by simp [hm]
        clear hq hm
        go_wp2
        go_roundw
        case rel => exact ⟨8, by omega, rfl, Lib.hid ⟨by trivial, Hq.out⟩⟩
        case measure => simp [intOf]
    · rw [show (((8 : Nat)) : Int) = 8 from rfl]
      have Hf := Lib.hid (attr_not m (by
        intro h
        rcases h with h | h | h | h | h | h | h | h
        · exact hq 0 (by omega) h
        · exact hq 1 (by omega) h
        · exact hq 2 (by omega) h
        · exact hq 3 (by omega) h
        · exact hq 4 (by omega) h
        · exact hq 5 (by omega) h
        · exact hq 6 (by omega) h
        · exact hq 7 (by omega) h))
      clear hq
      go_wp2
      go_ret
      exact ⟨by rw [Hf.out]; rfl, rfl⟩
end Go.Proofs.YteepfecplabinaaDoor.Sty

namespace Go.Proofs.YteepfecplabinaaDoor.Sty
open Go.RowKit Utf Col

theorem two_boxes (w : World) (o o' : Obj) : Below w.heap.size w ((w.alloc o).alloc o') := (below_box w o).alloc (by simp) _
theorem errP_is (k n m c0 c1 : Int) (t : ByteArray) (z : Bool) (h : fitP n m c0 c1 = z) : errP ⟨k, n, m, c0, c1, t⟩ = if (k == 39 && t.toList.isEmpty) && z then 0 else 141 := by
  unfold errP okP; rw [← h, Bool.and_assoc]
set_option maxRecDepth 100000 in
set_option maxHeartbeats 8000000 in
theorem rcheckPen_any (k n m c0 c1 : Int) (t : ByteArray) (w : World) : Calls Tryd.prog 38 #[penV k n m c0 c1 t] w fun e w' => e = .returned (.int .i64 (errP ⟨k, n, m, c0, c1, t⟩)) ∧ Below w.heap.size w w' := by
  unfold penV
  obtain ⟨z, hz⟩ : ∃ z, none2 c0 c1 = z := ⟨_, rfl⟩
  have e1 := none_run c0 c1 z hz
  have Hz := Lib.hid hz; clear hz
  obtain ⟨q, hq⟩ : ∃ q, fitP n m c0 c1 = q := ⟨_, rfl⟩
  have Hp := Lib.hid (errP_is k n m c0 c1 t q hq)
  generalize errP ⟨k, n, m, c0, c1, t⟩ = r at Hp ⊢
  by_cases n0 : n = 0
  · subst n0
    rw [fit0, Hz.out] at hq
    by_cases m0 : m = 0
    · subst m0
      have Hr := Lib.hid (show q = z by rw [← hq]; simp)
      clear hq
      go_enter Tryd.func38, Tryd.ntmps38
      go_wp2
      all_goals
        go_ret
        exact ⟨by rw [Hp.out, Hr.out]; simp_all, two_boxes _ _ _⟩
    · have d0 : (m == 0) = false := by simp [m0]
      have Hr := Lib.hid (show q = false by rw [← hq, d0, Bool.and_false])
      clear hq
      go_enter Tryd.func38, Tryd.ntmps38
      go_wp2
      all_goals
        go_ret
        exact ⟨by rw [Hp.out, Hr.out]; simp_all, two_boxes _ _ _⟩
  · have g0 : (n == 0) = false := by simp [n0]
    by_cases n1 : n = 1
    · subst n1
      rw [fit1, Hz.out] at hq
      obtain ⟨y, hy⟩ : ∃ y, attr m = y := ⟨_, rfl⟩
      have Ha := Lib.hid hy
      cases y
      · have Hr := Lib.hid (show q = false by rw [← hq, hy, Bool.and_false])
        clear hq
        go_enter Tryd.func38, Tryd.ntmps38
        go_wp2_with fail
        refine (rattribute_any m _).mono ?_
        rw [Ha.out]
        rintro e w1 ⟨rfl, rfl⟩
        go_wp2
        all_goals
          go_ret
          exact ⟨by rw [Hp.out, Hr.out]; simp_all, two_boxes _ _ _⟩
      · have Hr := Lib.hid (show q = z by rw [← hq, hy, Bool.and_true])
        clear hq
        go_enter Tryd.func38, Tryd.ntmps38
        go_wp2_with fail
        refine (rattribute_any m _).mono ?_
        rw [Ha.out]
        rintro e w1 ⟨rfl, rfl⟩
        go_wp2
        all_goals
          go_ret
          exact ⟨by rw [Hp.out, Hr.out]; simp_all, two_boxes _ _ _⟩
    · have g1 : (n == 1) = false := by simp [n1]
      by_cases n2 : n = 2
      · subst n2
        rw [fit2, Hz.out] at hq
        by_cases m3 : m = 3
        · subst m3
          have Hr := Lib.hid (show q = z by rw [← hq]; simp)
          clear hq
          go_enter Tryd.func38, Tryd.ntmps38
          go_wp2
          all_goals
            go_ret
            exact ⟨by rw [Hp.out, Hr.out]; simp_all, two_boxes _ _ _⟩
        · have d3 : (m == 3) = false := by simp [m3]
          obtain ⟨y, hy⟩ : ∃ y, attr m = y := ⟨_, rfl⟩
          have Ha := Lib.hid hy
          cases y
          · have Hr := Lib.hid (show q = false by rw [← hq, hy, d3]; simp)
            clear hq
            go_enter Tryd.func38, Tryd.ntmps38
            go_wp2_with fail
            refine (rattribute_any m _).mono ?_
            rw [Ha.out]
            rintro e w1 ⟨rfl, rfl⟩
            go_wp2
            all_goals
              go_ret
              exact ⟨by rw [Hp.out, Hr.out]; simp_all, two_boxes _ _ _⟩
          · by_cases m1 : m = 1
            · subst m1
              have Hr := Lib.hid (show q = false by rw [← hq]; simp)
              clear hq
              go_enter Tryd.func38, Tryd.ntmps38
              go_wp2_with fail
              refine (rattribute_any 1 _).mono ?_
              rw [Ha.out]
              rintro e w1 ⟨rfl, rfl⟩
              go_wp2
              all_goals
                go_ret
                exact ⟨by rw [Hp.out, Hr.out]; simp_all, two_boxes _ _ _⟩
            · have d1 : (m == 1) = false := by simp [m1]
              by_cases m2 : m = 2
              · subst m2
                have Hr := Lib.hid (show q = false by rw [← hq]; simp)
                clear hq
                go_enter Tryd.func38, Tryd.ntmps38
                go_wp2_with fail
                refine (rattribute_any 2 _).mono ?_
                rw [Ha.out]
                rintro e w1 ⟨rfl, rfl⟩
                go_wp2
                all_goals
                  go_ret
                  exact ⟨by rw [Hp.out, Hr.out]; simp_all, two_boxes _ _ _⟩
              · have d2 : (m == 2) = false := by simp [m2]
                have Hr := Lib.hid (show q = z by rw [← hq, hy]; simp [d3, m1, m2])
                clear hq
                go_enter Tryd.func38, Tryd.ntmps38
                go_wp2_with fail
                refine (rattribute_any m _).mono ?_
                rw [Ha.out]
                rintro e w1 ⟨rfl, rfl⟩
                go_wp2
                all_goals
                  go_ret
                  exact ⟨by rw [Hp.out, Hr.out]; simp_all, two_boxes _ _ _⟩
      · have g2 : (n == 2) = false := by simp [n2]
        by_cases n3 : n = 3
        · subst n3
          rw [fit3, Hz.out] at hq
          by_cases m0 : 0 ≤ m
          · by_cases m5 : m ≤ 5
            · have Hr := Lib.hid (show q = z by rw [← hq]; simp [m0, m5])
              clear hq
              go_enter Tryd.func38, Tryd.ntmps38
              go_wp2
              all_goals
                go_ret
                exact ⟨by rw [Hp.out, Hr.out]; simp_all, two_boxes _ _ _⟩
            · have Hr := Lib.hid (show q = false by rw [← hq]; simp; intros; omega)
              clear hq
              go_enter Tryd.func38, Tryd.ntmps38
              go_wp2
              all_goals
                go_ret
                exact ⟨by rw [Hp.out, Hr.out]; simp_all, two_boxes _ _ _⟩
          · have Hr := Lib.hid (show q = false by rw [← hq]; simp; intros; omega)
            clear hq
            go_enter Tryd.func38, Tryd.ntmps38
            go_wp2
            all_goals
              go_ret
              exact ⟨by rw [Hp.out, Hr.out]; simp_all, two_boxes _ _ _⟩
        · have g3 : (n == 3) = false := by simp [n3]
          by_cases n4 : n = 4 ∨ n = 5 ∨ n = 6
          · rw [fit4 n m c0 c1 n4] at hq
            by_cases m0 : m = 0
            · subst m0
              have Ho := Lib.hid (show (errC c0 c1 == 0) = q by rw [errC_eq, ← hq]; simp)
              clear hq
              rcases n4 with rfl | rfl | rfl
              all_goals
                go_enter Tryd.func38, Tryd.ntmps38
                go_wp2_with fail
                refine (rccheck_any c0 c1 _).mono ?_
                rintro e w1 ⟨rfl, hb1⟩
                have hb := Lib.hid ((two_boxes w _ _).trans (hb1.mono (by simp; omega)))
                have hA := ((Box.new w _ 48).alloc (.cells #[.int .i64 0, .int .i64 0] 46)).keep hb1
                have hlA := hA.1
                have a0 := hA.cell 0 _ rfl
                have a5 := hA.cell 5 _ rfl
                clear hA hb1
                generalize errC c0 c1 = v at Ho ⊢
                go_wp2
                all_goals
                  go_ret
                  exact ⟨by rw [Hp.out, ← Ho.out]; simp_all, hb.out⟩
            · have d0 : (m == 0) = false := by simp [m0]
              have Hr := Lib.hid (show q = false by rw [← hq, d0]; rfl)
              clear hq
              rcases n4 with rfl | rfl | rfl
              all_goals
                go_enter Tryd.func38, Tryd.ntmps38
                go_wp2
                all_goals
                  go_ret
                  exact ⟨by rw [Hp.out, Hr.out]; simp_all, two_boxes _ _ _⟩
          · have g4 : (n == 4) = false := by simp; omega
            have g5 : (n == 5) = false := by simp; omega
            have g6 : (n == 6) = false := by simp; omega
            rw [fit_no n m c0 c1 (by omega)] at hq
            have Hr := Lib.hid (show q = false from hq.symm)
            clear hq n4
            go_enter Tryd.func38, Tryd.ntmps38
            go_wp2
            all_goals
              go_ret
              exact ⟨by rw [Hp.out, Hr.out]; simp_all, two_boxes _ _ _⟩
end Go.Proofs.YteepfecplabinaaDoor.Sty

namespace Go.Proofs.YteepfecplabinaaDoor.Sty
open Go.RowKit Utf Col

theorem rcheckPen_is (p : P6) (r : Int) (hr : errP p = r) (w : World) : Calls Tryd.prog 38 #[.agg #[.int .i64 p.k, .int .i64 p.n, .int .i64 p.m, .int .i64 p.c0, .int .i64 p.c1, .string p.t]] w fun e w' => e = .returned (.int .i64 r) ∧ Below w.heap.size w w' := by
  subst hr; exact rcheckPen_any p.k p.n p.m p.c0 p.c1 p.t w
/-- clearing bits is taking them away -/
theorem clear_all : ∀ a : Fin 256, ∀ m ∈ ([3, 4, 8, 16, 32, 64, 128] : List Int), wrap64 ((a.val : Int) - bits .and .i64 (a.val : Int) m) = bits .andNot .i64 (a.val : Int) m := by decide +kernel
theorem clear_is (a m : Int) (h0 : 0 ≤ a) (h1 : a ≤ 255) (hm : m = 3 ∨ m = 4 ∨ m = 8 ∨ m = 16 ∨ m = 32 ∨ m = 64 ∨ m = 128) : wrap64 (a - bits .and .i64 a m) = bits .andNot .i64 a m := by
  have := clear_all ⟨a.toNat, by omega⟩ m (by rcases hm with rfl | rfl | rfl | rfl | rfl | rfl | rfl <;> simp)
  simpa [Int.toNat_of_nonneg h0] using this
theorem okP_fit (p : P6) (h : okP p = true) : fitP p.n p.m p.c0 p.c1 = true := by
  unfold okP at h
  simp only [Bool.and_eq_true] at h
  exact h.2.2
theorem fit_clear (m c0 c1 : Int) (h : fitP 2 m c0 c1 = true) : m = 3 ∨ m = 4 ∨ m = 8 ∨ m = 16 ∨ m = 32 ∨ m = 64 ∨ m = 128 := by
  rw [fit2] at h
  simp only [Bool.and_eq_true, Bool.or_eq_true, beq_iff_eq, bne_iff_ne, attr, decide_eq_true_eq] at h
  omega
end Go.Proofs.YteepfecplabinaaDoor.Sty

namespace Go.Proofs.YteepfecplabinaaDoor.Sty
open Go.RowKit Utf Col

theorem or_all : ∀ a : Fin 256, ∀ m ∈ ([1, 2, 4, 8, 16, 32, 64, 128] : List Int), 0 ≤ bits .or .i64 (a.val : Int) m ∧ bits .or .i64 (a.val : Int) m ≤ 255 := by decide +kernel
theorem not_all : ∀ a : Fin 256, ∀ m ∈ ([3, 4, 8, 16, 32, 64, 128] : List Int), 0 ≤ bits .andNot .i64 (a.val : Int) m ∧ bits .andNot .i64 (a.val : Int) m ≤ 255 := by decide +kernel
theorem app_in (s : S8) (p : P6) (hp : okP p = true) (h0 : 0 ≤ s.a) (h1 : s.a ≤ 255) : 0 ≤ (app s p).a ∧ (app s p).a ≤ 255 := by
  have hn := okP_n p hp
  have hf := okP_fit p hp
  obtain ⟨pk, pn, pm, pc, pd, pt⟩ := p
  simp only at hn hf
  rcases hn with rfl | rfl | rfl | rfl | rfl | rfl | rfl
  · exact ⟨Int.le_refl 0, show (0 : Int) ≤ 255 by decide⟩
  · rw [fit1] at hf
    simp only [Bool.and_eq_true, attr, decide_eq_true_eq] at hf
    have := or_all ⟨s.a.toNat, by omega⟩ pm (by rcases hf.2 with rfl | rfl | rfl | rfl | rfl | rfl | rfl | rfl <;> simp)
    simp only [Int.toNat_of_nonneg h0] at this
    exact this
  · have hm := fit_clear pm pc pd hf
    have := not_all ⟨s.a.toNat, by omega⟩ pm (by rcases hm with rfl | rfl | rfl | rfl | rfl | rfl | rfl <;> simp)
    simp only [Int.toNat_of_nonneg h0] at this
    exact this
  all_goals exact ⟨h0, h1⟩
theorem errS_range (s : S8) (h : errS s = 0) : 0 ≤ s.a ∧ s.a ≤ 255 := by
  unfold errS at h
  split at h
  · rename_i h1
    simp only [inR, decide_eq_true_eq] at h1
    exact ⟨h1.1, h1.2.1⟩
  · cases h
theorem grown8 (w : World) (b : Nat) (s : S8) : w.grownBy ((((((((w.setCell ⟨b, 0, none⟩ (.int .i64 s.a)).setCell ⟨b, 1, none⟩ (.int .i64 s.u)).setCell ⟨b, 2, none⟩ (.int .i64 s.f0)).setCell ⟨b, 3, none⟩ (.int .i64 s.f1)).setCell ⟨b, 4, none⟩ (.int .i64 s.b0)).setCell ⟨b, 5, none⟩ (.int .i64 s.b1)).setCell ⟨b, 6, none⟩ (.int .i64 s.l0)).setCell ⟨b, 7, none⟩ (.int .i64 s.l1)) (some b) := grown_put b (cS s) 0 w
end Go.Proofs.YteepfecplabinaaDoor.Sty
