/-
  Contracts of the reference's CheckPen, Inverse, Seen of layer 4.
-/
import Derived.Test.YtokjjeekkfefmaaDoorStyK
namespace Go.Proofs.YtokjjeekkfefmaaDoor.Sty
open Go.RowKit Utf Col

theorem two_boxes (w : World) (o o' : Obj) : Below w.heap.size w ((w.alloc o).alloc o') := (below_box w o).alloc (by simp) _
theorem errP_is (k n m c0 c1 : Int) (t : ByteArray) (z : Bool) (h : fitP n m c0 c1 = z) : errP ⟨k, n, m, c0, c1, t⟩ = if (k == 39 && t.toList.isEmpty) && z then 0 else 141 := by
  unfold errP okP; rw [← h, Bool.and_assoc]
set_option maxRecDepth 100000 in
set_option maxHeartbeats 8000000 in
theorem rcheckPen_any (k n m c0 c1 : Int) (t : ByteArray) (w : World) : Calls Tryd.prog 15 #[penV k n m c0 c1 t] w fun e w' => e = .returned (.int .i64 (errP ⟨k, n, m, c0, c1, t⟩)) ∧ Below w.heap.size w w' := by
  unfold penV
  obtain ⟨z, hz⟩ : ∃ z, none2 c0 c1 = z := ⟨_, rfl⟩
  have e1 := none_run c0 c1 z hz
  have Hz := Lib.hid hz; clear hz
  obtain ⟨q, hq⟩ : ∃ q, fitP n m c0 c1 = q := ⟨_, rfl⟩
  have Hp := Lib.hid (errP_is k n m c0 c1 t q hq)
  generalize errP ⟨k, n, m, c0, c1, t⟩ = r at Hp ⊢
  by_cases n0 : n = 0
  · subst n0
    rw [fit0, Hz.out] at hq
    by_cases m0 : m = 0
    · subst m0
      have Hr := Lib.hid (show q = z by rw [← hq]; simp)
      clear hq
      go_enter Tryd.func15, Tryd.ntmps15
      go_wp2
      all_goals
        go_ret
        exact ⟨by rw [Hp.out, Hr.out]; simp_all, two_boxes _ _ _⟩
    · have d0 : (m == 0) = false := by simp [m0]
      have Hr := Lib.hid (show q = false by rw [← hq, d0, Bool.and_false])
      clear hq
      go_enter Tryd.func15, Tryd.ntmps15
      go_wp2
      all_goals
        go_ret
        exact ⟨by rw [Hp.out, Hr.out]; simp_all, two_boxes _ _ _⟩
  · have g0 : (n == 0) = false := by simp [n0]
    by_cases n1 : n = 1
    · subst n1
      rw [fit1, Hz.out] at hq
      obtain ⟨y, hy⟩ : ∃ y, attr m = y := ⟨_, rfl⟩
      have Ha := Lib.hid hy
      cases y
      · have Hr := Lib.hid (show q = false by rw [← hq, hy, Bool.and_false])
        clear hq
        go_enter Tryd.func15, Tryd.ntmps15
        go_wp2_with fail
        refine (rattribute_any m _).mono ?_
        rw [Ha.out]
        rintro e w1 ⟨rfl, rfl⟩
        go_wp2
        all_goals
          go_ret
          exact ⟨by rw [Hp.out, Hr.out]; simp_all, two_boxes _ _ _⟩
      · have Hr := Lib.hid (show q = z by rw [← hq, hy, Bool.and_true])
        clear hq
        go_enter Tryd.func15, Tryd.ntmps15
        go_wp2_with fail
        refine (rattribute_any m _).mono ?_
        rw [Ha.out]
        rintro e w1 ⟨rfl, rfl⟩
        go_wp2
        all_goals
          go_ret
          exact ⟨by rw [Hp.out, Hr.out]; simp_all, two_boxes _ _ _⟩
    · have g1 : (n == 1) = false := by simp [n1]
      by_cases n2 : n = 2
      · subst n2
        rw [fit2, Hz.out] at hq
        by_cases m3 : m = 3
        · subst m3
          have Hr := Lib.hid (show q = z by rw [← hq]; simp)
          clear hq
          go_enter Tryd.func15, Tryd.ntmps15
          go_wp2
          all_goals
            go_ret
            exact ⟨by rw [Hp.out, Hr.out]; simp_all, two_boxes _ _ _⟩
        · have d3 : (m == 3) = false := by simp [m3]
          obtain ⟨y, hy⟩ : ∃ y, attr m = y := ⟨_, rfl⟩
          have Ha := Lib.hid hy
          cases y
          · have Hr := Lib.hid (show q = false by rw [← hq, hy, d3]; simp)
            clear hq
            go_enter Tryd.func15, Tryd.ntmps15
            go_wp2_with fail
            refine (rattribute_any m _).mono ?_
            rw [Ha.out]
            rintro e w1 ⟨rfl, rfl⟩
            go_wp2
            all_goals
              go_ret
              exact ⟨by rw [Hp.out, Hr.out]; simp_all, two_boxes _ _ _⟩
          · by_cases m1 : m = 1
            · subst m1
              have Hr := Lib.hid (show q = false by rw [← hq]; simp)
              clear hq
              go_enter Tryd.func15, Tryd.ntmps15
              go_wp2_with fail
              refine (rattribute_any 1 _).mono ?_
              rw [Ha.out]
              rintro e w1 ⟨rfl, rfl⟩
              go_wp2
              all_goals
                go_ret
                exact ⟨by rw [Hp.out, Hr.out]; simp_all, two_boxes _ _ _⟩
            · have d1 : (m == 1) = false := by simp [m1]
              by_cases m2 : m = 2
              · subst m2
                have Hr := Lib.hid (show q = false by rw [← hq]; simp)
                clear hq
                go_enter Tryd.func15, Tryd.ntmps15
                go_wp2_with fail
                refine (rattribute_any 2 _).mono ?_
                rw [Ha.out]
                rintro e w1 ⟨rfl, rfl⟩
                go_wp2
                all_goals
                  go_ret
                  exact ⟨by rw [Hp.out, Hr.out]; simp_all, two_boxes _ _ _⟩
              · have d2 : (m == 2) = false := by simp [m2]
                have Hr := Lib.hid (show q = z by rw [← hq, hy]; simp [d3, m1, m2])
                clear hq
                go_enter Tryd.func15, Tryd.ntmps15
                go_wp2_with fail
                refine (rattribute_any m _).mono ?_
                rw [Ha.out]
                rintro e w1 ⟨rfl, rfl⟩
                go_wp2
                all_goals
                  go_ret
                  exact ⟨by rw [Hp.out, Hr.out]; simp_all, two_boxes _ _ _⟩
      · have g2 : (n == 2) = false := by simp [n2]
        by_cases n3 : n = 3
        · subst n3
          rw [fit3, Hz.out] at hq
          by_cases m0 : 0 ≤ m
          · by_cases m5 : m ≤ 5
            · have Hr := Lib.hid (show q = z by rw [← hq]; simp [m0, m5])
              clear hq
              go_enter Tryd.func15, Tryd.ntmps15
              go_wp2
              all_goals
                go_ret
                exact ⟨by rw [Hp.out, Hr.out]; simp_all, two_boxes _ _ _⟩
            · have Hr := Lib.hid (show q = false by rw [← hq]; simp; intros; omega)
              clear hq
              go_enter Tryd.func15, Tryd.ntmps15
              go_wp2
              all_goals
                go_ret
                exact ⟨by rw [Hp.out, Hr.out]; simp_all, two_boxes _ _ _⟩
          · have Hr := Lib.hid (show q = false by rw [← hq]; simp; intros; omega)
            clear hq
            go_enter Tryd.func15, Tryd.ntmps15
            go_wp2
            all_goals
              go_ret
              exact ⟨by rw [Hp.out, Hr.out]; simp_all, two_boxes _ _ _⟩
        · have g3 : (n == 3) = false := by simp [n3]
          by_cases n4 : n = 4 ∨ n = 5 ∨ n = 6
          · rw [fit4 n m c0 c1 n4] at hq
            by_cases m0 : m = 0
            · subst m0
              have Ho := Lib.hid (show (errC c0 c1 == 0) = q by rw [errC_eq, ← hq]; simp)
              clear hq
              rcases n4 with rfl | rfl | rfl
              all_goals
                go_enter Tryd.func15, Tryd.ntmps15
                go_wp2_with fail
                refine (rccheck_any c0 c1 _).mono ?_
                rintro e w1 ⟨rfl, hb1⟩
                have hb := Lib.hid ((two_boxes w _ _).trans (hb1.mono (by simp; omega)))
                have hA := ((Box.new w _ 27).alloc (.cells #[.int .i64 0, .int .i64 0] 23)).keep hb1
                have hlA := hA.1
                have a0 := hA.cell 0 _ rfl
                have a5 := hA.cell 5 _ rfl
                clear hA hb1
                generalize errC c0 c1 = v at Ho ⊢
                go_wp2
                all_goals
                  go_ret
                  exact ⟨by rw [Hp.out, ← Ho.out]; simp_all, hb.out⟩
            · have d0 : (m == 0) = false := by simp [m0]
              have Hr := Lib.hid (show q = false by rw [← hq, d0]; rfl)
              clear hq
              rcases n4 with rfl | rfl | rfl
              all_goals
                go_enter Tryd.func15, Tryd.ntmps15
                go_wp2
                all_goals
                  go_ret
                  exact ⟨by rw [Hp.out, Hr.out]; simp_all, two_boxes _ _ _⟩
          · have g4 : (n == 4) = false := by simp; omega
            have g5 : (n == 5) = false := by simp; omega
            have g6 : (n == 6) = false := by simp; omega
            rw [fit_no n m c0 c1 (by omega)] at hq
            have Hr := Lib.hid (show q = false from hq.symm)
            clear hq n4
            go_enter Tryd.func15, Tryd.ntmps15
            go_wp2
            all_goals
              go_ret
              exact ⟨by rw [Hp.out, Hr.out]; simp_all, two_boxes _ _ _⟩
end Go.Proofs.YtokjjeekkfefmaaDoor.Sty
