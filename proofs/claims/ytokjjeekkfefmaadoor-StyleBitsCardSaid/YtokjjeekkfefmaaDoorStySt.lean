/-
  Plain facts on pens applied one behind another: a valid style stays valid, a pen twice is the pen once, pens that touch different fields commute.
-/
import Derived.Test.YtokjjeekkfefmaaDoorStyR
namespace Go.Proofs.YtokjjeekkfefmaaDoor.Sty
open Go.RowKit Utf Col

theorem or_twice : ∀ a : Fin 256, ∀ m ∈ ([1, 2, 4, 8, 16, 32, 64, 128] : List Int), bits .or .i64 (bits .or .i64 (a.val : Int) m) m = bits .or .i64 (a.val : Int) m := by decide +kernel
theorem not_twice : ∀ a : Fin 256, ∀ m ∈ ([3, 4, 8, 16, 32, 64, 128] : List Int), bits .andNot .i64 (bits .andNot .i64 (a.val : Int) m) m = bits .andNot .i64 (a.val : Int) m := by decide +kernel
theorem fit_set (m c0 c1 : Int) (h : fitP 1 m c0 c1 = true) : m = 1 ∨ m = 2 ∨ m = 4 ∨ m = 8 ∨ m = 16 ∨ m = 32 ∨ m = 64 ∨ m = 128 := by
  rw [fit1] at h
  simp only [Bool.and_eq_true, attr, decide_eq_true_eq] at h
  exact h.2
theorem app_twice (s : S8) (p : P6) (hp : okP p = true) (h0 : 0 ≤ s.a) (h1 : s.a ≤ 255) : app (app s p) p = app s p := by
  have hn := okP_n p hp
  have hf := okP_fit p hp
  obtain ⟨pk, pn, pm, pc, pd, pt⟩ := p
  obtain ⟨a, u, f0, f1, b0, b1, l0, l1⟩ := s
  simp only at hn hf h0 h1
  rcases hn with rfl | rfl | rfl | rfl | rfl | rfl | rfl
  · rfl
  · have hm := fit_set pm pc pd hf
    have := or_twice ⟨a.toNat, by omega⟩ pm (by rcases hm with rfl | rfl | rfl | rfl | rfl | rfl | rfl | rfl <;> simp)
    simp only [Int.toNat_of_nonneg h0] at this
    show (⟨bits .or .i64 (bits .or .i64 a pm) pm, u, f0, f1, b0, b1, l0, l1⟩ : S8) = ⟨bits .or .i64 a pm, u, f0, f1, b0, b1, l0, l1⟩
    rw [this]
  · have hm := fit_clear pm pc pd hf
    have := not_twice ⟨a.toNat, by omega⟩ pm (by rcases hm with rfl | rfl | rfl | rfl | rfl | rfl | rfl <;> simp)
    simp only [Int.toNat_of_nonneg h0] at this
    show (⟨bits .andNot .i64 (bits .andNot .i64 a pm) pm, u, f0, f1, b0, b1, l0, l1⟩ : S8) = ⟨bits .andNot .i64 a pm, u, f0, f1, b0, b1, l0, l1⟩
    rw [this]
  all_goals rfl
theorem errS_zero (s : S8) : errS s = 0 ↔ (0 ≤ s.a ∧ s.a ≤ 255 ∧ 0 ≤ s.u ∧ s.u ≤ 5) ∧ okC s.f0 s.f1 = true ∧ okC s.b0 s.b1 = true ∧ okC s.l0 s.l1 = true := by
  unfold errS inR
  by_cases h : 0 ≤ s.a ∧ s.a ≤ 255 ∧ 0 ≤ s.u ∧ s.u ≤ 5
  · rw [decide_eq_true h]
    cases okC s.f0 s.f1 <;> cases okC s.b0 s.b1 <;> cases okC s.l0 s.l1 <;> simp [h]
  · rw [decide_eq_false h]
    simp [h]
theorem errS_app (s : S8) (p : P6) (hp : okP p = true) (hs : errS s = 0) : errS (app s p) = 0 := by
  have hn := okP_n p hp
  have hf := okP_fit p hp
  have hr := (errS_zero s).1 hs
  have ha := app_in s p hp hr.1.1 hr.1.2.1
  rw [errS_zero]
  obtain ⟨pk, pn, pm, pc, pd, pt⟩ := p
  obtain ⟨a, u, f0, f1, b0, b1, l0, l1⟩ := s
  simp only at hn hf hr
  rcases hn with rfl | rfl | rfl | rfl | rfl | rfl | rfl
  · exact (errS_zero z8).1 errS_z
  · exact ⟨⟨ha.1, ha.2, hr.1.2.2⟩, hr.2⟩
  · exact ⟨⟨ha.1, ha.2, hr.1.2.2⟩, hr.2⟩
  · rw [fit3] at hf
    simp only [Bool.and_eq_true, decide_eq_true_eq] at hf
    exact ⟨⟨hr.1.1, hr.1.2.1, hf.2⟩, hr.2⟩
  · rw [fit4 4 _ _ _ (by omega)] at hf
    simp only [Bool.and_eq_true] at hf
    exact ⟨hr.1, hf.2, hr.2.2⟩
  · rw [fit4 5 _ _ _ (by omega)] at hf
    simp only [Bool.and_eq_true] at hf
    exact ⟨hr.1, hr.2.1, hf.2, hr.2.2.2⟩
  · rw [fit4 6 _ _ _ (by omega)] at hf
    simp only [Bool.and_eq_true] at hf
    exact ⟨hr.1, hr.2.1, hr.2.2.1, hf.2⟩
theorem app1 (s : S8) (pk pm pc pd : Int) (pt : ByteArray) : app s ⟨pk, 1, pm, pc, pd, pt⟩ = ⟨bits .or .i64 s.a pm, s.u, s.f0, s.f1, s.b0, s.b1, s.l0, s.l1⟩ := rfl
theorem app2 (s : S8) (pk pm pc pd : Int) (pt : ByteArray) : app s ⟨pk, 2, pm, pc, pd, pt⟩ = ⟨bits .andNot .i64 s.a pm, s.u, s.f0, s.f1, s.b0, s.b1, s.l0, s.l1⟩ := rfl
theorem app3 (s : S8) (pk pm pc pd : Int) (pt : ByteArray) : app s ⟨pk, 3, pm, pc, pd, pt⟩ = ⟨s.a, pm, s.f0, s.f1, s.b0, s.b1, s.l0, s.l1⟩ := rfl
theorem app4 (s : S8) (pk pm pc pd : Int) (pt : ByteArray) : app s ⟨pk, 4, pm, pc, pd, pt⟩ = ⟨s.a, s.u, pc, pd, s.b0, s.b1, s.l0, s.l1⟩ := rfl
theorem app5 (s : S8) (pk pm pc pd : Int) (pt : ByteArray) : app s ⟨pk, 5, pm, pc, pd, pt⟩ = ⟨s.a, s.u, s.f0, s.f1, pc, pd, s.l0, s.l1⟩ := rfl
theorem app6 (s : S8) (pk pm pc pd : Int) (pt : ByteArray) : app s ⟨pk, 6, pm, pc, pd, pt⟩ = ⟨s.a, s.u, s.f0, s.f1, s.b0, s.b1, pc, pd⟩ := rfl
theorem app_swap (s : S8) (p q : P6) (hp : okP p = true) (hq : okP q = true) (hn : p.n ≠ q.n) (hb : ¬ (p.n ≤ 2 ∧ q.n ≤ 2)) (h0 : p.n ≠ 0) (h1 : q.n ≠ 0) : app (app s p) q = app (app s q) p := by
  have kp := okP_n p hp
  have kq := okP_n q hq
  clear hp hq
  obtain ⟨pk, pn, pm, pc, pd, pt⟩ := p
  obtain ⟨qk, qn, qm, qc, qd, qt⟩ := q
  simp only at kp kq hn hb h0 h1
  rcases kp with rfl | rfl | rfl | rfl | rfl | rfl | rfl <;> rcases kq with rfl | rfl | rfl | rfl | rfl | rfl | rfl <;> first | (exfalso; omega) | (simp only [app1, app2, app3, app4, app5, app6])
theorem run_one (s : S8) (p : P6) (hs : errS s = 0) (hp : okP p = true) : runV s [p] = app s p ∧ runE s [p] = 0 := by
  simp [runV, runE, runP, hs, hp]
theorem run_two (s : S8) (p q : P6) (hs : errS s = 0) (hp : okP p = true) (hq : okP q = true) : runV s [p, q] = app (app s p) q ∧ runE s [p, q] = 0 := by
  simp [runV, runE, runP, hs, hp, hq]
end Go.Proofs.YtokjjeekkfefmaaDoor.Sty
