/-
  OscE
-/
import Derived.Laws.StructEq
import Derived.Deep.RegionHeld3
import Derived.Test.YtoilcigmpeaedaaGreatDoorF14
import Derived.Test.YtoilcigmpeaedaaGreatDoorF17
namespace Go.Proofs.YtoilcigmpeaedaaGreatDoor.Osc
open Go.RowKit Utf Col

def eqA (a b : A6) : Bool := a.k == b.k && (a.n == b.n && (a.m == b.m && ((a.c0 == b.c0 && a.c1 == b.c1) && a.t == b.t)))
theorem eqA_iff (a b : A6) : eqA a b = decide (a = b) := by
  cases a; cases b
  rw [Bool.eq_iff_iff]
  simp [eqA, Bool.and_assoc]
def actV (a : A6) : Value := .agg #[.int .i64 a.k, .int .i64 a.n, .int .i64 a.m, .int .i64 a.c0, .int .i64 a.c1, .string ⟨a.t.toArray⟩]
theorem eq2 (a b a' b' : Int) (d : Nat) (w : World) : (Op.equalIn (d + 2) 23 (.agg #[.int .i64 a, .int .i64 b]) (.agg #[.int .i64 a', .int .i64 b'])).run Tryz.prog w = .ok (a == a' && b == b') w := by
  rw [run_equalIn_struct w _ 23 _ _ (by kernel_rfl) (by kernel_rfl)]
  by_cases h1 : a = a' <;> by_cases h2 : b = b' <;> go_simp
theorem eq6 (k n m c0 c1 k' n' m' c0' c1' : Int) (t t' : List UInt8) (w : World) : (Op.equalIn 10000 25 (.agg #[.int .i64 k, .int .i64 n, .int .i64 m, .int .i64 c0, .int .i64 c1, .string ⟨t.toArray⟩]) (.agg #[.int .i64 k', .int .i64 n', .int .i64 m', .int .i64 c0', .int .i64 c1', .string ⟨t'.toArray⟩])).run Tryz.prog w = .ok (eqA ⟨k, n, m, c0, c1, t⟩ ⟨k', n', m', c0', c1', t'⟩) w := by
  by_cases h1 : k = k'
  · subst h1
    by_cases h2 : n = n'
    · subst h2
      by_cases h3 : m = m'
      · subst h3
        by_cases h4 : c0 = c0'
        · subst h4
          by_cases h5 : c1 = c1'
          · subst h5
            by_cases h6 : t = t'
            · subst h6
              rw [show eqA ⟨k, n, m, c0, c1, t⟩ ⟨k, n, m, c0, c1, t⟩ = true by simp [eqA]]
              go_simp
            · rw [show eqA ⟨k, n, m, c0, c1, t⟩ ⟨k, n, m, c0, c1, t'⟩ = false by simp [eqA, h6]]
              go_simp
          · rw [show eqA ⟨k, n, m, c0, c1, t⟩ ⟨k, n, m, c0, c1', t'⟩ = false by simp [eqA, h5]]
            go_simp
        · rw [show eqA ⟨k, n, m, c0, c1, t⟩ ⟨k, n, m, c0', c1', t'⟩ = false by simp [eqA, h4]]
          go_simp
      · rw [show eqA ⟨k, n, m, c0, c1, t⟩ ⟨k, n, m', c0', c1', t'⟩ = false by simp [eqA, h3]]
        go_simp
    · rw [show eqA ⟨k, n, m, c0, c1, t⟩ ⟨k, n', m', c0', c1', t'⟩ = false by simp [eqA, h2]]
      go_simp
  · rw [show eqA ⟨k, n, m, c0, c1, t⟩ ⟨k', n', m', c0', c1', t'⟩ = false by simp [eqA, h1]]
    go_simp
theorem eqlA (a b : A6) (w : World) : (binOp .eql 25 (actV a) (actV b)).run Tryz.prog w = .ok (.bool (eqA a b)) w := by
  unfold actV
  rw [run_eql_struct, eq6]; rfl
theorem neqA (a b : A6) (w : World) : (binOp .neq 25 (actV a) (actV b)).run Tryz.prog w = .ok (.bool (!eqA a b)) w := by
  unfold actV
  rw [run_neq_struct, eq6]; rfl
def titA (a : A6) : Bool := eqA a ⟨44, 0, 0, 0, 0, a.t⟩ && titB a.t
def clpA (a : A6) : Bool := eqA a ⟨46, 0, 0, 0, 0, a.t⟩ && decide (a.t.length ≤ 378)
def palA (a : A6) : Bool := eqA a ⟨45, a.n, 0, a.c0, a.c1, []⟩ && (decide (0 ≤ a.n) && (decide (a.n ≤ 255) && (a.c0 == 2 && errC a.c0 a.c1 == 0)))
set_option maxRecDepth 100000 in
set_option maxHeartbeats 4000000 in
theorem isTitleAction_any (a : A6) (w : World) (hm : Mk w) (hs : a.t.length ≤ 1000000) : Calls Tryz.prog 23 #[actV a] w fun e w' => e = .returned (.bool (titA a)) ∧ Below w.heap.size w w' := by
  have HQ : ∀ W, (binOp .eql 25 (actV a) (actV ⟨44, 0, 0, 0, 0, a.t⟩)).run Tryz.prog W = .ok (.bool (eqA a ⟨44, 0, 0, 0, 0, a.t⟩)) W := eqlA a _
  have HT := Lib.hid (fun W h => isTitle_any ⟨a.t.toArray⟩ W h (by rw [Lib.size_mk]; exact hs))
  have HM := Lib.hid hm
  unfold titA
  unfold actV at HQ ⊢
  dsimp only at HQ HT ⊢
  generalize eqA a ⟨44, 0, 0, 0, 0, a.t⟩ = q at HQ ⊢
  generalize titB a.t = tb at HT ⊢
  obtain ⟨k, n, m, c0, c1, t⟩ := a
  dsimp only at HQ HT ⊢
  clear hm hs
  cases q with
  | true =>
    go_enter Tryz.func23, Tryz.ntmps23
    go_wp2_with (go_at_call 49; refine (HT.out _ (HM.out.keep (B64.below_box _ _))).mono ?_; rintro e w1 ⟨rfl, hb1⟩)
    go_ret
    exact ⟨rfl, B64.up (B64.below_box _ _) hb1⟩
  | false =>
    go_enter Tryz.func23, Tryz.ntmps23
    go_wp2
    go_ret
    exact ⟨rfl, B64.below_box _ _⟩
set_option maxRecDepth 100000 in
set_option maxHeartbeats 4000000 in
theorem isClipAction_any (a : A6) (w : World) : Calls Tryz.prog 27 #[actV a] w fun e w' => e = .returned (.bool (clpA a)) ∧ Below w.heap.size w w' := by
  have HQ : ∀ W, (binOp .eql 25 (actV a) (actV ⟨46, 0, 0, 0, 0, a.t⟩)).run Tryz.prog W = .ok (.bool (eqA a ⟨46, 0, 0, 0, 0, a.t⟩)) W := eqlA a _
  have HT := Lib.hid (fun W => isClip_any ⟨a.t.toArray⟩ W)
  unfold clpA
  unfold actV at HQ ⊢
  rw [Lib.size_mk, show decide ((a.t.length : Int) ≤ 378) = decide (a.t.length ≤ 378) by rw [Bool.eq_iff_iff]; simp; omega] at HT
  dsimp only at HQ HT ⊢
  generalize eqA a ⟨46, 0, 0, 0, 0, a.t⟩ = q at HQ ⊢
  generalize decide (a.t.length ≤ 378) = tb at HT ⊢
  obtain ⟨k, n, m, c0, c1, t⟩ := a
  dsimp only at HQ HT ⊢
  cases q with
  | true =>
    go_enter Tryz.func27, Tryz.ntmps27
    go_wp2_with (go_at_call 53; refine (HT.out _).mono ?_; rintro e w1 ⟨rfl, rfl⟩)
    go_ret
    exact ⟨rfl, B64.below_box _ _⟩
  | false =>
    go_enter Tryz.func27, Tryz.ntmps27
    go_wp2
    go_ret
    exact ⟨rfl, B64.below_box _ _⟩
set_option maxRecDepth 100000 in
set_option maxHeartbeats 4000000 in
theorem isPaletteAction_any (a : A6) (w : World) (hc : Tc w) : Calls Tryz.prog 24 #[actV a] w fun e w' => e = .returned (.bool (palA a)) ∧ Below w.heap.size w w' := by
  have HQ : ∀ W, (binOp .eql 25 (actV a) (actV ⟨45, a.n, 0, a.c0, a.c1, []⟩)).run Tryz.prog W = .ok (.bool (eqA a ⟨45, a.n, 0, a.c0, a.c1, []⟩)) W := eqlA a _
  have HT := Lib.hid (fun W h => check_any a.c0 a.c1 W h)
  have HC := Lib.hid hc
  unfold palA
  unfold actV at HQ ⊢
  unfold colV at HT
  dsimp only at HQ HT ⊢
  generalize eqA a ⟨45, a.n, 0, a.c0, a.c1, []⟩ = q at HQ ⊢
  generalize errC a.c0 a.c1 = ec at HT ⊢
  obtain ⟨k, n, m, c0, c1, t⟩ := a
  dsimp only at HQ HT ⊢
  clear hc
  cases q with
  | true =>
    by_cases h0 : 0 ≤ n
    · have d0 : decide (0 ≤ n) = true := decide_eq_true h0
      by_cases h1 : n ≤ 255
      · have d1 : decide (n ≤ 255) = true := decide_eq_true h1
        by_cases h2 : c0 = 2
        · subst h2
          rw [d0, d1]
          go_enter Tryz.func24, Tryz.ntmps24
          go_wp2_with (go_at_call 50; refine (HT.out _ (HC.out.keep (B64.below_box _ _))).mono ?_; rintro e w1 ⟨rfl, hb1⟩)
          go_ret
          exact ⟨rfl, B64.up (B64.below_box _ _) hb1⟩
        · have d2 : (c0 == 2) = false := by simp [h2]
          rw [d0, d1, d2]
          clear h2
          go_enter Tryz.func24, Tryz.ntmps24
          go_wp2
          go_ret
          exact ⟨rfl, B64.below_box _ _⟩
      · have d1 : decide (n ≤ 255) = false := decide_eq_false h1
        rw [d0, d1]
        clear h1
        go_enter Tryz.func24, Tryz.ntmps24
        go_wp2
        go_ret
        exact ⟨rfl, B64.below_box _ _⟩
    · have d0 : decide (0 ≤ n) = false := decide_eq_false h0
      rw [d0]
      clear h0
      go_enter Tryz.func24, Tryz.ntmps24
      go_wp2
      go_ret
      exact ⟨rfl, B64.below_box _ _⟩
  | false =>
    go_enter Tryz.func24, Tryz.ntmps24
    go_wp2
    go_ret
    exact ⟨rfl, B64.below_box _ _⟩
end Go.Proofs.YtoilcigmpeaedaaGreatDoor.Osc
