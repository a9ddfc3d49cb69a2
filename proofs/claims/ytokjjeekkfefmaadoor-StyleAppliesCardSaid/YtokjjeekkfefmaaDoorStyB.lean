/-
  How styles and actions are compared; contracts of the style package's isUnder, isAttr, fits, CheckPen, Check.
-/
import Derived.Test.YtokjjeekkfefmaaDoorStyA
import Derived.Laws.StructEq
import Derived.Deep.RegionHeld3
namespace Go.Proofs.YtokjjeekkfefmaaDoor.Sty
open Go.RowKit Utf Col

def eqS (s t : S8) : Bool := s.a == t.a && (s.u == t.u && ((s.f0 == t.f0 && s.f1 == t.f1) && ((s.b0 == t.b0 && s.b1 == t.b1) && (s.l0 == t.l0 && s.l1 == t.l1))))
theorem eqS_iff (s t : S8) : eqS s t = decide (s = t) := by
  cases s; cases t
  simp [eqS, Bool.and_assoc]
  rfl
theorem eqS_self (s : S8) : eqS s s = true := by rw [eqS_iff]; simp
def eqP (s t : P6) : Bool := s.k == t.k && (s.n == t.n && (s.m == t.m && ((s.c0 == t.c0 && s.c1 == t.c1) && s.t.toList == t.t.toList)))
theorem eq2 (a b a' b' : Int) (d : Nat) (w : World) : (Op.equalIn (d + 2) 23 (.agg #[.int .i64 a, .int .i64 b]) (.agg #[.int .i64 a', .int .i64 b'])).run Tryd.prog w = .ok (a == a' && b == b') w := by
  rw [run_equalIn_struct w _ 23 _ _ (by kernel_rfl) (by kernel_rfl)]
  by_cases h1 : a = a' <;> by_cases h2 : b = b' <;> go_simp
theorem eqlC (a b a' b' : Int) (w : World) : (binOp .eql 23 (.agg #[.int .i64 a, .int .i64 b]) (.agg #[.int .i64 a', .int .i64 b'])).run Tryd.prog w = .ok (.bool (a == a' && b == b')) w := by
  rw [run_eql_struct, eq2 a b a' b' 9998]; rfl
theorem neqC (a b a' b' : Int) (w : World) : (binOp .neq 23 (.agg #[.int .i64 a, .int .i64 b]) (.agg #[.int .i64 a', .int .i64 b'])).run Tryd.prog w = .ok (.bool (!(a == a' && b == b'))) w := by
  rw [run_neq_struct, eq2 a b a' b' 9998]; rfl
theorem eq8 (a u f0 f1 b0 b1 l0 l1 a' u' f0' f1' b0' b1' l0' l1' : Int) (w : World) : (Op.equalIn 10000 25 (.agg #[.int .i64 a, .int .i64 u, .int .i64 f0, .int .i64 f1, .int .i64 b0, .int .i64 b1, .int .i64 l0, .int .i64 l1]) (.agg #[.int .i64 a', .int .i64 u', .int .i64 f0', .int .i64 f1', .int .i64 b0', .int .i64 b1', .int .i64 l0', .int .i64 l1'])).run Tryd.prog w = .ok (eqS ⟨a, u, f0, f1, b0, b1, l0, l1⟩ ⟨a', u', f0', f1', b0', b1', l0', l1'⟩) w := by
  unfold eqS
  by_cases h1 : a = a'
  · by_cases h2 : u = u'
    · by_cases h3 : f0 = f0'
      · by_cases h4 : f1 = f1'
        · by_cases h5 : b0 = b0'
          · by_cases h6 : b1 = b1'
            · by_cases h7 : l0 = l0'
              · by_cases h8 : l1 = l1' <;> go_simp
              · go_simp
            · go_simp
          · go_simp
        · go_simp
      · go_simp
    · go_simp
  · go_simp
theorem eqlS (a u f0 f1 b0 b1 l0 l1 a' u' f0' f1' b0' b1' l0' l1' : Int) (w : World) : (binOp .eql 25 (.agg #[.int .i64 a, .int .i64 u, .int .i64 f0, .int .i64 f1, .int .i64 b0, .int .i64 b1, .int .i64 l0, .int .i64 l1]) (.agg #[.int .i64 a', .int .i64 u', .int .i64 f0', .int .i64 f1', .int .i64 b0', .int .i64 b1', .int .i64 l0', .int .i64 l1'])).run Tryd.prog w = .ok (.bool (eqS ⟨a, u, f0, f1, b0, b1, l0, l1⟩ ⟨a', u', f0', f1', b0', b1', l0', l1'⟩)) w := by
  rw [run_eql_struct, eq8]; rfl
theorem neqS (a u f0 f1 b0 b1 l0 l1 a' u' f0' f1' b0' b1' l0' l1' : Int) (w : World) : (binOp .neq 25 (.agg #[.int .i64 a, .int .i64 u, .int .i64 f0, .int .i64 f1, .int .i64 b0, .int .i64 b1, .int .i64 l0, .int .i64 l1]) (.agg #[.int .i64 a', .int .i64 u', .int .i64 f0', .int .i64 f1', .int .i64 b0', .int .i64 b1', .int .i64 l0', .int .i64 l1'])).run Tryd.prog w = .ok (.bool (!eqS ⟨a, u, f0, f1, b0, b1, l0, l1⟩ ⟨a', u', f0', f1', b0', b1', l0', l1'⟩)) w := by
  rw [run_neq_struct, eq8]; rfl
theorem eq6 (k n m c0 c1 k' n' m' c0' c1' : Int) (t t' : ByteArray) (w : World) : (Op.equalIn 10000 27 (.agg #[.int .i64 k, .int .i64 n, .int .i64 m, .int .i64 c0, .int .i64 c1, .string t]) (.agg #[.int .i64 k', .int .i64 n', .int .i64 m', .int .i64 c0', .int .i64 c1', .string t'])).run Tryd.prog w = .ok (eqP ⟨k, n, m, c0, c1, t⟩ ⟨k', n', m', c0', c1', t'⟩) w := by
  unfold eqP
  by_cases h1 : k = k'
  · by_cases h2 : n = n'
    · by_cases h3 : m = m'
      · by_cases h4 : c0 = c0'
        · by_cases h5 : c1 = c1'
          · by_cases h6 : t.toList = t'.toList <;> go_simp
          · go_simp
        · go_simp
      · go_simp
    · go_simp
  · go_simp
theorem neqP (k n m c0 c1 k' n' m' c0' c1' : Int) (t t' : ByteArray) (w : World) : (binOp .neq 27 (.agg #[.int .i64 k, .int .i64 n, .int .i64 m, .int .i64 c0, .int .i64 c1, .string t]) (.agg #[.int .i64 k', .int .i64 n', .int .i64 m', .int .i64 c0', .int .i64 c1', .string t'])).run Tryd.prog w = .ok (.bool (!eqP ⟨k, n, m, c0, c1, t⟩ ⟨k', n', m', c0', c1', t'⟩)) w := by
  rw [run_neq_struct, eq6]; rfl

theorem isUnder_any (m : Int) (w : World) : Calls Tryd.prog 29 #[.int .i64 m] w fun e w' => e = .returned (.bool (decide (0 ≤ m) && decide (m ≤ 5))) ∧ w = w' := by
  by_cases h0 : 0 ≤ m
  · go_enter Tryd.func29, Tryd.ntmps29
    go_wp2
    go_ret
    exact ⟨by simp [h0], rfl⟩
  · have d0 : decide (0 ≤ m) = false := decide_eq_false h0
    go_enter Tryd.func29, Tryd.ntmps29
    go_wp2
    go_ret
    exact ⟨rfl, rfl⟩
theorem attr_all : ∀ m : Fin 256, 0 < m.val → (bits .and .i64 (m.val : Int) ((m.val : Int) - 1) == 0) = attr m.val := by decide +kernel
theorem attr_in (m : Int) (h0 : 0 < m) (h1 : m ≤ 255) : (bits .and .i64 m (m - 1) == 0) = attr m := by
  have := attr_all ⟨m.toNat, by omega⟩ (by simp; omega)
  simpa [Int.toNat_of_nonneg (show 0 ≤ m by omega)] using this
theorem attr_out (m : Int) (h : ¬ (0 < m ∧ m ≤ 255)) : attr m = false := by
  unfold attr
  exact decide_eq_false (by omega)
theorem isAttr_any (m : Int) (w : World) : Calls Tryd.prog 36 #[.int .i64 m] w fun e w' => e = .returned (.bool (attr m)) ∧ w = w' := by
  by_cases h0 : 0 < m
  · by_cases h1 : m ≤ 255
    · have Hd := Lib.hid (attr_in m h0 h1)
      go_enter Tryd.func36, Tryd.ntmps36
      go_wp2
      go_ret
      exact ⟨by rw [← Hd.out]; rfl, rfl⟩
    · have Hd := Lib.hid (attr_out m (by omega))
      go_enter Tryd.func36, Tryd.ntmps36
      go_wp2
      go_ret
      exact ⟨by rw [Hd.out]; rfl, rfl⟩
  · have Hd := Lib.hid (attr_out m (by omega))
    go_enter Tryd.func36, Tryd.ntmps36
    go_wp2
    go_ret
    exact ⟨by rw [Hd.out]; rfl, rfl⟩

def penV (k n m c0 c1 : Int) (t : ByteArray) : Value := .agg #[.int .i64 k, .int .i64 n, .int .i64 m, .int .i64 c0, .int .i64 c1, .string t]
theorem none_run (c0 c1 : Int) (b : Bool) (h : none2 c0 c1 = b) (w : World) : (binOp .eql 23 (.agg #[.int .i64 c0, .int .i64 c1]) (.agg #[.int .i64 0, .int .i64 0])).run Tryd.prog w = .ok (.bool b) w := by
  rw [eqlC, ← h]; rfl
theorem fit0 (m c0 c1 : Int) : fitP 0 m c0 c1 = (none2 c0 c1 && m == 0) := rfl
theorem fit1 (m c0 c1 : Int) : fitP 1 m c0 c1 = (none2 c0 c1 && attr m) := rfl
theorem fit2 (m c0 c1 : Int) : fitP 2 m c0 c1 = (none2 c0 c1 && (m == 3 || (attr m && (m != 1 && m != 2)))) := rfl
theorem fit3 (m c0 c1 : Int) : fitP 3 m c0 c1 = (none2 c0 c1 && (decide (0 ≤ m) && decide (m ≤ 5))) := rfl
theorem fit4 (n m c0 c1 : Int) (h : n = 4 ∨ n = 5 ∨ n = 6) : fitP n m c0 c1 = (m == 0 && okC c0 c1) := by
  rcases h with rfl | rfl | rfl <;> rfl
theorem fit_no (n m c0 c1 : Int) (h : ¬ (0 ≤ n ∧ n ≤ 6)) : fitP n m c0 c1 = false := by
  unfold fitP
  rw [if_neg (by omega), if_neg (by omega), if_neg (by omega), if_neg (by omega), if_neg (by omega)]
theorem errC_eq (a b : Int) : (errC a b == 0) = okC a b := by
  unfold errC
  split <;> simp_all
/-- an attribute that is none of the lowest two -/
theorem weight_all (m : Int) (h : attr m = true) : (bits .and .i64 m 3 == 0) = (m != 1 && m != 2) := by
  simp only [attr, decide_eq_true_eq] at h
  rcases h with rfl | rfl | rfl | rfl | rfl | rfl | rfl | rfl <;> decide +kernel
set_option maxRecDepth 100000 in
set_option maxHeartbeats 2000000 in
theorem fits_any (k n m c0 c1 : Int) (t : ByteArray) (w : World) (h : Tl w) : Calls Tryd.prog 32 #[penV k n m c0 c1 t] w fun e w' => e = .returned (.bool (fitP n m c0 c1)) ∧ Below w.heap.size w w' := by
  have H := Lib.hid h; clear h
  unfold penV
  obtain ⟨z, hz⟩ : ∃ z, none2 c0 c1 = z := ⟨_, rfl⟩
  have e1 := none_run c0 c1 z hz
  have Hz := Lib.hid hz; clear hz
  by_cases n0 : n = 0
  · subst n0
    cases z
    · have Hf := Lib.hid (fit0 m c0 c1)
      go_enter Tryd.func32, Tryd.ntmps32
      go_wp2
      go_ret
      exact ⟨by rw [Hf.out, Hz.out]; rfl, below_box _ _⟩
    · have Hf := Lib.hid (fit0 m c0 c1)
      go_enter Tryd.func32, Tryd.ntmps32
      go_wp2
      go_ret
      exact ⟨by rw [Hf.out, Hz.out]; rfl, below_box _ _⟩
  · by_cases n1 : n = 1
    · subst n1
      have Hf := Lib.hid (fit1 m c0 c1)
      cases z
      · go_enter Tryd.func32, Tryd.ntmps32
        go_wp2
        go_ret
        exact ⟨by rw [Hf.out, Hz.out]; rfl, below_box _ _⟩
      · go_enter Tryd.func32, Tryd.ntmps32
        go_wp2_with fail
        refine (isAttr_any m _).mono ?_
        rintro e w1 ⟨rfl, rfl⟩
        go_wp2
        go_ret
        exact ⟨by rw [Hf.out, Hz.out]; rfl, below_box _ _⟩
    · by_cases n2 : n = 2
      · subst n2
        have Hf := Lib.hid (fit2 m c0 c1)
        cases z
        · go_enter Tryd.func32, Tryd.ntmps32
          go_wp2
          go_ret
          exact ⟨by rw [Hf.out, Hz.out]; rfl, below_box _ _⟩
        · by_cases m3 : m = 3
          · subst m3
            go_enter Tryd.func32, Tryd.ntmps32
            go_wp2
            go_ret
            exact ⟨by rw [Hf.out, Hz.out]; rfl, below_box _ _⟩
          · have d3 : (m == 3) = false := by simp [m3]
            obtain ⟨x, hx⟩ : ∃ x, attr m = x := ⟨_, rfl⟩
            cases x
            · have Hx := Lib.hid hx; clear hx
              have Hd := Lib.hid d3
              go_enter Tryd.func32, Tryd.ntmps32
              go_wp2_with fail
              refine (isAttr_any m _).mono ?_
              rw [Hx.out]
              rintro e w1 ⟨rfl, rfl⟩
              go_wp2
              go_ret
              exact ⟨by rw [Hf.out, Hz.out, Hx.out, Hd.out]; rfl, below_box _ _⟩
            · have Hw := Lib.hid (weight_all m hx)
              have Hx := Lib.hid hx; clear hx
              have Hd := Lib.hid d3
              go_enter Tryd.func32, Tryd.ntmps32
              go_wp2_with fail
              refine (isAttr_any m _).mono ?_
              rw [Hx.out]
              rintro e w1 ⟨rfl, rfl⟩
              go_wp2
              go_ret
              exact ⟨by rw [Hf.out, Hz.out, Hx.out, Hd.out, ← Hw.out]; rfl, below_box _ _⟩
      · by_cases n3 : n = 3
        · subst n3
          have Hf := Lib.hid (fit3 m c0 c1)
          cases z
          · go_enter Tryd.func32, Tryd.ntmps32
            go_wp2
            go_ret
            exact ⟨by rw [Hf.out, Hz.out]; rfl, below_box _ _⟩
          · go_enter Tryd.func32, Tryd.ntmps32
            go_wp2_with fail
            refine (isUnder_any m _).mono ?_
            rintro e w1 ⟨rfl, rfl⟩
            go_wp2
            go_ret
            exact ⟨by rw [Hf.out, Hz.out]; rfl, below_box _ _⟩
        · by_cases n4 : n = 4 ∨ n = 5 ∨ n = 6
          · have Hf := Lib.hid (fit4 n m c0 c1 n4)
            by_cases m0 : m = 0
            · subst m0
              rcases n4 with rfl | rfl | rfl
              all_goals
                go_enter Tryd.func32, Tryd.ntmps32
                go_wp2_with fail
                refine (ccheck_any c0 c1 _ ((H.out).keep (below_box _ _))).mono ?_
                rintro e w1 ⟨rfl, hb1⟩
                go_wp2
                go_ret
                exact ⟨by rw [Hf.out, ← errC_eq]; rfl, (below_box _ _).trans (hb1.mono (by simp))⟩
            · have d0 : (m == 0) = false := by simp [m0]
              have Hd := Lib.hid d0
              rcases n4 with rfl | rfl | rfl
              all_goals
                go_enter Tryd.func32, Tryd.ntmps32
                go_wp2
                go_ret
                exact ⟨by rw [Hf.out, Hd.out]; rfl, below_box _ _⟩
          · have Hf := Lib.hid (fit_no n m c0 c1 (by omega))
            have g0 : (n == 0) = false := by simp [n0]
            have g1 : (n == 1) = false := by simp [n1]
            have g2 : (n == 2) = false := by simp [n2]
            have g3 : (n == 3) = false := by simp [n3]
            have g4 : (n == 4) = false := by simp; omega
            have g5 : (n == 5) = false := by simp; omega
            have g6 : (n == 6) = false := by simp; omega
            clear n4
            go_enter Tryd.func32, Tryd.ntmps32
            go_wp2
            go_ret
            exact ⟨by rw [Hf.out]; rfl, below_box _ _⟩
theorem emp_toList : (⟨#[]⟩ : ByteArray).toList = [] := by decide +kernel
theorem pen_run (k n m c0 c1 : Int) (t : ByteArray) (b : Bool) (h : (k == 39 && t.toList.isEmpty) = b) (w : World) :
    (binOp .neq 27 (.agg #[.int .i64 k, .int .i64 n, .int .i64 m, .int .i64 c0, .int .i64 c1, .string t]) (.agg #[.int .i64 39, .int .i64 n, .int .i64 m, .int .i64 c0, .int .i64 c1, .string ⟨#[]⟩])).run Tryd.prog w = .ok (.bool (!b)) w := by
  rw [neqP, ← h]
  simp only [eqP, emp_toList, beq_self_eq_true, Bool.true_and]
  cases t.toList <;> rfl
set_option maxRecDepth 100000 in
set_option maxHeartbeats 2000000 in
theorem checkPen_any (k n m c0 c1 : Int) (t : ByteArray) (w : World) (h : Tl w) : Calls Tryd.prog 14 #[penV k n m c0 c1 t] w fun e w' => e = .returned (.int .i64 (errP ⟨k, n, m, c0, c1, t⟩)) ∧ Below w.heap.size w w' := by
  have H := Lib.hid h; clear h
  have Hp := Lib.hid (show errP ⟨k, n, m, c0, c1, t⟩ = if (k == 39 && t.toList.isEmpty) && fitP n m c0 c1 then 0 else 141 by unfold errP okP; rw [Bool.and_assoc])
  unfold penV
  obtain ⟨z, hz⟩ : ∃ z, (k == 39 && t.toList.isEmpty) = z := ⟨_, rfl⟩
  have e1 := pen_run k n m c0 c1 t z hz
  rw [hz] at Hp
  clear hz
  cases z
  · rw [Bool.not_false] at e1
    go_enter Tryd.func14, Tryd.ntmps14
    go_wp2
    go_ret
    exact ⟨by rw [Hp.out]; rfl, below_box _ _⟩
  · rw [Bool.not_true] at e1
    go_enter Tryd.func14, Tryd.ntmps14
    go_wp2_with fail
    refine (fits_any k n m c0 c1 t _ ((H.out).keep (below_box _ _))).mono ?_
    rintro e w1 ⟨rfl, hb1⟩
    obtain ⟨y, hy⟩ : ∃ y, fitP n m c0 c1 = y := ⟨_, rfl⟩
    rw [hy] at Hp ⊢
    clear hy
    cases y
    · go_wp2
      go_ret
      exact ⟨by rw [Hp.out]; rfl, (below_box _ _).trans (hb1.mono (by simp))⟩
    · go_wp2
      go_ret
      exact ⟨by rw [Hp.out]; rfl, (below_box _ _).trans (hb1.mono (by simp))⟩
end Go.Proofs.YtokjjeekkfefmaaDoor.Sty
