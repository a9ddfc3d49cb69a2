/-
  StyB StyC StyD
-/
import Derived.Laws.StructEq
import Derived.Deep.RegionHeld3
import Derived.Test.YteepfecplabinaaDoorP7
namespace Go.Proofs.YteepfecplabinaaDoor.Sty
open Go.RowKit Utf Col

def eqS (s t : S8) : Bool := s.a == t.a && (s.u == t.u && ((s.f0 == t.f0 && s.f1 == t.f1) && ((s.b0 == t.b0 && s.b1 == t.b1) && (s.l0 == t.l0 && s.l1 == t.l1))))
theorem eqS_iff (s t : S8) : eqS s t = decide (s = t) := by
  cases s; cases t
  simp [eqS, Bool.and_assoc]
  rfl
theorem eqS_self (s : S8) : eqS s s = true := by rw [eqS_iff]; simp
def eqP (s t : P6) : Bool := s.k == t.k && (s.n == t.n && (s.m == t.m && ((s.c0 == t.c0 && s.c1 == t.c1) && s.t.toList == t.t.toList)))
theorem eq2 (a b a' b' : Int) (d : Nat) (w : World) : (Op.equalIn (d + 2) 46 (.agg #[.int .i64 a, .int .i64 b]) (.agg #[.int .i64 a', .int .i64 b'])).run Tryd.prog w = .ok (a == a' && b == b') w := by
  rw [run_equalIn_struct w _ 46 _ _ (by kernel_rfl) (by kernel_rfl)]
  by_cases h1 : a = a' <;> by_cases h2 : b = b' <;> go_simp
theorem eqlC (a b a' b' : Int) (w : World) : (binOp .eql 46 (.agg #[.int .i64 a, .int .i64 b]) (.agg #[.int .i64 a', .int .i64 b'])).run Tryd.prog w = .ok (.bool (a == a' && b == b')) w := by
  rw [run_eql_struct, eq2 a b a' b' 9998]; rfl
theorem neqC (a b a' b' : Int) (w : World) : (binOp .neq 46 (.agg #[.int .i64 a, .int .i64 b]) (.agg #[.int .i64 a', .int .i64 b'])).run Tryd.prog w = .ok (.bool (!(a == a' && b == b'))) w := by
  rw [run_neq_struct, eq2 a b a' b' 9998]; rfl
theorem eq8 (a u f0 f1 b0 b1 l0 l1 a' u' f0' f1' b0' b1' l0' l1' : Int) (w : World) : (Op.equalIn 10000 68 (.agg #[.int .i64 a, .int .i64 u, .int .i64 f0, .int .i64 f1, .int .i64 b0, .int .i64 b1, .int .i64 l0, .int .i64 l1]) (.agg #[.int .i64 a', .int .i64 u', .int .i64 f0', .int .i64 f1', .int .i64 b0', .int .i64 b1', .int .i64 l0', .int .i64 l1'])).run Tryd.prog w = .ok (eqS ⟨a, u, f0, f1, b0, b1, l0, l1⟩ ⟨a', u', f0', f1', b0', b1', l0', l1'⟩) w := by
  unfold eqS
  by_cases h1 : a = a'
  · by_cases h2 : u = u'
    · by_cases h3 : f0 = f0'
      · by_cases h4 : f1 = f1'
        · by_cases h5 : b0 = b0'
          · by_cases h6 : b1 = b1'
            · by_cases h7 : l0 = l0'
              · by_cases h8 : l1 = l1' <;> go_simp
              · go_simp
            · go_simp
          · go_simp
        · go_simp
      · go_simp
    · go_simp
  · go_simp
theorem eqlS (a u f0 f1 b0 b1 l0 l1 a' u' f0' f1' b0' b1' l0' l1' : Int) (w : World) : (binOp .eql 68 (.agg #[.int .i64 a, .int .i64 u, .int .i64 f0, .int .i64 f1, .int .i64 b0, .int .i64 b1, .int .i64 l0, .int .i64 l1]) (.agg #[.int .i64 a', .int .i64 u', .int .i64 f0', .int .i64 f1', .int .i64 b0', .int .i64 b1', .int .i64 l0', .int .i64 l1'])).run Tryd.prog w = .ok (.bool (eqS ⟨a, u, f0, f1, b0, b1, l0, l1⟩ ⟨a', u', f0', f1', b0', b1', l0', l1'⟩)) w := by
  rw [run_eql_struct, eq8]; rfl
theorem neqS (a u f0 f1 b0 b1 l0 l1 a' u' f0' f1' b0' b1' l0' l1' : Int) (w : World) : (binOp .neq 68 (.agg #[.int .i64 a, .int .i64 u, .int .i64 f0, .int .i64 f1, .int .i64 b0, .int .i64 b1, .int .i64 l0, .int .i64 l1]) (.agg #[.int .i64 a', .int .i64 u', .int .i64 f0', .int .i64 f1', .int .i64 b0', .int .i64 b1', .int .i64 l0', .int .i64 l1'])).run Tryd.prog w = .ok (.bool (!eqS ⟨a, u, f0, f1, b0, b1, l0, l1⟩ ⟨a', u', f0', f1', b0', b1', l0', l1'⟩)) w := by
  rw [run_neq_struct, eq8]; rfl
theorem eq6 (k n m c0 c1 k' n' m' c0' c1' : Int) (t t' : ByteArray) (w : World) : (Op.equalIn 10000 48 (.agg #[.int .i64 k, .int .i64 n, .int .i64 m, .int .i64 c0, .int .i64 c1, .string t]) (.agg #[.int .i64 k', .int .i64 n', .int .i64 m', .int .i64 c0', .int .i64 c1', .string t'])).run Tryd.prog w = .ok (eqP ⟨k, n, m, c0, c1, t⟩ ⟨k', n', m', c0', c1', t'⟩) w := by
  unfold eqP
  by_cases h1 : k = k'
  · by_cases h2 : n = n'
    · by_cases h3 : m = m'
      · by_cases h4 : c0 = c0'
        · by_cases h5 : c1 = c1'
          · by_cases h6 : t.toList = t'.toList <;> go_simp
          · go_simp
        · go_simp
      · go_simp
    · go_simp
  · go_simp
theorem neqP (k n m c0 c1 k' n' m' c0' c1' : Int) (t t' : ByteArray) (w : World) : (binOp .neq 48 (.agg #[.int .i64 k, .int .i64 n, .int .i64 m, .int .i64 c0, .int .i64 c1, .string t]) (.agg #[.int .i64 k', .int .i64 n', .int .i64 m', .int .i64 c0', .int .i64 c1', .string t'])).run Tryd.prog w = .ok (.bool (!eqP ⟨k, n, m, c0, c1, t⟩ ⟨k', n', m', c0', c1', t'⟩)) w := by
  rw [run_neq_struct, eq6]; rfl

theorem isUnder_any (m : Int) (w : World) : Calls Tryd.prog 79 #[.int .i64 m] w fun e w' => e = .returned (.bool (decide (0 ≤ m) && decide (m ≤ 5))) ∧ w = w' := by
  by_cases h0 : 0 ≤ m
  · go_enter Tryd.func79, Tryd.ntmps79
    go_wp2
    go_ret
    exact ⟨by simp [h0], rfl⟩
  · have d0 : decide (0 ≤ m) = false := decide_eq_false h0
    go_enter Tryd.func79, Tryd.ntmps79
    go_wp2
    go_ret
    exact ⟨rfl, rfl⟩
theorem attr_all : ∀ m : Fin 256, 0 < m.val → (bits .and .i64 (m.val : Int) ((m.val : Int) - 1) == 0) = attr m.val := by decide +kernel
theorem attr_in (m : Int) (h0 : 0 < m) (h1 : m ≤ 255) : (bits .and .i64 m (m - 1) == 0) = attr m := by
  have := attr_all ⟨m.toNat, by omega⟩ (by simp; omega)
  simpa [Int.toNat_of_nonneg (show 0 ≤ m by omega)] using this
theorem attr_out (m : Int) (h : ¬ (0 < m ∧ m ≤ 255)) : attr m = false := by
  unfold attr
  exact decide_eq_false (by omega)
theorem isAttr_any (m : Int) (w : World) : Calls Tryd.prog 78 #[.int .i64 m] w fun e w' => e = .returned (.bool (attr m)) ∧ w = w' := by
  by_cases h0 : 0 < m
  · by_cases h1 : m ≤ 255
    · have Hd := Lib.hid (attr_in m h0 h1)
      go_enter Tryd.func78, Tryd.ntmps78
      go_wp2
      go_ret
      exact ⟨by rw [← Hd.out]; rfl, rfl⟩
    · have Hd := Lib.hid (attr_out m (by omega))
      go_enter Tryd.func78, Tryd.ntmps78
      go_wp2
      go_ret
      exact ⟨by rw [Hd.out]; rfl, rfl⟩
  · have Hd := Lib.hid (attr_out m (by omega))
    go_enter Tryd.func78, Tryd.ntmps78
    go_wp2
    go_ret
    exact ⟨by rw [Hd.out]; rfl, rfl⟩

def penV (k n m c0 c1 : Int) (t : ByteArray) : Value := .agg #[.int .i64 k, .int .i64 n, .int .i64 m, .int .i64 c0, .int .i64 c1, .string t]
theorem none_run (c0 c1 : Int) (b : Bool) (h : none2 c0 c1 = b) (w : World) : (binOp .eql 46 (.agg #[.int .i64 c0, .int .i64 c1]) (.agg #[.int .i64 0, .int .i64 0])).run Tryd.prog w = .ok (.bool b) w := by
  rw [eqlC, ← h]; rfl
theorem fit0 (m c0 c1 : Int) : fitP 0 m c0 c1 = (none2 c0 c1 && m == 0) := rfl
theorem fit1 (m c0 c1 : Int) : fitP 1 m c0 c1 = (none2 c0 c1 && attr m) := rfl
theorem fit2 (m c0 c1 : Int) : fitP 2 m c0 c1 = (none2 c0 c1 && (m == 3 || (attr m && (m != 1 && m != 2)))) := rfl
theorem fit3 (m c0 c1 : Int) : fitP 3 m c0 c1 = (none2 c0 c1 && (decide (0 ≤ m) && decide (m ≤ 5))) := rfl
theorem fit4 (n m c0 c1 : Int) (h : n = 4 ∨ n = 5 ∨ n = 6) : fitP n m c0 c1 = (m == 0 && okC c0 c1) := by
  rcases h with rfl | rfl | rfl <;> rfl
theorem fit_no (n m c0 c1 : Int) (h : ¬ (0 ≤ n ∧ n ≤ 6)) : fitP n m c0 c1 = false := by
  unfold fitP
  rw [if_neg (by omega), if_neg (by omega), if_neg (by omega), if_neg (by omega), if_neg (by omega)]
theorem errC_eq (a b : Int) : (errC a b == 0) = okC a b := by
  unfold errC
  split <;> simp_all
/-- an attribute that is none of the lowest two -/
theorem weight_all (m : Int) (h : attr m = true) : (bits .and .i64 m 3 == 0) = (m != 1 && m != 2) := by
  simp only [attr, decide_eq_true_eq] at h
  rcases h with rfl | rfl | rfl | rfl | rfl | rfl | rfl | rfl <;> decide +kernel
set_option maxRecDepth 100000 in
set_option maxHeartbeats 2000000 in
theorem fits_any (k n m c0 c1 : Int) (t : ByteArray) (w : World) (h : Tl w) : Calls Tryd.prog 47 #[penV k n m c0 c1 t] w fun e w' => e = .returned (.bool (fitP n m c0 c1)) ∧ Below w.heap.size w w' := by
  have H := Lib.hid h; clear h
  unfold penV
  obtain ⟨z, hz⟩ : ∃ z, none2 c0 c1 = z := ⟨_, rfl⟩
  have e1 := none_run c0 c1 z hz
  have Hz := Lib.hid hz; clear hz
  by_cases n0 : n = 0
  · subst n0
    cases z
    · have Hf := Lib.hid (fit0 m c0 c1)
      go_enter Tryd.func47, Tryd.ntmps47
      go_wp2
      go_ret
      exact ⟨by rw [Hf.out, Hz.out]; rfl, below_box _ _⟩
    · have Hf := Lib.hid (fit0 m c0 c1)
      go_enter Tryd.func47, Tryd.ntmps47
      go_wp2
      go_ret
      exact ⟨by rw [Hf.out, Hz.out]; rfl, below_box _ _⟩
  · by_cases n1 : n = 1
    · subst n1
      have Hf := Lib.hid (fit1 m c0 c1)
      cases z
      · go_enter Tryd.func47, Tryd.ntmps47
        go_wp2
        go_ret
        exact ⟨by rw [Hf.out, Hz.out]; rfl, below_box _ _⟩
      · go_enter Tryd.func47, Tryd.ntmps47
        go_wp2_with fail
        refine (isAttr_any m _).mono ?_
        rintro e w1 ⟨rfl, rfl⟩
        go_wp2
        go_ret
        exact ⟨by rw [Hf.out, Hz.out]; rfl, below_box _ _⟩
    · by_cases n2 : n = 2
      · subst n2
        have Hf := Lib.hid (fit2 m c0 c1)
        cases z
        · go_enter Tryd.func47, Tryd.ntmps47
          go_wp2
          go_ret
          exact ⟨by rw [Hf.out, Hz.out]; rfl, below_box _ _⟩
        · by_cases m3 : m = 3
          · subst m3
            go_enter Tryd.func47, Tryd.ntmps47
            go_wp2
            go_ret
            exact ⟨by rw [Hf.out, Hz.out]; rfl, below_box _ _⟩
          · have d3 : (m == 3) = false := by simp [m3]
            obtain ⟨x, hx⟩ : ∃ x, attr m = x := ⟨_, rfl⟩
            cases x
            · have Hx := Lib.hid hx; clear hx
              have Hd := Lib.hid d3
              go_enter Tryd.func47, Tryd.ntmps47
              go_wp2_with fail
              refine (isAttr_any m _).mono ?_
              rw [Hx.out]
              rintro e w1 ⟨rfl, rfl⟩
              go_wp2
              go_ret
              exact ⟨by rw [Hf.out, Hz.out, Hx.out, Hd.out]; rfl, below_box _ _⟩
            · have Hw := Lib.hid (weight_all m hx)
              have Hx := Lib.hid hx; clear hx
              have Hd := Lib.hid d3
              go_enter Tryd.func47, Tryd.ntmps47
              go_wp2_with fail
              refine (isAttr_any m _).mono ?_
              rw [Hx.out]
              rintro e w1 ⟨rfl, rfl⟩
              go_wp2
              go_ret
              exact ⟨by rw [Hf.out, Hz.out, Hx.out, Hd.out, ← Hw.out]; rfl, below_box _ _⟩
      · by_cases n3 : n = 3
        · subst n3
          have Hf := Lib.hid (fit3 m c0 c1)
          cases z
          · go_enter Tryd.func47, Tryd.ntmps47
            go_wp2
            go_ret
            exact ⟨by rw [Hf.out, Hz.out]; rfl, below_box _ _⟩
          · go_enter Tryd.func47, Tryd.ntmps47
            go_wp2_with fail
            refine (isUnder_any m _).mono ?_
            rintro e w1 ⟨rfl, rfl⟩
            go_wp2
            go_ret
            exact ⟨by rw [Hf.out, Hz.out]; rfl, below_box _ _⟩
        · by_cases n4 : n = 4 ∨ n = 5 ∨ n = 6
          · have Hf := Lib.hid (fit4 n m c0 c1 n4)
            by_cases m0 : m = 0
            · subst m0
              rcases n4 with rfl | rfl | rfl
              all_goals
                go_enter Tryd.func47, Tryd.ntmps47
                go_wp2_with fail
                refine (ccheck_any c0 c1 _ ((H.out).keep (below_box _ _))).mono ?_
                rintro e w1 ⟨rfl, hb1⟩
                go_wp2
                go_ret
                exact ⟨by rw [Hf.out, ← errC_eq]; rfl, (below_box _ _).trans (hb1.mono (by simp))⟩
            · have d0 : (m == 0) = false := by simp [m0]
              have Hd := Lib.hid d0
              rcases n4 with rfl | rfl | rfl
              all_goals
                go_enter Tryd.func47, Tryd.ntmps47
                go_wp2
                go_ret
                exact ⟨by rw [Hf.out, Hd.out]; rfl, below_box _ _⟩
          · have Hf := Lib.hid (fit_no n m c0 c1 (by omega))
            have g0 : (n == 0) = false := by simp [n0]
            have g1 : (n == 1) = false := by simp [n1]
            have g2 : (n == 2) = false := by simp [n2]
            have g3 : (n == 3) = false := by simp [n3]
            have g4 : (n == 4) = false := by simp; omega
            have g5 : (n == 5) = false := by simp; omega
            have g6 : (n == 6) = false := by simp; omega
            clear n4
            go_enter Tryd.func47, Tryd.ntmps47
            go_wp2
            go_ret
            exact ⟨by rw [Hf.out]; rfl, below_box _ _⟩
theorem emp_toList : (⟨#[]⟩ : ByteArray).toList = [] := by decide +kernel
theorem pen_run (k n m c0 c1 : Int) (t : ByteArray) (b : Bool) (h : (k == 39 && t.toList.isEmpty) = b) (w : World) :
    (binOp .neq 48 (.agg #[.int .i64 k, .int .i64 n, .int .i64 m, .int .i64 c0, .int .i64 c1, .string t]) (.agg #[.int .i64 39, .int .i64 n, .int .i64 m, .int .i64 c0, .int .i64 c1, .string ⟨#[]⟩])).run Tryd.prog w = .ok (.bool (!b)) w := by
  rw [neqP, ← h]
  simp only [eqP, emp_toList, beq_self_eq_true, Bool.true_and]
  cases t.toList <;> rfl
set_option maxRecDepth 100000 in
set_option maxHeartbeats 2000000 in
theorem checkPen_any (k n m c0 c1 : Int) (t : ByteArray) (w : World) (h : Tl w) : Calls Tryd.prog 24 #[penV k n m c0 c1 t] w fun e w' => e = .returned (.int .i64 (errP ⟨k, n, m, c0, c1, t⟩)) ∧ Below w.heap.size w w' := by
  have H := Lib.hid h; clear h
  have Hp := Lib.hid (show errP ⟨k, n, m, c0, c1, t⟩ = if (k == 39 && t.toList.isEmpty) && fitP n m c0 c1 then 0 else 141 by unfold errP okP; rw [Bool.and_assoc])
  unfold penV
  obtain ⟨z, hz⟩ : ∃ z, (k == 39 && t.toList.isEmpty) = z := ⟨_, rfl⟩
  have e1 := pen_run k n m c0 c1 t z hz
  rw [hz] at Hp
  clear hz
  cases z
  · rw [Bool.not_false] at e1
    go_enter Tryd.func24, Tryd.ntmps24
    go_wp2
    go_ret
    exact ⟨by rw [Hp.out]; rfl, below_box _ _⟩
  · rw [Bool.not_true] at e1
    go_enter Tryd.func24, Tryd.ntmps24
    go_wp2_with fail
    refine (fits_any k n m c0 c1 t _ ((H.out).keep (below_box _ _))).mono ?_
    rintro e w1 ⟨rfl, hb1⟩
    obtain ⟨y, hy⟩ : ∃ y, fitP n m c0 c1 = y := ⟨_, rfl⟩
    rw [hy] at Hp ⊢
    clear hy
    cases y
    · go_wp2
      go_ret
      exact ⟨by rw [Hp.out]; rfl, (below_box _ _).trans (hb1.mono (by simp))⟩
    · go_wp2
      go_ret
      exact ⟨by rw [Hp.out]; rfl, (below_box _ _).trans (hb1.mono (by simp))⟩
end Go.Proofs.YteepfecplabinaaDoor.Sty

namespace Go.Proofs.YteepfecplabinaaDoor.Sty
open Go.RowKit Utf Col

def styV (a u f0 f1 b0 b1 l0 l1 : Int) : Value := .agg #[.int .i64 a, .int .i64 u, .int .i64 f0, .int .i64 f1, .int .i64 b0, .int .i64 b1, .int .i64 l0, .int .i64 l1]
theorem zero_run (a u f0 f1 b0 b1 l0 l1 : Int) (b : Bool) (h : eqS ⟨a, u, f0, f1, b0, b1, l0, l1⟩ z8 = b) (w : World) : (binOp .eql 68 (.agg #[.int .i64 a, .int .i64 u, .int .i64 f0, .int .i64 f1, .int .i64 b0, .int .i64 b1, .int .i64 l0, .int .i64 l1]) (.agg #[.int .i64 0, .int .i64 0, .int .i64 0, .int .i64 0, .int .i64 0, .int .i64 0, .int .i64 0, .int .i64 0])).run Tryd.prog w = .ok (.bool b) w := by
  rw [eqlS, ← h]; rfl
theorem errS_z : errS z8 = 0 := by decide
theorem errS_out (a u f0 f1 b0 b1 l0 l1 : Int) (h : inR a u = false) : errS ⟨a, u, f0, f1, b0, b1, l0, l1⟩ = 140 := by
  unfold errS; rw [h]; rfl
theorem errS_in (a u f0 f1 b0 b1 l0 l1 : Int) (h : inR a u = true) : errS ⟨a, u, f0, f1, b0, b1, l0, l1⟩ = if okC f0 f1 && (okC b0 b1 && okC l0 l1) then 0 else 130 := by
  unfold errS; rw [h]; rfl
theorem errC_yes (x y : Int) (h : okC x y = true) : errC x y = 0 := by unfold errC; rw [h]; rfl
theorem errC_not (x y : Int) (h : okC x y = false) : errC x y = 130 := by unfold errC; rw [h]; rfl
set_option maxRecDepth 100000 in
set_option maxHeartbeats 4000000 in
theorem check_any (a u f0 f1 b0 b1 l0 l1 : Int) (w : World) (h : Tl w) : Calls Tryd.prog 48 #[styV a u f0 f1 b0 b1 l0 l1] w fun e w' => e = .returned (.int .i64 (errS ⟨a, u, f0, f1, b0, b1, l0, l1⟩)) ∧ Below w.heap.size w w' := by
  have H := Lib.hid h; clear h
  unfold styV
  obtain ⟨z, hz⟩ : ∃ z, eqS ⟨a, u, f0, f1, b0, b1, l0, l1⟩ z8 = z := ⟨_, rfl⟩
  have e1 := zero_run a u f0 f1 b0 b1 l0 l1 z hz
  cases z
  · clear hz
    obtain ⟨r, hr⟩ : ∃ r, inR a u = r := ⟨_, rfl⟩
    cases r
    · have Hs := Lib.hid (errS_out a u f0 f1 b0 b1 l0 l1 hr)
      simp only [inR, decide_eq_false_iff_not] at hr
      by_cases a0 : a < 0
      · clear hr
        go_enter Tryd.func48, Tryd.ntmps48
        go_wp2
        go_ret
        exact ⟨by rw [Hs.out]; rfl, below_box _ _⟩
      · by_cases a1 : 255 < a
        · clear hr
          go_enter Tryd.func48, Tryd.ntmps48
          go_wp2
          go_ret
          exact ⟨by rw [Hs.out]; rfl, below_box _ _⟩
        · have hu := Lib.hid (show (decide (0 ≤ u) && decide (u ≤ 5)) = false by simp; omega)
          clear hr
          go_enter Tryd.func48, Tryd.ntmps48
          go_wp2_with fail
          refine (isUnder_any u _).mono ?_
          rw [hu.out]
          rintro e w1 ⟨rfl, rfl⟩
          go_wp2
          go_ret
          exact ⟨by rw [Hs.out]; rfl, below_box _ _⟩
    · have Hs := Lib.hid (errS_in a u f0 f1 b0 b1 l0 l1 hr)
      simp only [inR, decide_eq_true_eq] at hr
      obtain ⟨a0, a1, u0, u1⟩ := hr
      have hu := Lib.hid (show (decide (0 ≤ u) && decide (u ≤ 5)) = true by simp; omega)
      have x0 : ∀ W, (Instr.index 129 (.agg #[.int .i64 f0, .int .i64 f1, .int .i64 b0, .int .i64 b1, .int .i64 l0, .int .i64 l1]) (.int .i64 0)).run Tryd.prog W = .ok (.agg #[.int .i64 f0, .int .i64 f1]) W := fun _ => by kernel_rfl
      have x1 : ∀ W, (Instr.index 129 (.agg #[.int .i64 f0, .int .i64 f1, .int .i64 b0, .int .i64 b1, .int .i64 l0, .int .i64 l1]) (.int .i64 1)).run Tryd.prog W = .ok (.agg #[.int .i64 b0, .int .i64 b1]) W := fun _ => by kernel_rfl
      have x2 : ∀ W, (Instr.index 129 (.agg #[.int .i64 f0, .int .i64 f1, .int .i64 b0, .int .i64 b1, .int .i64 l0, .int .i64 l1]) (.int .i64 2)).run Tryd.prog W = .ok (.agg #[.int .i64 l0, .int .i64 l1]) W := fun _ => by kernel_rfl
      go_enter Tryd.func48, Tryd.ntmps48
      go_wp2_with fail
      refine (isUnder_any u _).mono ?_
      rw [hu.out]
      rintro e w1 ⟨rfl, rfl⟩
      go_wp2_with fail
      have hb0 := Lib.hid (below_box w (.cells #[.int .i64 a, .int .i64 u, .int .i64 f0, .int .i64 f1, .int .i64 b0, .int .i64 b1, .int .i64 l0, .int .i64 l1] 68))
      go_loopw [30] (fun i wr => ∃ k : Nat, k ≤ 3 ∧ i = .int .i64 k ∧ Hid (Below w.heap.size w wr ∧ (1 ≤ k → okC f0 f1 = true) ∧ (2 ≤ k → okC b0 b1 = true) ∧ (3 ≤ k → okC l0 l1 = true))) (fun i _ => 3 - (intOf i).toNat)
      case atStart => exact ⟨0, by omega, rfl, Lib.hid ⟨hb0.out, fun h => by omega, fun h => by omega, fun h => by omega⟩⟩
      case round =>
        clear hb0
        obtain ⟨k, hk, rfl, hid⟩ := hrel
        obtain ⟨h0, q1, q2, q3⟩ := hid.out
        clear hid
        rcases (show k = 0 ∨ k = 1 ∨ k = 2 ∨ k = 3 by omega) with rfl | rfl | rfl | rfl
        · rw [show (((0 : Nat)) : Int) = 0 from rfl]
          clear q1 q2 q3
          go_wp2_with fail
          have h1 := h0.alloc h0.size (.cells #[.int .i64 f0, .int .i64 f1] 46)
          generalize wr.alloc (.cells #[.int .i64 f0, .int .i64 f1] 46) = w1 at h1 ⊢
          clear h0
          refine (ccheck_any f0 f1 _ ((H.out).keep h1)).mono ?_
          rintro e w2 ⟨rfl, hb2⟩
          have h2 := h1.trans (hb2.mono h1.size)
          clear hb2 h1
          obtain ⟨y, hy⟩ : ∃ y, okC f0 f1 = y := ⟨_, rfl⟩
          cases y
          · rw [errC_not f0 f1 hy]
            have Ho := Lib.hid hy; clear hy
            go_wp2
            go_ret
            exact ⟨by rw [Hs.out, Ho.out]; rfl, h2⟩
          · rw [errC_yes f0 f1 hy]
            have Ho := Lib.hid hy; clear hy
            go_wp2
            go_roundw
            case rel => exact ⟨1, by omega, rfl, Lib.hid ⟨h2, fun _ => Ho.out, fun h => by omega, fun h => by omega⟩⟩
            case measure => simp [intOf]
        · rw [show (((1 : Nat)) : Int) = 1 from rfl]
          have hq1 := Lib.hid (q1 (by omega))
          clear q1 q2 q3
          go_wp2_with fail
          have h1 := h0.alloc h0.size (.cells #[.int .i64 b0, .int .i64 b1] 46)
          generalize wr.alloc (.cells #[.int .i64 b0, .int .i64 b1] 46) = w1 at h1 ⊢
          clear h0
          refine (ccheck_any b0 b1 _ ((H.out).keep h1)).mono ?_
          rintro e w2 ⟨rfl, hb2⟩
          have h2 := h1.trans (hb2.mono h1.size)
          clear hb2 h1
          obtain ⟨y, hy⟩ : ∃ y, okC b0 b1 = y := ⟨_, rfl⟩
          cases y
          · rw [errC_not b0 b1 hy]
            have Ho := Lib.hid hy; clear hy
            go_wp2
            go_ret
            exact ⟨by rw [Hs.out, hq1.out, Ho.out]; rfl, h2⟩
          · rw [errC_yes b0 b1 hy]
            have Ho := Lib.hid hy; clear hy
            go_wp2
            go_roundw
            case rel => exact ⟨2, by omega, rfl, Lib.hid ⟨h2, fun _ => hq1.out, fun _ => Ho.out, fun h => by omega⟩⟩
            case measure => simp [intOf]
        · rw [show (((2 : Nat)) : Int) = 2 from rfl]
          have hq1 := Lib.hid (q1 (by omega))
          have hq2 := Lib.hid (q2 (by omega))
          clear q1 q2 q3
          go_wp2_with fail
          have h1 := h0.alloc h0.size (.cells #[.int .i64 l0, .int .i64 l1] 46)
          generalize wr.alloc (.cells #[.int .i64 l0, .int .i64 l1] 46) = w1 at h1 ⊢
          clear h0
          refine (ccheck_any l0 l1 _ ((H.out).keep h1)).mono ?_
          rintro e w2 ⟨rfl, hb2⟩
          have h2 := h1.trans (hb2.mono h1.size)
          clear hb2 h1
          obtain ⟨y, hy⟩ : ∃ y, okC l0 l1 = y := ⟨_, rfl⟩
          cases y
          · rw [errC_not l0 l1 hy]
            have Ho := Lib.hid hy; clear hy
            go_wp2
            go_ret
            exact ⟨by rw [Hs.out, hq1.out, hq2.out, Ho.out]; rfl, h2⟩
          · rw [errC_yes l0 l1 hy]
            have Ho := Lib.hid hy; clear hy
            go_wp2
            go_roundw
            case rel => exact ⟨3, by omega, rfl, Lib.hid ⟨h2, fun _ => hq1.out, fun _ => hq2.out, fun _ => Ho.out⟩⟩
            case measure => simp [intOf]
        · have hq1 := Lib.hid (q1 (by omega))
          have hq2 := Lib.hid (q2 (by omega))
          have hq3 := Lib.hid (q3 (by omega))
          clear q1 q2 q3
          rw [show (((3 : Nat)) : Int) = 3 from rfl]
          go_wp2
          go_ret
          exact ⟨by rw [Hs.out, hq1.out, hq2.out, hq3.out]; rfl, h0⟩
  · have Hs := Lib.hid (show errS ⟨a, u, f0, f1, b0, b1, l0, l1⟩ = 0 by rw [eqS_iff, decide_eq_true_eq] at hz; rw [hz]; exact errS_z)
    clear hz
    go_enter Tryd.func48, Tryd.ntmps48
    go_wp2
    go_ret
    exact ⟨by rw [Hs.out]; rfl, below_box _ _⟩
end Go.Proofs.YteepfecplabinaaDoor.Sty

namespace Go.Proofs.YteepfecplabinaaDoor.Sty
open Go.RowKit Utf Col
theorem ret_cell1 {P : Program} {fn : Func} {p : Tmp} {ty : TypeId} (h : fn.results = #[.cell p ty]) (tmps : Array Value) (w : World) (a : Addr) (v : Value) (ha : tmps.getD p undef = .pointer (some a)) (hl : (loadVar ty a).run P w = .ok v w) :
    (results fn tmps).run P w = .ok v w := by
  have ha' : tmps[p]?.getD undef = .pointer (some a) := by simpa using ha
  simp only [results, h]
  simp [ha', asAddr, hl]
theorem ret_cell2 {P : Program} {fn : Func} {p q : Tmp} {ty tz : TypeId} (h : fn.results = #[.cell p ty, .cell q tz]) (tmps : Array Value) (w : World) (a b : Addr) (v u : Value) (ha : tmps.getD p undef = .pointer (some a)) (hb : tmps.getD q undef = .pointer (some b)) (hl : (loadVar ty a).run P w = .ok v w) (hm : (loadVar tz b).run P w = .ok u w) :
    (results fn tmps).run P w = .ok (.tuple #[v, u]) w := by
  have ha' : tmps[p]?.getD undef = .pointer (some a) := by simpa using ha
  have hb' : tmps[q]?.getD undef = .pointer (some b) := by simpa using hb
  simp only [results, h]
  simp [ha', hb', asAddr, hl, hm]
theorem load8 (a u f0 f1 b0 b1 l0 l1 : Int) (w : World) (B : Nat) (h : w.heap[B]? = some (.cells #[.int .i64 a, .int .i64 u, .int .i64 f0, .int .i64 f1, .int .i64 b0, .int .i64 b1, .int .i64 l0, .int .i64 l1] 68 (0, 0))) :
    (loadVar 68 ⟨B, 0, none⟩).run Tryd.prog w = .ok (styV a u f0 f1 b0 b1 l0 l1) w := 
  (run_loadVar_mid w B 0 68 [.int .i64 a, .int .i64 u, .int .i64 f0, .int .i64 f1, .int .i64 b0, .int .i64 b1, .int .i64 l0, .int .i64 l1] _ (World.rangeAt_of_block h 0 8) Tryd.underlying68 rfl (by kernel_rfl)).trans rfl
theorem alloc1_at (w : World) (o o' : Obj) : ((w.alloc o).alloc o').heap[w.heap.size + 1]? = some o' := by
  have := heap_alloc_new (w.alloc o) o'
  rwa [show (w.alloc o).heap.size = w.heap.size + 1 by simp] at this
theorem load_col (w : World) (B : Nat) (a b : Value) (h0 : w.cell? ⟨B, 0, none⟩ = some a) (h1 : w.cell? ⟨B, 1, none⟩ = some b) : (loadVar 46 ⟨B, 0, none⟩).run Tryd.prog w = .ok (.agg #[a, b]) w := by
  go_simp
def seenV (x : Int × Int × Int × Int) : Value := .tuple #[.agg #[.int .i64 x.1, .int .i64 x.2.1], .agg #[.int .i64 x.2.2.1, .int .i64 x.2.2.2]]
end Go.Proofs.YteepfecplabinaaDoor.Sty
