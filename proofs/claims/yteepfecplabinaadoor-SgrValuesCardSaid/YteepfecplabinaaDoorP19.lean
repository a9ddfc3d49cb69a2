/-
  StyO StyP
-/
import Derived.Test.YteepfecplabinaaDoorP17
import Derived.Test.YteepfecplabinaaDoorP18
namespace Go.Proofs.YteepfecplabinaaDoor.Sty
open Go.RowKit Utf Col

theorem rem_run (k : IntKind) (t : TypeId) (n m : Nat) (h : 0 < m) (w : World) : (binOp .rem t (.int k (n : Int)) (.int k (m : Int))).run Tryd.prog w = .ok (.int k ((n % m : Nat) : Int)) w := by
  have h0 : ¬ ((m : Int) = 0) := by omega
  have h1 : (n : Int).tmod (m : Int) = ((n % m : Nat) : Int) := by rw [Int.tmod_eq_emod_of_nonneg (by omega)]; rfl
  unfold binOp
  simp only [Op.intDiv]
  rw [if_neg h0]
  simp [h1]
theorem quo_run (k : IntKind) (t : TypeId) (n m : Nat) (h : 0 < m) (hk : k.wrap ((n / m : Nat) : Int) = ((n / m : Nat) : Int)) (w : World) : (binOp .quo t (.int k (n : Int)) (.int k (m : Int))).run Tryd.prog w = .ok (.int k ((n / m : Nat) : Int)) w := by
  have h0 : ¬ ((m : Int) = 0) := by omega
  have h1 : (n : Int).tdiv (m : Int) = ((n / m : Nat) : Int) := by rw [Int.tdiv_eq_ediv_of_nonneg (by omega)]; rfl
  unfold binOp
  simp only [Op.intDiv]
  rw [if_neg h0]
  simp only [h1, hk]
  simp
theorem shl_run (v : Nat) (h : v < 8) (w : World) : (binOp .shl 3 (.int .i64 1) (.int .u8 (v : Int))).run Tryd.prog w = .ok (.int .i64 ((2 ^ v : Nat) : Int)) w := by
  rcases (show v = 0 ∨ v = 1 ∨ v = 2 ∨ v = 3 ∨ v = 4 ∨ v = 5 ∨ v = 6 ∨ v = 7 by omega) with rfl | rfl | rfl | rfl | rfl | rfl | rfl | rfl <;> kernel_rfl
/-- the color of a draft's number -/
def colK (e : UInt32) : Int := ((e.toNat % 3 : Nat) : Int)
def colN (e : UInt32) : Int := if e.toNat % 3 = 0 then 0 else if e.toNat % 3 = 1 then ((e.toNat / 3 % 256 : Nat) : Int) else ((e.toNat / 3 % 16777216 : Nat) : Int)
theorem col_ok (e : UInt32) : okC (colK e) (colN e) = true := by
  unfold okC colK colN
  apply decide_eq_true
  split
  · omega
  · split <;> omega
set_option maxRecDepth 100000 in
theorem lcolor_any (e : UInt32) (w : World) : Calls Tryd.prog 34 #[.int .u32 (e.toNat : Int)] w fun r w' => r = .returned (.agg #[.int .i64 (colK e), .int .i64 (colN e)]) ∧ Below w.heap.size w w' := by
  have hlt : e.toNat < 4294967296 := e.toNat_lt
  have hK : colK e = ((e.toNat % 3 : Nat) : Int) := rfl
  have hN : colN e = if e.toNat % 3 = 0 then 0 else if e.toNat % 3 = 1 then ((e.toNat / 3 % 256 : Nat) : Int) else ((e.toNat / 3 % 16777216 : Nat) : Int) := rfl
  generalize colK e = kk at hK ⊢
  generalize colN e = nn at hN ⊢
  generalize e.toNat = n at hlt hK hN ⊢
  rcases (show n % 3 = 0 ∨ n % 3 = 1 ∨ n % 3 = 2 by omega) with h | h | h
  · have h1 : (n : Int) % 3 = 0 := by omega
    rw [h] at hK hN
    have Hk := Lib.hid (show kk = 0 from hK)
    have Hn := Lib.hid (show nn = 0 from hN)
    clear hK hN h hlt
    go_enter Tryd.func34, Tryd.ntmps34
    go_wp2
    refine bodyPost_ret (ret_cell1 rfl _ _ ⟨w.heap.size, 0, none⟩ _ rfl (load_col _ _ (.int .i64 0) (.int .i64 0) (by go_simp) (by go_simp))) rfl ?_
    exact ⟨by rw [Hk.out, Hn.out], below_box _ _⟩
  · have h1 : (n : Int) % 3 = 1 := by omega
    rw [h] at hK hN
    have Hk := Lib.hid (show kk = 1 from hK)
    have Hn := Lib.hid (show nn = (n : Int) / 3 % 256 from hN.trans (by simp))
    clear hK hN h hlt
    go_enter Tryd.func34, Tryd.ntmps34
    go_wp2
    refine bodyPost_ret (ret_cell1 rfl _ _ ⟨w.heap.size, 0, none⟩ _ rfl (load_col _ _ (.int .i64 1) (.int .i64 ((n : Int) / 3 % 256)) (by go_simp) (by go_simp))) rfl ?_
    exact ⟨by rw [Hk.out, Hn.out], below_box _ _⟩
  · have h1 : (n : Int) % 3 = 2 := by omega
    rw [h] at hK hN
    have Hk := Lib.hid (show kk = 2 from hK)
    have Hn := Lib.hid (show nn = (n : Int) / 3 % 16777216 from hN.trans (by simp))
    clear hK hN h hlt
    go_enter Tryd.func34, Tryd.ntmps34
    go_wp2
    refine bodyPost_ret (ret_cell1 rfl _ _ ⟨w.heap.size, 0, none⟩ _ rfl (load_col _ _ (.int .i64 2) (.int .i64 ((n : Int) / 3 % 16777216)) (by go_simp) (by go_simp))) rfl ?_
    exact ⟨by rw [Hk.out, Hn.out], below_box _ _⟩
/-- the pen of a draft -/
def penM (n m : Nat) : Int := if n = 1 then ((2 ^ (m % 8) : Nat) : Int) else if n = 2 then (if m % 8 ≤ 1 then 3 else ((2 ^ (m % 8) : Nat) : Int)) else if n = 3 then ((m % 6 : Nat) : Int) else 0
def penD (d : D8) : P6 := ⟨39, ((d.w.toNat % 7 : Nat) : Int), penM (d.w.toNat % 7) d.m.toNat, if 4 ≤ d.w.toNat % 7 then colK d.e3 else 0, if 4 ≤ d.w.toNat % 7 then colN d.e3 else 0, ⟨#[]⟩⟩
def pnV' (p : P6) : Value := .agg #[.int .i64 p.k, .int .i64 p.n, .int .i64 p.m, .int .i64 p.c0, .int .i64 p.c1, .string p.t]
theorem pow8 (m : Nat) : attr ((2 ^ (m % 8) : Nat) : Int) = true := by
  rcases (show m % 8 = 0 ∨ m % 8 = 1 ∨ m % 8 = 2 ∨ m % 8 = 3 ∨ m % 8 = 4 ∨ m % 8 = 5 ∨ m % 8 = 6 ∨ m % 8 = 7 by omega) with h | h | h | h | h | h | h | h <;> rw [h] <;> decide
theorem penD_ok (d : D8) : okP (penD d) = true := by
  have hc := col_ok d.e3
  unfold okP penD
  simp only
  generalize d.w.toNat = n
  generalize d.m.toNat = m
  generalize colK d.e3 = x at hc ⊢
  generalize colN d.e3 = y at hc ⊢
  rw [show (⟨#[]⟩ : ByteArray).toList.isEmpty = true by rw [emp_toList]; rfl]
  rcases (show n % 7 = 0 ∨ n % 7 = 1 ∨ n % 7 = 2 ∨ n % 7 = 3 ∨ n % 7 = 4 ∨ n % 7 = 5 ∨ n % 7 = 6 by omega) with h | h | h | h | h | h | h <;> rw [h]
  · rfl
  · show (true && (true && fitP 1 ((2 ^ (m % 8) : Nat) : Int) 0 0)) = true
    rw [fit1, pow8]; rfl
  · show (true && (true && fitP 2 (if m % 8 ≤ 1 then 3 else ((2 ^ (m % 8) : Nat) : Int)) 0 0)) = true
    rcases (show m % 8 = 0 ∨ m % 8 = 1 ∨ m % 8 = 2 ∨ m % 8 = 3 ∨ m % 8 = 4 ∨ m % 8 = 5 ∨ m % 8 = 6 ∨ m % 8 = 7 by omega) with h | h | h | h | h | h | h | h <;> rw [h] <;> decide
  · show (true && (true && fitP 3 ((m % 6 : Nat) : Int) 0 0)) = true
    rw [fit3]
    have h1 : (0 : Int) ≤ ((m % 6 : Nat) : Int) := by omega
    have h2 : ((m % 6 : Nat) : Int) ≤ 5 := by omega
    rw [decide_eq_true h1, decide_eq_true h2]; rfl
  · show (true && (true && fitP 4 0 x y)) = true
    rw [fit4 4 0 x y (by omega), hc]; rfl
  · show (true && (true && fitP 5 0 x y)) = true
    rw [fit4 5 0 x y (by omega), hc]; rfl
  · show (true && (true && fitP 6 0 x y)) = true
    rw [fit4 6 0 x y (by omega), hc]; rfl
set_option maxRecDepth 100000 in
theorem pen_0 (d : D8) (h : d.w.toNat % 7 = 0) (w : World) : Calls Tryd.prog 17 #[.agg #[.int .u8 (d.a.toNat : Int), .int .u8 (d.u.toNat : Int), .int .u8 (d.w.toNat : Int), .int .u8 (d.m.toNat : Int), .int .u32 (d.e0.toNat : Int), .int .u32 (d.e1.toNat : Int), .int .u32 (d.e2.toNat : Int), .int .u32 (d.e3.toNat : Int)]] w fun r w' => r = .returned (pnV' (penD d)) ∧ Below w.heap.size w w' := by
    have Hp := Lib.hid (show penD d = ⟨39, 0, 0, 0, 0, ⟨#[]⟩⟩ by unfold penD penM; rw [h]; rfl)
    have h1 : (d.w.toNat : Int) % 7 = 0 := by omega
    clear h
    go_enter Tryd.func17, Tryd.ntmps17
    go_wp2
    refine bodyPost_ret (ret_cell1 rfl _ _ ⟨w.heap.size + 1, 0, none⟩ _ rfl (load_act _ _ ⟨39, 0, 0, 0, 0, ⟨#[]⟩⟩ (by exact (((Box.of (alloc1_at _ _ _)).alloc _)).2.1))) rfl ?_
    exact ⟨by rw [Hp.out]; rfl, ((below_box _ _).alloc (by simp) _).alloc (by simp; omega) _⟩
set_option maxRecDepth 100000 in
theorem pen_10 (d : D8) (h : d.w.toNat % 7 = 1) (h8 : d.m.toNat % 8 = 0) (w : World) : Calls Tryd.prog 17 #[.agg #[.int .u8 (d.a.toNat : Int), .int .u8 (d.u.toNat : Int), .int .u8 (d.w.toNat : Int), .int .u8 (d.m.toNat : Int), .int .u32 (d.e0.toNat : Int), .int .u32 (d.e1.toNat : Int), .int .u32 (d.e2.toNat : Int), .int .u32 (d.e3.toNat : Int)]] w fun r w' => r = .returned (pnV' (penD d)) ∧ Below w.heap.size w w' := by
    have Hp := Lib.hid (show penD d = ⟨39, 1, 1, 0, 0, ⟨#[]⟩⟩ by unfold penD penM; rw [h]; rw [h8]; rfl)
    have h1 : (d.w.toNat : Int) % 7 = 1 := by omega
    have h2 : (d.m.toNat : Int) % 8 = 0 := by omega
    clear h8
    clear h
    go_enter Tryd.func17, Tryd.ntmps17
    go_wp2
    refine bodyPost_ret (ret_cell1 rfl _ _ ⟨w.heap.size + 1, 0, none⟩ _ rfl (load_act _ _ ⟨39, 1, 1, 0, 0, ⟨#[]⟩⟩ (by exact (((Box.of (alloc1_at _ _ _)).alloc _)).2.1))) rfl ?_
    exact ⟨by rw [Hp.out]; rfl, ((below_box _ _).alloc (by simp) _).alloc (by simp; omega) _⟩
set_option maxRecDepth 100000 in
theorem pen_20 (d : D8) (h : d.w.toNat % 7 = 2) (h8 : d.m.toNat % 8 = 0) (w : World) : Calls Tryd.prog 17 #[.agg #[.int .u8 (d.a.toNat : Int), .int .u8 (d.u.toNat : Int), .int .u8 (d.w.toNat : Int), .int .u8 (d.m.toNat : Int), .int .u32 (d.e0.toNat : Int), .int .u32 (d.e1.toNat : Int), .int .u32 (d.e2.toNat : Int), .int .u32 (d.e3.toNat : Int)]] w fun r w' => r = .returned (pnV' (penD d)) ∧ Below w.heap.size w w' := by
    have Hp := Lib.hid (show penD d = ⟨39, 2, 3, 0, 0, ⟨#[]⟩⟩ by unfold penD penM; rw [h]; rw [h8]; rfl)
    have h1 : (d.w.toNat : Int) % 7 = 2 := by omega
    have h2 : (d.m.toNat : Int) % 8 = 0 := by omega
    clear h8
    clear h
    go_enter Tryd.func17, Tryd.ntmps17
    go_wp2
    refine bodyPost_ret (ret_cell1 rfl _ _ ⟨w.heap.size + 1, 0, none⟩ _ rfl (load_act _ _ ⟨39, 2, 3, 0, 0, ⟨#[]⟩⟩ (by exact (((Box.of (alloc1_at _ _ _)).alloc _)).2.1))) rfl ?_
    exact ⟨by rw [Hp.out]; rfl, ((below_box _ _).alloc (by simp) _).alloc (by simp; omega) _⟩
set_option maxRecDepth 100000 in
theorem pen_11 (d : D8) (h : d.w.toNat % 7 = 1) (h8 : d.m.toNat % 8 = 1) (w : World) : Calls Tryd.prog 17 #[.agg #[.int .u8 (d.a.toNat : Int), .int .u8 (d.u.toNat : Int), .int .u8 (d.w.toNat : Int), .int .u8 (d.m.toNat : Int), .int .u32 (d.e0.toNat : Int), .int .u32 (d.e1.toNat : Int), .int .u32 (d.e2.toNat : Int), .int .u32 (d.e3.toNat : Int)]] w fun r w' => r = .returned (pnV' (penD d)) ∧ Below w.heap.size w w' := by
    have Hp := Lib.hid (show penD d = ⟨39, 1, 2, 0, 0, ⟨#[]⟩⟩ by unfold penD penM; rw [h]; rw [h8]; rfl)
    have h1 : (d.w.toNat : Int) % 7 = 1 := by omega
    have h2 : (d.m.toNat : Int) % 8 = 1 := by omega
    clear h8
    clear h
    go_enter Tryd.func17, Tryd.ntmps17
    go_wp2
    refine bodyPost_ret (ret_cell1 rfl _ _ ⟨w.heap.size + 1, 0, none⟩ _ rfl (load_act _ _ ⟨39, 1, 2, 0, 0, ⟨#[]⟩⟩ (by exact (((Box.of (alloc1_at _ _ _)).alloc _)).2.1))) rfl ?_
    exact ⟨by rw [Hp.out]; rfl, ((below_box _ _).alloc (by simp) _).alloc (by simp; omega) _⟩
set_option maxRecDepth 100000 in
theorem pen_21 (d : D8) (h : d.w.toNat % 7 = 2) (h8 : d.m.toNat % 8 = 1) (w : World) : Calls Tryd.prog 17 #[.agg #[.int .u8 (d.a.toNat : Int), .int .u8 (d.u.toNat : Int), .int .u8 (d.w.toNat : Int), .int .u8 (d.m.toNat : Int), .int .u32 (d.e0.toNat : Int), .int .u32 (d.e1.toNat : Int), .int .u32 (d.e2.toNat : Int), .int .u32 (d.e3.toNat : Int)]] w fun r w' => r = .returned (pnV' (penD d)) ∧ Below w.heap.size w w' := by
    have Hp := Lib.hid (show penD d = ⟨39, 2, 3, 0, 0, ⟨#[]⟩⟩ by unfold penD penM; rw [h]; rw [h8]; rfl)
    have h1 : (d.w.toNat : Int) % 7 = 2 := by omega
    have h2 : (d.m.toNat : Int) % 8 = 1 := by omega
    clear h8
    clear h
    go_enter Tryd.func17, Tryd.ntmps17
    go_wp2
    refine bodyPost_ret (ret_cell1 rfl _ _ ⟨w.heap.size + 1, 0, none⟩ _ rfl (load_act _ _ ⟨39, 2, 3, 0, 0, ⟨#[]⟩⟩ (by exact (((Box.of (alloc1_at _ _ _)).alloc _)).2.1))) rfl ?_
    exact ⟨by rw [Hp.out]; rfl, ((below_box _ _).alloc (by simp) _).alloc (by simp; omega) _⟩
set_option maxRecDepth 100000 in
theorem pen_12 (d : D8) (h : d.w.toNat % 7 = 1) (h8 : d.m.toNat % 8 = 2) (w : World) : Calls Tryd.prog 17 #[.agg #[.int .u8 (d.a.toNat : Int), .int .u8 (d.u.toNat : Int), .int .u8 (d.w.toNat : Int), .int .u8 (d.m.toNat : Int), .int .u32 (d.e0.toNat : Int), .int .u32 (d.e1.toNat : Int), .int .u32 (d.e2.toNat : Int), .int .u32 (d.e3.toNat : Int)]] w fun r w' => r = .returned (pnV' (penD d)) ∧ Below w.heap.size w w' := by
    have Hp := Lib.hid (show penD d = ⟨39, 1, 4, 0, 0, ⟨#[]⟩⟩ by unfold penD penM; rw [h]; rw [h8]; rfl)
    have h1 : (d.w.toNat : Int) % 7 = 1 := by omega
    have h2 : (d.m.toNat : Int) % 8 = 2 := by omega
    clear h8
    clear h
    go_enter Tryd.func17, Tryd.ntmps17
    go_wp2
    refine bodyPost_ret (ret_cell1 rfl _ _ ⟨w.heap.size + 1, 0, none⟩ _ rfl (load_act _ _ ⟨39, 1, 4, 0, 0, ⟨#[]⟩⟩ (by exact (((Box.of (alloc1_at _ _ _)).alloc _)).2.1))) rfl ?_
    exact ⟨by rw [Hp.out]; rfl, ((below_box _ _).alloc (by simp) _).alloc (by simp; omega) _⟩
set_option maxRecDepth 100000 in
theorem pen_22 (d : D8) (h : d.w.toNat % 7 = 2) (h8 : d.m.toNat % 8 = 2) (w : World) : Calls Tryd.prog 17 #[.agg #[.int .u8 (d.a.toNat : Int), .int .u8 (d.u.toNat : Int), .int .u8 (d.w.toNat : Int), .int .u8 (d.m.toNat : Int), .int .u32 (d.e0.toNat : Int), .int .u32 (d.e1.toNat : Int), .int .u32 (d.e2.toNat : Int), .int .u32 (d.e3.toNat : Int)]] w fun r w' => r = .returned (pnV' (penD d)) ∧ Below w.heap.size w w' := by
    have Hp := Lib.hid (show penD d = ⟨39, 2, 4, 0, 0, ⟨#[]⟩⟩ by unfold penD penM; rw [h]; rw [h8]; rfl)
    have h1 : (d.w.toNat : Int) % 7 = 2 := by omega
    have h2 : (d.m.toNat : Int) % 8 = 2 := by omega
    clear h8
    clear h
    go_enter Tryd.func17, Tryd.ntmps17
    go_wp2
    refine bodyPost_ret (ret_cell1 rfl _ _ ⟨w.heap.size + 1, 0, none⟩ _ rfl (load_act _ _ ⟨39, 2, 4, 0, 0, ⟨#[]⟩⟩ (by exact (((Box.of (alloc1_at _ _ _)).alloc _)).2.1))) rfl ?_
    exact ⟨by rw [Hp.out]; rfl, ((below_box _ _).alloc (by simp) _).alloc (by simp; omega) _⟩
set_option maxRecDepth 100000 in
theorem pen_13 (d : D8) (h : d.w.toNat % 7 = 1) (h8 : d.m.toNat % 8 = 3) (w : World) : Calls Tryd.prog 17 #[.agg #[.int .u8 (d.a.toNat : Int), .int .u8 (d.u.toNat : Int), .int .u8 (d.w.toNat : Int), .int .u8 (d.m.toNat : Int), .int .u32 (d.e0.toNat : Int), .int .u32 (d.e1.toNat : Int), .int .u32 (d.e2.toNat : Int), .int .u32 (d.e3.toNat : Int)]] w fun r w' => r = .returned (pnV' (penD d)) ∧ Below w.heap.size w w' := by
    have Hp := Lib.hid (show penD d = ⟨39, 1, 8, 0, 0, ⟨#[]⟩⟩ by unfold penD penM; rw [h]; rw [h8]; rfl)
    have h1 : (d.w.toNat : Int) % 7 = 1 := by omega
    have h2 : (d.m.toNat : Int) % 8 = 3 := by omega
    clear h8
    clear h
    go_enter Tryd.func17, Tryd.ntmps17
    go_wp2
    refine bodyPost_ret (ret_cell1 rfl _ _ ⟨w.heap.size + 1, 0, none⟩ _ rfl (load_act _ _ ⟨39, 1, 8, 0, 0, ⟨#[]⟩⟩ (by exact (((Box.of (alloc1_at _ _ _)).alloc _)).2.1))) rfl ?_
    exact ⟨by rw [Hp.out]; rfl, ((below_box _ _).alloc (by simp) _).alloc (by simp; omega) _⟩
set_option maxRecDepth 100000 in
theorem pen_23 (d : D8) (h : d.w.toNat % 7 = 2) (h8 : d.m.toNat % 8 = 3) (w : World) : Calls Tryd.prog 17 #[.agg #[.int .u8 (d.a.toNat : Int), .int .u8 (d.u.toNat : Int), .int .u8 (d.w.toNat : Int), .int .u8 (d.m.toNat : Int), .int .u32 (d.e0.toNat : Int), .int .u32 (d.e1.toNat : Int), .int .u32 (d.e2.toNat : Int), .int .u32 (d.e3.toNat : Int)]] w fun r w' => r = .returned (pnV' (penD d)) ∧ Below w.heap.size w w' := by
    have Hp := Lib.hid (show penD d = ⟨39, 2, 8, 0, 0, ⟨#[]⟩⟩ by unfold penD penM; rw [h]; rw [h8]; rfl)
    have h1 : (d.w.toNat : Int) % 7 = 2 := by omega
    have h2 : (d.m.toNat : Int) % 8 = 3 := by omega
    clear h8
    clear h
    go_enter Tryd.func17, Tryd.ntmps17
    go_wp2
    refine bodyPost_ret (ret_cell1 rfl _ _ ⟨w.heap.size + 1, 0, none⟩ _ rfl (load_act _ _ ⟨39, 2, 8, 0, 0, ⟨#[]⟩⟩ (by exact (((Box.of (alloc1_at _ _ _)).alloc _)).2.1))) rfl ?_
    exact ⟨by rw [Hp.out]; rfl, ((below_box _ _).alloc (by simp) _).alloc (by simp; omega) _⟩
set_option maxRecDepth 100000 in
theorem pen_14 (d : D8) (h : d.w.toNat % 7 = 1) (h8 : d.m.toNat % 8 = 4) (w : World) : Calls Tryd.prog 17 #[.agg #[.int .u8 (d.a.toNat : Int), .int .u8 (d.u.toNat : Int), .int .u8 (d.w.toNat : Int), .int .u8 (d.m.toNat : Int), .int .u32 (d.e0.toNat : Int), .int .u32 (d.e1.toNat : Int), .int .u32 (d.e2.toNat : Int), .int .u32 (d.e3.toNat : Int)]] w fun r w' => r = .returned (pnV' (penD d)) ∧ Below w.heap.size w w' := by
    have Hp := Lib.hid (show penD d = ⟨39, 1, 16, 0, 0, ⟨#[]⟩⟩ by unfold penD penM; rw [h]; rw [h8]; rfl)
    have h1 : (d.w.toNat : Int) % 7 = 1 := by omega
    have h2 : (d.m.toNat : Int) % 8 = 4 := by omega
    clear h8
    clear h
    go_enter Tryd.func17, Tryd.ntmps17
    go_wp2
    refine bodyPost_ret (ret_cell1 rfl _ _ ⟨w.heap.size + 1, 0, none⟩ _ rfl (load_act _ _ ⟨39, 1, 16, 0, 0, ⟨#[]⟩⟩ (by exact (((Box.of (alloc1_at _ _ _)).alloc _)).2.1))) rfl ?_
    exact ⟨by rw [Hp.out]; rfl, ((below_box _ _).alloc (by simp) _).alloc (by simp; omega) _⟩
set_option maxRecDepth 100000 in
theorem pen_24 (d : D8) (h : d.w.toNat % 7 = 2) (h8 : d.m.toNat % 8 = 4) (w : World) : Calls Tryd.prog 17 #[.agg #[.int .u8 (d.a.toNat : Int), .int .u8 (d.u.toNat : Int), .int .u8 (d.w.toNat : Int), .int .u8 (d.m.toNat : Int), .int .u32 (d.e0.toNat : Int), .int .u32 (d.e1.toNat : Int), .int .u32 (d.e2.toNat : Int), .int .u32 (d.e3.toNat : Int)]] w fun r w' => r = .returned (pnV' (penD d)) ∧ Below w.heap.size w w' := by
    have Hp := Lib.hid (show penD d = ⟨39, 2, 16, 0, 0, ⟨#[]⟩⟩ by unfold penD penM; rw [h]; rw [h8]; rfl)
    have h1 : (d.w.toNat : Int) % 7 = 2 := by omega
    have h2 : (d.m.toNat : Int) % 8 = 4 := by omega
    clear h8
    clear h
    go_enter Tryd.func17, Tryd.ntmps17
    go_wp2
    refine bodyPost_ret (ret_cell1 rfl _ _ ⟨w.heap.size + 1, 0, none⟩ _ rfl (load_act _ _ ⟨39, 2, 16, 0, 0, ⟨#[]⟩⟩ (by exact (((Box.of (alloc1_at _ _ _)).alloc _)).2.1))) rfl ?_
    exact ⟨by rw [Hp.out]; rfl, ((below_box _ _).alloc (by simp) _).alloc (by simp; omega) _⟩
set_option maxRecDepth 100000 in
theorem pen_15 (d : D8) (h : d.w.toNat % 7 = 1) (h8 : d.m.toNat % 8 = 5) (w : World) : Calls Tryd.prog 17 #[.agg #[.int .u8 (d.a.toNat : Int), .int .u8 (d.u.toNat : Int), .int .u8 (d.w.toNat : Int), .int .u8 (d.m.toNat : Int), .int .u32 (d.e0.toNat : Int), .int .u32 (d.e1.toNat : Int), .int .u32 (d.e2.toNat : Int), .int .u32 (d.e3.toNat : Int)]] w fun r w' => r = .returned (pnV' (penD d)) ∧ Below w.heap.size w w' := by
    have Hp := Lib.hid (show penD d = ⟨39, 1, 32, 0, 0, ⟨#[]⟩⟩ by unfold penD penM; rw [h]; rw [h8]; rfl)
    have h1 : (d.w.toNat : Int) % 7 = 1 := by omega
    have h2 : (d.m.toNat : Int) % 8 = 5 := by omega
    clear h8
    clear h
    go_enter Tryd.func17, Tryd.ntmps17
    go_wp2
    refine bodyPost_ret (ret_cell1 rfl _ _ ⟨w.heap.size + 1, 0, none⟩ _ rfl (load_act _ _ ⟨39, 1, 32, 0, 0, ⟨#[]⟩⟩ (by exact (((Box.of (alloc1_at _ _ _)).alloc _)).2.1))) rfl ?_
    exact ⟨by rw [Hp.out]; rfl, ((below_box _ _).alloc (by simp) _).alloc (by simp; omega) _⟩
set_option maxRecDepth 100000 in
theorem pen_25 (d : D8) (h : d.w.toNat % 7 = 2) (h8 : d.m.toNat % 8 = 5) (w : World) : Calls Tryd.prog 17 #[.agg #[.int .u8 (d.a.toNat : Int), .int .u8 (d.u.toNat : Int), .int .u8 (d.w.toNat : Int), .int .u8 (d.m.toNat : Int), .int .u32 (d.e0.toNat : Int), .int .u32 (d.e1.toNat : Int), .int .u32 (d.e2.toNat : Int), .int .u32 (d.e3.toNat : Int)]] w fun r w' => r = .returned (pnV' (penD d)) ∧ Below w.heap.size w w' := by
    have Hp := Lib.hid (show penD d = ⟨39, 2, 32, 0, 0, ⟨#[]⟩⟩ by unfold penD penM; rw [h]; rw [h8]; rfl)
    have h1 : (d.w.toNat : Int) % 7 = 2 := by omega
    have h2 : (d.m.toNat : Int) % 8 = 5 := by omega
    clear h8
    clear h
    go_enter Tryd.func17, Tryd.ntmps17
    go_wp2
    refine bodyPost_ret (ret_cell1 rfl _ _ ⟨w.heap.size + 1, 0, none⟩ _ rfl (load_act _ _ ⟨39, 2, 32, 0, 0, ⟨#[]⟩⟩ (by exact (((Box.of (alloc1_at _ _ _)).alloc _)).2.1))) rfl ?_
    exact ⟨by rw [Hp.out]; rfl, ((below_box _ _).alloc (by simp) _).alloc (by simp; omega) _⟩
set_option maxRecDepth 100000 in
theorem pen_16 (d : D8) (h : d.w.toNat % 7 = 1) (h8 : d.m.toNat % 8 = 6) (w : World) : Calls Tryd.prog 17 #[.agg #[.int .u8 (d.a.toNat : Int), .int .u8 (d.u.toNat : Int), .int .u8 (d.w.toNat : Int), .int .u8 (d.m.toNat : Int), .int .u32 (d.e0.toNat : Int), .int .u32 (d.e1.toNat : Int), .int .u32 (d.e2.toNat : Int), .int .u32 (d.e3.toNat : Int)]] w fun r w' => r = .returned (pnV' (penD d)) ∧ Below w.heap.size w w' := by
    have Hp := Lib.hid (show penD d = ⟨39, 1, 64, 0, 0, ⟨#[]⟩⟩ by unfold penD penM; rw [h]; rw [h8]; rfl)
    have h1 : (d.w.toNat : Int) % 7 = 1 := by omega
    have h2 : (d.m.toNat : Int) % 8 = 6 := by omega
    clear h8
    clear h
    go_enter Tryd.func17, Tryd.ntmps17
    go_wp2
    refine bodyPost_ret (ret_cell1 rfl _ _ ⟨w.heap.size + 1, 0, none⟩ _ rfl (load_act _ _ ⟨39, 1, 64, 0, 0, ⟨#[]⟩⟩ (by exact (((Box.of (alloc1_at _ _ _)).alloc _)).2.1))) rfl ?_
    exact ⟨by rw [Hp.out]; rfl, ((below_box _ _).alloc (by simp) _).alloc (by simp; omega) _⟩
set_option maxRecDepth 100000 in
theorem pen_26 (d : D8) (h : d.w.toNat % 7 = 2) (h8 : d.m.toNat % 8 = 6) (w : World) : Calls Tryd.prog 17 #[.agg #[.int .u8 (d.a.toNat : Int), .int .u8 (d.u.toNat : Int), .int .u8 (d.w.toNat : Int), .int .u8 (d.m.toNat : Int), .int .u32 (d.e0.toNat : Int), .int .u32 (d.e1.toNat : Int), .int .u32 (d.e2.toNat : Int), .int .u32 (d.e3.toNat : Int)]] w fun r w' => r = .returned (pnV' (penD d)) ∧ Below w.heap.size w w' := by
    have Hp := Lib.hid (show penD d = ⟨39, 2, 64, 0, 0, ⟨#[]⟩⟩ by unfold penD penM; rw [h]; rw [h8]; rfl)
    have h1 : (d.w.toNat : Int) % 7 = 2 := by omega
    have h2 : (d.m.toNat : Int) % 8 = 6 := by omega
    clear h8
    clear h
    go_enter Tryd.func17, Tryd.ntmps17
    go_wp2
    refine bodyPost_ret (ret_cell1 rfl _ _ ⟨w.heap.size + 1, 0, none⟩ _ rfl (load_act _ _ ⟨39, 2, 64, 0, 0, ⟨#[]⟩⟩ (by exact (((Box.of (alloc1_at _ _ _)).alloc _)).2.1))) rfl ?_
    exact ⟨by rw [Hp.out]; rfl, ((below_box _ _).alloc (by simp) _).alloc (by simp; omega) _⟩
set_option maxRecDepth 100000 in
theorem pen_17 (d : D8) (h : d.w.toNat % 7 = 1) (h8 : d.m.toNat % 8 = 7) (w : World) : Calls Tryd.prog 17 #[.agg #[.int .u8 (d.a.toNat : Int), .int .u8 (d.u.toNat : Int), .int .u8 (d.w.toNat : Int), .int .u8 (d.m.toNat : Int), .int .u32 (d.e0.toNat : Int), .int .u32 (d.e1.toNat : Int), .int .u32 (d.e2.toNat : Int), .int .u32 (d.e3.toNat : Int)]] w fun r w' => r = .returned (pnV' (penD d)) ∧ Below w.heap.size w w' := by
    have Hp := Lib.hid (show penD d = ⟨39, 1, 128, 0, 0, ⟨#[]⟩⟩ by unfold penD penM; rw [h]; rw [h8]; rfl)
    have h1 : (d.w.toNat : Int) % 7 = 1 := by omega
    have h2 : (d.m.toNat : Int) % 8 = 7 := by omega
    clear h8
    clear h
    go_enter Tryd.func17, Tryd.ntmps17
    go_wp2
    refine bodyPost_ret (ret_cell1 rfl _ _ ⟨w.heap.size + 1, 0, none⟩ _ rfl (load_act _ _ ⟨39, 1, 128, 0, 0, ⟨#[]⟩⟩ (by exact (((Box.of (alloc1_at _ _ _)).alloc _)).2.1))) rfl ?_
    exact ⟨by rw [Hp.out]; rfl, ((below_box _ _).alloc (by simp) _).alloc (by simp; omega) _⟩
set_option maxRecDepth 100000 in
theorem pen_27 (d : D8) (h : d.w.toNat % 7 = 2) (h8 : d.m.toNat % 8 = 7) (w : World) : Calls Tryd.prog 17 #[.agg #[.int .u8 (d.a.toNat : Int), .int .u8 (d.u.toNat : Int), .int .u8 (d.w.toNat : Int), .int .u8 (d.m.toNat : Int), .int .u32 (d.e0.toNat : Int), .int .u32 (d.e1.toNat : Int), .int .u32 (d.e2.toNat : Int), .int .u32 (d.e3.toNat : Int)]] w fun r w' => r = .returned (pnV' (penD d)) ∧ Below w.heap.size w w' := by
    have Hp := Lib.hid (show penD d = ⟨39, 2, 128, 0, 0, ⟨#[]⟩⟩ by unfold penD penM; rw [h]; rw [h8]; rfl)
    have h1 : (d.w.toNat : Int) % 7 = 2 := by omega
    have h2 : (d.m.toNat : Int) % 8 = 7 := by omega
    clear h8
    clear h
    go_enter Tryd.func17, Tryd.ntmps17
    go_wp2
    refine bodyPost_ret (ret_cell1 rfl _ _ ⟨w.heap.size + 1, 0, none⟩ _ rfl (load_act _ _ ⟨39, 2, 128, 0, 0, ⟨#[]⟩⟩ (by exact (((Box.of (alloc1_at _ _ _)).alloc _)).2.1))) rfl ?_
    exact ⟨by rw [Hp.out]; rfl, ((below_box _ _).alloc (by simp) _).alloc (by simp; omega) _⟩
set_option maxRecDepth 100000 in
theorem pen_3 (d : D8) (h : d.w.toNat % 7 = 3) (w : World) : Calls Tryd.prog 17 #[.agg #[.int .u8 (d.a.toNat : Int), .int .u8 (d.u.toNat : Int), .int .u8 (d.w.toNat : Int), .int .u8 (d.m.toNat : Int), .int .u32 (d.e0.toNat : Int), .int .u32 (d.e1.toNat : Int), .int .u32 (d.e2.toNat : Int), .int .u32 (d.e3.toNat : Int)]] w fun r w' => r = .returned (pnV' (penD d)) ∧ Below w.heap.size w w' := by
    have Hp := Lib.hid (show penD d = ⟨39, 3, ((d.m.toNat : Int) % 6), 0, 0, ⟨#[]⟩⟩ by unfold penD penM; rw [h]; rfl)
    have h1 : (d.w.toNat : Int) % 7 = 3 := by omega
    clear h
    go_enter Tryd.func17, Tryd.ntmps17
    go_wp2
    refine bodyPost_ret (ret_cell1 rfl _ _ ⟨w.heap.size + 1, 0, none⟩ _ rfl (load_act _ _ ⟨39, 3, ((d.m.toNat : Int) % 6), 0, 0, ⟨#[]⟩⟩ (by exact (((Box.of (alloc1_at _ _ _)).alloc _)).2.1))) rfl ?_
    exact ⟨by rw [Hp.out]; rfl, ((below_box _ _).alloc (by simp) _).alloc (by simp; omega) _⟩
theorem put6 (w : World) (b : Nat) (p q : P6) (h : Box w b (cP q)) : Box ((((((w.setCell ⟨b, 0, none⟩ (.int .i64 p.k)).setCell ⟨b, 1, none⟩ (.int .i64 p.n)).setCell ⟨b, 2, none⟩ (.int .i64 p.m)).setCell ⟨b, 3, none⟩ (.int .i64 p.c0)).setCell ⟨b, 4, none⟩ (.int .i64 p.c1)).setCell ⟨b, 5, none⟩ (.string p.t)) b (cP p) := Box.put (ds := cP p) h rfl
theorem below6 {B : Nat} {a w : World} (b : Nat) (p : P6) (h : Below B a w) (hb : B ≤ b) : Below B a ((((((w.setCell ⟨b, 0, none⟩ (.int .i64 p.k)).setCell ⟨b, 1, none⟩ (.int .i64 p.n)).setCell ⟨b, 2, none⟩ (.int .i64 p.m)).setCell ⟨b, 3, none⟩ (.int .i64 p.c0)).setCell ⟨b, 4, none⟩ (.int .i64 p.c1)).setCell ⟨b, 5, none⟩ (.string p.t)) := ((((((h.setCell (p := ⟨b, 0, none⟩) hb _).setCell (p := ⟨b, 1, none⟩) hb _).setCell (p := ⟨b, 2, none⟩) hb _).setCell (p := ⟨b, 3, none⟩) hb _).setCell (p := ⟨b, 4, none⟩) hb _).setCell (p := ⟨b, 5, none⟩) hb _)
set_option maxRecDepth 100000 in
set_option maxHeartbeats 1000000 in
theorem pen_4 (d : D8) (h : d.w.toNat % 7 = 4) (w : World) : Calls Tryd.prog 17 #[.agg #[.int .u8 (d.a.toNat : Int), .int .u8 (d.u.toNat : Int), .int .u8 (d.w.toNat : Int), .int .u8 (d.m.toNat : Int), .int .u32 (d.e0.toNat : Int), .int .u32 (d.e1.toNat : Int), .int .u32 (d.e2.toNat : Int), .int .u32 (d.e3.toNat : Int)]] w fun r w' => r = .returned (pnV' (penD d)) ∧ Below w.heap.size w w' := by
    have Hp := Lib.hid (show penD d = ⟨39, 4, 0, colK d.e3, colN d.e3, ⟨#[]⟩⟩ by unfold penD penM; rw [h]; rfl)
    have h1 : (d.w.toNat : Int) % 7 = 4 := by omega
    clear h
    go_enter Tryd.func17, Tryd.ntmps17
    go_wp2_with fail
    have hB0 : Box (((w.alloc (.cells #[.int .u8 (d.a.toNat : Int), .int .u8 (d.u.toNat : Int), .int .u8 (d.w.toNat : Int), .int .u8 (d.m.toNat : Int), .int .u32 (d.e0.toNat : Int), .int .u32 (d.e1.toNat : Int), .int .u32 (d.e2.toNat : Int), .int .u32 (d.e3.toNat : Int)] 52)).alloc (.cells #[.int .i64 0, .int .i64 0, .int .i64 0, .int .i64 0, .int .i64 0, .string ⟨#[]⟩] 48)).alloc (.cells #[.int .i64 39, .int .i64 4, .int .i64 0, .int .i64 0, .int .i64 0, .string ⟨#[]⟩] 48)) (w.heap.size + 1) (cP ⟨0, 0, 0, 0, 0, ⟨#[]⟩⟩) := (Box.of (alloc1_at _ _ _)).alloc _
    have hC0 : Box (((w.alloc (.cells #[.int .u8 (d.a.toNat : Int), .int .u8 (d.u.toNat : Int), .int .u8 (d.w.toNat : Int), .int .u8 (d.m.toNat : Int), .int .u32 (d.e0.toNat : Int), .int .u32 (d.e1.toNat : Int), .int .u32 (d.e2.toNat : Int), .int .u32 (d.e3.toNat : Int)] 52)).alloc (.cells #[.int .i64 0, .int .i64 0, .int .i64 0, .int .i64 0, .int .i64 0, .string ⟨#[]⟩] 48)).alloc (.cells #[.int .i64 39, .int .i64 4, .int .i64 0, .int .i64 0, .int .i64 0, .string ⟨#[]⟩] 48)) (w.heap.size + 1 + 1) (cP ⟨39, 4, 0, 0, 0, ⟨#[]⟩⟩) := Box.of (alloc2_at _ _ _ _)
    have hW0 : Below w.heap.size w (((w.alloc (.cells #[.int .u8 (d.a.toNat : Int), .int .u8 (d.u.toNat : Int), .int .u8 (d.w.toNat : Int), .int .u8 (d.m.toNat : Int), .int .u32 (d.e0.toNat : Int), .int .u32 (d.e1.toNat : Int), .int .u32 (d.e2.toNat : Int), .int .u32 (d.e3.toNat : Int)] 52)).alloc (.cells #[.int .i64 0, .int .i64 0, .int .i64 0, .int .i64 0, .int .i64 0, .string ⟨#[]⟩] 48)).alloc (.cells #[.int .i64 39, .int .i64 4, .int .i64 0, .int .i64 0, .int .i64 0, .string ⟨#[]⟩] 48)) := (two_boxes w _ _).alloc (by simp; omega) _
    generalize ((w.alloc (.cells #[.int .u8 (d.a.toNat : Int), .int .u8 (d.u.toNat : Int), .int .u8 (d.w.toNat : Int), .int .u8 (d.m.toNat : Int), .int .u32 (d.e0.toNat : Int), .int .u32 (d.e1.toNat : Int), .int .u32 (d.e2.toNat : Int), .int .u32 (d.e3.toNat : Int)] 52)).alloc (.cells #[.int .i64 0, .int .i64 0, .int .i64 0, .int .i64 0, .int .i64 0, .string ⟨#[]⟩] 48)).alloc (.cells #[.int .i64 39, .int .i64 4, .int .i64 0, .int .i64 0, .int .i64 0, .string ⟨#[]⟩] 48) = w1 at hB0 hC0 hW0 ⊢
    refine (lcolor_any d.e3 _).mono ?_
    rintro e w2 ⟨rfl, hb2⟩
    have hB := hB0.keep hb2
    have hC := hC0.keep hb2
    have HW := Lib.hid (hW0.trans (hb2.mono hW0.size))
    clear hB0 hC0 hW0 hb2
    have lB := hB.1
    have lC := hC.1
    have x0 := hB.cell 0 _ rfl
    have v0 := hB.free 0 (by show 0 < 6; decide)
    have y0 := hC.cell 0 _ rfl
    have z0 := hC.free 0 (by show 0 < 6; decide)
    have x1 := hB.cell 1 _ rfl
    have v1 := hB.free 1 (by show 1 < 6; decide)
    have y1 := hC.cell 1 _ rfl
    have z1 := hC.free 1 (by show 1 < 6; decide)
    have x2 := hB.cell 2 _ rfl
    have v2 := hB.free 2 (by show 2 < 6; decide)
    have y2 := hC.cell 2 _ rfl
    have z2 := hC.free 2 (by show 2 < 6; decide)
    have x3 := hB.cell 3 _ rfl
    have v3 := hB.free 3 (by show 3 < 6; decide)
    have y3 := hC.cell 3 _ rfl
    have z3 := hC.free 3 (by show 3 < 6; decide)
    have x4 := hB.cell 4 _ rfl
    have v4 := hB.free 4 (by show 4 < 6; decide)
    have y4 := hC.cell 4 _ rfl
    have z4 := hC.free 4 (by show 4 < 6; decide)
    have x5 := hB.cell 5 _ rfl
    have v5 := hB.free 5 (by show 5 < 6; decide)
    have y5 := hC.cell 5 _ rfl
    have z5 := hC.free 5 (by show 5 < 6; decide)
    have HB := Lib.hid hB
    clear hB hC
    generalize colK d.e3 = cx at Hp ⊢
    generalize colN d.e3 = cy at Hp ⊢
    go_wp2
    refine bodyPost_ret (ret_cell1 rfl _ _ ⟨w.heap.size + 1, 0, none⟩ _ rfl (load_act _ _ ⟨39, 4, 0, cx, cy, ⟨#[]⟩⟩ (put6 _ _ ⟨39, 4, 0, cx, cy, ⟨#[]⟩⟩ ⟨0, 0, 0, 0, 0, ⟨#[]⟩⟩ ((HB.out.grown (grown_set _ (w.heap.size + 1 + 1) 3 _) (by simp)).grown (grown_set _ (w.heap.size + 1 + 1) 4 _) (by simp))).2.1)) rfl ?_
    exact ⟨by rw [Hp.out]; rfl, below6 _ ⟨39, 4, 0, cx, cy, ⟨#[]⟩⟩ ((HW.out.setCell (p := ⟨w.heap.size + 1 + 1, 3, none⟩) (by simp; omega) _).setCell (p := ⟨w.heap.size + 1 + 1, 4, none⟩) (by simp; omega) _) (by omega)⟩
set_option maxRecDepth 100000 in
set_option maxHeartbeats 1000000 in
theorem pen_5 (d : D8) (h : d.w.toNat % 7 = 5) (w : World) : Calls Tryd.prog 17 #[.agg #[.int .u8 (d.a.toNat : Int), .int .u8 (d.u.toNat : Int), .int .u8 (d.w.toNat : Int), .int .u8 (d.m.toNat : Int), .int .u32 (d.e0.toNat : Int), .int .u32 (d.e1.toNat : Int), .int .u32 (d.e2.toNat : Int), .int .u32 (d.e3.toNat : Int)]] w fun r w' => r = .returned (pnV' (penD d)) ∧ Below w.heap.size w w' := by
    have Hp := Lib.hid (show penD d = ⟨39, 5, 0, colK d.e3, colN d.e3, ⟨#[]⟩⟩ by unfold penD penM; rw [h]; rfl)
    have h1 : (d.w.toNat : Int) % 7 = 5 := by omega
    clear h
    go_enter Tryd.func17, Tryd.ntmps17
    go_wp2_with fail
    have hB0 : Box (((w.alloc (.cells #[.int .u8 (d.a.toNat : Int), .int .u8 (d.u.toNat : Int), .int .u8 (d.w.toNat : Int), .int .u8 (d.m.toNat : Int), .int .u32 (d.e0.toNat : Int), .int .u32 (d.e1.toNat : Int), .int .u32 (d.e2.toNat : Int), .int .u32 (d.e3.toNat : Int)] 52)).alloc (.cells #[.int .i64 0, .int .i64 0, .int .i64 0, .int .i64 0, .int .i64 0, .string ⟨#[]⟩] 48)).alloc (.cells #[.int .i64 39, .int .i64 5, .int .i64 0, .int .i64 0, .int .i64 0, .string ⟨#[]⟩] 48)) (w.heap.size + 1) (cP ⟨0, 0, 0, 0, 0, ⟨#[]⟩⟩) := (Box.of (alloc1_at _ _ _)).alloc _
    have hC0 : Box (((w.alloc (.cells #[.int .u8 (d.a.toNat : Int), .int .u8 (d.u.toNat : Int), .int .u8 (d.w.toNat : Int), .int .u8 (d.m.toNat : Int), .int .u32 (d.e0.toNat : Int), .int .u32 (d.e1.toNat : Int), .int .u32 (d.e2.toNat : Int), .int .u32 (d.e3.toNat : Int)] 52)).alloc (.cells #[.int .i64 0, .int .i64 0, .int .i64 0, .int .i64 0, .int .i64 0, .string ⟨#[]⟩] 48)).alloc (.cells #[.int .i64 39, .int .i64 5, .int .i64 0, .int .i64 0, .int .i64 0, .string ⟨#[]⟩] 48)) (w.heap.size + 1 + 1) (cP ⟨39, 5, 0, 0, 0, ⟨#[]⟩⟩) := Box.of (alloc2_at _ _ _ _)
    have hW0 : Below w.heap.size w (((w.alloc (.cells #[.int .u8 (d.a.toNat : Int), .int .u8 (d.u.toNat : Int), .int .u8 (d.w.toNat : Int), .int .u8 (d.m.toNat : Int), .int .u32 (d.e0.toNat : Int), .int .u32 (d.e1.toNat : Int), .int .u32 (d.e2.toNat : Int), .int .u32 (d.e3.toNat : Int)] 52)).alloc (.cells #[.int .i64 0, .int .i64 0, .int .i64 0, .int .i64 0, .int .i64 0, .string ⟨#[]⟩] 48)).alloc (.cells #[.int .i64 39, .int .i64 5, .int .i64 0, .int .i64 0, .int .i64 0, .string ⟨#[]⟩] 48)) := (two_boxes w _ _).alloc (by simp; omega) _
    generalize ((w.alloc (.cells #[.int .u8 (d.a.toNat : Int), .int .u8 (d.u.toNat : Int), .int .u8 (d.w.toNat : Int), .int .u8 (d.m.toNat : Int), .int .u32 (d.e0.toNat : Int), .int .u32 (d.e1.toNat : Int), .int .u32 (d.e2.toNat : Int), .int .u32 (d.e3.toNat : Int)] 52)).alloc (.cells #[.int .i64 0, .int .i64 0, .int .i64 0, .int .i64 0, .int .i64 0, .string ⟨#[]⟩] 48)).alloc (.cells #[.int .i64 39, .int .i64 5, .int .i64 0, .int .i64 0, .int .i64 0, .string ⟨#[]⟩] 48) = w1 at hB0 hC0 hW0 ⊢
    refine (lcolor_any d.e3 _).mono ?_
    rintro e w2 ⟨rfl, hb2⟩
    have hB := hB0.keep hb2
    have hC := hC0.keep hb2
    have HW := Lib.hid (hW0.trans (hb2.mono hW0.size))
    clear hB0 hC0 hW0 hb2
    have lB := hB.1
    have lC := hC.1
    have x0 := hB.cell 0 _ rfl
    have v0 := hB.free 0 (by show 0 < 6; decide)
    have y0 := hC.cell 0 _ rfl
    have z0 := hC.free 0 (by show 0 < 6; decide)
    have x1 := hB.cell 1 _ rfl
    have v1 := hB.free 1 (by show 1 < 6; decide)
    have y1 := hC.cell 1 _ rfl
    have z1 := hC.free 1 (by show 1 < 6; decide)
    have x2 := hB.cell 2 _ rfl
    have v2 := hB.free 2 (by show 2 < 6; decide)
    have y2 := hC.cell 2 _ rfl
    have z2 := hC.free 2 (by show 2 < 6; decide)
    have x3 := hB.cell 3 _ rfl
    have v3 := hB.free 3 (by show 3 < 6; decide)
    have y3 := hC.cell 3 _ rfl
    have z3 := hC.free 3 (by show 3 < 6; decide)
    have x4 := hB.cell 4 _ rfl
    have v4 := hB.free 4 (by show 4 < 6; decide)
    have y4 := hC.cell 4 _ rfl
    have z4 := hC.free 4 (by show 4 < 6; decide)
    have x5 := hB.cell 5 _ rfl
    have v5 := hB.free 5 (by show 5 < 6; decide)
    have y5 := hC.cell 5 _ rfl
    have z5 := hC.free 5 (by show 5 < 6; decide)
    have HB := Lib.hid hB
    clear hB hC
    generalize colK d.e3 = cx at Hp ⊢
    generalize colN d.e3 = cy at Hp ⊢
    go_wp2
    refine bodyPost_ret (ret_cell1 rfl _ _ ⟨w.heap.size + 1, 0, none⟩ _ rfl (load_act _ _ ⟨39, 5, 0, cx, cy, ⟨#[]⟩⟩ (put6 _ _ ⟨39, 5, 0, cx, cy, ⟨#[]⟩⟩ ⟨0, 0, 0, 0, 0, ⟨#[]⟩⟩ ((HB.out.grown (grown_set _ (w.heap.size + 1 + 1) 3 _) (by simp)).grown (grown_set _ (w.heap.size + 1 + 1) 4 _) (by simp))).2.1)) rfl ?_
    exact ⟨by rw [Hp.out]; rfl, below6 _ ⟨39, 5, 0, cx, cy, ⟨#[]⟩⟩ ((HW.out.setCell (p := ⟨w.heap.size + 1 + 1, 3, none⟩) (by simp; omega) _).setCell (p := ⟨w.heap.size + 1 + 1, 4, none⟩) (by simp; omega) _) (by omega)⟩
set_option maxRecDepth 100000 in
set_option maxHeartbeats 1000000 in
theorem pen_6 (d : D8) (h : d.w.toNat % 7 = 6) (w : World) : Calls Tryd.prog 17 #[.agg #[.int .u8 (d.a.toNat : Int), .int .u8 (d.u.toNat : Int), .int .u8 (d.w.toNat : Int), .int .u8 (d.m.toNat : Int), .int .u32 (d.e0.toNat : Int), .int .u32 (d.e1.toNat : Int), .int .u32 (d.e2.toNat : Int), .int .u32 (d.e3.toNat : Int)]] w fun r w' => r = .returned (pnV' (penD d)) ∧ Below w.heap.size w w' := by
    have Hp := Lib.hid (show penD d = ⟨39, 6, 0, colK d.e3, colN d.e3, ⟨#[]⟩⟩ by unfold penD penM; rw [h]; rfl)
    have h1 : (d.w.toNat : Int) % 7 = 6 := by omega
    clear h
    go_enter Tryd.func17, Tryd.ntmps17
    go_wp2_with fail
    have hB0 : Box (((w.alloc (.cells #[.int .u8 (d.a.toNat : Int), .int .u8 (d.u.toNat : Int), .int .u8 (d.w.toNat : Int), .int .u8 (d.m.toNat : Int), .int .u32 (d.e0.toNat : Int), .int .u32 (d.e1.toNat : Int), .int .u32 (d.e2.toNat : Int), .int .u32 (d.e3.toNat : Int)] 52)).alloc (.cells #[.int .i64 0, .int .i64 0, .int .i64 0, .int .i64 0, .int .i64 0, .string ⟨#[]⟩] 48)).alloc (.cells #[.int .i64 39, .int .i64 6, .int .i64 0, .int .i64 0, .int .i64 0, .string ⟨#[]⟩] 48)) (w.heap.size + 1) (cP ⟨0, 0, 0, 0, 0, ⟨#[]⟩⟩) := (Box.of (alloc1_at _ _ _)).alloc _
    have hC0 : Box (((w.alloc (.cells #[.int .u8 (d.a.toNat : Int), .int .u8 (d.u.toNat : Int), .int .u8 (d.w.toNat : Int), .int .u8 (d.m.toNat : Int), .int .u32 (d.e0.toNat : Int), .int .u32 (d.e1.toNat : Int), .int .u32 (d.e2.toNat : Int), .int .u32 (d.e3.toNat : Int)] 52)).alloc (.cells #[.int .i64 0, .int .i64 0, .int .i64 0, .int .i64 0, .int .i64 0, .string ⟨#[]⟩] 48)).alloc (.cells #[.int .i64 39, .int .i64 6, .int .i64 0, .int .i64 0, .int .i64 0, .string ⟨#[]⟩] 48)) (w.heap.size + 1 + 1) (cP ⟨39, 6, 0, 0, 0, ⟨#[]⟩⟩) := Box.of (alloc2_at _ _ _ _)
    have hW0 : Below w.heap.size w (((w.alloc (.cells #[.int .u8 (d.a.toNat : Int), .int .u8 (d.u.toNat : Int), .int .u8 (d.w.toNat : Int), .int .u8 (d.m.toNat : Int), .int .u32 (d.e0.toNat : Int), .int .u32 (d.e1.toNat : Int), .int .u32 (d.e2.toNat : Int), .int .u32 (d.e3.toNat : Int)] 52)).alloc (.cells #[.int .i64 0, .int .i64 0, .int .i64 0, .int .i64 0, .int .i64 0, .string ⟨#[]⟩] 48)).alloc (.cells #[.int .i64 39, .int .i64 6, .int .i64 0, .int .i64 0, .int .i64 0, .string ⟨#[]⟩] 48)) := (two_boxes w _ _).alloc (by simp; omega) _
    generalize ((w.alloc (.cells #[.int .u8 (d.a.toNat : Int), .int .u8 (d.u.toNat : Int), .int .u8 (d.w.toNat : Int), .int .u8 (d.m.toNat : Int), .int .u32 (d.e0.toNat : Int), .int .u32 (d.e1.toNat : Int), .int .u32 (d.e2.toNat : Int), .int .u32 (d.e3.toNat : Int)] 52)).alloc (.cells #[.int .i64 0, .int .i64 0, .int .i64 0, .int .i64 0, .int .i64 0, .string ⟨#[]⟩] 48)).alloc (.cells #[.int .i64 39, .int .i64 6, .int .i64 0, .int .i64 0, .int .i64 0, .string ⟨#[]⟩] 48) = w1 at hB0 hC0 hW0 ⊢
    refine (lcolor_any d.e3 _).mono ?_
    rintro e w2 ⟨rfl, hb2⟩
    have hB := hB0.keep hb2
    have hC := hC0.keep hb2
    have HW := Lib.hid (hW0.trans (hb2.mono hW0.size))
    clear hB0 hC0 hW0 hb2
    have lB := hB.1
    have lC := hC.1
    have x0 := hB.cell 0 _ rfl
    have v0 := hB.free 0 (by show 0 < 6; decide)
    have y0 := hC.cell 0 _ rfl
    have z0 := hC.free 0 (by show 0 < 6; decide)
    have x1 := hB.cell 1 _ rfl
    have v1 := hB.free 1 (by show 1 < 6; decide)
    have y1 := hC.cell 1 _ rfl
    have z1 := hC.free 1 (by show 1 < 6; decide)
    have x2 := hB.cell 2 _ rfl
    have v2 := hB.free 2 (by show 2 < 6; decide)
    have y2 := hC.cell 2 _ rfl
    have z2 := hC.free 2 (by show 2 < 6; decide)
    have x3 := hB.cell 3 _ rfl
    have v3 := hB.free 3 (by show 3 < 6; decide)
    have y3 := hC.cell 3 _ rfl
    have z3 := hC.free 3 (by show 3 < 6; decide)
    have x4 := hB.cell 4 _ rfl
    have v4 := hB.free 4 (by show 4 < 6; decide)
    have y4 := hC.cell 4 _ rfl
    have z4 := hC.free 4 (by show 4 < 6; decide)
    have x5 := hB.cell 5 _ rfl
    have v5 := hB.free 5 (by show 5 < 6; decide)
    have y5 := hC.cell 5 _ rfl
    have z5 := hC.free 5 (by show 5 < 6; decide)
    have HB := Lib.hid hB
    clear hB hC
    generalize colK d.e3 = cx at Hp ⊢
    generalize colN d.e3 = cy at Hp ⊢
    go_wp2
    refine bodyPost_ret (ret_cell1 rfl _ _ ⟨w.heap.size + 1, 0, none⟩ _ rfl (load_act _ _ ⟨39, 6, 0, cx, cy, ⟨#[]⟩⟩ (put6 _ _ ⟨39, 6, 0, cx, cy, ⟨#[]⟩⟩ ⟨0, 0, 0, 0, 0, ⟨#[]⟩⟩ ((HB.out.grown (grown_set _ (w.heap.size + 1 + 1) 3 _) (by simp)).grown (grown_set _ (w.heap.size + 1 + 1) 4 _) (by simp))).2.1)) rfl ?_
    exact ⟨by rw [Hp.out]; rfl, below6 _ ⟨39, 6, 0, cx, cy, ⟨#[]⟩⟩ ((HW.out.setCell (p := ⟨w.heap.size + 1 + 1, 3, none⟩) (by simp; omega) _).setCell (p := ⟨w.heap.size + 1 + 1, 4, none⟩) (by simp; omega) _) (by omega)⟩
theorem pen_any (d : D8) (w : World) : Calls Tryd.prog 17 #[.agg #[.int .u8 (d.a.toNat : Int), .int .u8 (d.u.toNat : Int), .int .u8 (d.w.toNat : Int), .int .u8 (d.m.toNat : Int), .int .u32 (d.e0.toNat : Int), .int .u32 (d.e1.toNat : Int), .int .u32 (d.e2.toNat : Int), .int .u32 (d.e3.toNat : Int)]] w fun r w' => r = .returned (pnV' (penD d)) ∧ Below w.heap.size w w' := by
  rcases (show d.w.toNat % 7 = 0 ∨ d.w.toNat % 7 = 1 ∨ d.w.toNat % 7 = 2 ∨ d.w.toNat % 7 = 3 ∨ d.w.toNat % 7 = 4 ∨ d.w.toNat % 7 = 5 ∨ d.w.toNat % 7 = 6 by omega) with h | h | h | h | h | h | h
  · exact pen_0 d h w
  · rcases (show d.m.toNat % 8 = 0 ∨ d.m.toNat % 8 = 1 ∨ d.m.toNat % 8 = 2 ∨ d.m.toNat % 8 = 3 ∨ d.m.toNat % 8 = 4 ∨ d.m.toNat % 8 = 5 ∨ d.m.toNat % 8 = 6 ∨ d.m.toNat % 8 = 7 by omega) with k | k | k | k | k | k | k | k
    · exact pen_10 d h k w
    · exact pen_11 d h k w
    · exact pen_12 d h k w
    · exact pen_13 d h k w
    · exact pen_14 d h k w
    · exact pen_15 d h k w
    · exact pen_16 d h k w
    · exact pen_17 d h k w
  · rcases (show d.m.toNat % 8 = 0 ∨ d.m.toNat % 8 = 1 ∨ d.m.toNat % 8 = 2 ∨ d.m.toNat % 8 = 3 ∨ d.m.toNat % 8 = 4 ∨ d.m.toNat % 8 = 5 ∨ d.m.toNat % 8 = 6 ∨ d.m.toNat % 8 = 7 by omega) with k | k | k | k | k | k | k | k
    · exact pen_20 d h k w
    · exact pen_21 d h k w
    · exact pen_22 d h k w
    · exact pen_23 d h k w
    · exact pen_24 d h k w
    · exact pen_25 d h k w
    · exact pen_26 d h k w
    · exact pen_27 d h k w
  · exact pen_3 d h w
  · exact pen_4 d h w
  · exact pen_5 d h w
  · exact pen_6 d h w
end Go.Proofs.YteepfecplabinaaDoor.Sty

namespace Go.Proofs.YteepfecplabinaaDoor.Sty
open Go.RowKit Utf Col

/-- the style of a draft -/
def styD (d : D8) : S8 := ⟨(d.a.toNat : Int), (d.u.toNat : Int) % 6, colK d.e0, colN d.e0, colK d.e1, colN d.e1, colK d.e2, colN d.e2⟩
theorem styD_ok (d : D8) : errS (styD d) = 0 := by
  have h0 := col_ok d.e0
  have h1 := col_ok d.e1
  have h2 := col_ok d.e2
  have ha : d.a.toNat < 256 := d.a.toNat_lt
  have hr : inR (d.a.toNat : Int) ((d.u.toNat : Int) % 6) = true := decide_eq_true (by omega)
  simp only [errS, styD, hr, h0, h1, h2]
  rfl
theorem lcolor_z (z : Int) (e : UInt32) (h : (e.toNat : Int) = z) (x y : Int) (hx : colK e = x) (hy : colN e = y) (w : World) : Calls Tryd.prog 34 #[.int .u32 z] w fun r w' => r = .returned (.agg #[.int .i64 x, .int .i64 y]) ∧ Below w.heap.size w w' := by
  subst h hx hy; exact lcolor_any e w
end Go.Proofs.YteepfecplabinaaDoor.Sty
