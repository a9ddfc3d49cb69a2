/-
  A region that loads, calls and makes blocks in whatever order, by one invariant over what has come up; the first statement of StyleStays' body.
-/
import Derived.Test.YtokjjeekkfefmaaDoorStyP
namespace Go.Proofs.YtokjjeekkfefmaaDoor.Sty
open Go.RowKit Utf Col

/-- what has come up of three loads (l0, l2, l4), three calls in a row (c) and three new blocks (x, y, z) -/
structure St where
  l0 : Bool
  l2 : Bool
  l4 : Bool
  x : Bool
  y : Bool
  z : Bool
  c : Nat
def St.lst (s : St) : Array Bool := #[s.l0, decide (1 ≤ s.c), s.l2, decide (2 ≤ s.c), s.l4, decide (3 ≤ s.c), s.x, s.y, s.z, false, false, false]
def St.ok (s : St) : Bool := decide (s.c ≤ 3) && ((s.c == 0 || s.l0) && ((decide (s.c ≤ 1) || s.l2) && (decide (s.c ≤ 2) || s.l4)))
def bn (b : Bool) : Nat := if b then 0 else 1
def St.n (s : St) : Nat := bn s.l0 + bn s.l2 + bn s.l4 + bn s.x + bn s.y + bn s.z + (3 - s.c)
def St.may (s : St) (i : Nat) : Bool :=
  if i = 0 then !s.l0 else if i = 1 then s.l0 && s.c == 0 else if i = 2 then !s.l2 else if i = 3 then s.l2 && s.c == 1 else if i = 4 then !s.l4 else if i = 5 then s.l4 && s.c == 2
  else if i = 6 then !s.x else if i = 7 then !s.y else if i = 8 then !s.z else false
def St.rd (s : St) : List Nat := [0, 1, 2, 3, 4, 5, 6, 7, 8].filter s.may
def St.nx (s : St) (i : Nat) : St :=
  if i = 0 then { s with l0 := true } else if i = 2 then { s with l2 := true } else if i = 4 then { s with l4 := true }
  else if i = 6 then { s with x := true } else if i = 7 then { s with y := true } else if i = 8 then { s with z := true } else { s with c := s.c + 1 }
theorem St.steps : ∀ l0 l2 l4 x y z : Bool, ∀ c : Fin 4, (St.mk l0 l2 l4 x y z c.val).ok = true → ∀ i ∈ (St.mk l0 l2 l4 x y z c.val).rd,
    ((St.mk l0 l2 l4 x y z c.val).nx i).lst = (St.mk l0 l2 l4 x y z c.val).lst.setIfInBounds i true ∧ ((St.mk l0 l2 l4 x y z c.val).nx i).n + 1 = (St.mk l0 l2 l4 x y z c.val).n ∧ ((St.mk l0 l2 l4 x y z c.val).nx i).ok = true := by decide +kernel
theorem St.some_left : ∀ l0 l2 l4 x y z : Bool, ∀ c : Fin 4, (St.mk l0 l2 l4 x y z c.val).ok = true → (St.mk l0 l2 l4 x y z c.val).n ≠ 0 → (St.mk l0 l2 l4 x y z c.val).rd ≠ [] := by decide +kernel
theorem St.ok_c {s : St} (h : s.ok = true) : s.c < 4 := by
  unfold St.ok at h
  simp only [Bool.and_eq_true, decide_eq_true_eq] at h
  omega
/-- whatever order is picked, if each step keeps the invariant -/
theorem perm {P : Program} {ops : Array Oper} {Q : Exit → Act → World → Prop} (J : St → Act → World → Prop) (hok : ∀ s a w, J s a w → s.ok = true)
    (htab : ∀ l0 l2 l4 x y z : Bool, ∀ c : Fin 4, (St.mk l0 l2 l4 x y z c.val).ok = true → (St.mk l0 l2 l4 x y z c.val).n ≠ 0 → Region.ready .any ops (St.mk l0 l2 l4 x y z c.val).lst = (St.mk l0 l2 l4 x y z c.val).rd)
    (hstep : ∀ s a w i, J s a w → i ∈ s.rd → wpOp P ops Q i (fun a' w' => J (s.nx i) a' w') a w)
    (hend : ∀ s a w, J s a w → s.n = 0 → wpAnyH P .any ops Q (fun _ => True) 3 s.lst a w) :
    ∀ m s a w, s.n = m → J s a w → wpAnyH P .any ops Q (fun _ => True) (m + 3) s.lst a w := by
  intro m
  induction m with
  | zero => intro s a w hn hJ; exact hend s a w hJ hn
  | succ m ih =>
    intro s a w hn hJ
    have ho := hok s a w hJ
    have hc := St.ok_c ho
    have hr := htab s.l0 s.l2 s.l4 s.x s.y s.z ⟨s.c, hc⟩ ho (by show s.n ≠ 0; omega)
    refine wpAnyH_all (rs := s.rd) hr (St.some_left s.l0 s.l2 s.l4 s.x s.y s.z ⟨s.c, hc⟩ ho (by show s.n ≠ 0; omega)) fun i hi => ?_
    obtain ⟨h1, h2, _⟩ := St.steps s.l0 s.l2 s.l4 s.x s.y s.z ⟨s.c, hc⟩ ho i hi
    refine wpOp_mono (fun a' w' h' => ⟨trivial, ?_⟩) (hstep s a w i hJ hi)
    have h1' : s.lst.setIfInBounds i true = (s.nx i).lst := h1.symm
    rw [h1']
    have h2' : (s.nx i).n + 1 = s.n := h2
    exact ih (s.nx i) a' w' (by omega) h'
def opsT : Array Oper := #[{ dst := some 20, op := Op.load 31 (Operand.tmp 2), type := 31, pos := "outright.go:45", after := #[], guard := none }, { dst := some 21, op := Op.call { callee := Callee.value (Operand.func 10), args := #[Operand.tmp 20], argTypes := #[31] }, type := 25, pos := "outright.go:45", after := #[{ on := 0, ground := Ground.data }], guard := none }, { dst := some 22, op := Op.load 31 (Operand.tmp 2), type := 31, pos := "outright.go:45", after := #[], guard := none }, { dst := some 23, op := Op.call { callee := Callee.value (Operand.func 11), args := #[Operand.tmp 22], argTypes := #[31] }, type := 27, pos := "outright.go:45", after := #[{ on := 2, ground := Ground.data }, { on := 1, ground := Ground.chain }], guard := none }, { dst := some 24, op := Op.load 31 (Operand.tmp 3), type := 31, pos := "outright.go:45", after := #[], guard := none }, { dst := some 25, op := Op.call { callee := Callee.value (Operand.func 11), args := #[Operand.tmp 24], argTypes := #[31] }, type := 27, pos := "outright.go:45", after := #[{ on := 4, ground := Ground.data }, { on := 3, ground := Ground.chain }], guard := none }, { dst := some 5, op := Op.alloc 25, type := 0, pos := "outright.go:45", after := #[], guard := none }, { dst := some 6, op := Op.alloc 27, type := 0, pos := "outright.go:45", after := #[], guard := none }, { dst := some 7, op := Op.alloc 27, type := 0, pos := "outright.go:45", after := #[], guard := none }, { dst := none, op := Op.store 25 (Operand.tmp 5) (Operand.tmp 21), type := 0, pos := "outright.go:45", after := #[{ on := 6, ground := Ground.data }, { on := 1, ground := Ground.data }, { on := 5, ground := Ground.chain }, { on := 0, ground := Ground.phase }, { on := 1, ground := Ground.phase }, { on := 2, ground := Ground.textOnly Departure.lateStores }, { on := 3, ground := Ground.textOnly Departure.lateStoresUnsure }, { on := 4, ground := Ground.textOnly Departure.lateStores }, { on := 5, ground := Ground.textOnly Departure.lateStoresUnsure }, { on := 6, ground := Ground.phase }, { on := 7, ground := Ground.phase }, { on := 8, ground := Ground.phase }], guard := none }, { dst := none, op := Op.store 27 (Operand.tmp 6) (Operand.tmp 23), type := 0, pos := "outright.go:45", after := #[{ on := 7, ground := Ground.data }, { on := 3, ground := Ground.data }, { on := 9, ground := Ground.chain }, { on := 0, ground := Ground.phase }, { on := 1, ground := Ground.phase }, { on := 2, ground := Ground.phase }, { on := 3, ground := Ground.phase }, { on := 4, ground := Ground.textOnly Departure.lateStores }, { on := 5, ground := Ground.textOnly Departure.lateStoresUnsure }, { on := 6, ground := Ground.phase }, { on := 7, ground := Ground.phase }, { on := 8, ground := Ground.phase }, { on := 9, ground := Ground.phase }], guard := none }, { dst := none, op := Op.store 27 (Operand.tmp 7) (Operand.tmp 25), type := 0, pos := "outright.go:45", after := #[{ on := 8, ground := Ground.data }, { on := 5, ground := Ground.data }, { on := 10, ground := Ground.chain }, { on := 0, ground := Ground.phase }, { on := 1, ground := Ground.phase }, { on := 2, ground := Ground.phase }, { on := 3, ground := Ground.phase }, { on := 4, ground := Ground.phase }, { on := 5, ground := Ground.phase }, { on := 6, ground := Ground.phase }, { on := 7, ground := Ground.phase }, { on := 8, ground := Ground.phase }, { on := 9, ground := Ground.phase }, { on := 10, ground := Ground.phase }], guard := none }]
def actT (D1 D2 p2 p3 v5 v6 v7 r20 r21 r22 r23 r24 r25 : Value) : Act := { tmps := (D1 :: D2 :: p2 :: p3 :: .bool false :: v5 :: v6 :: v7 :: undef :: undef :: undef :: undef :: undef :: undef :: undef :: undef :: undef :: undef :: .bool true :: .bool false :: r20 :: r21 :: r22 :: r23 :: r24 :: r25 :: undef :: undef :: undef :: undef :: undef :: undef :: undef :: undef :: undef :: undef :: undef :: undef :: undef :: undef :: undef :: undef :: undef :: undef :: undef :: undef :: undef :: undef :: undef :: undef :: undef :: undef :: undef :: undef :: undef :: undef :: undef :: undef :: undef :: undef :: undef :: undef :: undef :: undef :: undef :: undef :: undef :: undef :: undef :: undef :: undef :: undef :: undef :: undef :: undef :: undef :: undef :: undef :: undef :: undef :: undef :: undef :: undef :: undef :: undef :: undef :: undef :: undef :: undef :: undef :: undef :: undef :: undef :: undef :: undef :: undef :: undef :: undef :: undef :: undef :: undef :: undef :: undef :: undef :: undef :: undef :: undef :: undef :: undef :: undef :: undef :: undef :: undef :: undef :: undef :: undef :: undef :: undef :: undef :: undef :: undef :: undef :: undef :: undef :: []).toArray, defers := [] }
theorem tabT : ∀ l0 l2 l4 x y z : Bool, ∀ c : Fin 4, (St.mk l0 l2 l4 x y z c.val).ok = true → (St.mk l0 l2 l4 x y z c.val).n ≠ 0 → Region.ready .any opsT (St.mk l0 l2 l4 x y z c.val).lst = (St.mk l0 l2 l4 x y z c.val).rd := by decide +kernel
def zP : P6 := ⟨0, 0, 0, 0, 0, ⟨#[]⟩⟩
/-- the invariant -/
def JT (w0 : World) (D1 D2 : Array Value) (A B : Nat) (s : S8) (p q : P6) (t : St) (a : Act) (w : World) : Prop :=
  t.ok = true ∧ Below w0.heap.size w0 w ∧ ∃ v5 v6 v7 r20 r21 r22 r23 r24 r25, ∃ B5 B6 B7 : Nat,
    a = actT (.agg D1) (.agg D2) (.pointer (some ⟨A, 0, none⟩)) (.pointer (some ⟨B, 0, none⟩)) v5 v6 v7 r20 r21 r22 r23 r24 r25 ∧
    (t.l0 = true → r20 = .agg D1) ∧ (t.l2 = true → r22 = .agg D1) ∧ (t.l4 = true → r24 = .agg D2) ∧
    (1 ≤ t.c → r21 = .agg #[.int .i64 s.a, .int .i64 s.u, .int .i64 s.f0, .int .i64 s.f1, .int .i64 s.b0, .int .i64 s.b1, .int .i64 s.l0, .int .i64 s.l1]) ∧ (2 ≤ t.c → r23 = .agg #[.int .i64 p.k, .int .i64 p.n, .int .i64 p.m, .int .i64 p.c0, .int .i64 p.c1, .string p.t]) ∧ (3 ≤ t.c → r25 = .agg #[.int .i64 q.k, .int .i64 q.n, .int .i64 q.m, .int .i64 q.c0, .int .i64 q.c1, .string q.t]) ∧
    (t.x = true → v5 = .pointer (some ⟨B5, 0, none⟩) ∧ w0.heap.size ≤ B5 ∧ Box w B5 (cS z8)) ∧
    (t.y = true → v6 = .pointer (some ⟨B6, 0, none⟩) ∧ w0.heap.size ≤ B6 ∧ Box w B6 (cP zP)) ∧
    (t.z = true → v7 = .pointer (some ⟨B7, 0, none⟩) ∧ w0.heap.size ≤ B7 ∧ Box w B7 (cP zP)) ∧
    (t.x = true → t.y = true → B5 ≠ B6) ∧ (t.x = true → t.z = true → B5 ≠ B7) ∧ (t.y = true → t.z = true → B6 ≠ B7)
theorem rd_may {t : St} {i : Nat} (h : i ∈ t.rd) : t.may i = true ∧ (i = 0 ∨ i = 1 ∨ i = 2 ∨ i = 3 ∨ i = 4 ∨ i = 5 ∨ i = 6 ∨ i = 7 ∨ i = 8) := by
  unfold St.rd at h
  obtain ⟨h1, h2⟩ := List.mem_filter.1 h
  exact ⟨h2, by simpa using h1⟩
theorem nx_ok {t : St} {i : Nat} (ho : t.ok = true) (h : i ∈ t.rd) : (t.nx i).ok = true :=
  (St.steps t.l0 t.l2 t.l4 t.x t.y t.z ⟨t.c, St.ok_c ho⟩ ho i h).2.2
set_option maxRecDepth 100000 in
set_option maxHeartbeats 4000000 in
theorem stepT {Q : Exit → Act → World → Prop} (d0 d1 d2 d3 d4 d5 d6 d7 c0 c1 c2 c3 c4 c5 c6 c7 : Int) (A B : Nat) (s : S8) (p q : P6) (w0 : World) (hA : Box w0 A [.int .u8 d0, .int .u8 d1, .int .u8 d2, .int .u8 d3, .int .u32 d4, .int .u32 d5, .int .u32 d6, .int .u32 d7]) (hB : Box w0 B [.int .u8 c0, .int .u8 c1, .int .u8 c2, .int .u8 c3, .int .u32 c4, .int .u32 c5, .int .u32 c6, .int .u32 c7])
    (cS1 : Hid (∀ w, Calls Tryd.prog 10 #[.agg #[.int .u8 d0, .int .u8 d1, .int .u8 d2, .int .u8 d3, .int .u32 d4, .int .u32 d5, .int .u32 d6, .int .u32 d7]] w fun r w' => r = .returned (.agg #[.int .i64 s.a, .int .i64 s.u, .int .i64 s.f0, .int .i64 s.f1, .int .i64 s.b0, .int .i64 s.b1, .int .i64 s.l0, .int .i64 s.l1]) ∧ Below w.heap.size w w'))
    (cP1 : Hid (∀ w, Calls Tryd.prog 11 #[.agg #[.int .u8 d0, .int .u8 d1, .int .u8 d2, .int .u8 d3, .int .u32 d4, .int .u32 d5, .int .u32 d6, .int .u32 d7]] w fun r w' => r = .returned (.agg #[.int .i64 p.k, .int .i64 p.n, .int .i64 p.m, .int .i64 p.c0, .int .i64 p.c1, .string p.t]) ∧ Below w.heap.size w w'))
    (cP2 : Hid (∀ w, Calls Tryd.prog 11 #[.agg #[.int .u8 c0, .int .u8 c1, .int .u8 c2, .int .u8 c3, .int .u32 c4, .int .u32 c5, .int .u32 c6, .int .u32 c7]] w fun r w' => r = .returned (.agg #[.int .i64 q.k, .int .i64 q.n, .int .i64 q.m, .int .i64 q.c0, .int .i64 q.c1, .string q.t]) ∧ Below w.heap.size w w'))
    (t : St) (a : Act) (w : World) (i : Nat) (hJ : JT w0 #[.int .u8 d0, .int .u8 d1, .int .u8 d2, .int .u8 d3, .int .u32 d4, .int .u32 d5, .int .u32 d6, .int .u32 d7] #[.int .u8 c0, .int .u8 c1, .int .u8 c2, .int .u8 c3, .int .u32 c4, .int .u32 c5, .int .u32 c6, .int .u32 c7] A B s p q t a w) (hi : i ∈ t.rd) :
    wpOp Tryd.prog opsT Q i (fun a' w' => JT w0 #[.int .u8 d0, .int .u8 d1, .int .u8 d2, .int .u8 d3, .int .u32 d4, .int .u32 d5, .int .u32 d6, .int .u32 d7] #[.int .u8 c0, .int .u8 c1, .int .u8 c2, .int .u8 c3, .int .u32 c4, .int .u32 c5, .int .u32 c6, .int .u32 c7] A B s p q (t.nx i) a' w') a w := by
  have hok := nx_ok hJ.1 hi
  obtain ⟨hm, hc⟩ := rd_may hi
  clear hi
  obtain ⟨ho, hW, v5, v6, v7, r20, r21, r22, r23, r24, r25, B5, B6, B7, rfl, k0, k2, k4, k21, k23, k25, kx, ky, kz, kxy, kxz, kyz⟩ := hJ
  have HA := Lib.hid (hA.keep hW)
  have HB := Lib.hid (hB.keep hW)
  have HW := Lib.hid hW
  clear hA hB hW
  rcases hc with rfl | rfl | rfl | rfl | rfl | rfl | rfl | rfl | rfl
  · have hl := HA.out.1
    have x0 := HA.out.cell 0 _ rfl
    have x1 := HA.out.cell 1 _ rfl
    have x2 := HA.out.cell 2 _ rfl
    have x3 := HA.out.cell 3 _ rfl
    have x4 := HA.out.cell 4 _ rfl
    have x5 := HA.out.cell 5 _ rfl
    have x6 := HA.out.cell 6 _ rfl
    have x7 := HA.out.cell 7 _ rfl
    have HJ := Lib.hid (show JT w0 #[.int .u8 d0, .int .u8 d1, .int .u8 d2, .int .u8 d3, .int .u32 d4, .int .u32 d5, .int .u32 d6, .int .u32 d7] #[.int .u8 c0, .int .u8 c1, .int .u8 c2, .int .u8 c3, .int .u32 c4, .int .u32 c5, .int .u32 c6, .int .u32 c7] A B s p q (t.nx 0) (actT (.agg #[.int .u8 d0, .int .u8 d1, .int .u8 d2, .int .u8 d3, .int .u32 d4, .int .u32 d5, .int .u32 d6, .int .u32 d7]) (.agg #[.int .u8 c0, .int .u8 c1, .int .u8 c2, .int .u8 c3, .int .u32 c4, .int .u32 c5, .int .u32 c6, .int .u32 c7]) (.pointer (some ⟨A, 0, none⟩)) (.pointer (some ⟨B, 0, none⟩)) v5 v6 v7 (.agg #[.int .u8 d0, .int .u8 d1, .int .u8 d2, .int .u8 d3, .int .u32 d4, .int .u32 d5, .int .u32 d6, .int .u32 d7]) r21 r22 r23 r24 r25) w from ⟨hok, HW.out, v5, v6, v7, _, r21, r22, r23, r24, r25, B5, B6, B7, rfl, fun _ => rfl, k2, k4, k21, k23, k25, kx, ky, kz, kxy, kxz, kyz⟩)
    clear hok hm k0 k2 k4 k21 k23 k25 kx ky kz kxy kxz kyz
    refine wpOp_step (o := { dst := some 20, op := Op.load 31 (Operand.tmp 2), type := 31, pos := "outright.go:45", after := #[], guard := none }) rfl (fun K hK => ?_)
    have HK := Lib.hid hK
    clear hK
    unfold actT at HJ ⊢
    go_simp
    exact HK.out _ _ HJ.out
  · have Hc := Lib.hid (show t.l0 = true ∧ t.c = 0 by simpa [St.may] using hm)
    obtain rfl := k0 Hc.out.1
    have HO := Lib.hid hok
    have K0_ := Lib.hid k0
    have K2_ := Lib.hid k2
    have K4_ := Lib.hid k4
    have K21 := Lib.hid k21
    have K23 := Lib.hid k23
    have Kx := Lib.hid kx
    have Ky := Lib.hid ky
    have Kz := Lib.hid kz
    have Kxy := Lib.hid kxy
    have Kxz := Lib.hid kxz
    have Kyz := Lib.hid kyz
    clear hok hm k0 k2 k4 k21 k23 k25 kx ky kz kxy kxz kyz
    refine wpOp_step (o := { dst := some 21, op := Op.call { callee := Callee.value (Operand.func 10), args := #[Operand.tmp 20], argTypes := #[31] }, type := 25, pos := "outright.go:45", after := #[{ on := 0, ground := Ground.data }], guard := none }) rfl (fun K hK => ?_)
    have HK := Lib.hid hK
    clear hK
    unfold actT
    go_simp
    refine (cS1.out _).mono ?_
    rintro e w' ⟨rfl, hb⟩
    go_wp2_with fail
    exact HK.out _ _ ⟨HO.out, HW.out.trans (hb.mono HW.out.size), v5, v6, v7, _, _, r22, r23, r24, r25, B5, B6, B7, rfl, fun _ => rfl, K2_.out, K4_.out, fun _ => rfl, fun h => absurd (show 2 ≤ t.c + 1 from h) (by have := Hc.out.2; omega), fun h => absurd (show 3 ≤ t.c + 1 from h) (by have := Hc.out.2; omega),
      fun h => ⟨(Kx.out h).1, (Kx.out h).2.1, (Kx.out h).2.2.keep hb⟩, fun h => ⟨(Ky.out h).1, (Ky.out h).2.1, (Ky.out h).2.2.keep hb⟩, fun h => ⟨(Kz.out h).1, (Kz.out h).2.1, (Kz.out h).2.2.keep hb⟩, Kxy.out, Kxz.out, Kyz.out⟩
  · have hl := HA.out.1
    have x0 := HA.out.cell 0 _ rfl
    have x1 := HA.out.cell 1 _ rfl
    have x2 := HA.out.cell 2 _ rfl
    have x3 := HA.out.cell 3 _ rfl
    have x4 := HA.out.cell 4 _ rfl
    have x5 := HA.out.cell 5 _ rfl
    have x6 := HA.out.cell 6 _ rfl
    have x7 := HA.out.cell 7 _ rfl
    have HJ := Lib.hid (show JT w0 #[.int .u8 d0, .int .u8 d1, .int .u8 d2, .int .u8 d3, .int .u32 d4, .int .u32 d5, .int .u32 d6, .int .u32 d7] #[.int .u8 c0, .int .u8 c1, .int .u8 c2, .int .u8 c3, .int .u32 c4, .int .u32 c5, .int .u32 c6, .int .u32 c7] A B s p q (t.nx 2) (actT (.agg #[.int .u8 d0, .int .u8 d1, .int .u8 d2, .int .u8 d3, .int .u32 d4, .int .u32 d5, .int .u32 d6, .int .u32 d7]) (.agg #[.int .u8 c0, .int .u8 c1, .int .u8 c2, .int .u8 c3, .int .u32 c4, .int .u32 c5, .int .u32 c6, .int .u32 c7]) (.pointer (some ⟨A, 0, none⟩)) (.pointer (some ⟨B, 0, none⟩)) v5 v6 v7 r20 r21 (.agg #[.int .u8 d0, .int .u8 d1, .int .u8 d2, .int .u8 d3, .int .u32 d4, .int .u32 d5, .int .u32 d6, .int .u32 d7]) r23 r24 r25) w from ⟨hok, HW.out, v5, v6, v7, r20, r21, _, r23, r24, r25, B5, B6, B7, rfl, k0, fun _ => rfl, k4, k21, k23, k25, kx, ky, kz, kxy, kxz, kyz⟩)
    clear hok hm k0 k2 k4 k21 k23 k25 kx ky kz kxy kxz kyz
    refine wpOp_step (o := { dst := some 22, op := Op.load 31 (Operand.tmp 2), type := 31, pos := "outright.go:45", after := #[], guard := none }) rfl (fun K hK => ?_)
    have HK := Lib.hid hK
    clear hK
    unfold actT at HJ ⊢
    go_simp
    exact HK.out _ _ HJ.out
  · have Hc := Lib.hid (show t.l2 = true ∧ t.c = 1 by simpa [St.may] using hm)
    obtain rfl := k2 Hc.out.1
    have HO := Lib.hid hok
    have K0_ := Lib.hid k0
    have K2_ := Lib.hid k2
    have K4_ := Lib.hid k4
    have K21 := Lib.hid k21
    have K23 := Lib.hid k23
    have Kx := Lib.hid kx
    have Ky := Lib.hid ky
    have Kz := Lib.hid kz
    have Kxy := Lib.hid kxy
    have Kxz := Lib.hid kxz
    have Kyz := Lib.hid kyz
    clear hok hm k0 k2 k4 k21 k23 k25 kx ky kz kxy kxz kyz
    refine wpOp_step (o := { dst := some 23, op := Op.call { callee := Callee.value (Operand.func 11), args := #[Operand.tmp 22], argTypes := #[31] }, type := 27, pos := "outright.go:45", after := #[{ on := 2, ground := Ground.data }, { on := 1, ground := Ground.chain }], guard := none }) rfl (fun K hK => ?_)
    have HK := Lib.hid hK
    clear hK
    unfold actT
    go_simp
    refine (cP1.out _).mono ?_
    rintro e w' ⟨rfl, hb⟩
    go_wp2_with fail
    exact HK.out _ _ ⟨HO.out, HW.out.trans (hb.mono HW.out.size), v5, v6, v7, r20, r21, _, _, r24, r25, B5, B6, B7, rfl, K0_.out, fun _ => rfl, K4_.out, fun _ => K21.out (by have := Hc.out.2; omega), fun _ => rfl, fun h => absurd (show 3 ≤ t.c + 1 from h) (by have := Hc.out.2; omega),
      fun h => ⟨(Kx.out h).1, (Kx.out h).2.1, (Kx.out h).2.2.keep hb⟩, fun h => ⟨(Ky.out h).1, (Ky.out h).2.1, (Ky.out h).2.2.keep hb⟩, fun h => ⟨(Kz.out h).1, (Kz.out h).2.1, (Kz.out h).2.2.keep hb⟩, Kxy.out, Kxz.out, Kyz.out⟩
  · have hl := HB.out.1
    have x0 := HB.out.cell 0 _ rfl
    have x1 := HB.out.cell 1 _ rfl
    have x2 := HB.out.cell 2 _ rfl
    have x3 := HB.out.cell 3 _ rfl
    have x4 := HB.out.cell 4 _ rfl
    have x5 := HB.out.cell 5 _ rfl
    have x6 := HB.out.cell 6 _ rfl
    have x7 := HB.out.cell 7 _ rfl
    have HJ := Lib.hid (show JT w0 #[.int .u8 d0, .int .u8 d1, .int .u8 d2, .int .u8 d3, .int .u32 d4, .int .u32 d5, .int .u32 d6, .int .u32 d7] #[.int .u8 c0, .int .u8 c1, .int .u8 c2, .int .u8 c3, .int .u32 c4, .int .u32 c5, .int .u32 c6, .int .u32 c7] A B s p q (t.nx 4) (actT (.agg #[.int .u8 d0, .int .u8 d1, .int .u8 d2, .int .u8 d3, .int .u32 d4, .int .u32 d5, .int .u32 d6, .int .u32 d7]) (.agg #[.int .u8 c0, .int .u8 c1, .int .u8 c2, .int .u8 c3, .int .u32 c4, .int .u32 c5, .int .u32 c6, .int .u32 c7]) (.pointer (some ⟨A, 0, none⟩)) (.pointer (some ⟨B, 0, none⟩)) v5 v6 v7 r20 r21 r22 r23 (.agg #[.int .u8 c0, .int .u8 c1, .int .u8 c2, .int .u8 c3, .int .u32 c4, .int .u32 c5, .int .u32 c6, .int .u32 c7]) r25) w from ⟨hok, HW.out, v5, v6, v7, r20, r21, r22, r23, _, r25, B5, B6, B7, rfl, k0, k2, fun _ => rfl, k21, k23, k25, kx, ky, kz, kxy, kxz, kyz⟩)
    clear hok hm k0 k2 k4 k21 k23 k25 kx ky kz kxy kxz kyz
    refine wpOp_step (o := { dst := some 24, op := Op.load 31 (Operand.tmp 3), type := 31, pos := "outright.go:45", after := #[], guard := none }) rfl (fun K hK => ?_)
    have HK := Lib.hid hK
    clear hK
    unfold actT at HJ ⊢
    go_simp
    exact HK.out _ _ HJ.out
  · have Hc := Lib.hid (show t.l4 = true ∧ t.c = 2 by simpa [St.may] using hm)
    obtain rfl := k4 Hc.out.1
    have HO := Lib.hid hok
    have K0_ := Lib.hid k0
    have K2_ := Lib.hid k2
    have K4_ := Lib.hid k4
    have K21 := Lib.hid k21
    have K23 := Lib.hid k23
    have Kx := Lib.hid kx
    have Ky := Lib.hid ky
    have Kz := Lib.hid kz
    have Kxy := Lib.hid kxy
    have Kxz := Lib.hid kxz
    have Kyz := Lib.hid kyz
    clear hok hm k0 k2 k4 k21 k23 k25 kx ky kz kxy kxz kyz
    refine wpOp_step (o := { dst := some 25, op := Op.call { callee := Callee.value (Operand.func 11), args := #[Operand.tmp 24], argTypes := #[31] }, type := 27, pos := "outright.go:45", after := #[{ on := 4, ground := Ground.data }, { on := 3, ground := Ground.chain }], guard := none }) rfl (fun K hK => ?_)
    have HK := Lib.hid hK
    clear hK
    unfold actT
    go_simp
    refine (cP2.out _).mono ?_
    rintro e w' ⟨rfl, hb⟩
    go_wp2_with fail
    exact HK.out _ _ ⟨HO.out, HW.out.trans (hb.mono HW.out.size), v5, v6, v7, r20, r21, r22, r23, _, _, B5, B6, B7, rfl, K0_.out, K2_.out, fun _ => rfl, fun _ => K21.out (by have := Hc.out.2; omega), fun _ => K23.out (by have := Hc.out.2; omega), fun _ => rfl,
      fun h => ⟨(Kx.out h).1, (Kx.out h).2.1, (Kx.out h).2.2.keep hb⟩, fun h => ⟨(Ky.out h).1, (Ky.out h).2.1, (Ky.out h).2.2.keep hb⟩, fun h => ⟨(Kz.out h).1, (Kz.out h).2.1, (Kz.out h).2.2.keep hb⟩, Kxy.out, Kxz.out, Kyz.out⟩
  · have HO := Lib.hid hok
    have Kx := Lib.hid kx
    have Ky := Lib.hid ky
    have Kz := Lib.hid kz
    have Kxy := Lib.hid kxy
    have Kxz := Lib.hid kxz
    have Kyz := Lib.hid kyz
    have KK := Lib.hid (And.intro k0 (And.intro k2 (And.intro k4 (And.intro k21 (And.intro k23 k25)))))
    clear hok hm k0 k2 k4 k21 k23 k25 kx ky kz kxy kxz kyz
    refine wpOp_step (o := { dst := some 5, op := Op.alloc 25, type := 0, pos := "outright.go:45", after := #[], guard := none }) rfl (fun K hK => ?_)
    have HK := Lib.hid hK
    clear hK
    unfold actT
    go_simp
    exact HK.out _ _ ⟨HO.out, HW.out.alloc HW.out.size _, _, v6, v7, r20, r21, r22, r23, r24, r25, w.heap.size, B6, B7, rfl, KK.out.1, KK.out.2.1, KK.out.2.2.1, KK.out.2.2.2.1, KK.out.2.2.2.2.1, KK.out.2.2.2.2.2, fun _ => ⟨rfl, HW.out.size, Box.new w _ _⟩, fun h => ⟨(Ky.out h).1, (Ky.out h).2.1, (Ky.out h).2.2.alloc _⟩, fun h => ⟨(Kz.out h).1, (Kz.out h).2.1, (Kz.out h).2.2.alloc _⟩, fun _ h => fun e => by have := (Ky.out h).2.2.1; omega, fun _ h => fun e => by have := (Kz.out h).2.2.1; omega, Kyz.out⟩
  · have HO := Lib.hid hok
    have Kx := Lib.hid kx
    have Ky := Lib.hid ky
    have Kz := Lib.hid kz
    have Kxy := Lib.hid kxy
    have Kxz := Lib.hid kxz
    have Kyz := Lib.hid kyz
    have KK := Lib.hid (And.intro k0 (And.intro k2 (And.intro k4 (And.intro k21 (And.intro k23 k25)))))
    clear hok hm k0 k2 k4 k21 k23 k25 kx ky kz kxy kxz kyz
    refine wpOp_step (o := { dst := some 6, op := Op.alloc 27, type := 0, pos := "outright.go:45", after := #[], guard := none }) rfl (fun K hK => ?_)
    have HK := Lib.hid hK
    clear hK
    unfold actT
    go_simp
    exact HK.out _ _ ⟨HO.out, HW.out.alloc HW.out.size _, v5, _, v7, r20, r21, r22, r23, r24, r25, B5, w.heap.size, B7, rfl, KK.out.1, KK.out.2.1, KK.out.2.2.1, KK.out.2.2.2.1, KK.out.2.2.2.2.1, KK.out.2.2.2.2.2, fun h => ⟨(Kx.out h).1, (Kx.out h).2.1, (Kx.out h).2.2.alloc _⟩, fun _ => ⟨rfl, HW.out.size, Box.new w _ _⟩, fun h => ⟨(Kz.out h).1, (Kz.out h).2.1, (Kz.out h).2.2.alloc _⟩, fun h _ => fun e => by have := (Kx.out h).2.2.1; omega, Kxz.out, fun _ h => fun e => by have := (Kz.out h).2.2.1; omega⟩
  · have HO := Lib.hid hok
    have Kx := Lib.hid kx
    have Ky := Lib.hid ky
    have Kz := Lib.hid kz
    have Kxy := Lib.hid kxy
    have Kxz := Lib.hid kxz
    have Kyz := Lib.hid kyz
    have KK := Lib.hid (And.intro k0 (And.intro k2 (And.intro k4 (And.intro k21 (And.intro k23 k25)))))
    clear hok hm k0 k2 k4 k21 k23 k25 kx ky kz kxy kxz kyz
    refine wpOp_step (o := { dst := some 7, op := Op.alloc 27, type := 0, pos := "outright.go:45", after := #[], guard := none }) rfl (fun K hK => ?_)
    have HK := Lib.hid hK
    clear hK
    unfold actT
    go_simp
    exact HK.out _ _ ⟨HO.out, HW.out.alloc HW.out.size _, v5, v6, _, r20, r21, r22, r23, r24, r25, B5, B6, w.heap.size, rfl, KK.out.1, KK.out.2.1, KK.out.2.2.1, KK.out.2.2.2.1, KK.out.2.2.2.2.1, KK.out.2.2.2.2.2, fun h => ⟨(Kx.out h).1, (Kx.out h).2.1, (Kx.out h).2.2.alloc _⟩, fun h => ⟨(Ky.out h).1, (Ky.out h).2.1, (Ky.out h).2.2.alloc _⟩, fun _ => ⟨rfl, HW.out.size, Box.new w _ _⟩, Kxy.out, fun h _ => fun e => by have := (Kx.out h).2.2.1; omega, fun h _ => fun e => by have := (Ky.out h).2.2.1; omega⟩
end Go.Proofs.YtokjjeekkfefmaaDoor.Sty
