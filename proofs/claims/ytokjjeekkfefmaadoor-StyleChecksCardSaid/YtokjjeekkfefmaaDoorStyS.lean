/-
  The statements of StyleChecks' body that make blocks in whatever order: the second (two calls beside), the third and the one that copies the pen.
-/
import Derived.Test.YtokjjeekkfefmaaDoorStyR
namespace Go.Proofs.YtokjjeekkfefmaaDoor.Sty
open Go.RowKit Utf Col

structure StC where
  b0 : Bool
  b1 : Bool
  b2 : Bool
  b3 : Bool
  b4 : Bool
  b5 : Bool
def StC.lst (s : StC) : Array Bool := #[s.b0, s.b1, s.b2, s.b3, s.b4, s.b5, false, false]
def StC.ok (s : StC) : Bool := (!s.b1 || s.b0) && (!s.b3 || s.b2) && (!s.b3 || s.b1)
def StC.n (s : StC) : Nat := bn s.b0 + bn s.b1 + bn s.b2 + bn s.b3 + bn s.b4 + bn s.b5
def StC.may (s : StC) (i : Nat) : Bool :=
  if i = 0 then !s.b0 else if i = 1 then !s.b1 && s.b0 else if i = 2 then !s.b2 else if i = 3 then !s.b3 && s.b2 && s.b1 else if i = 4 then !s.b4 else if i = 5 then !s.b5 else false
def StC.rd (s : StC) : List Nat := [0, 1, 2, 3, 4, 5].filter s.may
def StC.nx (s : StC) (i : Nat) : StC :=
  if i = 0 then { s with b0 := true } else if i = 1 then { s with b1 := true } else if i = 2 then { s with b2 := true } else if i = 3 then { s with b3 := true } else if i = 4 then { s with b4 := true } else if i = 5 then { s with b5 := true } else s
theorem StC.steps : ∀ b0 b1 b2 b3 b4 b5 : Bool, (StC.mk b0 b1 b2 b3 b4 b5).ok = true → ∀ i ∈ (StC.mk b0 b1 b2 b3 b4 b5).rd, ((StC.mk b0 b1 b2 b3 b4 b5).nx i).lst = (StC.mk b0 b1 b2 b3 b4 b5).lst.setIfInBounds i true ∧ ((StC.mk b0 b1 b2 b3 b4 b5).nx i).n + 1 = (StC.mk b0 b1 b2 b3 b4 b5).n ∧ ((StC.mk b0 b1 b2 b3 b4 b5).nx i).ok = true := by decide +kernel
theorem StC.some_left : ∀ b0 b1 b2 b3 b4 b5 : Bool, (StC.mk b0 b1 b2 b3 b4 b5).ok = true → (StC.mk b0 b1 b2 b3 b4 b5).n ≠ 0 → (StC.mk b0 b1 b2 b3 b4 b5).rd ≠ [] := by decide +kernel
theorem permC {P : Program} {ops : Array Oper} {Q : Exit → Act → World → Prop} (J : StC → Act → World → Prop) (hok : ∀ s a w, J s a w → s.ok = true)
    (htab : ∀ b0 b1 b2 b3 b4 b5 : Bool, (StC.mk b0 b1 b2 b3 b4 b5).ok = true → (StC.mk b0 b1 b2 b3 b4 b5).n ≠ 0 → Region.ready .any ops (StC.mk b0 b1 b2 b3 b4 b5).lst = (StC.mk b0 b1 b2 b3 b4 b5).rd)
    (hstep : ∀ s a w i, J s a w → i ∈ s.rd → wpOp P ops Q i (fun a' w' => J (s.nx i) a' w') a w)
    (hend : ∀ s a w, J s a w → s.n = 0 → wpAnyH P .any ops Q (fun _ => True) 2 s.lst a w) :
    ∀ m s a w, s.n = m → J s a w → wpAnyH P .any ops Q (fun _ => True) (m + 2) s.lst a w := by
  intro m
  induction m with
  | zero => intro s a w hn hJ; rw [Nat.zero_add]; exact hend s a w hJ hn
  | succ m ih =>
    intro s a w hn hJ
    have ho := hok s a w hJ
    have hr := htab s.b0 s.b1 s.b2 s.b3 s.b4 s.b5 ho (by show s.n ≠ 0; omega)
    rw [show m + 1 + 2 = (m + 2) + 1 by omega]
    refine wpAnyH_all (rs := s.rd) hr (StC.some_left s.b0 s.b1 s.b2 s.b3 s.b4 s.b5 ho (by show s.n ≠ 0; omega)) fun i hi => ?_
    obtain ⟨h1, h2, _⟩ := StC.steps s.b0 s.b1 s.b2 s.b3 s.b4 s.b5 ho i hi
    refine wpOp_mono (fun a' w' h' => ⟨trivial, ?_⟩) (hstep s a w i hJ hi)
    have h1' : s.lst.setIfInBounds i true = (s.nx i).lst := h1.symm
    rw [h1']
    have h2' : (s.nx i).n + 1 = s.n := h2
    exact ih (s.nx i) a' w' (by omega) h'
def opsC : Array Oper := #[{ dst := some 29, op := Op.load 31 (Operand.tmp 6), type := 31, pos := "law.go:55", after := #[], guard := none }, { dst := some 30, op := Op.call { callee := Callee.value (Operand.func 10), args := #[Operand.tmp 29], argTypes := #[31] }, type := 25, pos := "law.go:55", after := #[{ on := 0, ground := Ground.data }], guard := none }, { dst := some 31, op := Op.load 31 (Operand.tmp 6), type := 31, pos := "law.go:55", after := #[], guard := none }, { dst := some 32, op := Op.call { callee := Callee.value (Operand.func 11), args := #[Operand.tmp 31], argTypes := #[31] }, type := 27, pos := "law.go:55", after := #[{ on := 2, ground := Ground.data }, { on := 1, ground := Ground.chain }], guard := none }, { dst := some 9, op := Op.alloc 25, type := 0, pos := "law.go:55", after := #[], guard := none }, { dst := some 10, op := Op.alloc 27, type := 0, pos := "law.go:55", after := #[], guard := none }, { dst := none, op := Op.store 25 (Operand.tmp 9) (Operand.tmp 30), type := 0, pos := "law.go:55", after := #[{ on := 4, ground := Ground.data }, { on := 1, ground := Ground.data }, { on := 3, ground := Ground.chain }, { on := 0, ground := Ground.phase }, { on := 1, ground := Ground.phase }, { on := 2, ground := Ground.textOnly Departure.lateStores }, { on := 3, ground := Ground.textOnly Departure.lateStoresUnsure }, { on := 4, ground := Ground.phase }, { on := 5, ground := Ground.phase }], guard := none }, { dst := none, op := Op.store 27 (Operand.tmp 10) (Operand.tmp 32), type := 0, pos := "law.go:55", after := #[{ on := 5, ground := Ground.data }, { on := 3, ground := Ground.data }, { on := 6, ground := Ground.chain }, { on := 0, ground := Ground.phase }, { on := 1, ground := Ground.phase }, { on := 2, ground := Ground.phase }, { on := 3, ground := Ground.phase }, { on := 4, ground := Ground.phase }, { on := 5, ground := Ground.phase }, { on := 6, ground := Ground.phase }], guard := none }]
def actC (x0 x1 x2 x3 x4 x5 pC x8 u21 u22 u23 u24 u25 u26 u27 u28 r29 r30 r31 r32 v9 v10 : Value) : Act := { tmps := (x0 :: x1 :: x2 :: x3 :: x4 :: x5 :: pC :: undef :: x8 :: v9 :: v10 :: undef :: undef :: undef :: undef :: undef :: undef :: undef :: undef :: undef :: undef :: u21 :: u22 :: u23 :: u24 :: u25 :: u26 :: u27 :: u28 :: r29 :: r30 :: r31 :: r32 :: undef :: undef :: undef :: undef :: undef :: undef :: undef :: undef :: undef :: undef :: undef :: undef :: undef :: undef :: undef :: undef :: undef :: undef :: undef :: undef :: undef :: undef :: undef :: undef :: undef :: undef :: undef :: undef :: undef :: undef :: undef :: undef :: undef :: undef :: undef :: undef :: undef :: undef :: undef :: undef :: undef :: undef :: undef :: undef :: undef :: undef :: undef :: undef :: undef :: undef :: undef :: undef :: undef :: undef :: undef :: undef :: undef :: undef :: undef :: undef :: undef :: undef :: undef :: undef :: undef :: undef :: undef :: undef :: undef :: undef :: undef :: undef :: undef :: undef :: undef :: undef :: undef :: undef :: undef :: undef :: undef :: []).toArray, defers := [] }
theorem tabC : ∀ b0 b1 b2 b3 b4 b5 : Bool, (StC.mk b0 b1 b2 b3 b4 b5).ok = true → (StC.mk b0 b1 b2 b3 b4 b5).n ≠ 0 → Region.ready .any opsC (StC.mk b0 b1 b2 b3 b4 b5).lst = (StC.mk b0 b1 b2 b3 b4 b5).rd := by decide +kernel
def JC (z0 z1 z2 z3 z4 z5 z6 z7 : Int) (o : S8) (q : P6) (x0 x1 x2 x3 x4 x5 pC x8 u21 u22 u23 u24 u25 u26 u27 u28 : Value) (w0 : World) (t : StC) (a : Act) (w : World) : Prop :=
  t.ok = true ∧ Below w0.heap.size w0 w ∧ ∃ r29 r30 r31 r32 v9 v10, ∃ B9 B10 : Nat, a = actC x0 x1 x2 x3 x4 x5 pC x8 u21 u22 u23 u24 u25 u26 u27 u28 r29 r30 r31 r32 v9 v10 ∧
    (t.b0 = true → r29 = .agg #[.int .u8 z0, .int .u8 z1, .int .u8 z2, .int .u8 z3, .int .u32 z4, .int .u32 z5, .int .u32 z6, .int .u32 z7]) ∧ (t.b1 = true → r30 = .agg #[.int .i64 o.a, .int .i64 o.u, .int .i64 o.f0, .int .i64 o.f1, .int .i64 o.b0, .int .i64 o.b1, .int .i64 o.l0, .int .i64 o.l1]) ∧ (t.b2 = true → r31 = .agg #[.int .u8 z0, .int .u8 z1, .int .u8 z2, .int .u8 z3, .int .u32 z4, .int .u32 z5, .int .u32 z6, .int .u32 z7]) ∧ (t.b3 = true → r32 = .agg #[.int .i64 q.k, .int .i64 q.n, .int .i64 q.m, .int .i64 q.c0, .int .i64 q.c1, .string q.t]) ∧ (t.b4 = true → v9 = .pointer (some ⟨B9, 0, none⟩) ∧ w0.heap.size ≤ B9 ∧ Box w B9 (cS z8)) ∧ (t.b5 = true → v10 = .pointer (some ⟨B10, 0, none⟩) ∧ w0.heap.size ≤ B10 ∧ Box w B10 (cP zP)) ∧ (t.b4 = true → t.b5 = true → B9 ≠ B10)
theorem mayC {t : StC} {i : Nat} (h : i ∈ t.rd) : t.may i = true ∧ (i = 0 ∨ i = 1 ∨ i = 2 ∨ i = 3 ∨ i = 4 ∨ i = 5) := by
  unfold StC.rd at h
  obtain ⟨h1, h2⟩ := List.mem_filter.1 h
  exact ⟨h2, by simpa using h1⟩
theorem nxokC {t : StC} {i : Nat} (ho : t.ok = true) (h : i ∈ t.rd) : (t.nx i).ok = true := (StC.steps t.b0 t.b1 t.b2 t.b3 t.b4 t.b5 ho i h).2.2
set_option maxRecDepth 100000 in
set_option maxHeartbeats 4000000 in
theorem stepC {Q : Exit → Act → World → Prop} (z0 z1 z2 z3 z4 z5 z6 z7 : Int) (o : S8) (q : P6) (x0 x1 x2 x3 x4 x5 pC x8 u21 u22 u23 u24 u25 u26 u27 u28 : Value) (w0 : World) (C : Nat) (hC : Box w0 C [.int .u8 z0, .int .u8 z1, .int .u8 z2, .int .u8 z3, .int .u32 z4, .int .u32 z5, .int .u32 z6, .int .u32 z7]) (cS1 : Hid (∀ w, Calls Tryd.prog 10 #[.agg #[.int .u8 z0, .int .u8 z1, .int .u8 z2, .int .u8 z3, .int .u32 z4, .int .u32 z5, .int .u32 z6, .int .u32 z7]] w fun r w' => r = .returned (.agg #[.int .i64 o.a, .int .i64 o.u, .int .i64 o.f0, .int .i64 o.f1, .int .i64 o.b0, .int .i64 o.b1, .int .i64 o.l0, .int .i64 o.l1]) ∧ Below w.heap.size w w')) (cP1 : Hid (∀ w, Calls Tryd.prog 11 #[.agg #[.int .u8 z0, .int .u8 z1, .int .u8 z2, .int .u8 z3, .int .u32 z4, .int .u32 z5, .int .u32 z6, .int .u32 z7]] w fun r w' => r = .returned (.agg #[.int .i64 q.k, .int .i64 q.n, .int .i64 q.m, .int .i64 q.c0, .int .i64 q.c1, .string q.t]) ∧ Below w.heap.size w w')) (eC : pC = (.pointer (some ⟨C, 0, none⟩)))
    (t : StC) (a : Act) (w : World) (i : Nat) (hJ : JC z0 z1 z2 z3 z4 z5 z6 z7 o q x0 x1 x2 x3 x4 x5 pC x8 u21 u22 u23 u24 u25 u26 u27 u28 w0 t a w) (hi : i ∈ t.rd) : wpOp Tryd.prog opsC Q i (fun a' w' => JC z0 z1 z2 z3 z4 z5 z6 z7 o q x0 x1 x2 x3 x4 x5 pC x8 u21 u22 u23 u24 u25 u26 u27 u28 w0 (t.nx i) a' w') a w := by
  have hok := nxokC hJ.1 hi
  obtain ⟨hm, hc⟩ := mayC hi
  clear hi
  obtain ⟨ho, hW, r29, r30, r31, r32, v9, v10, B9, B10, rfl, k0, k1, k2, k3, k4, k5, n45⟩ := hJ
  subst eC
  have HC := Lib.hid (hC.keep hW)
  clear hC
  have HW := Lib.hid hW
  have HO := Lib.hid hok
  clear hW ho hok
  have K0 := Lib.hid k0
  clear k0
  have K1 := Lib.hid k1
  clear k1
  have K2 := Lib.hid k2
  clear k2
  have K3 := Lib.hid k3
  clear k3
  have K4 := Lib.hid k4
  clear k4
  have K5 := Lib.hid k5
  clear k5
  have N45 := Lib.hid n45
  clear n45
  rcases hc with rfl | rfl | rfl | rfl | rfl | rfl
  · have HM := Lib.hid (show t.b0 = false by simpa [StC.may, and_assoc] using hm)
    clear hm
    have hl := HC.out.1
    have x0 := HC.out.cell 0 _ rfl
    have x1 := HC.out.cell 1 _ rfl
    have x2 := HC.out.cell 2 _ rfl
    have x3 := HC.out.cell 3 _ rfl
    have x4 := HC.out.cell 4 _ rfl
    have x5 := HC.out.cell 5 _ rfl
    have x6 := HC.out.cell 6 _ rfl
    have x7 := HC.out.cell 7 _ rfl
    refine wpOp_step (o := { dst := some 29, op := Op.load 31 (Operand.tmp 6), type := 31, pos := "law.go:55", after := #[], guard := none }) rfl (fun K hK => ?_)
    have HK := Lib.hid hK
    clear hK
    unfold actC
    go_simp
    exact HK.out _ _ ⟨HO.out, HW.out, _, r30, r31, r32, v9, v10, B9, B10, rfl, fun _ => rfl, K1.out, K2.out, K3.out, K4.out, K5.out, N45.out⟩
  · have HM := Lib.hid (show t.b1 = false ∧ t.b0 = true by simpa [StC.may, and_assoc] using hm)
    clear hm
    obtain rfl := K0.out HM.out.2
    refine wpOp_step (o := { dst := some 30, op := Op.call { callee := Callee.value (Operand.func 10), args := #[Operand.tmp 29], argTypes := #[31] }, type := 25, pos := "law.go:55", after := #[{ on := 0, ground := Ground.data }], guard := none }) rfl (fun K hK => ?_)
    have HK := Lib.hid hK
    clear hK
    unfold actC
    go_simp
    refine (cS1.out _).mono ?_
    rintro e w' ⟨rfl, hb⟩
    go_wp2_with fail
    exact HK.out _ _ ⟨HO.out, HW.out.trans (hb.mono HW.out.size), _, _, r31, r32, v9, v10, B9, B10, rfl, fun _ => rfl, fun _ => rfl, K2.out, K3.out, fun h => ⟨(K4.out h).1, (K4.out h).2.1, (K4.out h).2.2.keep hb⟩, fun h => ⟨(K5.out h).1, (K5.out h).2.1, (K5.out h).2.2.keep hb⟩, N45.out⟩
  · have HM := Lib.hid (show t.b2 = false by simpa [StC.may, and_assoc] using hm)
    clear hm
    have hl := HC.out.1
    have x0 := HC.out.cell 0 _ rfl
    have x1 := HC.out.cell 1 _ rfl
    have x2 := HC.out.cell 2 _ rfl
    have x3 := HC.out.cell 3 _ rfl
    have x4 := HC.out.cell 4 _ rfl
    have x5 := HC.out.cell 5 _ rfl
    have x6 := HC.out.cell 6 _ rfl
    have x7 := HC.out.cell 7 _ rfl
    refine wpOp_step (o := { dst := some 31, op := Op.load 31 (Operand.tmp 6), type := 31, pos := "law.go:55", after := #[], guard := none }) rfl (fun K hK => ?_)
    have HK := Lib.hid hK
    clear hK
    unfold actC
    go_simp
    exact HK.out _ _ ⟨HO.out, HW.out, r29, r30, _, r32, v9, v10, B9, B10, rfl, K0.out, K1.out, fun _ => rfl, K3.out, K4.out, K5.out, N45.out⟩
  · have HM := Lib.hid (show t.b3 = false ∧ t.b2 = true ∧ t.b1 = true by simpa [StC.may, and_assoc] using hm)
    clear hm
    obtain rfl := K2.out HM.out.2.1
    refine wpOp_step (o := { dst := some 32, op := Op.call { callee := Callee.value (Operand.func 11), args := #[Operand.tmp 31], argTypes := #[31] }, type := 27, pos := "law.go:55", after := #[{ on := 2, ground := Ground.data }, { on := 1, ground := Ground.chain }], guard := none }) rfl (fun K hK => ?_)
    have HK := Lib.hid hK
    clear hK
    unfold actC
    go_simp
    refine (cP1.out _).mono ?_
    rintro e w' ⟨rfl, hb⟩
    go_wp2_with fail
    exact HK.out _ _ ⟨HO.out, HW.out.trans (hb.mono HW.out.size), r29, r30, _, _, v9, v10, B9, B10, rfl, K0.out, K1.out, fun _ => rfl, fun _ => rfl, fun h => ⟨(K4.out h).1, (K4.out h).2.1, (K4.out h).2.2.keep hb⟩, fun h => ⟨(K5.out h).1, (K5.out h).2.1, (K5.out h).2.2.keep hb⟩, N45.out⟩
  · have HM := Lib.hid (show t.b4 = false by simpa [StC.may, and_assoc] using hm)
    clear hm
    refine wpOp_step (o := { dst := some 9, op := Op.alloc 25, type := 0, pos := "law.go:55", after := #[], guard := none }) rfl (fun K hK => ?_)
    have HK := Lib.hid hK
    clear hK
    unfold actC
    go_simp
    exact HK.out _ _ ⟨HO.out, HW.out.alloc HW.out.size _, r29, r30, r31, r32, _, v10, w.heap.size, B10, rfl, K0.out, K1.out, K2.out, K3.out, fun _ => ⟨rfl, HW.out.size, Box.new w _ _⟩, fun h => ⟨(K5.out h).1, (K5.out h).2.1, (K5.out h).2.2.alloc _⟩, fun _ h => fun e => by have := (K5.out h).2.2.1; omega⟩
  · have HM := Lib.hid (show t.b5 = false by simpa [StC.may, and_assoc] using hm)
    clear hm
    refine wpOp_step (o := { dst := some 10, op := Op.alloc 27, type := 0, pos := "law.go:55", after := #[], guard := none }) rfl (fun K hK => ?_)
    have HK := Lib.hid hK
    clear hK
    unfold actC
    go_simp
    exact HK.out _ _ ⟨HO.out, HW.out.alloc HW.out.size _, r29, r30, r31, r32, v9, _, B9, w.heap.size, rfl, K0.out, K1.out, K2.out, K3.out, fun h => ⟨(K4.out h).1, (K4.out h).2.1, (K4.out h).2.2.alloc _⟩, fun _ => ⟨rfl, HW.out.size, Box.new w _ _⟩, fun h _ => fun e => by have := (K4.out h).2.2.1; omega⟩
def EndC (Q : Exit → Act → World → Prop) (z0 z1 z2 z3 z4 z5 z6 z7 : Int) (o : S8) (q : P6) (x0 x1 x2 x3 x4 x5 pC x8 u21 u22 u23 u24 u25 u26 u27 u28 : Value) (w0 : World) : Prop :=
  ∀ (B9 B10 : Nat) (w' : World), Below w0.heap.size w0 w' → w0.heap.size ≤ B9 → w0.heap.size ≤ B10 → B9 ≠ B10 → Box w' B9 (cS o) → Box w' B10 (cP q) → Q .normal (actC x0 x1 x2 x3 x4 x5 pC x8 u21 u22 u23 u24 u25 u26 u27 u28 (.agg #[.int .u8 z0, .int .u8 z1, .int .u8 z2, .int .u8 z3, .int .u32 z4, .int .u32 z5, .int .u32 z6, .int .u32 z7]) (.agg #[.int .i64 o.a, .int .i64 o.u, .int .i64 o.f0, .int .i64 o.f1, .int .i64 o.b0, .int .i64 o.b1, .int .i64 o.l0, .int .i64 o.l1]) (.agg #[.int .u8 z0, .int .u8 z1, .int .u8 z2, .int .u8 z3, .int .u32 z4, .int .u32 z5, .int .u32 z6, .int .u32 z7]) (.agg #[.int .i64 q.k, .int .i64 q.n, .int .i64 q.m, .int .i64 q.c0, .int .i64 q.c1, .string q.t]) (.pointer (some ⟨B9, 0, none⟩)) (.pointer (some ⟨B10, 0, none⟩))) w'
set_option maxRecDepth 100000 in
set_option maxHeartbeats 4000000 in
theorem storesC {Q : Exit → Act → World → Prop} (z0 z1 z2 z3 z4 z5 z6 z7 : Int) (o : S8) (q : P6) (x0 x1 x2 x3 x4 x5 pC x8 u21 u22 u23 u24 u25 u26 u27 u28 : Value) (B9 B10 : Nat) (w0 w : World) (hQ : Hid (EndC Q z0 z1 z2 z3 z4 z5 z6 z7 o q x0 x1 x2 x3 x4 x5 pC x8 u21 u22 u23 u24 u25 u26 u27 u28 w0)) (hW : Below w0.heap.size w0 w)
    (gB9 : w0.heap.size ≤ B9) (gB10 : w0.heap.size ≤ B10) (d0 : B9 ≠ B10) (hB9 : Box w B9 (cS z8)) (hB10 : Box w B10 (cP zP)) :
    wpAnyH Tryd.prog .any opsC Q (fun _ => True) 2 #[true, true, true, true, true, true, false, false] (actC x0 x1 x2 x3 x4 x5 pC x8 u21 u22 u23 u24 u25 u26 u27 u28 (.agg #[.int .u8 z0, .int .u8 z1, .int .u8 z2, .int .u8 z3, .int .u32 z4, .int .u32 z5, .int .u32 z6, .int .u32 z7]) (.agg #[.int .i64 o.a, .int .i64 o.u, .int .i64 o.f0, .int .i64 o.f1, .int .i64 o.b0, .int .i64 o.b1, .int .i64 o.l0, .int .i64 o.l1]) (.agg #[.int .u8 z0, .int .u8 z1, .int .u8 z2, .int .u8 z3, .int .u32 z4, .int .u32 z5, .int .u32 z6, .int .u32 z7]) (.agg #[.int .i64 q.k, .int .i64 q.n, .int .i64 q.m, .int .i64 q.c0, .int .i64 q.c1, .string q.t]) (.pointer (some ⟨B9, 0, none⟩)) (.pointer (some ⟨B10, 0, none⟩))) w := by
  have HW := Lib.hid hW
  clear hW
  have GB9 := Lib.hid gB9
  clear gB9
  have HB9 := Lib.hid hB9
  clear hB9
  have GB10 := Lib.hid gB10
  clear gB10
  have HB10 := Lib.hid hB10
  clear hB10
  have D0 := Lib.hid d0
  clear d0
  refine wpAnyH_all (rs := [6]) (by kernel_rfl) (by simp) fun i hi => ?_
  obtain rfl : i = 6 := by simpa using hi
  clear hi
  refine wpOp_step (o := { dst := none, op := Op.store 25 (Operand.tmp 9) (Operand.tmp 30), type := 0, pos := "law.go:55", after := #[{ on := 4, ground := Ground.data }, { on := 1, ground := Ground.data }, { on := 3, ground := Ground.chain }, { on := 0, ground := Ground.phase }, { on := 1, ground := Ground.phase }, { on := 2, ground := Ground.textOnly Departure.lateStores }, { on := 3, ground := Ground.textOnly Departure.lateStoresUnsure }, { on := 4, ground := Ground.phase }, { on := 5, ground := Ground.phase }], guard := none }) rfl (fun K hK => ?_)
  have HK := Lib.hid hK
  clear hK
  have l := HB9.out.1
  have x0 := HB9.out.cell 0 _ rfl
  have v0 := HB9.out.free 0 (by show 0 < 8; decide)
  have x1 := HB9.out.cell 1 _ rfl
  have v1 := HB9.out.free 1 (by show 1 < 8; decide)
  have x2 := HB9.out.cell 2 _ rfl
  have v2 := HB9.out.free 2 (by show 2 < 8; decide)
  have x3 := HB9.out.cell 3 _ rfl
  have v3 := HB9.out.free 3 (by show 3 < 8; decide)
  have x4 := HB9.out.cell 4 _ rfl
  have v4 := HB9.out.free 4 (by show 4 < 8; decide)
  have x5 := HB9.out.cell 5 _ rfl
  have v5 := HB9.out.free 5 (by show 5 < 8; decide)
  have x6 := HB9.out.cell 6 _ rfl
  have v6 := HB9.out.free 6 (by show 6 < 8; decide)
  have x7 := HB9.out.cell 7 _ rfl
  have v7 := HB9.out.free 7 (by show 7 < 8; decide)
  unfold actC
  go_simp
  refine HK.out _ _ ⟨trivial, ?_⟩
  clear l x0 v0 x1 v1 x2 v2 x3 v3 x4 v4 x5 v5 x6 v6 x7 v7 HK
  have jB9 := put8 w B9 o z8 HB9.out
  have jB10 := HB10.out.grown (grown8 w B9 o) (by simp; exact fun e => D0.out e.symm)
  have jW := below8 B9 o HW.out GB9.out
  clear HW HB9 HB10
  generalize ((((((((w.setCell ⟨B9, 0, none⟩ (.int .i64 o.a)).setCell ⟨B9, 1, none⟩ (.int .i64 o.u)).setCell ⟨B9, 2, none⟩ (.int .i64 o.f0)).setCell ⟨B9, 3, none⟩ (.int .i64 o.f1)).setCell ⟨B9, 4, none⟩ (.int .i64 o.b0)).setCell ⟨B9, 5, none⟩ (.int .i64 o.b1)).setCell ⟨B9, 6, none⟩ (.int .i64 o.l0)).setCell ⟨B9, 7, none⟩ (.int .i64 o.l1)) = w_0 at jW jB9 jB10 ⊢
  have HW := Lib.hid jW
  clear jW
  have HB9 := Lib.hid jB9
  clear jB9
  have HB10 := Lib.hid jB10
  clear jB10
  refine wpAnyH_all (rs := [7]) (by kernel_rfl) (by simp) fun i hi => ?_
  obtain rfl : i = 7 := by simpa using hi
  clear hi
  refine wpOp_step (o := { dst := none, op := Op.store 27 (Operand.tmp 10) (Operand.tmp 32), type := 0, pos := "law.go:55", after := #[{ on := 5, ground := Ground.data }, { on := 3, ground := Ground.data }, { on := 6, ground := Ground.chain }, { on := 0, ground := Ground.phase }, { on := 1, ground := Ground.phase }, { on := 2, ground := Ground.phase }, { on := 3, ground := Ground.phase }, { on := 4, ground := Ground.phase }, { on := 5, ground := Ground.phase }, { on := 6, ground := Ground.phase }], guard := none }) rfl (fun K hK => ?_)
  have HK := Lib.hid hK
  clear hK
  have l := HB10.out.1
  have x0 := HB10.out.cell 0 _ rfl
  have v0 := HB10.out.free 0 (by show 0 < 6; decide)
  have x1 := HB10.out.cell 1 _ rfl
  have v1 := HB10.out.free 1 (by show 1 < 6; decide)
  have x2 := HB10.out.cell 2 _ rfl
  have v2 := HB10.out.free 2 (by show 2 < 6; decide)
  have x3 := HB10.out.cell 3 _ rfl
  have v3 := HB10.out.free 3 (by show 3 < 6; decide)
  have x4 := HB10.out.cell 4 _ rfl
  have v4 := HB10.out.free 4 (by show 4 < 6; decide)
  have x5 := HB10.out.cell 5 _ rfl
  have v5 := HB10.out.free 5 (by show 5 < 6; decide)
  go_simp
  refine HK.out _ _ ⟨trivial, ?_⟩
  clear l x0 v0 x1 v1 x2 v2 x3 v3 x4 v4 x5 v5 HK
  have jB10 := put6 w_0 B10 q zP HB10.out
  have jB9 := HB9.out.grown (grown6 w_0 B10 q) (by simp; exact D0.out)
  have jW := below6 B10 q HW.out GB10.out
  clear HW HB9 HB10
  generalize ((((((w_0.setCell ⟨B10, 0, none⟩ (.int .i64 q.k)).setCell ⟨B10, 1, none⟩ (.int .i64 q.n)).setCell ⟨B10, 2, none⟩ (.int .i64 q.m)).setCell ⟨B10, 3, none⟩ (.int .i64 q.c0)).setCell ⟨B10, 4, none⟩ (.int .i64 q.c1)).setCell ⟨B10, 5, none⟩ (.string q.t)) = w_1 at jW jB9 jB10 ⊢
  have HW := Lib.hid jW
  clear jW
  have HB9 := Lib.hid jB9
  clear jB9
  have HB10 := Lib.hid jB10
  clear jB10
  refine wpAnyH_done (by kernel_rfl) ?_ _
  exact hQ.out B9 B10 _ HW.out GB9.out GB10.out D0.out HB9.out HB10.out
theorem zeroC (t : StC) (h : t.n = 0) : t.b0 = true ∧ t.b1 = true ∧ t.b2 = true ∧ t.b3 = true ∧ t.b4 = true ∧ t.b5 = true := by
  obtain ⟨b0, b1, b2, b3, b4, b5⟩ := t
  simp only [StC.n, bn] at h
  cases b0 <;> cases b1 <;> cases b2 <;> cases b3 <;> cases b4 <;> cases b5 <;> simp at h ⊢
theorem regionC {Q : Exit → Act → World → Prop} (z0 z1 z2 z3 z4 z5 z6 z7 : Int) (o : S8) (q : P6) (x0 x1 x2 x3 x4 x5 pC x8 u21 u22 u23 u24 u25 u26 u27 u28 : Value) (w : World) (C : Nat) (hC : Box w C [.int .u8 z0, .int .u8 z1, .int .u8 z2, .int .u8 z3, .int .u32 z4, .int .u32 z5, .int .u32 z6, .int .u32 z7]) (cS1 : Hid (∀ w, Calls Tryd.prog 10 #[.agg #[.int .u8 z0, .int .u8 z1, .int .u8 z2, .int .u8 z3, .int .u32 z4, .int .u32 z5, .int .u32 z6, .int .u32 z7]] w fun r w' => r = .returned (.agg #[.int .i64 o.a, .int .i64 o.u, .int .i64 o.f0, .int .i64 o.f1, .int .i64 o.b0, .int .i64 o.b1, .int .i64 o.l0, .int .i64 o.l1]) ∧ Below w.heap.size w w')) (cP1 : Hid (∀ w, Calls Tryd.prog 11 #[.agg #[.int .u8 z0, .int .u8 z1, .int .u8 z2, .int .u8 z3, .int .u32 z4, .int .u32 z5, .int .u32 z6, .int .u32 z7]] w fun r w' => r = .returned (.agg #[.int .i64 q.k, .int .i64 q.n, .int .i64 q.m, .int .i64 q.c0, .int .i64 q.c1, .string q.t]) ∧ Below w.heap.size w w')) (eC : pC = (.pointer (some ⟨C, 0, none⟩))) (hQ : Hid (EndC Q z0 z1 z2 z3 z4 z5 z6 z7 o q x0 x1 x2 x3 x4 x5 pC x8 u21 u22 u23 u24 u25 u26 u27 u28 w)) :
    (Code.region 2 opsC true).wp Tryd.prog Q (actC x0 x1 x2 x3 x4 x5 pC x8 u21 u22 u23 u24 u25 u26 u27 u28 undef undef undef undef undef undef) w := by
  refine wp_region_held_drew (S := fun _ => True) (by kernel_rfl) trivial (fun _ => ?_)
  refine permC (JC z0 z1 z2 z3 z4 z5 z6 z7 o q x0 x1 x2 x3 x4 x5 pC x8 u21 u22 u23 u24 u25 u26 u27 u28 w) (fun _ _ _ h => h.1) tabC (fun t a w' i hJ hi => stepC z0 z1 z2 z3 z4 z5 z6 z7 o q x0 x1 x2 x3 x4 x5 pC x8 u21 u22 u23 u24 u25 u26 u27 u28 w C hC cS1 cP1 eC t a w' i hJ hi) ?_ 6 ⟨false, false, false, false, false, false⟩ _ w.drew rfl ?_
  · intro t a wz hJ hn
    obtain ⟨tb0, tb1, tb2, tb3, tb4, tb5⟩ := zeroC t hn
    obtain ⟨_, hW, r29, r30, r31, r32, v9, v10, B9, B10, rfl, k0, k1, k2, k3, k4, k5, n45⟩ := hJ
    obtain rfl := k0 tb0
    obtain rfl := k1 tb1
    obtain rfl := k2 tb2
    obtain rfl := k3 tb3
    obtain ⟨rfl, gB9, hB9⟩ := k4 tb4
    obtain ⟨rfl, gB10, hB10⟩ := k5 tb5
    have hl : t.lst = #[true, true, true, true, true, true, false, false] := by
      unfold StC.lst
      rw [tb0, tb1, tb2, tb3, tb4, tb5]
    rw [hl]
    exact storesC z0 z1 z2 z3 z4 z5 z6 z7 o q x0 x1 x2 x3 x4 x5 pC x8 u21 u22 u23 u24 u25 u26 u27 u28 B9 B10 w wz hQ hW gB9 gB10 (n45 tb4 tb5) hB9 hB10
  · exact ⟨rfl, (Below.refl _ w).drew, _, _, _, _, _, _, 0, 0, rfl, (fun h => Bool.noConfusion h), (fun h => Bool.noConfusion h), (fun h => Bool.noConfusion h), (fun h => Bool.noConfusion h), (fun h => Bool.noConfusion h), (fun h => Bool.noConfusion h), (fun h => Bool.noConfusion h)⟩
structure StD where
  b0 : Bool
  b1 : Bool
  b2 : Bool
  b3 : Bool
  b4 : Bool
  b5 : Bool
  b6 : Bool
  b7 : Bool
  b8 : Bool
def StD.lst (s : StD) : Array Bool := #[s.b0, s.b1, s.b2, s.b3, s.b4, s.b5, s.b6, s.b7, s.b8]
def StD.ok (s : StD) : Bool := (!s.b6 || s.b3) && (!s.b6 || s.b0) && (!s.b6 || s.b4) && (!s.b6 || s.b5) && (!s.b7 || s.b4) && (!s.b7 || s.b1) && (!s.b7 || s.b6) && (!s.b7 || s.b0) && (!s.b7 || s.b3) && (!s.b7 || s.b5) && (!s.b8 || s.b5) && (!s.b8 || s.b2) && (!s.b8 || s.b7) && (!s.b8 || s.b0) && (!s.b8 || s.b1) && (!s.b8 || s.b3) && (!s.b8 || s.b4) && (!s.b8 || s.b6)
def StD.n (s : StD) : Nat := bn s.b0 + bn s.b1 + bn s.b2 + bn s.b3 + bn s.b4 + bn s.b5 + bn s.b6 + bn s.b7 + bn s.b8
def StD.may (s : StD) (i : Nat) : Bool :=
  if i = 0 then !s.b0 else if i = 1 then !s.b1 else if i = 2 then !s.b2 else if i = 3 then !s.b3 else if i = 4 then !s.b4 else if i = 5 then !s.b5 else if i = 6 then !s.b6 && s.b3 && s.b0 && s.b4 && s.b5 else if i = 7 then !s.b7 && s.b4 && s.b1 && s.b6 && s.b0 && s.b3 && s.b5 else if i = 8 then !s.b8 && s.b5 && s.b2 && s.b7 && s.b0 && s.b1 && s.b3 && s.b4 && s.b6 else false
def StD.rd (s : StD) : List Nat := [0, 1, 2, 3, 4, 5, 6, 7, 8].filter s.may
def StD.nx (s : StD) (i : Nat) : StD :=
  if i = 0 then { s with b0 := true } else if i = 1 then { s with b1 := true } else if i = 2 then { s with b2 := true } else if i = 3 then { s with b3 := true } else if i = 4 then { s with b4 := true } else if i = 5 then { s with b5 := true } else if i = 6 then { s with b6 := true } else if i = 7 then { s with b7 := true } else if i = 8 then { s with b8 := true } else s
theorem StD.steps : ∀ b0 b1 b2 b3 b4 b5 b6 b7 b8 : Bool, (StD.mk b0 b1 b2 b3 b4 b5 b6 b7 b8).ok = true → ∀ i ∈ (StD.mk b0 b1 b2 b3 b4 b5 b6 b7 b8).rd, ((StD.mk b0 b1 b2 b3 b4 b5 b6 b7 b8).nx i).lst = (StD.mk b0 b1 b2 b3 b4 b5 b6 b7 b8).lst.setIfInBounds i true ∧ ((StD.mk b0 b1 b2 b3 b4 b5 b6 b7 b8).nx i).n + 1 = (StD.mk b0 b1 b2 b3 b4 b5 b6 b7 b8).n ∧ ((StD.mk b0 b1 b2 b3 b4 b5 b6 b7 b8).nx i).ok = true := by decide +kernel
theorem StD.some_left : ∀ b0 b1 b2 b3 b4 b5 b6 b7 b8 : Bool, (StD.mk b0 b1 b2 b3 b4 b5 b6 b7 b8).ok = true → (StD.mk b0 b1 b2 b3 b4 b5 b6 b7 b8).n ≠ 0 → (StD.mk b0 b1 b2 b3 b4 b5 b6 b7 b8).rd ≠ [] := by decide +kernel
theorem permD {P : Program} {ops : Array Oper} {Q : Exit → Act → World → Prop} (J : StD → Act → World → Prop) (hok : ∀ s a w, J s a w → s.ok = true)
    (htab : ∀ b0 b1 b2 b3 b4 b5 b6 b7 b8 : Bool, (StD.mk b0 b1 b2 b3 b4 b5 b6 b7 b8).ok = true → (StD.mk b0 b1 b2 b3 b4 b5 b6 b7 b8).n ≠ 0 → Region.ready .any ops (StD.mk b0 b1 b2 b3 b4 b5 b6 b7 b8).lst = (StD.mk b0 b1 b2 b3 b4 b5 b6 b7 b8).rd)
    (hstep : ∀ s a w i, J s a w → i ∈ s.rd → wpOp P ops Q i (fun a' w' => J (s.nx i) a' w') a w)
    (hend : ∀ s a w, J s a w → s.n = 0 → wpAnyH P .any ops Q (fun _ => True) 0 s.lst a w) :
    ∀ m s a w, s.n = m → J s a w → wpAnyH P .any ops Q (fun _ => True) (m + 0) s.lst a w := by
  intro m
  induction m with
  | zero => intro s a w hn hJ; rw [Nat.zero_add]; exact hend s a w hJ hn
  | succ m ih =>
    intro s a w hn hJ
    have ho := hok s a w hJ
    have hr := htab s.b0 s.b1 s.b2 s.b3 s.b4 s.b5 s.b6 s.b7 s.b8 ho (by show s.n ≠ 0; omega)
    rw [show m + 1 + 0 = (m + 0) + 1 by omega]
    refine wpAnyH_all (rs := s.rd) hr (StD.some_left s.b0 s.b1 s.b2 s.b3 s.b4 s.b5 s.b6 s.b7 s.b8 ho (by show s.n ≠ 0; omega)) fun i hi => ?_
    obtain ⟨h1, h2, _⟩ := StD.steps s.b0 s.b1 s.b2 s.b3 s.b4 s.b5 s.b6 s.b7 s.b8 ho i hi
    refine wpOp_mono (fun a' w' h' => ⟨trivial, ?_⟩) (hstep s a w i hJ hi)
    have h1' : s.lst.setIfInBounds i true = (s.nx i).lst := h1.symm
    rw [h1']
    have h2' : (s.nx i).n + 1 = s.n := h2
    exact ih (s.nx i) a' w' (by omega) h'
theorem StD.no3 : ∀ b0 b1 b2 b3 b4 b5 b6 b7 b8 : Bool, (StD.mk b0 b1 b2 b3 b4 b5 b6 b7 b8).ok = true → b3 = false → b6 = false := by decide +kernel
theorem StD.no4 : ∀ b0 b1 b2 b3 b4 b5 b6 b7 b8 : Bool, (StD.mk b0 b1 b2 b3 b4 b5 b6 b7 b8).ok = true → b4 = false → b7 = false := by decide +kernel
theorem StD.no5 : ∀ b0 b1 b2 b3 b4 b5 b6 b7 b8 : Bool, (StD.mk b0 b1 b2 b3 b4 b5 b6 b7 b8).ok = true → b5 = false → b8 = false := by decide +kernel
def opsD : Array Oper := #[{ dst := some 33, op := Op.load 25 (Operand.tmp 9), type := 25, pos := "law.go:56", after := #[], guard := none }, { dst := some 34, op := Op.load 25 (Operand.tmp 9), type := 25, pos := "law.go:56", after := #[{ on := 6, ground := Ground.gcOnly Departure.lateStores }], guard := none }, { dst := some 35, op := Op.load 25 (Operand.tmp 9), type := 25, pos := "law.go:56", after := #[{ on := 7, ground := Ground.gcOnly Departure.lateStores }], guard := none }, { dst := some 11, op := Op.alloc 25, type := 0, pos := "law.go:56", after := #[], guard := none }, { dst := some 12, op := Op.alloc 25, type := 0, pos := "law.go:56", after := #[], guard := none }, { dst := some 13, op := Op.alloc 25, type := 0, pos := "law.go:56", after := #[], guard := none }, { dst := none, op := Op.store 25 (Operand.tmp 11) (Operand.tmp 33), type := 0, pos := "law.go:56", after := #[{ on := 3, ground := Ground.data }, { on := 0, ground := Ground.data }, { on := 0, ground := Ground.phase }, { on := 1, ground := Ground.textOnly Departure.lateStores }, { on := 2, ground := Ground.textOnly Departure.lateStores }, { on := 3, ground := Ground.phase }, { on := 4, ground := Ground.phase }, { on := 5, ground := Ground.phase }], guard := none }, { dst := none, op := Op.store 25 (Operand.tmp 12) (Operand.tmp 34), type := 0, pos := "law.go:56", after := #[{ on := 4, ground := Ground.data }, { on := 1, ground := Ground.data }, { on := 6, ground := Ground.chain }, { on := 0, ground := Ground.phase }, { on := 1, ground := Ground.phase }, { on := 2, ground := Ground.textOnly Departure.lateStores }, { on := 3, ground := Ground.phase }, { on := 4, ground := Ground.phase }, { on := 5, ground := Ground.phase }, { on := 6, ground := Ground.phase }], guard := none }, { dst := none, op := Op.store 25 (Operand.tmp 13) (Operand.tmp 35), type := 0, pos := "law.go:56", after := #[{ on := 5, ground := Ground.data }, { on := 2, ground := Ground.data }, { on := 7, ground := Ground.chain }, { on := 0, ground := Ground.phase }, { on := 1, ground := Ground.phase }, { on := 2, ground := Ground.phase }, { on := 3, ground := Ground.phase }, { on := 4, ground := Ground.phase }, { on := 5, ground := Ground.phase }, { on := 6, ground := Ground.phase }, { on := 7, ground := Ground.phase }], guard := none }]

def actD (x0 x1 x2 x3 x4 x5 x6 x8 pV x10 u21 u22 u23 u24 u25 u26 u27 u28 u29 u30 u31 u32 r33 r34 r35 v11 v12 v13 : Value) : Act := { tmps := (x0 :: x1 :: x2 :: x3 :: x4 :: x5 :: x6 :: undef :: x8 :: pV :: x10 :: v11 :: v12 :: v13 :: undef :: undef :: undef :: undef :: undef :: undef :: undef :: u21 :: u22 :: u23 :: u24 :: u25 :: u26 :: u27 :: u28 :: u29 :: u30 :: u31 :: u32 :: r33 :: r34 :: r35 :: undef :: undef :: undef :: undef :: undef :: undef :: undef :: undef :: undef :: undef :: undef :: undef :: undef :: undef :: undef :: undef :: undef :: undef :: undef :: undef :: undef :: undef :: undef :: undef :: undef :: undef :: undef :: undef :: undef :: undef :: undef :: undef :: undef :: undef :: undef :: undef :: undef :: undef :: undef :: undef :: undef :: undef :: undef :: undef :: undef :: undef :: undef :: undef :: undef :: undef :: undef :: undef :: undef :: undef :: undef :: undef :: undef :: undef :: undef :: undef :: undef :: undef :: undef :: undef :: undef :: undef :: undef :: undef :: undef :: undef :: undef :: undef :: undef :: undef :: undef :: undef :: undef :: undef :: []).toArray, defers := [] }
theorem tabD : ∀ b0 b1 b2 b3 b4 b5 b6 b7 b8 : Bool, (StD.mk b0 b1 b2 b3 b4 b5 b6 b7 b8).ok = true → (StD.mk b0 b1 b2 b3 b4 b5 b6 b7 b8).n ≠ 0 → Region.ready .any opsD (StD.mk b0 b1 b2 b3 b4 b5 b6 b7 b8).lst = (StD.mk b0 b1 b2 b3 b4 b5 b6 b7 b8).rd := by decide +kernel
def JD (o : S8) (x0 x1 x2 x3 x4 x5 x6 x8 pV x10 u21 u22 u23 u24 u25 u26 u27 u28 u29 u30 u31 u32 : Value) (w0 : World) (t : StD) (a : Act) (w : World) : Prop :=
  t.ok = true ∧ Below w0.heap.size w0 w ∧ ∃ r33 r34 r35 v11 v12 v13, ∃ B11 B12 B13 : Nat, a = actD x0 x1 x2 x3 x4 x5 x6 x8 pV x10 u21 u22 u23 u24 u25 u26 u27 u28 u29 u30 u31 u32 r33 r34 r35 v11 v12 v13 ∧
    (t.b0 = true → r33 = .agg #[.int .i64 o.a, .int .i64 o.u, .int .i64 o.f0, .int .i64 o.f1, .int .i64 o.b0, .int .i64 o.b1, .int .i64 o.l0, .int .i64 o.l1]) ∧ (t.b1 = true → r34 = .agg #[.int .i64 o.a, .int .i64 o.u, .int .i64 o.f0, .int .i64 o.f1, .int .i64 o.b0, .int .i64 o.b1, .int .i64 o.l0, .int .i64 o.l1]) ∧ (t.b2 = true → r35 = .agg #[.int .i64 o.a, .int .i64 o.u, .int .i64 o.f0, .int .i64 o.f1, .int .i64 o.b0, .int .i64 o.b1, .int .i64 o.l0, .int .i64 o.l1]) ∧ (t.b3 = true → v11 = .pointer (some ⟨B11, 0, none⟩) ∧ w0.heap.size ≤ B11 ∧ Box w B11 (cS (cond t.b6 o z8))) ∧ (t.b4 = true → v12 = .pointer (some ⟨B12, 0, none⟩) ∧ w0.heap.size ≤ B12 ∧ Box w B12 (cS (cond t.b7 o z8))) ∧ (t.b5 = true → v13 = .pointer (some ⟨B13, 0, none⟩) ∧ w0.heap.size ≤ B13 ∧ Box w B13 (cS (cond t.b8 o z8))) ∧ (t.b3 = true → t.b4 = true → B11 ≠ B12) ∧ (t.b3 = true → t.b5 = true → B11 ≠ B13) ∧ (t.b4 = true → t.b5 = true → B12 ≠ B13)
theorem mayD {t : StD} {i : Nat} (h : i ∈ t.rd) : t.may i = true ∧ (i = 0 ∨ i = 1 ∨ i = 2 ∨ i = 3 ∨ i = 4 ∨ i = 5 ∨ i = 6 ∨ i = 7 ∨ i = 8) := by
  unfold StD.rd at h
  obtain ⟨h1, h2⟩ := List.mem_filter.1 h
  exact ⟨h2, by simpa using h1⟩
theorem nxokD {t : StD} {i : Nat} (ho : t.ok = true) (h : i ∈ t.rd) : (t.nx i).ok = true := (StD.steps t.b0 t.b1 t.b2 t.b3 t.b4 t.b5 t.b6 t.b7 t.b8 ho i h).2.2
set_option maxRecDepth 100000 in
set_option maxHeartbeats 4000000 in
theorem stepD {Q : Exit → Act → World → Prop} (o : S8) (x0 x1 x2 x3 x4 x5 x6 x8 pV x10 u21 u22 u23 u24 u25 u26 u27 u28 u29 u30 u31 u32 : Value) (w0 : World) (V : Nat) (hV : Box w0 V [.int .i64 o.a, .int .i64 o.u, .int .i64 o.f0, .int .i64 o.f1, .int .i64 o.b0, .int .i64 o.b1, .int .i64 o.l0, .int .i64 o.l1])  (eV : pV = (.pointer (some ⟨V, 0, none⟩)))
    (t : StD) (a : Act) (w : World) (i : Nat) (hJ : JD o x0 x1 x2 x3 x4 x5 x6 x8 pV x10 u21 u22 u23 u24 u25 u26 u27 u28 u29 u30 u31 u32 w0 t a w) (hi : i ∈ t.rd) : wpOp Tryd.prog opsD Q i (fun a' w' => JD o x0 x1 x2 x3 x4 x5 x6 x8 pV x10 u21 u22 u23 u24 u25 u26 u27 u28 u29 u30 u31 u32 w0 (t.nx i) a' w') a w := by
  have hok := nxokD hJ.1 hi
  obtain ⟨hm, hc⟩ := mayD hi
  clear hi
  obtain ⟨ho, hW, r33, r34, r35, v11, v12, v13, B11, B12, B13, rfl, k0, k1, k2, k3, k4, k5, n34, n35, n45⟩ := hJ
  subst eV
  have HV := Lib.hid (hV.keep hW)
  clear hV
  have HW := Lib.hid hW
  have HO := Lib.hid hok
  have HT := Lib.hid ho
  clear hW ho hok
  have K0 := Lib.hid k0
  clear k0
  have K1 := Lib.hid k1
  clear k1
  have K2 := Lib.hid k2
  clear k2
  have K3 := Lib.hid k3
  clear k3
  have K4 := Lib.hid k4
  clear k4
  have K5 := Lib.hid k5
  clear k5
  have N34 := Lib.hid n34
  clear n34
  have N35 := Lib.hid n35
  clear n35
  have N45 := Lib.hid n45
  clear n45
  rcases hc with rfl | rfl | rfl | rfl | rfl | rfl | rfl | rfl | rfl
  · have HM := Lib.hid (show t.b0 = false by simpa [StD.may, and_assoc] using hm)
    clear hm
    have hl := HV.out.1
    have x0 := HV.out.cell 0 _ rfl
    have x1 := HV.out.cell 1 _ rfl
    have x2 := HV.out.cell 2 _ rfl
    have x3 := HV.out.cell 3 _ rfl
    have x4 := HV.out.cell 4 _ rfl
    have x5 := HV.out.cell 5 _ rfl
    have x6 := HV.out.cell 6 _ rfl
    have x7 := HV.out.cell 7 _ rfl
    refine wpOp_step (o := { dst := some 33, op := Op.load 25 (Operand.tmp 9), type := 25, pos := "law.go:56", after := #[], guard := none }) rfl (fun K hK => ?_)
    have HK := Lib.hid hK
    clear hK
    unfold actD
    go_simp
    exact HK.out _ _ ⟨HO.out, HW.out, _, r34, r35, v11, v12, v13, B11, B12, B13, rfl, fun _ => rfl, K1.out, K2.out, K3.out, K4.out, K5.out, N34.out, N35.out, N45.out⟩
  · have HM := Lib.hid (show t.b1 = false by simpa [StD.may, and_assoc] using hm)
    clear hm
    have hl := HV.out.1
    have x0 := HV.out.cell 0 _ rfl
    have x1 := HV.out.cell 1 _ rfl
    have x2 := HV.out.cell 2 _ rfl
    have x3 := HV.out.cell 3 _ rfl
    have x4 := HV.out.cell 4 _ rfl
    have x5 := HV.out.cell 5 _ rfl
    have x6 := HV.out.cell 6 _ rfl
    have x7 := HV.out.cell 7 _ rfl
    refine wpOp_step (o := { dst := some 34, op := Op.load 25 (Operand.tmp 9), type := 25, pos := "law.go:56", after := #[{ on := 6, ground := Ground.gcOnly Departure.lateStores }], guard := none }) rfl (fun K hK => ?_)
    have HK := Lib.hid hK
    clear hK
    unfold actD
    go_simp
    exact HK.out _ _ ⟨HO.out, HW.out, r33, _, r35, v11, v12, v13, B11, B12, B13, rfl, K0.out, fun _ => rfl, K2.out, K3.out, K4.out, K5.out, N34.out, N35.out, N45.out⟩
  · have HM := Lib.hid (show t.b2 = false by simpa [StD.may, and_assoc] using hm)
    clear hm
    have hl := HV.out.1
    have x0 := HV.out.cell 0 _ rfl
    have x1 := HV.out.cell 1 _ rfl
    have x2 := HV.out.cell 2 _ rfl
    have x3 := HV.out.cell 3 _ rfl
    have x4 := HV.out.cell 4 _ rfl
    have x5 := HV.out.cell 5 _ rfl
    have x6 := HV.out.cell 6 _ rfl
    have x7 := HV.out.cell 7 _ rfl
    refine wpOp_step (o := { dst := some 35, op := Op.load 25 (Operand.tmp 9), type := 25, pos := "law.go:56", after := #[{ on := 7, ground := Ground.gcOnly Departure.lateStores }], guard := none }) rfl (fun K hK => ?_)
    have HK := Lib.hid hK
    clear hK
    unfold actD
    go_simp
    exact HK.out _ _ ⟨HO.out, HW.out, r33, r34, _, v11, v12, v13, B11, B12, B13, rfl, K0.out, K1.out, fun _ => rfl, K3.out, K4.out, K5.out, N34.out, N35.out, N45.out⟩
  · have HM := Lib.hid (show t.b3 = false by simpa [StD.may, and_assoc] using hm)
    clear hm
    have hz := StD.no3 t.b0 t.b1 t.b2 t.b3 t.b4 t.b5 t.b6 t.b7 t.b8 HT.out HM.out
    refine wpOp_step (o := { dst := some 11, op := Op.alloc 25, type := 0, pos := "law.go:56", after := #[], guard := none }) rfl (fun K hK => ?_)
    have HK := Lib.hid hK
    clear hK
    have HZ := Lib.hid hz
    clear hz
    unfold actD
    go_simp
    exact HK.out _ _ ⟨HO.out, HW.out.alloc HW.out.size _, r33, r34, r35, _, v12, v13, w.heap.size, B12, B13, rfl, K0.out, K1.out, K2.out, fun _ => ⟨rfl, HW.out.size, by show Box _ _ (cS (cond t.b6 _ _)); rw [HZ.out]; exact Box.new w _ _⟩, fun h => ⟨(K4.out h).1, (K4.out h).2.1, (K4.out h).2.2.alloc _⟩, fun h => ⟨(K5.out h).1, (K5.out h).2.1, (K5.out h).2.2.alloc _⟩, fun _ h => fun e => by have := (K4.out h).2.2.1; omega, fun _ h => fun e => by have := (K5.out h).2.2.1; omega, N45.out⟩
  · have HM := Lib.hid (show t.b4 = false by simpa [StD.may, and_assoc] using hm)
    clear hm
    have hz := StD.no4 t.b0 t.b1 t.b2 t.b3 t.b4 t.b5 t.b6 t.b7 t.b8 HT.out HM.out
    refine wpOp_step (o := { dst := some 12, op := Op.alloc 25, type := 0, pos := "law.go:56", after := #[], guard := none }) rfl (fun K hK => ?_)
    have HK := Lib.hid hK
    clear hK
    have HZ := Lib.hid hz
    clear hz
    unfold actD
    go_simp
    exact HK.out _ _ ⟨HO.out, HW.out.alloc HW.out.size _, r33, r34, r35, v11, _, v13, B11, w.heap.size, B13, rfl, K0.out, K1.out, K2.out, fun h => ⟨(K3.out h).1, (K3.out h).2.1, (K3.out h).2.2.alloc _⟩, fun _ => ⟨rfl, HW.out.size, by show Box _ _ (cS (cond t.b7 _ _)); rw [HZ.out]; exact Box.new w _ _⟩, fun h => ⟨(K5.out h).1, (K5.out h).2.1, (K5.out h).2.2.alloc _⟩, fun h _ => fun e => by have := (K3.out h).2.2.1; omega, N35.out, fun _ h => fun e => by have := (K5.out h).2.2.1; omega⟩
  · have HM := Lib.hid (show t.b5 = false by simpa [StD.may, and_assoc] using hm)
    clear hm
    have hz := StD.no5 t.b0 t.b1 t.b2 t.b3 t.b4 t.b5 t.b6 t.b7 t.b8 HT.out HM.out
    refine wpOp_step (o := { dst := some 13, op := Op.alloc 25, type := 0, pos := "law.go:56", after := #[], guard := none }) rfl (fun K hK => ?_)
    have HK := Lib.hid hK
    clear hK
    have HZ := Lib.hid hz
    clear hz
    unfold actD
    go_simp
    exact HK.out _ _ ⟨HO.out, HW.out.alloc HW.out.size _, r33, r34, r35, v11, v12, _, B11, B12, w.heap.size, rfl, K0.out, K1.out, K2.out, fun h => ⟨(K3.out h).1, (K3.out h).2.1, (K3.out h).2.2.alloc _⟩, fun h => ⟨(K4.out h).1, (K4.out h).2.1, (K4.out h).2.2.alloc _⟩, fun _ => ⟨rfl, HW.out.size, by show Box _ _ (cS (cond t.b8 _ _)); rw [HZ.out]; exact Box.new w _ _⟩, N34.out, fun h _ => fun e => by have := (K3.out h).2.2.1; omega, fun h _ => fun e => by have := (K4.out h).2.2.1; omega⟩
  · have HM := Lib.hid (show t.b6 = false ∧ t.b3 = true ∧ t.b0 = true ∧ t.b4 = true ∧ t.b5 = true by simpa [StD.may, and_assoc] using hm)
    clear hm
    obtain rfl := K0.out HM.out.2.2.1
    obtain ⟨rfl, g, hB⟩ := K3.out HM.out.2.1
    rw [HM.out.1] at hB
    have hB : Box w B11 (cS z8) := hB
    have hx4 := (K4.out HM.out.2.2.2.1)
    have hx5 := (K5.out HM.out.2.2.2.2)
    have G := Lib.hid g
    have HB := Lib.hid hB
    have HX4 := Lib.hid hx4
    have HX5 := Lib.hid hx5
    clear g hB hx4 hx5
    refine wpOp_step (o := { dst := none, op := Op.store 25 (Operand.tmp 11) (Operand.tmp 33), type := 0, pos := "law.go:56", after := #[{ on := 3, ground := Ground.data }, { on := 0, ground := Ground.data }, { on := 0, ground := Ground.phase }, { on := 1, ground := Ground.textOnly Departure.lateStores }, { on := 2, ground := Ground.textOnly Departure.lateStores }, { on := 3, ground := Ground.phase }, { on := 4, ground := Ground.phase }, { on := 5, ground := Ground.phase }], guard := none }) rfl (fun K hK => ?_)
    have HK := Lib.hid hK
    clear hK
    have l := HB.out.1
    have x0 := HB.out.cell 0 _ rfl
    have v0 := HB.out.free 0 (by show 0 < 8; decide)
    have x1 := HB.out.cell 1 _ rfl
    have v1 := HB.out.free 1 (by show 1 < 8; decide)
    have x2 := HB.out.cell 2 _ rfl
    have v2 := HB.out.free 2 (by show 2 < 8; decide)
    have x3 := HB.out.cell 3 _ rfl
    have v3 := HB.out.free 3 (by show 3 < 8; decide)
    have x4 := HB.out.cell 4 _ rfl
    have v4 := HB.out.free 4 (by show 4 < 8; decide)
    have x5 := HB.out.cell 5 _ rfl
    have v5 := HB.out.free 5 (by show 5 < 8; decide)
    have x6 := HB.out.cell 6 _ rfl
    have v6 := HB.out.free 6 (by show 6 < 8; decide)
    have x7 := HB.out.cell 7 _ rfl
    have v7 := HB.out.free 7 (by show 7 < 8; decide)
    unfold actD
    go_simp
    exact HK.out _ _ ⟨HO.out, below8 B11 o HW.out G.out, _, r34, r35, _, v12, v13, B11, B12, B13, rfl, fun _ => rfl, K1.out, K2.out, fun _ => ⟨rfl, G.out, put8 w B11 o z8 HB.out⟩, fun _ => ⟨HX4.out.1, HX4.out.2.1, HX4.out.2.2.grown (grown8 w B11 o) (by simp; exact fun e => N34.out HM.out.2.1 HM.out.2.2.2.1 e.symm)⟩, fun _ => ⟨HX5.out.1, HX5.out.2.1, HX5.out.2.2.grown (grown8 w B11 o) (by simp; exact fun e => N35.out HM.out.2.1 HM.out.2.2.2.2 e.symm)⟩, N34.out, N35.out, N45.out⟩
  · have HM := Lib.hid (show t.b7 = false ∧ t.b4 = true ∧ t.b1 = true ∧ t.b6 = true ∧ t.b0 = true ∧ t.b3 = true ∧ t.b5 = true by simpa [StD.may, and_assoc] using hm)
    clear hm
    obtain rfl := K1.out HM.out.2.2.1
    obtain ⟨rfl, g, hB⟩ := K4.out HM.out.2.1
    rw [HM.out.1] at hB
    have hB : Box w B12 (cS z8) := hB
    have hx3 := (K3.out HM.out.2.2.2.2.2.1)
    have hx5 := (K5.out HM.out.2.2.2.2.2.2)
    have G := Lib.hid g
    have HB := Lib.hid hB
    have HX3 := Lib.hid hx3
    have HX5 := Lib.hid hx5
    clear g hB hx3 hx5
    refine wpOp_step (o := { dst := none, op := Op.store 25 (Operand.tmp 12) (Operand.tmp 34), type := 0, pos := "law.go:56", after := #[{ on := 4, ground := Ground.data }, { on := 1, ground := Ground.data }, { on := 6, ground := Ground.chain }, { on := 0, ground := Ground.phase }, { on := 1, ground := Ground.phase }, { on := 2, ground := Ground.textOnly Departure.lateStores }, { on := 3, ground := Ground.phase }, { on := 4, ground := Ground.phase }, { on := 5, ground := Ground.phase }, { on := 6, ground := Ground.phase }], guard := none }) rfl (fun K hK => ?_)
    have HK := Lib.hid hK
    clear hK
    have l := HB.out.1
    have x0 := HB.out.cell 0 _ rfl
    have v0 := HB.out.free 0 (by show 0 < 8; decide)
    have x1 := HB.out.cell 1 _ rfl
    have v1 := HB.out.free 1 (by show 1 < 8; decide)
    have x2 := HB.out.cell 2 _ rfl
    have v2 := HB.out.free 2 (by show 2 < 8; decide)
    have x3 := HB.out.cell 3 _ rfl
    have v3 := HB.out.free 3 (by show 3 < 8; decide)
    have x4 := HB.out.cell 4 _ rfl
    have v4 := HB.out.free 4 (by show 4 < 8; decide)
    have x5 := HB.out.cell 5 _ rfl
    have v5 := HB.out.free 5 (by show 5 < 8; decide)
    have x6 := HB.out.cell 6 _ rfl
    have v6 := HB.out.free 6 (by show 6 < 8; decide)
    have x7 := HB.out.cell 7 _ rfl
    have v7 := HB.out.free 7 (by show 7 < 8; decide)
    unfold actD
    go_simp
    exact HK.out _ _ ⟨HO.out, below8 B12 o HW.out G.out, r33, _, r35, v11, _, v13, B11, B12, B13, rfl, K0.out, fun _ => rfl, K2.out, fun _ => ⟨HX3.out.1, HX3.out.2.1, HX3.out.2.2.grown (grown8 w B12 o) (by simp; exact N34.out HM.out.2.2.2.2.2.1 HM.out.2.1)⟩, fun _ => ⟨rfl, G.out, put8 w B12 o z8 HB.out⟩, fun _ => ⟨HX5.out.1, HX5.out.2.1, HX5.out.2.2.grown (grown8 w B12 o) (by simp; exact fun e => N45.out HM.out.2.1 HM.out.2.2.2.2.2.2 e.symm)⟩, N34.out, N35.out, N45.out⟩
  · have HM := Lib.hid (show t.b8 = false ∧ t.b5 = true ∧ t.b2 = true ∧ t.b7 = true ∧ t.b0 = true ∧ t.b1 = true ∧ t.b3 = true ∧ t.b4 = true ∧ t.b6 = true by simpa [StD.may, and_assoc] using hm)
    clear hm
    obtain rfl := K2.out HM.out.2.2.1
    obtain ⟨rfl, g, hB⟩ := K5.out HM.out.2.1
    rw [HM.out.1] at hB
    have hB : Box w B13 (cS z8) := hB
    have hx3 := (K3.out HM.out.2.2.2.2.2.2.1)
    have hx4 := (K4.out HM.out.2.2.2.2.2.2.2.1)
    have G := Lib.hid g
    have HB := Lib.hid hB
    have HX3 := Lib.hid hx3
    have HX4 := Lib.hid hx4
    clear g hB hx3 hx4
    refine wpOp_step (o := { dst := none, op := Op.store 25 (Operand.tmp 13) (Operand.tmp 35), type := 0, pos := "law.go:56", after := #[{ on := 5, ground := Ground.data }, { on := 2, ground := Ground.data }, { on := 7, ground := Ground.chain }, { on := 0, ground := Ground.phase }, { on := 1, ground := Ground.phase }, { on := 2, ground := Ground.phase }, { on := 3, ground := Ground.phase }, { on := 4, ground := Ground.phase }, { on := 5, ground := Ground.phase }, { on := 6, ground := Ground.phase }, { on := 7, ground := Ground.phase }], guard := none }) rfl (fun K hK => ?_)
    have HK := Lib.hid hK
    clear hK
    have l := HB.out.1
    have x0 := HB.out.cell 0 _ rfl
    have v0 := HB.out.free 0 (by show 0 < 8; decide)
    have x1 := HB.out.cell 1 _ rfl
    have v1 := HB.out.free 1 (by show 1 < 8; decide)
    have x2 := HB.out.cell 2 _ rfl
    have v2 := HB.out.free 2 (by show 2 < 8; decide)
    have x3 := HB.out.cell 3 _ rfl
    have v3 := HB.out.free 3 (by show 3 < 8; decide)
    have x4 := HB.out.cell 4 _ rfl
    have v4 := HB.out.free 4 (by show 4 < 8; decide)
    have x5 := HB.out.cell 5 _ rfl
    have v5 := HB.out.free 5 (by show 5 < 8; decide)
    have x6 := HB.out.cell 6 _ rfl
    have v6 := HB.out.free 6 (by show 6 < 8; decide)
    have x7 := HB.out.cell 7 _ rfl
    have v7 := HB.out.free 7 (by show 7 < 8; decide)
    unfold actD
    go_simp
    exact HK.out _ _ ⟨HO.out, below8 B13 o HW.out G.out, r33, r34, _, v11, v12, _, B11, B12, B13, rfl, K0.out, K1.out, fun _ => rfl, fun _ => ⟨HX3.out.1, HX3.out.2.1, HX3.out.2.2.grown (grown8 w B13 o) (by simp; exact N35.out HM.out.2.2.2.2.2.2.1 HM.out.2.1)⟩, fun _ => ⟨HX4.out.1, HX4.out.2.1, HX4.out.2.2.grown (grown8 w B13 o) (by simp; exact N45.out HM.out.2.2.2.2.2.2.2.1 HM.out.2.1)⟩, fun _ => ⟨rfl, G.out, put8 w B13 o z8 HB.out⟩, N34.out, N35.out, N45.out⟩
def EndD (Q : Exit → Act → World → Prop) (o : S8) (x0 x1 x2 x3 x4 x5 x6 x8 pV x10 u21 u22 u23 u24 u25 u26 u27 u28 u29 u30 u31 u32 : Value) (w0 : World) : Prop :=
  ∀ (B11 B12 B13 : Nat) (w' : World), Below w0.heap.size w0 w' → w0.heap.size ≤ B11 → w0.heap.size ≤ B12 → w0.heap.size ≤ B13 → B11 ≠ B12 → B11 ≠ B13 → B12 ≠ B13 → Box w' B11 (cS o) → Box w' B12 (cS o) → Box w' B13 (cS o) → Q .normal (actD x0 x1 x2 x3 x4 x5 x6 x8 pV x10 u21 u22 u23 u24 u25 u26 u27 u28 u29 u30 u31 u32 (.agg #[.int .i64 o.a, .int .i64 o.u, .int .i64 o.f0, .int .i64 o.f1, .int .i64 o.b0, .int .i64 o.b1, .int .i64 o.l0, .int .i64 o.l1]) (.agg #[.int .i64 o.a, .int .i64 o.u, .int .i64 o.f0, .int .i64 o.f1, .int .i64 o.b0, .int .i64 o.b1, .int .i64 o.l0, .int .i64 o.l1]) (.agg #[.int .i64 o.a, .int .i64 o.u, .int .i64 o.f0, .int .i64 o.f1, .int .i64 o.b0, .int .i64 o.b1, .int .i64 o.l0, .int .i64 o.l1]) (.pointer (some ⟨B11, 0, none⟩)) (.pointer (some ⟨B12, 0, none⟩)) (.pointer (some ⟨B13, 0, none⟩))) w'
theorem zeroD (t : StD) (h : t.n = 0) : t.b0 = true ∧ t.b1 = true ∧ t.b2 = true ∧ t.b3 = true ∧ t.b4 = true ∧ t.b5 = true ∧ t.b6 = true ∧ t.b7 = true ∧ t.b8 = true := by
  obtain ⟨b0, b1, b2, b3, b4, b5, b6, b7, b8⟩ := t
  simp only [StD.n, bn] at h
  cases b0 <;> cases b1 <;> cases b2 <;> cases b3 <;> cases b4 <;> cases b5 <;> cases b6 <;> cases b7 <;> cases b8 <;> simp at h ⊢
theorem regionD {Q : Exit → Act → World → Prop} (o : S8) (x0 x1 x2 x3 x4 x5 x6 x8 pV x10 u21 u22 u23 u24 u25 u26 u27 u28 u29 u30 u31 u32 : Value) (w : World) (V : Nat) (hV : Box w V [.int .i64 o.a, .int .i64 o.u, .int .i64 o.f0, .int .i64 o.f1, .int .i64 o.b0, .int .i64 o.b1, .int .i64 o.l0, .int .i64 o.l1])  (eV : pV = (.pointer (some ⟨V, 0, none⟩))) (hQ : Hid (EndD Q o x0 x1 x2 x3 x4 x5 x6 x8 pV x10 u21 u22 u23 u24 u25 u26 u27 u28 u29 u30 u31 u32 w)) :
    (Code.region 3 opsD true).wp Tryd.prog Q (actD x0 x1 x2 x3 x4 x5 x6 x8 pV x10 u21 u22 u23 u24 u25 u26 u27 u28 u29 u30 u31 u32 undef undef undef undef undef undef) w := by
  refine wp_region_held_drew (S := fun _ => True) (by kernel_rfl) trivial (fun _ => ?_)
  refine permD (JD o x0 x1 x2 x3 x4 x5 x6 x8 pV x10 u21 u22 u23 u24 u25 u26 u27 u28 u29 u30 u31 u32 w) (fun _ _ _ h => h.1) tabD (fun t a w' i hJ hi => stepD o x0 x1 x2 x3 x4 x5 x6 x8 pV x10 u21 u22 u23 u24 u25 u26 u27 u28 u29 u30 u31 u32 w V hV  eV t a w' i hJ hi) ?_ 9 ⟨false, false, false, false, false, false, false, false, false⟩ _ w.drew rfl ?_
  · intro t a wz hJ hn
    obtain ⟨tb0, tb1, tb2, tb3, tb4, tb5, tb6, tb7, tb8⟩ := zeroD t hn
    obtain ⟨_, hW, r33, r34, r35, v11, v12, v13, B11, B12, B13, rfl, k0, k1, k2, k3, k4, k5, n34, n35, n45⟩ := hJ
    obtain rfl := k0 tb0
    obtain rfl := k1 tb1
    obtain rfl := k2 tb2
    obtain ⟨rfl, gB11, hB11⟩ := k3 tb3
    obtain ⟨rfl, gB12, hB12⟩ := k4 tb4
    obtain ⟨rfl, gB13, hB13⟩ := k5 tb5
    rw [tb6] at hB11
    rw [tb7] at hB12
    rw [tb8] at hB13
    have hl : t.lst = #[true, true, true, true, true, true, true, true, true] := by
      unfold StD.lst
      rw [tb0, tb1, tb2, tb3, tb4, tb5, tb6, tb7, tb8]
    rw [hl]
    refine wpAnyH_done (by kernel_rfl) ?_ _
    exact hQ.out B11 B12 B13 wz hW gB11 gB12 gB13 (n34 tb3 tb4) (n35 tb3 tb5) (n45 tb4 tb5) hB11 hB12 hB13
  · exact ⟨rfl, (Below.refl _ w).drew, _, _, _, _, _, _, 0, 0, 0, rfl, (fun h => Bool.noConfusion h), (fun h => Bool.noConfusion h), (fun h => Bool.noConfusion h), (fun h => Bool.noConfusion h), (fun h => Bool.noConfusion h), (fun h => Bool.noConfusion h), (fun h => Bool.noConfusion h), (fun h => Bool.noConfusion h), (fun h => Bool.noConfusion h)⟩
structure StE where
  b0 : Bool
  b1 : Bool
  b2 : Bool
  b3 : Bool
  b4 : Bool
  b5 : Bool
  b6 : Bool
  b7 : Bool
  b8 : Bool
def StE.lst (s : StE) : Array Bool := #[s.b0, s.b1, s.b2, s.b3, s.b4, s.b5, s.b6, s.b7, s.b8]
def StE.ok (s : StE) : Bool := (!s.b6 || s.b3) && (!s.b6 || s.b0) && (!s.b6 || s.b4) && (!s.b6 || s.b5) && (!s.b7 || s.b4) && (!s.b7 || s.b1) && (!s.b7 || s.b6) && (!s.b7 || s.b0) && (!s.b7 || s.b3) && (!s.b7 || s.b5) && (!s.b8 || s.b5) && (!s.b8 || s.b2) && (!s.b8 || s.b7) && (!s.b8 || s.b0) && (!s.b8 || s.b1) && (!s.b8 || s.b3) && (!s.b8 || s.b4) && (!s.b8 || s.b6)
def StE.n (s : StE) : Nat := bn s.b0 + bn s.b1 + bn s.b2 + bn s.b3 + bn s.b4 + bn s.b5 + bn s.b6 + bn s.b7 + bn s.b8
def StE.may (s : StE) (i : Nat) : Bool :=
  if i = 0 then !s.b0 else if i = 1 then !s.b1 else if i = 2 then !s.b2 else if i = 3 then !s.b3 else if i = 4 then !s.b4 else if i = 5 then !s.b5 else if i = 6 then !s.b6 && s.b3 && s.b0 && s.b4 && s.b5 else if i = 7 then !s.b7 && s.b4 && s.b1 && s.b6 && s.b0 && s.b3 && s.b5 else if i = 8 then !s.b8 && s.b5 && s.b2 && s.b7 && s.b0 && s.b1 && s.b3 && s.b4 && s.b6 else false
def StE.rd (s : StE) : List Nat := [0, 1, 2, 3, 4, 5, 6, 7, 8].filter s.may
def StE.nx (s : StE) (i : Nat) : StE :=
  if i = 0 then { s with b0 := true } else if i = 1 then { s with b1 := true } else if i = 2 then { s with b2 := true } else if i = 3 then { s with b3 := true } else if i = 4 then { s with b4 := true } else if i = 5 then { s with b5 := true } else if i = 6 then { s with b6 := true } else if i = 7 then { s with b7 := true } else if i = 8 then { s with b8 := true } else s
theorem StE.steps : ∀ b0 b1 b2 b3 b4 b5 b6 b7 b8 : Bool, (StE.mk b0 b1 b2 b3 b4 b5 b6 b7 b8).ok = true → ∀ i ∈ (StE.mk b0 b1 b2 b3 b4 b5 b6 b7 b8).rd, ((StE.mk b0 b1 b2 b3 b4 b5 b6 b7 b8).nx i).lst = (StE.mk b0 b1 b2 b3 b4 b5 b6 b7 b8).lst.setIfInBounds i true ∧ ((StE.mk b0 b1 b2 b3 b4 b5 b6 b7 b8).nx i).n + 1 = (StE.mk b0 b1 b2 b3 b4 b5 b6 b7 b8).n ∧ ((StE.mk b0 b1 b2 b3 b4 b5 b6 b7 b8).nx i).ok = true := by decide +kernel
theorem StE.some_left : ∀ b0 b1 b2 b3 b4 b5 b6 b7 b8 : Bool, (StE.mk b0 b1 b2 b3 b4 b5 b6 b7 b8).ok = true → (StE.mk b0 b1 b2 b3 b4 b5 b6 b7 b8).n ≠ 0 → (StE.mk b0 b1 b2 b3 b4 b5 b6 b7 b8).rd ≠ [] := by decide +kernel
theorem permE {P : Program} {ops : Array Oper} {Q : Exit → Act → World → Prop} (J : StE → Act → World → Prop) (hok : ∀ s a w, J s a w → s.ok = true)
    (htab : ∀ b0 b1 b2 b3 b4 b5 b6 b7 b8 : Bool, (StE.mk b0 b1 b2 b3 b4 b5 b6 b7 b8).ok = true → (StE.mk b0 b1 b2 b3 b4 b5 b6 b7 b8).n ≠ 0 → Region.ready .any ops (StE.mk b0 b1 b2 b3 b4 b5 b6 b7 b8).lst = (StE.mk b0 b1 b2 b3 b4 b5 b6 b7 b8).rd)
    (hstep : ∀ s a w i, J s a w → i ∈ s.rd → wpOp P ops Q i (fun a' w' => J (s.nx i) a' w') a w)
    (hend : ∀ s a w, J s a w → s.n = 0 → wpAnyH P .any ops Q (fun _ => True) 0 s.lst a w) :
    ∀ m s a w, s.n = m → J s a w → wpAnyH P .any ops Q (fun _ => True) (m + 0) s.lst a w := by
  intro m
  induction m with
  | zero => intro s a w hn hJ; rw [Nat.zero_add]; exact hend s a w hJ hn
  | succ m ih =>
    intro s a w hn hJ
    have ho := hok s a w hJ
    have hr := htab s.b0 s.b1 s.b2 s.b3 s.b4 s.b5 s.b6 s.b7 s.b8 ho (by show s.n ≠ 0; omega)
    rw [show m + 1 + 0 = (m + 0) + 1 by omega]
    refine wpAnyH_all (rs := s.rd) hr (StE.some_left s.b0 s.b1 s.b2 s.b3 s.b4 s.b5 s.b6 s.b7 s.b8 ho (by show s.n ≠ 0; omega)) fun i hi => ?_
    obtain ⟨h1, h2, _⟩ := StE.steps s.b0 s.b1 s.b2 s.b3 s.b4 s.b5 s.b6 s.b7 s.b8 ho i hi
    refine wpOp_mono (fun a' w' h' => ⟨trivial, ?_⟩) (hstep s a w i hJ hi)
    have h1' : s.lst.setIfInBounds i true = (s.nx i).lst := h1.symm
    rw [h1']
    have h2' : (s.nx i).n + 1 = s.n := h2
    exact ih (s.nx i) a' w' (by omega) h'
theorem StE.no3 : ∀ b0 b1 b2 b3 b4 b5 b6 b7 b8 : Bool, (StE.mk b0 b1 b2 b3 b4 b5 b6 b7 b8).ok = true → b3 = false → b6 = false := by decide +kernel
theorem StE.no4 : ∀ b0 b1 b2 b3 b4 b5 b6 b7 b8 : Bool, (StE.mk b0 b1 b2 b3 b4 b5 b6 b7 b8).ok = true → b4 = false → b7 = false := by decide +kernel
theorem StE.no5 : ∀ b0 b1 b2 b3 b4 b5 b6 b7 b8 : Bool, (StE.mk b0 b1 b2 b3 b4 b5 b6 b7 b8).ok = true → b5 = false → b8 = false := by decide +kernel
def opsE : Array Oper := #[{ dst := some 66, op := Op.load 27 (Operand.tmp 10), type := 27, pos := "law.go:63", after := #[], guard := none }, { dst := some 67, op := Op.load 27 (Operand.tmp 10), type := 27, pos := "law.go:63", after := #[{ on := 6, ground := Ground.gcOnly Departure.lateStores }], guard := none }, { dst := some 68, op := Op.load 27 (Operand.tmp 10), type := 27, pos := "law.go:63", after := #[{ on := 7, ground := Ground.gcOnly Departure.lateStores }], guard := none }, { dst := some 16, op := Op.alloc 27, type := 0, pos := "law.go:63", after := #[], guard := none }, { dst := some 17, op := Op.alloc 27, type := 0, pos := "law.go:63", after := #[], guard := none }, { dst := some 18, op := Op.alloc 27, type := 0, pos := "law.go:63", after := #[], guard := none }, { dst := none, op := Op.store 27 (Operand.tmp 16) (Operand.tmp 66), type := 0, pos := "law.go:63", after := #[{ on := 3, ground := Ground.data }, { on := 0, ground := Ground.data }, { on := 0, ground := Ground.phase }, { on := 1, ground := Ground.textOnly Departure.lateStores }, { on := 2, ground := Ground.textOnly Departure.lateStores }, { on := 3, ground := Ground.phase }, { on := 4, ground := Ground.phase }, { on := 5, ground := Ground.phase }], guard := none }, { dst := none, op := Op.store 27 (Operand.tmp 17) (Operand.tmp 67), type := 0, pos := "law.go:63", after := #[{ on := 4, ground := Ground.data }, { on := 1, ground := Ground.data }, { on := 6, ground := Ground.chain }, { on := 0, ground := Ground.phase }, { on := 1, ground := Ground.phase }, { on := 2, ground := Ground.textOnly Departure.lateStores }, { on := 3, ground := Ground.phase }, { on := 4, ground := Ground.phase }, { on := 5, ground := Ground.phase }, { on := 6, ground := Ground.phase }], guard := none }, { dst := none, op := Op.store 27 (Operand.tmp 18) (Operand.tmp 68), type := 0, pos := "law.go:63", after := #[{ on := 5, ground := Ground.data }, { on := 2, ground := Ground.data }, { on := 7, ground := Ground.chain }, { on := 0, ground := Ground.phase }, { on := 1, ground := Ground.phase }, { on := 2, ground := Ground.phase }, { on := 3, ground := Ground.phase }, { on := 4, ground := Ground.phase }, { on := 5, ground := Ground.phase }, { on := 6, ground := Ground.phase }, { on := 7, ground := Ground.phase }], guard := none }]

def actE (x0 x1 x2 x3 x4 x5 x6 x8 x9 pY x11 x12 x13 x15 u21 u22 u23 u24 u25 u26 u27 u28 u29 u30 u31 u32 u33 u34 u35 u36 u37 u38 u39 u40 u41 u42 u43 u44 u45 u46 u47 u48 u49 u50 u51 u52 u53 u54 u55 u56 u57 u58 u59 u60 u61 u62 u63 u64 u65 r66 r67 r68 v16 v17 v18 : Value) : Act := { tmps := (x0 :: x1 :: x2 :: x3 :: x4 :: x5 :: x6 :: undef :: x8 :: x9 :: pY :: x11 :: x12 :: x13 :: undef :: x15 :: v16 :: v17 :: v18 :: undef :: undef :: u21 :: u22 :: u23 :: u24 :: u25 :: u26 :: u27 :: u28 :: u29 :: u30 :: u31 :: u32 :: u33 :: u34 :: u35 :: u36 :: u37 :: u38 :: u39 :: u40 :: u41 :: u42 :: u43 :: u44 :: u45 :: u46 :: u47 :: u48 :: u49 :: u50 :: u51 :: u52 :: u53 :: u54 :: u55 :: u56 :: u57 :: u58 :: u59 :: u60 :: u61 :: u62 :: u63 :: u64 :: u65 :: r66 :: r67 :: r68 :: undef :: undef :: undef :: undef :: undef :: undef :: undef :: undef :: undef :: undef :: undef :: undef :: undef :: undef :: undef :: undef :: undef :: undef :: undef :: undef :: undef :: undef :: undef :: undef :: undef :: undef :: undef :: undef :: undef :: undef :: undef :: undef :: undef :: undef :: undef :: undef :: undef :: undef :: undef :: undef :: undef :: undef :: undef :: undef :: undef :: []).toArray, defers := [] }
theorem tabE : ∀ b0 b1 b2 b3 b4 b5 b6 b7 b8 : Bool, (StE.mk b0 b1 b2 b3 b4 b5 b6 b7 b8).ok = true → (StE.mk b0 b1 b2 b3 b4 b5 b6 b7 b8).n ≠ 0 → Region.ready .any opsE (StE.mk b0 b1 b2 b3 b4 b5 b6 b7 b8).lst = (StE.mk b0 b1 b2 b3 b4 b5 b6 b7 b8).rd := by decide +kernel
def JE (q : P6) (x0 x1 x2 x3 x4 x5 x6 x8 x9 pY x11 x12 x13 x15 u21 u22 u23 u24 u25 u26 u27 u28 u29 u30 u31 u32 u33 u34 u35 u36 u37 u38 u39 u40 u41 u42 u43 u44 u45 u46 u47 u48 u49 u50 u51 u52 u53 u54 u55 u56 u57 u58 u59 u60 u61 u62 u63 u64 u65 : Value) (w0 : World) (t : StE) (a : Act) (w : World) : Prop :=
  t.ok = true ∧ Below w0.heap.size w0 w ∧ ∃ r66 r67 r68 v16 v17 v18, ∃ B16 B17 B18 : Nat, a = actE x0 x1 x2 x3 x4 x5 x6 x8 x9 pY x11 x12 x13 x15 u21 u22 u23 u24 u25 u26 u27 u28 u29 u30 u31 u32 u33 u34 u35 u36 u37 u38 u39 u40 u41 u42 u43 u44 u45 u46 u47 u48 u49 u50 u51 u52 u53 u54 u55 u56 u57 u58 u59 u60 u61 u62 u63 u64 u65 r66 r67 r68 v16 v17 v18 ∧
    (t.b0 = true → r66 = .agg #[.int .i64 q.k, .int .i64 q.n, .int .i64 q.m, .int .i64 q.c0, .int .i64 q.c1, .string q.t]) ∧ (t.b1 = true → r67 = .agg #[.int .i64 q.k, .int .i64 q.n, .int .i64 q.m, .int .i64 q.c0, .int .i64 q.c1, .string q.t]) ∧ (t.b2 = true → r68 = .agg #[.int .i64 q.k, .int .i64 q.n, .int .i64 q.m, .int .i64 q.c0, .int .i64 q.c1, .string q.t]) ∧ (t.b3 = true → v16 = .pointer (some ⟨B16, 0, none⟩) ∧ w0.heap.size ≤ B16 ∧ Box w B16 (cP (cond t.b6 q zP))) ∧ (t.b4 = true → v17 = .pointer (some ⟨B17, 0, none⟩) ∧ w0.heap.size ≤ B17 ∧ Box w B17 (cP (cond t.b7 q zP))) ∧ (t.b5 = true → v18 = .pointer (some ⟨B18, 0, none⟩) ∧ w0.heap.size ≤ B18 ∧ Box w B18 (cP (cond t.b8 q zP))) ∧ (t.b3 = true → t.b4 = true → B16 ≠ B17) ∧ (t.b3 = true → t.b5 = true → B16 ≠ B18) ∧ (t.b4 = true → t.b5 = true → B17 ≠ B18)
theorem mayE {t : StE} {i : Nat} (h : i ∈ t.rd) : t.may i = true ∧ (i = 0 ∨ i = 1 ∨ i = 2 ∨ i = 3 ∨ i = 4 ∨ i = 5 ∨ i = 6 ∨ i = 7 ∨ i = 8) := by
  unfold StE.rd at h
  obtain ⟨h1, h2⟩ := List.mem_filter.1 h
  exact ⟨h2, by simpa using h1⟩
theorem nxokE {t : StE} {i : Nat} (ho : t.ok = true) (h : i ∈ t.rd) : (t.nx i).ok = true := (StE.steps t.b0 t.b1 t.b2 t.b3 t.b4 t.b5 t.b6 t.b7 t.b8 ho i h).2.2
set_option maxRecDepth 100000 in
set_option maxHeartbeats 4000000 in
theorem stepE {Q : Exit → Act → World → Prop} (q : P6) (x0 x1 x2 x3 x4 x5 x6 x8 x9 pY x11 x12 x13 x15 u21 u22 u23 u24 u25 u26 u27 u28 u29 u30 u31 u32 u33 u34 u35 u36 u37 u38 u39 u40 u41 u42 u43 u44 u45 u46 u47 u48 u49 u50 u51 u52 u53 u54 u55 u56 u57 u58 u59 u60 u61 u62 u63 u64 u65 : Value) (w0 : World) (Y : Nat) (hY : Box w0 Y [.int .i64 q.k, .int .i64 q.n, .int .i64 q.m, .int .i64 q.c0, .int .i64 q.c1, .string q.t])  (eY : pY = (.pointer (some ⟨Y, 0, none⟩)))
    (t : StE) (a : Act) (w : World) (i : Nat) (hJ : JE q x0 x1 x2 x3 x4 x5 x6 x8 x9 pY x11 x12 x13 x15 u21 u22 u23 u24 u25 u26 u27 u28 u29 u30 u31 u32 u33 u34 u35 u36 u37 u38 u39 u40 u41 u42 u43 u44 u45 u46 u47 u48 u49 u50 u51 u52 u53 u54 u55 u56 u57 u58 u59 u60 u61 u62 u63 u64 u65 w0 t a w) (hi : i ∈ t.rd) : wpOp Tryd.prog opsE Q i (fun a' w' => JE q x0 x1 x2 x3 x4 x5 x6 x8 x9 pY x11 x12 x13 x15 u21 u22 u23 u24 u25 u26 u27 u28 u29 u30 u31 u32 u33 u34 u35 u36 u37 u38 u39 u40 u41 u42 u43 u44 u45 u46 u47 u48 u49 u50 u51 u52 u53 u54 u55 u56 u57 u58 u59 u60 u61 u62 u63 u64 u65 w0 (t.nx i) a' w') a w := by
  have hok := nxokE hJ.1 hi
  obtain ⟨hm, hc⟩ := mayE hi
  clear hi
  obtain ⟨ho, hW, r66, r67, r68, v16, v17, v18, B16, B17, B18, rfl, k0, k1, k2, k3, k4, k5, n34, n35, n45⟩ := hJ
  subst eY
  have HY := Lib.hid (hY.keep hW)
  clear hY
  have HW := Lib.hid hW
  have HO := Lib.hid hok
  have HT := Lib.hid ho
  clear hW ho hok
  have K0 := Lib.hid k0
  clear k0
  have K1 := Lib.hid k1
  clear k1
  have K2 := Lib.hid k2
  clear k2
  have K3 := Lib.hid k3
  clear k3
  have K4 := Lib.hid k4
  clear k4
  have K5 := Lib.hid k5
  clear k5
  have N34 := Lib.hid n34
  clear n34
  have N35 := Lib.hid n35
  clear n35
  have N45 := Lib.hid n45
  clear n45
  rcases hc with rfl | rfl | rfl | rfl | rfl | rfl | rfl | rfl | rfl
  · have HM := Lib.hid (show t.b0 = false by simpa [StE.may, and_assoc] using hm)
    clear hm
    have hl := HY.out.1
    have x0 := HY.out.cell 0 _ rfl
    have x1 := HY.out.cell 1 _ rfl
    have x2 := HY.out.cell 2 _ rfl
    have x3 := HY.out.cell 3 _ rfl
    have x4 := HY.out.cell 4 _ rfl
    have x5 := HY.out.cell 5 _ rfl
    refine wpOp_step (o := { dst := some 66, op := Op.load 27 (Operand.tmp 10), type := 27, pos := "law.go:63", after := #[], guard := none }) rfl (fun K hK => ?_)
    have HK := Lib.hid hK
    clear hK
    unfold actE
    go_simp
    exact HK.out _ _ ⟨HO.out, HW.out, _, r67, r68, v16, v17, v18, B16, B17, B18, rfl, fun _ => rfl, K1.out, K2.out, K3.out, K4.out, K5.out, N34.out, N35.out, N45.out⟩
  · have HM := Lib.hid (show t.b1 = false by simpa [StE.may, and_assoc] using hm)
    clear hm
    have hl := HY.out.1
    have x0 := HY.out.cell 0 _ rfl
    have x1 := HY.out.cell 1 _ rfl
    have x2 := HY.out.cell 2 _ rfl
    have x3 := HY.out.cell 3 _ rfl
    have x4 := HY.out.cell 4 _ rfl
    have x5 := HY.out.cell 5 _ rfl
    refine wpOp_step (o := { dst := some 67, op := Op.load 27 (Operand.tmp 10), type := 27, pos := "law.go:63", after := #[{ on := 6, ground := Ground.gcOnly Departure.lateStores }], guard := none }) rfl (fun K hK => ?_)
    have HK := Lib.hid hK
    clear hK
    unfold actE
    go_simp
    exact HK.out _ _ ⟨HO.out, HW.out, r66, _, r68, v16, v17, v18, B16, B17, B18, rfl, K0.out, fun _ => rfl, K2.out, K3.out, K4.out, K5.out, N34.out, N35.out, N45.out⟩
  · have HM := Lib.hid (show t.b2 = false by simpa [StE.may, and_assoc] using hm)
    clear hm
    have hl := HY.out.1
    have x0 := HY.out.cell 0 _ rfl
    have x1 := HY.out.cell 1 _ rfl
    have x2 := HY.out.cell 2 _ rfl
    have x3 := HY.out.cell 3 _ rfl
    have x4 := HY.out.cell 4 _ rfl
    have x5 := HY.out.cell 5 _ rfl
    refine wpOp_step (o := { dst := some 68, op := Op.load 27 (Operand.tmp 10), type := 27, pos := "law.go:63", after := #[{ on := 7, ground := Ground.gcOnly Departure.lateStores }], guard := none }) rfl (fun K hK => ?_)
    have HK := Lib.hid hK
    clear hK
    unfold actE
    go_simp
    exact HK.out _ _ ⟨HO.out, HW.out, r66, r67, _, v16, v17, v18, B16, B17, B18, rfl, K0.out, K1.out, fun _ => rfl, K3.out, K4.out, K5.out, N34.out, N35.out, N45.out⟩
  · have HM := Lib.hid (show t.b3 = false by simpa [StE.may, and_assoc] using hm)
    clear hm
    have hz := StE.no3 t.b0 t.b1 t.b2 t.b3 t.b4 t.b5 t.b6 t.b7 t.b8 HT.out HM.out
    refine wpOp_step (o := { dst := some 16, op := Op.alloc 27, type := 0, pos := "law.go:63", after := #[], guard := none }) rfl (fun K hK => ?_)
    have HK := Lib.hid hK
    clear hK
    have HZ := Lib.hid hz
    clear hz
    unfold actE
    go_simp
    exact HK.out _ _ ⟨HO.out, HW.out.alloc HW.out.size _, r66, r67, r68, _, v17, v18, w.heap.size, B17, B18, rfl, K0.out, K1.out, K2.out, fun _ => ⟨rfl, HW.out.size, by show Box _ _ (cP (cond t.b6 _ _)); rw [HZ.out]; exact Box.new w _ _⟩, fun h => ⟨(K4.out h).1, (K4.out h).2.1, (K4.out h).2.2.alloc _⟩, fun h => ⟨(K5.out h).1, (K5.out h).2.1, (K5.out h).2.2.alloc _⟩, fun _ h => fun e => by have := (K4.out h).2.2.1; omega, fun _ h => fun e => by have := (K5.out h).2.2.1; omega, N45.out⟩
  · have HM := Lib.hid (show t.b4 = false by simpa [StE.may, and_assoc] using hm)
    clear hm
    have hz := StE.no4 t.b0 t.b1 t.b2 t.b3 t.b4 t.b5 t.b6 t.b7 t.b8 HT.out HM.out
    refine wpOp_step (o := { dst := some 17, op := Op.alloc 27, type := 0, pos := "law.go:63", after := #[], guard := none }) rfl (fun K hK => ?_)
    have HK := Lib.hid hK
    clear hK
    have HZ := Lib.hid hz
    clear hz
    unfold actE
    go_simp
    exact HK.out _ _ ⟨HO.out, HW.out.alloc HW.out.size _, r66, r67, r68, v16, _, v18, B16, w.heap.size, B18, rfl, K0.out, K1.out, K2.out, fun h => ⟨(K3.out h).1, (K3.out h).2.1, (K3.out h).2.2.alloc _⟩, fun _ => ⟨rfl, HW.out.size, by show Box _ _ (cP (cond t.b7 _ _)); rw [HZ.out]; exact Box.new w _ _⟩, fun h => ⟨(K5.out h).1, (K5.out h).2.1, (K5.out h).2.2.alloc _⟩, fun h _ => fun e => by have := (K3.out h).2.2.1; omega, N35.out, fun _ h => fun e => by have := (K5.out h).2.2.1; omega⟩
  · have HM := Lib.hid (show t.b5 = false by simpa [StE.may, and_assoc] using hm)
    clear hm
    have hz := StE.no5 t.b0 t.b1 t.b2 t.b3 t.b4 t.b5 t.b6 t.b7 t.b8 HT.out HM.out
    refine wpOp_step (o := { dst := some 18, op := Op.alloc 27, type := 0, pos := "law.go:63", after := #[], guard := none }) rfl (fun K hK => ?_)
    have HK := Lib.hid hK
    clear hK
    have HZ := Lib.hid hz
    clear hz
    unfold actE
    go_simp
    exact HK.out _ _ ⟨HO.out, HW.out.alloc HW.out.size _, r66, r67, r68, v16, v17, _, B16, B17, w.heap.size, rfl, K0.out, K1.out, K2.out, fun h => ⟨(K3.out h).1, (K3.out h).2.1, (K3.out h).2.2.alloc _⟩, fun h => ⟨(K4.out h).1, (K4.out h).2.1, (K4.out h).2.2.alloc _⟩, fun _ => ⟨rfl, HW.out.size, by show Box _ _ (cP (cond t.b8 _ _)); rw [HZ.out]; exact Box.new w _ _⟩, N34.out, fun h _ => fun e => by have := (K3.out h).2.2.1; omega, fun h _ => fun e => by have := (K4.out h).2.2.1; omega⟩
  · have HM := Lib.hid (show t.b6 = false ∧ t.b3 = true ∧ t.b0 = true ∧ t.b4 = true ∧ t.b5 = true by simpa [StE.may, and_assoc] using hm)
    clear hm
    obtain rfl := K0.out HM.out.2.2.1
    obtain ⟨rfl, g, hB⟩ := K3.out HM.out.2.1
    rw [HM.out.1] at hB
    have hB : Box w B16 (cP zP) := hB
    have hx4 := (K4.out HM.out.2.2.2.1)
    have hx5 := (K5.out HM.out.2.2.2.2)
    have G := Lib.hid g
    have HB := Lib.hid hB
    have HX4 := Lib.hid hx4
    have HX5 := Lib.hid hx5
    clear g hB hx4 hx5
    refine wpOp_step (o := { dst := none, op := Op.store 27 (Operand.tmp 16) (Operand.tmp 66), type := 0, pos := "law.go:63", after := #[{ on := 3, ground := Ground.data }, { on := 0, ground := Ground.data }, { on := 0, ground := Ground.phase }, { on := 1, ground := Ground.textOnly Departure.lateStores }, { on := 2, ground := Ground.textOnly Departure.lateStores }, { on := 3, ground := Ground.phase }, { on := 4, ground := Ground.phase }, { on := 5, ground := Ground.phase }], guard := none }) rfl (fun K hK => ?_)
    have HK := Lib.hid hK
    clear hK
    have l := HB.out.1
    have x0 := HB.out.cell 0 _ rfl
    have v0 := HB.out.free 0 (by show 0 < 6; decide)
    have x1 := HB.out.cell 1 _ rfl
    have v1 := HB.out.free 1 (by show 1 < 6; decide)
    have x2 := HB.out.cell 2 _ rfl
    have v2 := HB.out.free 2 (by show 2 < 6; decide)
    have x3 := HB.out.cell 3 _ rfl
    have v3 := HB.out.free 3 (by show 3 < 6; decide)
    have x4 := HB.out.cell 4 _ rfl
    have v4 := HB.out.free 4 (by show 4 < 6; decide)
    have x5 := HB.out.cell 5 _ rfl
    have v5 := HB.out.free 5 (by show 5 < 6; decide)
    unfold actE
    go_simp
    exact HK.out _ _ ⟨HO.out, below6 B16 q HW.out G.out, _, r67, r68, _, v17, v18, B16, B17, B18, rfl, fun _ => rfl, K1.out, K2.out, fun _ => ⟨rfl, G.out, put6 w B16 q zP HB.out⟩, fun _ => ⟨HX4.out.1, HX4.out.2.1, HX4.out.2.2.grown (grown6 w B16 q) (by simp; exact fun e => N34.out HM.out.2.1 HM.out.2.2.2.1 e.symm)⟩, fun _ => ⟨HX5.out.1, HX5.out.2.1, HX5.out.2.2.grown (grown6 w B16 q) (by simp; exact fun e => N35.out HM.out.2.1 HM.out.2.2.2.2 e.symm)⟩, N34.out, N35.out, N45.out⟩
  · have HM := Lib.hid (show t.b7 = false ∧ t.b4 = true ∧ t.b1 = true ∧ t.b6 = true ∧ t.b0 = true ∧ t.b3 = true ∧ t.b5 = true by simpa [StE.may, and_assoc] using hm)
    clear hm
    obtain rfl := K1.out HM.out.2.2.1
    obtain ⟨rfl, g, hB⟩ := K4.out HM.out.2.1
    rw [HM.out.1] at hB
    have hB : Box w B17 (cP zP) := hB
    have hx3 := (K3.out HM.out.2.2.2.2.2.1)
    have hx5 := (K5.out HM.out.2.2.2.2.2.2)
    have G := Lib.hid g
    have HB := Lib.hid hB
    have HX3 := Lib.hid hx3
    have HX5 := Lib.hid hx5
    clear g hB hx3 hx5
    refine wpOp_step (o := { dst := none, op := Op.store 27 (Operand.tmp 17) (Operand.tmp 67), type := 0, pos := "law.go:63", after := #[{ on := 4, ground := Ground.data }, { on := 1, ground := Ground.data }, { on := 6, ground := Ground.chain }, { on := 0, ground := Ground.phase }, { on := 1, ground := Ground.phase }, { on := 2, ground := Ground.textOnly Departure.lateStores }, { on := 3, ground := Ground.phase }, { on := 4, ground := Ground.phase }, { on := 5, ground := Ground.phase }, { on := 6, ground := Ground.phase }], guard := none }) rfl (fun K hK => ?_)
    have HK := Lib.hid hK
    clear hK
    have l := HB.out.1
    have x0 := HB.out.cell 0 _ rfl
    have v0 := HB.out.free 0 (by show 0 < 6; decide)
    have x1 := HB.out.cell 1 _ rfl
    have v1 := HB.out.free 1 (by show 1 < 6; decide)
    have x2 := HB.out.cell 2 _ rfl
    have v2 := HB.out.free 2 (by show 2 < 6; decide)
    have x3 := HB.out.cell 3 _ rfl
    have v3 := HB.out.free 3 (by show 3 < 6; decide)
    have x4 := HB.out.cell 4 _ rfl
    have v4 := HB.out.free 4 (by show 4 < 6; decide)
    have x5 := HB.out.cell 5 _ rfl
    have v5 := HB.out.free 5 (by show 5 < 6; decide)
    unfold actE
    go_simp
    exact HK.out _ _ ⟨HO.out, below6 B17 q HW.out G.out, r66, _, r68, v16, _, v18, B16, B17, B18, rfl, K0.out, fun _ => rfl, K2.out, fun _ => ⟨HX3.out.1, HX3.out.2.1, HX3.out.2.2.grown (grown6 w B17 q) (by simp; exact N34.out HM.out.2.2.2.2.2.1 HM.out.2.1)⟩, fun _ => ⟨rfl, G.out, put6 w B17 q zP HB.out⟩, fun _ => ⟨HX5.out.1, HX5.out.2.1, HX5.out.2.2.grown (grown6 w B17 q) (by simp; exact fun e => N45.out HM.out.2.1 HM.out.2.2.2.2.2.2 e.symm)⟩, N34.out, N35.out, N45.out⟩
  · have HM := Lib.hid (show t.b8 = false ∧ t.b5 = true ∧ t.b2 = true ∧ t.b7 = true ∧ t.b0 = true ∧ t.b1 = true ∧ t.b3 = true ∧ t.b4 = true ∧ t.b6 = true by simpa [StE.may, and_assoc] using hm)
    clear hm
    obtain rfl := K2.out HM.out.2.2.1
    obtain ⟨rfl, g, hB⟩ := K5.out HM.out.2.1
    rw [HM.out.1] at hB
    have hB : Box w B18 (cP zP) := hB
    have hx3 := (K3.out HM.out.2.2.2.2.2.2.1)
    have hx4 := (K4.out HM.out.2.2.2.2.2.2.2.1)
    have G := Lib.hid g
    have HB := Lib.hid hB
    have HX3 := Lib.hid hx3
    have HX4 := Lib.hid hx4
    clear g hB hx3 hx4
    refine wpOp_step (o := { dst := none, op := Op.store 27 (Operand.tmp 18) (Operand.tmp 68), type := 0, pos := "law.go:63", after := #[{ on := 5, ground := Ground.data }, { on := 2, ground := Ground.data }, { on := 7, ground := Ground.chain }, { on := 0, ground := Ground.phase }, { on := 1, ground := Ground.phase }, { on := 2, ground := Ground.phase }, { on := 3, ground := Ground.phase }, { on := 4, ground := Ground.phase }, { on := 5, ground := Ground.phase }, { on := 6, ground := Ground.phase }, { on := 7, ground := Ground.phase }], guard := none }) rfl (fun K hK => ?_)
    have HK := Lib.hid hK
    clear hK
    have l := HB.out.1
    have x0 := HB.out.cell 0 _ rfl
    have v0 := HB.out.free 0 (by show 0 < 6; decide)
    have x1 := HB.out.cell 1 _ rfl
    have v1 := HB.out.free 1 (by show 1 < 6; decide)
    have x2 := HB.out.cell 2 _ rfl
    have v2 := HB.out.free 2 (by show 2 < 6; decide)
    have x3 := HB.out.cell 3 _ rfl
    have v3 := HB.out.free 3 (by show 3 < 6; decide)
    have x4 := HB.out.cell 4 _ rfl
    have v4 := HB.out.free 4 (by show 4 < 6; decide)
    have x5 := HB.out.cell 5 _ rfl
    have v5 := HB.out.free 5 (by show 5 < 6; decide)
    unfold actE
    go_simp
    exact HK.out _ _ ⟨HO.out, below6 B18 q HW.out G.out, r66, r67, _, v16, v17, _, B16, B17, B18, rfl, K0.out, K1.out, fun _ => rfl, fun _ => ⟨HX3.out.1, HX3.out.2.1, HX3.out.2.2.grown (grown6 w B18 q) (by simp; exact N35.out HM.out.2.2.2.2.2.2.1 HM.out.2.1)⟩, fun _ => ⟨HX4.out.1, HX4.out.2.1, HX4.out.2.2.grown (grown6 w B18 q) (by simp; exact N45.out HM.out.2.2.2.2.2.2.2.1 HM.out.2.1)⟩, fun _ => ⟨rfl, G.out, put6 w B18 q zP HB.out⟩, N34.out, N35.out, N45.out⟩
def EndE (Q : Exit → Act → World → Prop) (q : P6) (x0 x1 x2 x3 x4 x5 x6 x8 x9 pY x11 x12 x13 x15 u21 u22 u23 u24 u25 u26 u27 u28 u29 u30 u31 u32 u33 u34 u35 u36 u37 u38 u39 u40 u41 u42 u43 u44 u45 u46 u47 u48 u49 u50 u51 u52 u53 u54 u55 u56 u57 u58 u59 u60 u61 u62 u63 u64 u65 : Value) (w0 : World) : Prop :=
  ∀ (B16 B17 B18 : Nat) (w' : World), Below w0.heap.size w0 w' → w0.heap.size ≤ B16 → w0.heap.size ≤ B17 → w0.heap.size ≤ B18 → B16 ≠ B17 → B16 ≠ B18 → B17 ≠ B18 → Box w' B16 (cP q) → Box w' B17 (cP q) → Box w' B18 (cP q) → Q .normal (actE x0 x1 x2 x3 x4 x5 x6 x8 x9 pY x11 x12 x13 x15 u21 u22 u23 u24 u25 u26 u27 u28 u29 u30 u31 u32 u33 u34 u35 u36 u37 u38 u39 u40 u41 u42 u43 u44 u45 u46 u47 u48 u49 u50 u51 u52 u53 u54 u55 u56 u57 u58 u59 u60 u61 u62 u63 u64 u65 (.agg #[.int .i64 q.k, .int .i64 q.n, .int .i64 q.m, .int .i64 q.c0, .int .i64 q.c1, .string q.t]) (.agg #[.int .i64 q.k, .int .i64 q.n, .int .i64 q.m, .int .i64 q.c0, .int .i64 q.c1, .string q.t]) (.agg #[.int .i64 q.k, .int .i64 q.n, .int .i64 q.m, .int .i64 q.c0, .int .i64 q.c1, .string q.t]) (.pointer (some ⟨B16, 0, none⟩)) (.pointer (some ⟨B17, 0, none⟩)) (.pointer (some ⟨B18, 0, none⟩))) w'
theorem zeroE (t : StE) (h : t.n = 0) : t.b0 = true ∧ t.b1 = true ∧ t.b2 = true ∧ t.b3 = true ∧ t.b4 = true ∧ t.b5 = true ∧ t.b6 = true ∧ t.b7 = true ∧ t.b8 = true := by
  obtain ⟨b0, b1, b2, b3, b4, b5, b6, b7, b8⟩ := t
  simp only [StE.n, bn] at h
  cases b0 <;> cases b1 <;> cases b2 <;> cases b3 <;> cases b4 <;> cases b5 <;> cases b6 <;> cases b7 <;> cases b8 <;> simp at h ⊢
theorem regionE {Q : Exit → Act → World → Prop} (q : P6) (x0 x1 x2 x3 x4 x5 x6 x8 x9 pY x11 x12 x13 x15 u21 u22 u23 u24 u25 u26 u27 u28 u29 u30 u31 u32 u33 u34 u35 u36 u37 u38 u39 u40 u41 u42 u43 u44 u45 u46 u47 u48 u49 u50 u51 u52 u53 u54 u55 u56 u57 u58 u59 u60 u61 u62 u63 u64 u65 : Value) (w : World) (Y : Nat) (hY : Box w Y [.int .i64 q.k, .int .i64 q.n, .int .i64 q.m, .int .i64 q.c0, .int .i64 q.c1, .string q.t])  (eY : pY = (.pointer (some ⟨Y, 0, none⟩))) (hQ : Hid (EndE Q q x0 x1 x2 x3 x4 x5 x6 x8 x9 pY x11 x12 x13 x15 u21 u22 u23 u24 u25 u26 u27 u28 u29 u30 u31 u32 u33 u34 u35 u36 u37 u38 u39 u40 u41 u42 u43 u44 u45 u46 u47 u48 u49 u50 u51 u52 u53 u54 u55 u56 u57 u58 u59 u60 u61 u62 u63 u64 u65 w)) :
    (Code.region 11 opsE true).wp Tryd.prog Q (actE x0 x1 x2 x3 x4 x5 x6 x8 x9 pY x11 x12 x13 x15 u21 u22 u23 u24 u25 u26 u27 u28 u29 u30 u31 u32 u33 u34 u35 u36 u37 u38 u39 u40 u41 u42 u43 u44 u45 u46 u47 u48 u49 u50 u51 u52 u53 u54 u55 u56 u57 u58 u59 u60 u61 u62 u63 u64 u65 undef undef undef undef undef undef) w := by
  refine wp_region_held_drew (S := fun _ => True) (by kernel_rfl) trivial (fun _ => ?_)
  refine permE (JE q x0 x1 x2 x3 x4 x5 x6 x8 x9 pY x11 x12 x13 x15 u21 u22 u23 u24 u25 u26 u27 u28 u29 u30 u31 u32 u33 u34 u35 u36 u37 u38 u39 u40 u41 u42 u43 u44 u45 u46 u47 u48 u49 u50 u51 u52 u53 u54 u55 u56 u57 u58 u59 u60 u61 u62 u63 u64 u65 w) (fun _ _ _ h => h.1) tabE (fun t a w' i hJ hi => stepE q x0 x1 x2 x3 x4 x5 x6 x8 x9 pY x11 x12 x13 x15 u21 u22 u23 u24 u25 u26 u27 u28 u29 u30 u31 u32 u33 u34 u35 u36 u37 u38 u39 u40 u41 u42 u43 u44 u45 u46 u47 u48 u49 u50 u51 u52 u53 u54 u55 u56 u57 u58 u59 u60 u61 u62 u63 u64 u65 w Y hY  eY t a w' i hJ hi) ?_ 9 ⟨false, false, false, false, false, false, false, false, false⟩ _ w.drew rfl ?_
  · intro t a wz hJ hn
    obtain ⟨tb0, tb1, tb2, tb3, tb4, tb5, tb6, tb7, tb8⟩ := zeroE t hn
    obtain ⟨_, hW, r66, r67, r68, v16, v17, v18, B16, B17, B18, rfl, k0, k1, k2, k3, k4, k5, n34, n35, n45⟩ := hJ
    obtain rfl := k0 tb0
    obtain rfl := k1 tb1
    obtain rfl := k2 tb2
    obtain ⟨rfl, gB16, hB16⟩ := k3 tb3
    obtain ⟨rfl, gB17, hB17⟩ := k4 tb4
    obtain ⟨rfl, gB18, hB18⟩ := k5 tb5
    rw [tb6] at hB16
    rw [tb7] at hB17
    rw [tb8] at hB18
    have hl : t.lst = #[true, true, true, true, true, true, true, true, true] := by
      unfold StE.lst
      rw [tb0, tb1, tb2, tb3, tb4, tb5, tb6, tb7, tb8]
    rw [hl]
    refine wpAnyH_done (by kernel_rfl) ?_ _
    exact hQ.out B16 B17 B18 wz hW gB16 gB17 gB18 (n34 tb3 tb4) (n35 tb3 tb5) (n45 tb4 tb5) hB16 hB17 hB18
  · exact ⟨rfl, (Below.refl _ w).drew, _, _, _, _, _, _, 0, 0, 0, rfl, (fun h => Bool.noConfusion h), (fun h => Bool.noConfusion h), (fun h => Bool.noConfusion h), (fun h => Bool.noConfusion h), (fun h => Bool.noConfusion h), (fun h => Bool.noConfusion h), (fun h => Bool.noConfusion h), (fun h => Bool.noConfusion h), (fun h => Bool.noConfusion h)⟩
end Go.Proofs.YtokjjeekkfefmaaDoor.Sty
