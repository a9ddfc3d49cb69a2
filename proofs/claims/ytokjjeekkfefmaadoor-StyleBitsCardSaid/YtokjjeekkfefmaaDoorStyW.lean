/-
  The statement of StyleBits' body that calls pen and Apply and makes a block, in whatever order.
-/
import Derived.Test.YtokjjeekkfefmaaDoorStyV
import Derived.Test.YtokjjeekkfefmaaDoorStyR
namespace Go.Proofs.YtokjjeekkfefmaaDoor.Sty
open Go.RowKit Utf Col

structure StF where
  b0 : Bool
  b1 : Bool
  b2 : Bool
  b3 : Bool
  b4 : Bool
  b5 : Bool
  b6 : Bool
  b7 : Bool
  b8 : Bool
  b9 : Bool
def StF.lst (s : StF) : Array Bool := #[s.b0, s.b1, s.b2, s.b3, s.b4, s.b5, s.b6, s.b7, s.b8, s.b9]
def StF.ok (s : StF) : Bool := (!s.b2 || s.b1) && (!s.b3 || s.b0) && (!s.b3 || s.b2) && (!s.b4 || s.b3) && (!s.b5 || s.b4) && (!s.b6 || s.b4) && (!s.b8 || s.b7) && (!s.b8 || s.b5) && (!s.b8 || s.b3) && (!s.b8 || s.b0) && (!s.b8 || s.b1) && (!s.b8 || s.b2) && (!s.b8 || s.b4) && (!s.b9 || s.b6) && (!s.b9 || s.b8) && (!s.b9 || s.b0) && (!s.b9 || s.b1) && (!s.b9 || s.b2) && (!s.b9 || s.b3) && (!s.b9 || s.b4) && (!s.b9 || s.b5) && (!s.b9 || s.b7)
def StF.n (s : StF) : Nat := bn s.b0 + bn s.b1 + bn s.b2 + bn s.b3 + bn s.b4 + bn s.b5 + bn s.b6 + bn s.b7 + bn s.b8 + bn s.b9
def StF.may (s : StF) (i : Nat) : Bool :=
  if i = 0 then !s.b0 else if i = 1 then !s.b1 else if i = 2 then !s.b2 && s.b1 else if i = 3 then !s.b3 && s.b0 && s.b2 else if i = 4 then !s.b4 && s.b3 else if i = 5 then !s.b5 && s.b4 else if i = 6 then !s.b6 && s.b4 else if i = 7 then !s.b7 else if i = 8 then !s.b8 && s.b7 && s.b5 && s.b3 && s.b0 && s.b1 && s.b2 && s.b4 else if i = 9 then !s.b9 && s.b6 && s.b8 && s.b0 && s.b1 && s.b2 && s.b3 && s.b4 && s.b5 && s.b7 else false
def StF.rd (s : StF) : List Nat := [0, 1, 2, 3, 4, 5, 6, 7, 8, 9].filter s.may
def StF.nx (s : StF) (i : Nat) : StF :=
  if i = 0 then { s with b0 := true } else if i = 1 then { s with b1 := true } else if i = 2 then { s with b2 := true } else if i = 3 then { s with b3 := true } else if i = 4 then { s with b4 := true } else if i = 5 then { s with b5 := true } else if i = 6 then { s with b6 := true } else if i = 7 then { s with b7 := true } else if i = 8 then { s with b8 := true } else if i = 9 then { s with b9 := true } else s
theorem StF.steps : ∀ b0 b1 b2 b3 b4 b5 b6 b7 b8 b9 : Bool, (StF.mk b0 b1 b2 b3 b4 b5 b6 b7 b8 b9).ok = true → ∀ i ∈ (StF.mk b0 b1 b2 b3 b4 b5 b6 b7 b8 b9).rd, ((StF.mk b0 b1 b2 b3 b4 b5 b6 b7 b8 b9).nx i).lst = (StF.mk b0 b1 b2 b3 b4 b5 b6 b7 b8 b9).lst.setIfInBounds i true ∧ ((StF.mk b0 b1 b2 b3 b4 b5 b6 b7 b8 b9).nx i).n + 1 = (StF.mk b0 b1 b2 b3 b4 b5 b6 b7 b8 b9).n ∧ ((StF.mk b0 b1 b2 b3 b4 b5 b6 b7 b8 b9).nx i).ok = true := by decide +kernel
theorem StF.some_left : ∀ b0 b1 b2 b3 b4 b5 b6 b7 b8 b9 : Bool, (StF.mk b0 b1 b2 b3 b4 b5 b6 b7 b8 b9).ok = true → (StF.mk b0 b1 b2 b3 b4 b5 b6 b7 b8 b9).n ≠ 0 → (StF.mk b0 b1 b2 b3 b4 b5 b6 b7 b8 b9).rd ≠ [] := by decide +kernel
theorem permF {P : Program} {ops : Array Oper} {Q : Exit → Act → World → Prop} (J : StF → Act → World → Prop) (hok : ∀ s a w, J s a w → s.ok = true)
    (htab : ∀ b0 b1 b2 b3 b4 b5 b6 b7 b8 b9 : Bool, (StF.mk b0 b1 b2 b3 b4 b5 b6 b7 b8 b9).ok = true → (StF.mk b0 b1 b2 b3 b4 b5 b6 b7 b8 b9).n ≠ 0 → Region.ready .any ops (StF.mk b0 b1 b2 b3 b4 b5 b6 b7 b8 b9).lst = (StF.mk b0 b1 b2 b3 b4 b5 b6 b7 b8 b9).rd)
    (hstep : ∀ s a w i, J s a w → i ∈ s.rd → wpOp P ops Q i (fun a' w' => J (s.nx i) a' w') a w)
    (hend : ∀ s a w, J s a w → s.n = 0 → wpAnyH P .any ops Q (fun _ => True) 0 s.lst a w) :
    ∀ m s a w, s.n = m → J s a w → wpAnyH P .any ops Q (fun _ => True) m s.lst a w := by
  intro m
  induction m with
  | zero => intro s a w hn hJ; exact hend s a w hJ hn
  | succ m ih =>
    intro s a w hn hJ
    have ho := hok s a w hJ
    have hr := htab s.b0 s.b1 s.b2 s.b3 s.b4 s.b5 s.b6 s.b7 s.b8 s.b9 ho (by show s.n ≠ 0; omega)
    refine wpAnyH_all (rs := s.rd) hr (StF.some_left s.b0 s.b1 s.b2 s.b3 s.b4 s.b5 s.b6 s.b7 s.b8 s.b9 ho (by show s.n ≠ 0; omega)) fun i hi => ?_
    obtain ⟨h1, h2, _⟩ := StF.steps s.b0 s.b1 s.b2 s.b3 s.b4 s.b5 s.b6 s.b7 s.b8 s.b9 ho i hi
    refine wpOp_mono (fun a' w' h' => ⟨trivial, ?_⟩) (hstep s a w i hJ hi)
    have h1' : s.lst.setIfInBounds i true = (s.nx i).lst := h1.symm
    rw [h1']
    have h2' : (s.nx i).n + 1 = s.n := h2
    exact ih (s.nx i) a' w' (by omega) h'
theorem StF.no7 : ∀ b0 b1 b2 b3 b4 b5 b6 b7 b8 b9 : Bool, (StF.mk b0 b1 b2 b3 b4 b5 b6 b7 b8 b9).ok = true → b7 = false → b8 = false := by decide +kernel
def opsF : Array Oper := #[{ dst := some 26, op := Op.load 25 (Operand.tmp 7), type := 25, pos := "outright.go:65", after := #[], guard := none }, { dst := some 27, op := Op.move (Operand.tmp 8), type := 3, pos := "outright.go:65", after := #[], guard := none }, { dst := some 28, op := Op.call { callee := Callee.value (Operand.func 25), args := #[Operand.const (Value.int IntKind.i64 1), Operand.tmp 27], argTypes := #[3, 3] }, type := 27, pos := "outright.go:65", after := #[{ on := 1, ground := Ground.data }], guard := none }, { dst := some 29, op := Op.call { callee := Callee.value (Operand.func 19), args := #[Operand.tmp 26, Operand.tmp 28], argTypes := #[25, 27] }, type := 46, pos := "outright.go:65", after := #[{ on := 0, ground := Ground.data }, { on := 2, ground := Ground.data }, { on := 2, ground := Ground.chain }], guard := none }, { dst := some 25, op := Op.move (Operand.tmp 29), type := 46, pos := "outright.go:65", after := #[{ on := 3, ground := Ground.data }], guard := none }, { dst := some 30, op := Op.extract (Operand.tmp 25) 0, type := 25, pos := "outright.go:65", after := #[{ on := 4, ground := Ground.data }], guard := none }, { dst := some 31, op := Op.extract (Operand.tmp 25) 1, type := 35, pos := "outright.go:65", after := #[{ on := 4, ground := Ground.data }, { on := 8, ground := Ground.gcOnly Departure.lateStores }], guard := none }, { dst := some 9, op := Op.alloc 25, type := 0, pos := "outright.go:65", after := #[], guard := none }, { dst := none, op := Op.store 25 (Operand.tmp 9) (Operand.tmp 30), type := 0, pos := "outright.go:65", after := #[{ on := 7, ground := Ground.data }, { on := 5, ground := Ground.data }, { on := 3, ground := Ground.chain }, { on := 0, ground := Ground.phase }, { on := 1, ground := Ground.phase }, { on := 2, ground := Ground.phase }, { on := 3, ground := Ground.phase }, { on := 4, ground := Ground.phase }, { on := 5, ground := Ground.phase }, { on := 6, ground := Ground.textOnly Departure.lateStores }, { on := 7, ground := Ground.phase }], guard := none }, { dst := some 10, op := Op.assign (Operand.tmp 31), type := 35, pos := "outright.go:65", after := #[{ on := 6, ground := Ground.data }, { on := 8, ground := Ground.chain }, { on := 0, ground := Ground.phase }, { on := 1, ground := Ground.phase }, { on := 2, ground := Ground.phase }, { on := 3, ground := Ground.phase }, { on := 4, ground := Ground.phase }, { on := 5, ground := Ground.phase }, { on := 6, ground := Ground.phase }, { on := 7, ground := Ground.phase }, { on := 8, ground := Ground.phase }], guard := none }]
def actF (m : Int)  (x0 x1 x2 x3 x6 pV u18 u19 u20 u21 u22 u23 u24 r26 r27 r28 r29 r25 r30 r31 v9 v10 : Value) : Act := { tmps := (x0 :: x1 :: x2 :: x3 :: undef :: undef :: x6 :: pV :: .int .i64 m :: v9 :: v10 :: undef :: undef :: undef :: undef :: undef :: undef :: undef :: u18 :: u19 :: u20 :: u21 :: u22 :: u23 :: u24 :: r25 :: r26 :: r27 :: r28 :: r29 :: r30 :: r31 :: undef :: undef :: undef :: undef :: undef :: undef :: undef :: undef :: undef :: undef :: undef :: undef :: undef :: undef :: undef :: undef :: undef :: undef :: undef :: undef :: undef :: undef :: undef :: undef :: undef :: undef :: undef :: undef :: undef :: undef :: undef :: undef :: undef :: undef :: undef :: undef :: undef :: undef :: undef :: undef :: undef :: undef :: undef :: undef :: undef :: undef :: undef :: undef :: undef :: undef :: undef :: undef :: undef :: undef :: undef :: undef :: undef :: undef :: undef :: undef :: undef :: undef :: undef :: undef :: undef :: undef :: undef :: undef :: undef :: undef :: undef :: undef :: undef :: undef :: undef :: undef :: undef :: undef :: undef :: undef :: undef :: undef :: undef :: undef :: undef :: undef :: undef :: []).toArray, defers := [] }
theorem tabF : ∀ b0 b1 b2 b3 b4 b5 b6 b7 b8 b9 : Bool, (StF.mk b0 b1 b2 b3 b4 b5 b6 b7 b8 b9).ok = true → (StF.mk b0 b1 b2 b3 b4 b5 b6 b7 b8 b9).n ≠ 0 → Region.ready .any opsF (StF.mk b0 b1 b2 b3 b4 b5 b6 b7 b8 b9).lst = (StF.mk b0 b1 b2 b3 b4 b5 b6 b7 b8 b9).rd := by decide +kernel
def JF (m : Int) (o : S8) (x : S8) (x0 x1 x2 x3 x6 pV u18 u19 u20 u21 u22 u23 u24 : Value) (w0 : World) (t : StF) (a : Act) (w : World) : Prop :=
  t.ok = true ∧ Below w0.heap.size w0 w ∧ ∃ r26 r27 r28 r29 r25 r30 r31 v9 v10, ∃ B9 : Nat, a = actF m x0 x1 x2 x3 x6 pV u18 u19 u20 u21 u22 u23 u24 r26 r27 r28 r29 r25 r30 r31 v9 v10 ∧
    (t.b0 = true → r26 = .agg #[.int .i64 o.a, .int .i64 o.u, .int .i64 o.f0, .int .i64 o.f1, .int .i64 o.b0, .int .i64 o.b1, .int .i64 o.l0, .int .i64 o.l1]) ∧ (t.b1 = true → r27 = .int .i64 m) ∧ (t.b2 = true → r28 = .agg #[.int .i64 39, .int .i64 1, .int .i64 m, .int .i64 0, .int .i64 0, .string ⟨#[]⟩]) ∧ (t.b3 = true → r29 = .tuple #[.agg #[.int .i64 x.a, .int .i64 x.u, .int .i64 x.f0, .int .i64 x.f1, .int .i64 x.b0, .int .i64 x.b1, .int .i64 x.l0, .int .i64 x.l1], .int .i64 0]) ∧ (t.b4 = true → r25 = .tuple #[.agg #[.int .i64 x.a, .int .i64 x.u, .int .i64 x.f0, .int .i64 x.f1, .int .i64 x.b0, .int .i64 x.b1, .int .i64 x.l0, .int .i64 x.l1], .int .i64 0]) ∧ (t.b5 = true → r30 = .agg #[.int .i64 x.a, .int .i64 x.u, .int .i64 x.f0, .int .i64 x.f1, .int .i64 x.b0, .int .i64 x.b1, .int .i64 x.l0, .int .i64 x.l1]) ∧ (t.b6 = true → r31 = .int .i64 0) ∧ (t.b9 = true → v10 = .int .i64 0) ∧ (t.b7 = true → v9 = .pointer (some ⟨B9, 0, none⟩) ∧ w0.heap.size ≤ B9 ∧ Box w B9 (cS (cond t.b8 x z8)))
theorem mayF {t : StF} {i : Nat} (h : i ∈ t.rd) : t.may i = true ∧ (i = 0 ∨ i = 1 ∨ i = 2 ∨ i = 3 ∨ i = 4 ∨ i = 5 ∨ i = 6 ∨ i = 7 ∨ i = 8 ∨ i = 9) := by
  unfold StF.rd at h
  obtain ⟨h1, h2⟩ := List.mem_filter.1 h
  exact ⟨h2, by simpa using h1⟩
theorem nxokF {t : StF} {i : Nat} (ho : t.ok = true) (h : i ∈ t.rd) : (t.nx i).ok = true := (StF.steps t.b0 t.b1 t.b2 t.b3 t.b4 t.b5 t.b6 t.b7 t.b8 t.b9 ho i h).2.2
set_option maxRecDepth 100000 in
set_option maxHeartbeats 4000000 in
theorem stepF {Q : Exit → Act → World → Prop} (m : Int) (o : S8) (x : S8) (x0 x1 x2 x3 x6 pV u18 u19 u20 u21 u22 u23 u24 : Value) (w0 : World) (V : Nat) (hV : Box w0 V [.int .i64 o.a, .int .i64 o.u, .int .i64 o.f0, .int .i64 o.f1, .int .i64 o.b0, .int .i64 o.b1, .int .i64 o.l0, .int .i64 o.l1]) (hT : Hid (Tl w0)) (cA : Hid (∀ w, Tl w → Calls Tryd.prog 19 #[.agg #[.int .i64 o.a, .int .i64 o.u, .int .i64 o.f0, .int .i64 o.f1, .int .i64 o.b0, .int .i64 o.b1, .int .i64 o.l0, .int .i64 o.l1], .agg #[.int .i64 39, .int .i64 1, .int .i64 m, .int .i64 0, .int .i64 0, .string ⟨#[]⟩]] w fun r w' => r = .returned (.tuple #[.agg #[.int .i64 x.a, .int .i64 x.u, .int .i64 x.f0, .int .i64 x.f1, .int .i64 x.b0, .int .i64 x.b1, .int .i64 x.l0, .int .i64 x.l1], .int .i64 0]) ∧ Below w.heap.size w w')) (eV : pV = .pointer (some ⟨V, 0, none⟩))
    (t : StF) (a : Act) (w : World) (i : Nat) (hJ : JF m o x x0 x1 x2 x3 x6 pV u18 u19 u20 u21 u22 u23 u24 w0 t a w) (hi : i ∈ t.rd) : wpOp Tryd.prog opsF Q i (fun a' w' => JF m o x x0 x1 x2 x3 x6 pV u18 u19 u20 u21 u22 u23 u24 w0 (t.nx i) a' w') a w := by
  have hok := nxokF hJ.1 hi
  obtain ⟨hm, hcc⟩ := mayF hi
  clear hi
  obtain ⟨ho, hW, r26, r27, r28, r29, r25, r30, r31, v9, v10, B9, rfl, k0, k1, k2, k3, k4, k5, k6, k9, k7⟩ := hJ
  subst eV
  have HV := Lib.hid (hV.keep hW)
  clear hV
  have HW := Lib.hid hW
  have HO := Lib.hid hok
  have HT := Lib.hid ho
  clear hW ho hok
  have K0 := Lib.hid k0
  clear k0
  have K1 := Lib.hid k1
  clear k1
  have K2 := Lib.hid k2
  clear k2
  have K3 := Lib.hid k3
  clear k3
  have K4 := Lib.hid k4
  clear k4
  have K5 := Lib.hid k5
  clear k5
  have K6 := Lib.hid k6
  clear k6
  have K9 := Lib.hid k9
  clear k9
  have K7 := Lib.hid k7
  clear k7
  rcases hcc with rfl | rfl | rfl | rfl | rfl | rfl | rfl | rfl | rfl | rfl
  · have HM := Lib.hid (show t.b0 = false by simpa [StF.may, and_assoc] using hm)
    clear hm
    have hl := HV.out.1
    have x0 := HV.out.cell 0 _ rfl
    have x1 := HV.out.cell 1 _ rfl
    have x2 := HV.out.cell 2 _ rfl
    have x3 := HV.out.cell 3 _ rfl
    have x4 := HV.out.cell 4 _ rfl
    have x5 := HV.out.cell 5 _ rfl
    have x6 := HV.out.cell 6 _ rfl
    have x7 := HV.out.cell 7 _ rfl
    refine wpOp_step (o := { dst := some 26, op := Op.load 25 (Operand.tmp 7), type := 25, pos := "outright.go:65", after := #[], guard := none }) rfl (fun K hK => ?_)
    have HK := Lib.hid hK
    clear hK
    unfold actF
    go_simp
    exact HK.out _ _ ⟨HO.out, HW.out, _, r27, r28, r29, r25, r30, r31, v9, v10, B9, rfl, fun _ => rfl, K1.out, K2.out, K3.out, K4.out, K5.out, K6.out, K9.out, K7.out⟩
  · have HM := Lib.hid (show t.b1 = false by simpa [StF.may, and_assoc] using hm)
    clear hm
    refine wpOp_step (o := { dst := some 27, op := Op.move (Operand.tmp 8), type := 3, pos := "outright.go:65", after := #[], guard := none }) rfl (fun K hK => ?_)
    have HK := Lib.hid hK
    clear hK
    unfold actF
    go_simp
    exact HK.out _ _ ⟨HO.out, HW.out, r26, _, r28, r29, r25, r30, r31, v9, v10, B9, rfl, K0.out, fun _ => rfl, K2.out, K3.out, K4.out, K5.out, K6.out, K9.out, K7.out⟩
  · have HM := Lib.hid (show t.b2 = false ∧ t.b1 = true by simpa [StF.may, and_assoc] using hm)
    clear hm
    obtain rfl := K1.out HM.out.2
    refine wpOp_step (o := { dst := some 28, op := Op.call { callee := Callee.value (Operand.func 25), args := #[Operand.const (Value.int IntKind.i64 1), Operand.tmp 27], argTypes := #[3, 3] }, type := 27, pos := "outright.go:65", after := #[{ on := 1, ground := Ground.data }], guard := none }) rfl (fun K hK => ?_)
    have HK := Lib.hid hK
    clear hK
    unfold actF
    go_simp
    refine (lpen_any 1 m _).mono ?_
    rintro e w' ⟨rfl, hb⟩
    go_wp2_with fail
    exact HK.out _ _ ⟨HO.out, HW.out.trans (hb.mono HW.out.size), r26, _, _, r29, r25, r30, r31, v9, v10, B9, rfl, K0.out, fun _ => rfl, fun _ => rfl, K3.out, K4.out, K5.out, K6.out, K9.out, fun h => ⟨(K7.out h).1, (K7.out h).2.1, (K7.out h).2.2.keep hb⟩⟩
  · have HM := Lib.hid (show t.b3 = false ∧ t.b0 = true ∧ t.b2 = true by simpa [StF.may, and_assoc] using hm)
    clear hm
    obtain rfl := K0.out HM.out.2.1
    obtain rfl := K2.out HM.out.2.2
    refine wpOp_step (o := { dst := some 29, op := Op.call { callee := Callee.value (Operand.func 19), args := #[Operand.tmp 26, Operand.tmp 28], argTypes := #[25, 27] }, type := 46, pos := "outright.go:65", after := #[{ on := 0, ground := Ground.data }, { on := 2, ground := Ground.data }, { on := 2, ground := Ground.chain }], guard := none }) rfl (fun K hK => ?_)
    have HK := Lib.hid hK
    clear hK
    unfold actF
    go_simp
    refine (cA.out _ (hT.out.keep HW.out)).mono ?_
    rintro e w' ⟨rfl, hb⟩
    go_wp2_with fail
    exact HK.out _ _ ⟨HO.out, HW.out.trans (hb.mono HW.out.size), _, r27, _, _, r25, r30, r31, v9, v10, B9, rfl, fun _ => rfl, K1.out, fun _ => rfl, fun _ => rfl, K4.out, K5.out, K6.out, K9.out, fun h => ⟨(K7.out h).1, (K7.out h).2.1, (K7.out h).2.2.keep hb⟩⟩
  · have HM := Lib.hid (show t.b4 = false ∧ t.b3 = true by simpa [StF.may, and_assoc] using hm)
    clear hm
    obtain rfl := K3.out HM.out.2
    refine wpOp_step (o := { dst := some 25, op := Op.move (Operand.tmp 29), type := 46, pos := "outright.go:65", after := #[{ on := 3, ground := Ground.data }], guard := none }) rfl (fun K hK => ?_)
    have HK := Lib.hid hK
    clear hK
    unfold actF
    go_simp
    exact HK.out _ _ ⟨HO.out, HW.out, r26, r27, r28, _, _, r30, r31, v9, v10, B9, rfl, K0.out, K1.out, K2.out, fun _ => rfl, fun _ => rfl, K5.out, K6.out, K9.out, K7.out⟩
  · have HM := Lib.hid (show t.b5 = false ∧ t.b4 = true by simpa [StF.may, and_assoc] using hm)
    clear hm
    obtain rfl := K4.out HM.out.2
    refine wpOp_step (o := { dst := some 30, op := Op.extract (Operand.tmp 25) 0, type := 25, pos := "outright.go:65", after := #[{ on := 4, ground := Ground.data }], guard := none }) rfl (fun K hK => ?_)
    have HK := Lib.hid hK
    clear hK
    unfold actF
    go_simp
    exact HK.out _ _ ⟨HO.out, HW.out, r26, r27, r28, r29, _, _, r31, v9, v10, B9, rfl, K0.out, K1.out, K2.out, K3.out, fun _ => rfl, fun _ => rfl, K6.out, K9.out, K7.out⟩
  · have HM := Lib.hid (show t.b6 = false ∧ t.b4 = true by simpa [StF.may, and_assoc] using hm)
    clear hm
    obtain rfl := K4.out HM.out.2
    refine wpOp_step (o := { dst := some 31, op := Op.extract (Operand.tmp 25) 1, type := 35, pos := "outright.go:65", after := #[{ on := 4, ground := Ground.data }, { on := 8, ground := Ground.gcOnly Departure.lateStores }], guard := none }) rfl (fun K hK => ?_)
    have HK := Lib.hid hK
    clear hK
    unfold actF
    go_simp
    exact HK.out _ _ ⟨HO.out, HW.out, r26, r27, r28, r29, _, r30, _, v9, v10, B9, rfl, K0.out, K1.out, K2.out, K3.out, fun _ => rfl, K5.out, fun _ => rfl, K9.out, K7.out⟩
  · have HM := Lib.hid (show t.b7 = false by simpa [StF.may, and_assoc] using hm)
    clear hm
    have HZ := Lib.hid (StF.no7 t.b0 t.b1 t.b2 t.b3 t.b4 t.b5 t.b6 t.b7 t.b8 t.b9 HT.out HM.out)
    refine wpOp_step (o := { dst := some 9, op := Op.alloc 25, type := 0, pos := "outright.go:65", after := #[], guard := none }) rfl (fun K hK => ?_)
    have HK := Lib.hid hK
    clear hK
    unfold actF
    go_simp
    exact HK.out _ _ ⟨HO.out, HW.out.alloc HW.out.size _, r26, r27, r28, r29, r25, r30, r31, _, v10, w.heap.size, rfl, K0.out, K1.out, K2.out, K3.out, K4.out, K5.out, K6.out, K9.out, fun _ => ⟨rfl, HW.out.size, by show Box _ _ (cS (cond t.b8 _ _)); rw [HZ.out]; exact Box.new w _ _⟩⟩
  · have HM := Lib.hid (show t.b8 = false ∧ t.b7 = true ∧ t.b5 = true ∧ t.b3 = true ∧ t.b0 = true ∧ t.b1 = true ∧ t.b2 = true ∧ t.b4 = true by simpa [StF.may, and_assoc] using hm)
    clear hm
    obtain rfl := K5.out HM.out.2.2.1
    obtain ⟨rfl, g, hB⟩ := K7.out HM.out.2.1
    rw [HM.out.1] at hB
    have hB : Box w B9 (cS z8) := hB
    have G := Lib.hid g
    have HB_ := Lib.hid hB
    clear g hB
    refine wpOp_step (o := { dst := none, op := Op.store 25 (Operand.tmp 9) (Operand.tmp 30), type := 0, pos := "outright.go:65", after := #[{ on := 7, ground := Ground.data }, { on := 5, ground := Ground.data }, { on := 3, ground := Ground.chain }, { on := 0, ground := Ground.phase }, { on := 1, ground := Ground.phase }, { on := 2, ground := Ground.phase }, { on := 3, ground := Ground.phase }, { on := 4, ground := Ground.phase }, { on := 5, ground := Ground.phase }, { on := 6, ground := Ground.textOnly Departure.lateStores }, { on := 7, ground := Ground.phase }], guard := none }) rfl (fun K hK => ?_)
    have HK := Lib.hid hK
    clear hK
    have l := HB_.out.1
    have x0 := HB_.out.cell 0 _ rfl
    have v0 := HB_.out.free 0 (by show 0 < 8; decide)
    have x1 := HB_.out.cell 1 _ rfl
    have v1 := HB_.out.free 1 (by show 1 < 8; decide)
    have x2 := HB_.out.cell 2 _ rfl
    have v2 := HB_.out.free 2 (by show 2 < 8; decide)
    have x3 := HB_.out.cell 3 _ rfl
    have v3 := HB_.out.free 3 (by show 3 < 8; decide)
    have x4 := HB_.out.cell 4 _ rfl
    have v4 := HB_.out.free 4 (by show 4 < 8; decide)
    have x5 := HB_.out.cell 5 _ rfl
    have v5 := HB_.out.free 5 (by show 5 < 8; decide)
    have x6 := HB_.out.cell 6 _ rfl
    have v6 := HB_.out.free 6 (by show 6 < 8; decide)
    have x7 := HB_.out.cell 7 _ rfl
    have v7 := HB_.out.free 7 (by show 7 < 8; decide)
    unfold actF
    go_simp
    exact HK.out _ _ ⟨HO.out, below8 B9 x HW.out G.out, r26, r27, r28, r29, r25, _, r31, _, v10, B9, rfl, K0.out, K1.out, K2.out, K3.out, K4.out, fun _ => rfl, K6.out, K9.out, fun _ => ⟨rfl, G.out, put8 w B9 x z8 HB_.out⟩⟩
  · have HM := Lib.hid (show t.b9 = false ∧ t.b6 = true ∧ t.b8 = true ∧ t.b0 = true ∧ t.b1 = true ∧ t.b2 = true ∧ t.b3 = true ∧ t.b4 = true ∧ t.b5 = true ∧ t.b7 = true by simpa [StF.may, and_assoc] using hm)
    clear hm
    obtain rfl := K6.out HM.out.2.1
    refine wpOp_step (o := { dst := some 10, op := Op.assign (Operand.tmp 31), type := 35, pos := "outright.go:65", after := #[{ on := 6, ground := Ground.data }, { on := 8, ground := Ground.chain }, { on := 0, ground := Ground.phase }, { on := 1, ground := Ground.phase }, { on := 2, ground := Ground.phase }, { on := 3, ground := Ground.phase }, { on := 4, ground := Ground.phase }, { on := 5, ground := Ground.phase }, { on := 6, ground := Ground.phase }, { on := 7, ground := Ground.phase }, { on := 8, ground := Ground.phase }], guard := none }) rfl (fun K hK => ?_)
    have HK := Lib.hid hK
    clear hK
    unfold actF
    go_simp
    exact HK.out _ _ ⟨HO.out, HW.out, r26, r27, r28, r29, r25, r30, _, v9, _, B9, rfl, K0.out, K1.out, K2.out, K3.out, K4.out, K5.out, fun _ => rfl, fun _ => rfl, K7.out⟩
def EndF (Q : Exit → Act → World → Prop) (m : Int) (o : S8) (x : S8) (x0 x1 x2 x3 x6 pV u18 u19 u20 u21 u22 u23 u24 : Value) (w0 : World) : Prop :=
  ∀ (B9 : Nat) (w' : World), Below w0.heap.size w0 w' → w0.heap.size ≤ B9 → Box w' B9 (cS x) → Q .normal (actF m x0 x1 x2 x3 x6 pV u18 u19 u20 u21 u22 u23 u24 (.agg #[.int .i64 o.a, .int .i64 o.u, .int .i64 o.f0, .int .i64 o.f1, .int .i64 o.b0, .int .i64 o.b1, .int .i64 o.l0, .int .i64 o.l1]) (.int .i64 m) (.agg #[.int .i64 39, .int .i64 1, .int .i64 m, .int .i64 0, .int .i64 0, .string ⟨#[]⟩]) (.tuple #[.agg #[.int .i64 x.a, .int .i64 x.u, .int .i64 x.f0, .int .i64 x.f1, .int .i64 x.b0, .int .i64 x.b1, .int .i64 x.l0, .int .i64 x.l1], .int .i64 0]) (.tuple #[.agg #[.int .i64 x.a, .int .i64 x.u, .int .i64 x.f0, .int .i64 x.f1, .int .i64 x.b0, .int .i64 x.b1, .int .i64 x.l0, .int .i64 x.l1], .int .i64 0]) (.agg #[.int .i64 x.a, .int .i64 x.u, .int .i64 x.f0, .int .i64 x.f1, .int .i64 x.b0, .int .i64 x.b1, .int .i64 x.l0, .int .i64 x.l1]) (.int .i64 0) (.pointer (some ⟨B9, 0, none⟩)) (.int .i64 0)) w'
theorem zeroF (t : StF) (h : t.n = 0) : t.b0 = true ∧ t.b1 = true ∧ t.b2 = true ∧ t.b3 = true ∧ t.b4 = true ∧ t.b5 = true ∧ t.b6 = true ∧ t.b7 = true ∧ t.b8 = true ∧ t.b9 = true := by
  obtain ⟨b0, b1, b2, b3, b4, b5, b6, b7, b8, b9⟩ := t
  simp only [StF.n, bn] at h
  cases b0 <;> cases b1 <;> cases b2 <;> cases b3 <;> cases b4 <;> cases b5 <;> cases b6 <;> cases b7 <;> cases b8 <;> cases b9 <;> simp at h ⊢
theorem regionF {Q : Exit → Act → World → Prop} (m : Int) (o : S8) (x : S8) (x0 x1 x2 x3 x6 pV u18 u19 u20 u21 u22 u23 u24 : Value) (w : World) (V : Nat) (hV : Box w V [.int .i64 o.a, .int .i64 o.u, .int .i64 o.f0, .int .i64 o.f1, .int .i64 o.b0, .int .i64 o.b1, .int .i64 o.l0, .int .i64 o.l1]) (hT : Hid (Tl w)) (cA : Hid (∀ w, Tl w → Calls Tryd.prog 19 #[.agg #[.int .i64 o.a, .int .i64 o.u, .int .i64 o.f0, .int .i64 o.f1, .int .i64 o.b0, .int .i64 o.b1, .int .i64 o.l0, .int .i64 o.l1], .agg #[.int .i64 39, .int .i64 1, .int .i64 m, .int .i64 0, .int .i64 0, .string ⟨#[]⟩]] w fun r w' => r = .returned (.tuple #[.agg #[.int .i64 x.a, .int .i64 x.u, .int .i64 x.f0, .int .i64 x.f1, .int .i64 x.b0, .int .i64 x.b1, .int .i64 x.l0, .int .i64 x.l1], .int .i64 0]) ∧ Below w.heap.size w w')) (eV : pV = .pointer (some ⟨V, 0, none⟩)) (hQ : Hid (EndF Q m o x x0 x1 x2 x3 x6 pV u18 u19 u20 u21 u22 u23 u24 w)) :
    (Code.region 5 opsF true).wp Tryd.prog Q (actF m x0 x1 x2 x3 x6 pV u18 u19 u20 u21 u22 u23 u24 undef undef undef undef undef undef undef undef undef) w := by
  refine wp_region_held_drew (S := fun _ => True) (by kernel_rfl) trivial (fun _ => ?_)
  refine permF (JF m o x x0 x1 x2 x3 x6 pV u18 u19 u20 u21 u22 u23 u24 w) (fun _ _ _ h => h.1) tabF (fun t a w' i hJ hi => stepF m o x x0 x1 x2 x3 x6 pV u18 u19 u20 u21 u22 u23 u24 w V hV hT cA eV t a w' i hJ hi) ?_ 10 ⟨false, false, false, false, false, false, false, false, false, false⟩ _ w.drew rfl ?_
  · intro t a wz hJ hn
    obtain ⟨tb0, tb1, tb2, tb3, tb4, tb5, tb6, tb7, tb8, tb9⟩ := zeroF t hn
    obtain ⟨_, hW, r26, r27, r28, r29, r25, r30, r31, v9, v10, B9, rfl, k0, k1, k2, k3, k4, k5, k6, k9, k7⟩ := hJ
    obtain rfl := k0 tb0
    obtain rfl := k1 tb1
    obtain rfl := k2 tb2
    obtain rfl := k3 tb3
    obtain rfl := k4 tb4
    obtain rfl := k5 tb5
    obtain rfl := k6 tb6
    obtain rfl := k9 tb9
    obtain ⟨rfl, gB9, hB9⟩ := k7 tb7
    rw [tb8] at hB9
    have hl : t.lst = #[true, true, true, true, true, true, true, true, true, true] := by
      unfold StF.lst
      rw [tb0, tb1, tb2, tb3, tb4, tb5, tb6, tb7, tb8, tb9]
    rw [hl]
    refine wpAnyH_done (by kernel_rfl) ?_ _
    exact hQ.out B9 wz hW gB9  hB9
  · exact ⟨rfl, (Below.refl _ w).drew, _, _, _, _, _, _, _, _, _, 0, rfl, (fun h => Bool.noConfusion h), (fun h => Bool.noConfusion h), (fun h => Bool.noConfusion h), (fun h => Bool.noConfusion h), (fun h => Bool.noConfusion h), (fun h => Bool.noConfusion h), (fun h => Bool.noConfusion h), (fun h => Bool.noConfusion h), (fun h => Bool.noConfusion h)⟩
end Go.Proofs.YtokjjeekkfefmaaDoor.Sty
