/-
  OscU
-/
import Derived.Deep.RegionHeld
import Derived.Deep.RegionHeld3
import Derived.Test.YtoilcigmpeaedaaGreatDoorF26
namespace Go.Proofs.YtoilcigmpeaedaaGreatDoor.Osc
open Go.RowKit Utf Col
open B64 (Box)

def bn (b : Bool) : Nat := if b then 0 else 1
theorem box_off6 {w : World} {B C : Nat} {cs : List Value} (h : Box w C cs) (hne : B ≠ C) (a : A6) : Box (set6 w B a) C cs := by
  have hb : (set6 w B a).heap[C]? = w.heap[C]? := by
    unfold set6
    simp only [World.setCell, Array.getElem?_modify, if_neg hne]
  exact h.at (by rw [set6_size]; exact Nat.le_refl _) hb
structure StU where
  b5 : Bool
  b6 : Bool
  b7 : Bool
  b8 : Bool
  b9 : Bool
def StU.lst (s : StU) : Array Bool := #[true, true, true, true, true, s.b5, s.b6, s.b7, s.b8, s.b9, false, false, false, false, false]
def StU.ok (_ : StU) : Bool := true
def StU.n (s : StU) : Nat := bn s.b5 + bn s.b6 + bn s.b7 + bn s.b8 + bn s.b9
def StU.may (s : StU) (i : Nat) : Bool :=
  if i = 5 then !s.b5 else if i = 6 then !s.b6 else if i = 7 then !s.b7 else if i = 8 then !s.b8 else if i = 9 then !s.b9 else false
def StU.rd (s : StU) : List Nat := [5, 6, 7, 8, 9].filter s.may
def StU.nx (s : StU) (i : Nat) : StU :=
  if i = 5 then { s with b5 := true } else if i = 6 then { s with b6 := true } else if i = 7 then { s with b7 := true } else if i = 8 then { s with b8 := true } else if i = 9 then { s with b9 := true } else s
theorem StU.steps : ∀ b5 b6 b7 b8 b9 : Bool, (StU.mk b5 b6 b7 b8 b9).ok = true → ∀ i ∈ (StU.mk b5 b6 b7 b8 b9).rd, ((StU.mk b5 b6 b7 b8 b9).nx i).lst = (StU.mk b5 b6 b7 b8 b9).lst.setIfInBounds i true ∧ ((StU.mk b5 b6 b7 b8 b9).nx i).n + 1 = (StU.mk b5 b6 b7 b8 b9).n ∧ ((StU.mk b5 b6 b7 b8 b9).nx i).ok = true := by decide +kernel
theorem StU.some_left : ∀ b5 b6 b7 b8 b9 : Bool, (StU.mk b5 b6 b7 b8 b9).ok = true → (StU.mk b5 b6 b7 b8 b9).n ≠ 0 → (StU.mk b5 b6 b7 b8 b9).rd ≠ [] := by decide +kernel
theorem permU {P : Program} {ops : Array Oper} {Q : Exit → Act → World → Prop} {S : World → Prop} (np : Nat) (J : StU → Act → World → Prop) (hok : ∀ s a w, J s a w → s.ok = true) (hS : ∀ s a w, J s a w → S w)
    (htab : ∀ b5 b6 b7 b8 b9 : Bool, (StU.mk b5 b6 b7 b8 b9).ok = true → (StU.mk b5 b6 b7 b8 b9).n ≠ 0 → Region.ready .any ops (StU.mk b5 b6 b7 b8 b9).lst = (StU.mk b5 b6 b7 b8 b9).rd)
    (hstep : ∀ s a w i, J s a w → i ∈ s.rd → wpOp P ops Q i (fun a' w' => J (s.nx i) a' w') a w)
    (hend : ∀ s a w, J s a w → s.n = 0 → wpAnyH P .any ops Q S np s.lst a w) :
    ∀ m s a w, s.n = m → J s a w → wpAnyH P .any ops Q S (np + m) s.lst a w := by
  intro m
  induction m with
  | zero => intro s a w hn hJ; exact hend s a w hJ hn
  | succ m ih =>
    intro s a w hn hJ
    have ho := hok s a w hJ
    have hr := htab s.b5 s.b6 s.b7 s.b8 s.b9 ho (by show s.n ≠ 0; omega)
    refine wpAnyH_all (rs := s.rd) hr (StU.some_left s.b5 s.b6 s.b7 s.b8 s.b9 ho (by show s.n ≠ 0; omega)) fun i hi => ?_
    obtain ⟨h1, h2, _⟩ := StU.steps s.b5 s.b6 s.b7 s.b8 s.b9 ho i hi
    refine wpOp_mono (fun a' w' h' => ⟨hS _ _ _ h', ?_⟩) (hstep s a w i hJ hi)
    have h1' : s.lst.setIfInBounds i true = (s.nx i).lst := h1.symm
    rw [h1']
    have h2' : (s.nx i).n + 1 = s.n := h2
    exact ih (s.nx i) a' w' (by omega) h'
def opsU : Array Oper := #[{ dst := some 29, op := Op.load 25 (Operand.tmp 7), type := 25, pos := "law.go:50", after := #[], guard := none }, { dst := some 30, op := Op.load 25 (Operand.tmp 7), type := 25, pos := "law.go:50", after := #[{ on := 10, ground := Ground.gcOnly Departure.lateStores }], guard := none }, { dst := some 31, op := Op.load 25 (Operand.tmp 7), type := 25, pos := "law.go:50", after := #[{ on := 11, ground := Ground.gcOnly Departure.lateStores }], guard := none }, { dst := some 32, op := Op.load 25 (Operand.tmp 7), type := 25, pos := "law.go:50", after := #[{ on := 12, ground := Ground.gcOnly Departure.lateStores }], guard := none }, { dst := some 33, op := Op.load 25 (Operand.tmp 7), type := 25, pos := "law.go:50", after := #[{ on := 13, ground := Ground.gcOnly Departure.lateStores }], guard := none }, { dst := some 8, op := Op.alloc 25, type := 0, pos := "law.go:50", after := #[], guard := none }, { dst := some 9, op := Op.alloc 25, type := 0, pos := "law.go:50", after := #[], guard := none }, { dst := some 10, op := Op.alloc 25, type := 0, pos := "law.go:50", after := #[], guard := none }, { dst := some 11, op := Op.alloc 25, type := 0, pos := "law.go:50", after := #[], guard := none }, { dst := some 12, op := Op.alloc 25, type := 0, pos := "law.go:50", after := #[], guard := none }, { dst := none, op := Op.store 25 (Operand.tmp 8) (Operand.tmp 29), type := 0, pos := "law.go:50", after := #[{ on := 5, ground := Ground.data }, { on := 0, ground := Ground.data }, { on := 0, ground := Ground.phase }, { on := 1, ground := Ground.textOnly Departure.lateStores }, { on := 2, ground := Ground.textOnly Departure.lateStores }, { on := 3, ground := Ground.textOnly Departure.lateStores }, { on := 4, ground := Ground.textOnly Departure.lateStores }, { on := 5, ground := Ground.phase }, { on := 6, ground := Ground.phase }, { on := 7, ground := Ground.phase }, { on := 8, ground := Ground.phase }, { on := 9, ground := Ground.phase }], guard := none }, { dst := none, op := Op.store 25 (Operand.tmp 9) (Operand.tmp 30), type := 0, pos := "law.go:50", after := #[{ on := 6, ground := Ground.data }, { on := 1, ground := Ground.data }, { on := 10, ground := Ground.chain }, { on := 0, ground := Ground.phase }, { on := 1, ground := Ground.phase }, { on := 2, ground := Ground.textOnly Departure.lateStores }, { on := 3, ground := Ground.textOnly Departure.lateStores }, { on := 4, ground := Ground.textOnly Departure.lateStores }, { on := 5, ground := Ground.phase }, { on := 6, ground := Ground.phase }, { on := 7, ground := Ground.phase }, { on := 8, ground := Ground.phase }, { on := 9, ground := Ground.phase }, { on := 10, ground := Ground.phase }], guard := none }, { dst := none, op := Op.store 25 (Operand.tmp 10) (Operand.tmp 31), type := 0, pos := "law.go:50", after := #[{ on := 7, ground := Ground.data }, { on := 2, ground := Ground.data }, { on := 11, ground := Ground.chain }, { on := 0, ground := Ground.phase }, { on := 1, ground := Ground.phase }, { on := 2, ground := Ground.phase }, { on := 3, ground := Ground.textOnly Departure.lateStores }, { on := 4, ground := Ground.textOnly Departure.lateStores }, { on := 5, ground := Ground.phase }, { on := 6, ground := Ground.phase }, { on := 7, ground := Ground.phase }, { on := 8, ground := Ground.phase }, { on := 9, ground := Ground.phase }, { on := 10, ground := Ground.phase }, { on := 11, ground := Ground.phase }], guard := none }, { dst := none, op := Op.store 25 (Operand.tmp 11) (Operand.tmp 32), type := 0, pos := "law.go:50", after := #[{ on := 8, ground := Ground.data }, { on := 3, ground := Ground.data }, { on := 12, ground := Ground.chain }, { on := 0, ground := Ground.phase }, { on := 1, ground := Ground.phase }, { on := 2, ground := Ground.phase }, { on := 3, ground := Ground.phase }, { on := 4, ground := Ground.textOnly Departure.lateStores }, { on := 5, ground := Ground.phase }, { on := 6, ground := Ground.phase }, { on := 7, ground := Ground.phase }, { on := 8, ground := Ground.phase }, { on := 9, ground := Ground.phase }, { on := 10, ground := Ground.phase }, { on := 11, ground := Ground.phase }, { on := 12, ground := Ground.phase }], guard := none }, { dst := none, op := Op.store 25 (Operand.tmp 12) (Operand.tmp 33), type := 0, pos := "law.go:50", after := #[{ on := 9, ground := Ground.data }, { on := 4, ground := Ground.data }, { on := 13, ground := Ground.chain }, { on := 0, ground := Ground.phase }, { on := 1, ground := Ground.phase }, { on := 2, ground := Ground.phase }, { on := 3, ground := Ground.phase }, { on := 4, ground := Ground.phase }, { on := 5, ground := Ground.phase }, { on := 6, ground := Ground.phase }, { on := 7, ground := Ground.phase }, { on := 8, ground := Ground.phase }, { on := 9, ground := Ground.phase }, { on := 10, ground := Ground.phase }, { on := 11, ground := Ground.phase }, { on := 12, ground := Ground.phase }, { on := 13, ground := Ground.phase }], guard := none }]
def actU (x0 x1 x2 p3 x4 p7 x19 x20 x21 x22 x23 x24 x25 x26 x27 x28 r0 r1 r2 r3 r4 v8 v9 v10 v11 v12 : Value) : Act := { tmps := (x0 :: x1 :: x2 :: p3 :: x4 :: undef :: .bool false :: p7 :: v8 :: v9 :: v10 :: v11 :: v12 :: undef :: undef :: undef :: undef :: undef :: undef :: x19 :: x20 :: x21 :: x22 :: x23 :: x24 :: x25 :: x26 :: x27 :: x28 :: r0 :: r1 :: r2 :: r3 :: r4 :: undef :: undef :: undef :: undef :: undef :: undef :: undef :: undef :: undef :: undef :: undef :: undef :: undef :: undef :: undef :: undef :: undef :: undef :: undef :: undef :: undef :: undef :: undef :: undef :: undef :: undef :: undef :: undef :: undef :: undef :: undef :: undef :: undef :: undef :: undef :: undef :: undef :: undef :: undef :: undef :: undef :: undef :: undef :: undef :: undef :: undef :: undef :: undef :: undef :: undef :: []).toArray, defers := [] }
theorem tabU : ∀ b5 b6 b7 b8 b9 : Bool, (StU.mk b5 b6 b7 b8 b9).ok = true → (StU.mk b5 b6 b7 b8 b9).n ≠ 0 → Region.ready .any opsU (StU.mk b5 b6 b7 b8 b9).lst = (StU.mk b5 b6 b7 b8 b9).rd := by decide +kernel
def JU (o : A6) (x0 x1 x2 p3 x4 p7 x19 x20 x21 x22 x23 x24 x25 x26 x27 x28 : Value) (w0 : World) (t : StU) (a : Act) (w : World) : Prop :=
  t.ok = true ∧ Below w0.heap.size w0 w ∧ ∃ v8 v9 v10 v11 v12, ∃ B8 B9 B10 B11 B12 : Nat, a = actU x0 x1 x2 p3 x4 p7 x19 x20 x21 x22 x23 x24 x25 x26 x27 x28 (.agg #[.int .i64 o.k, .int .i64 o.n, .int .i64 o.m, .int .i64 o.c0, .int .i64 o.c1, .string ⟨o.t.toArray⟩]) (.agg #[.int .i64 o.k, .int .i64 o.n, .int .i64 o.m, .int .i64 o.c0, .int .i64 o.c1, .string ⟨o.t.toArray⟩]) (.agg #[.int .i64 o.k, .int .i64 o.n, .int .i64 o.m, .int .i64 o.c0, .int .i64 o.c1, .string ⟨o.t.toArray⟩]) (.agg #[.int .i64 o.k, .int .i64 o.n, .int .i64 o.m, .int .i64 o.c0, .int .i64 o.c1, .string ⟨o.t.toArray⟩]) (.agg #[.int .i64 o.k, .int .i64 o.n, .int .i64 o.m, .int .i64 o.c0, .int .i64 o.c1, .string ⟨o.t.toArray⟩]) v8 v9 v10 v11 v12 ∧
    (t.b5 = true → v8 = .pointer (some ⟨B8, 0, none⟩) ∧ w0.heap.size ≤ B8 ∧ Box w B8 z6) ∧ (t.b6 = true → v9 = .pointer (some ⟨B9, 0, none⟩) ∧ w0.heap.size ≤ B9 ∧ Box w B9 z6) ∧ (t.b7 = true → v10 = .pointer (some ⟨B10, 0, none⟩) ∧ w0.heap.size ≤ B10 ∧ Box w B10 z6) ∧ (t.b8 = true → v11 = .pointer (some ⟨B11, 0, none⟩) ∧ w0.heap.size ≤ B11 ∧ Box w B11 z6) ∧ (t.b9 = true → v12 = .pointer (some ⟨B12, 0, none⟩) ∧ w0.heap.size ≤ B12 ∧ Box w B12 z6) ∧ (t.b5 = true → t.b6 = true → B8 ≠ B9) ∧ (t.b5 = true → t.b7 = true → B8 ≠ B10) ∧ (t.b5 = true → t.b8 = true → B8 ≠ B11) ∧ (t.b5 = true → t.b9 = true → B8 ≠ B12) ∧ (t.b6 = true → t.b7 = true → B9 ≠ B10) ∧ (t.b6 = true → t.b8 = true → B9 ≠ B11) ∧ (t.b6 = true → t.b9 = true → B9 ≠ B12) ∧ (t.b7 = true → t.b8 = true → B10 ≠ B11) ∧ (t.b7 = true → t.b9 = true → B10 ≠ B12) ∧ (t.b8 = true → t.b9 = true → B11 ≠ B12)
theorem mayU {t : StU} {i : Nat} (h : i ∈ t.rd) : t.may i = true ∧ (i = 5 ∨ i = 6 ∨ i = 7 ∨ i = 8 ∨ i = 9) := by
  unfold StU.rd at h
  obtain ⟨h1, h2⟩ := List.mem_filter.1 h
  exact ⟨h2, by simpa using h1⟩
set_option maxRecDepth 100000 in
set_option maxHeartbeats 4000000 in
theorem stepU {Q : Exit → Act → World → Prop} (o : A6) (x0 x1 x2 p3 x4 p7 x19 x20 x21 x22 x23 x24 x25 x26 x27 x28 : Value) (w0 : World) (P : Nat) (e7 : p7 = .pointer (some ⟨P, 0, none⟩))
    (t : StU) (a : Act) (w : World) (i : Nat) (hJ : JU o x0 x1 x2 p3 x4 p7 x19 x20 x21 x22 x23 x24 x25 x26 x27 x28 w0 t a w) (hi : i ∈ t.rd) : wpOp Tryz.prog opsU Q i (fun a' w' => JU o x0 x1 x2 p3 x4 p7 x19 x20 x21 x22 x23 x24 x25 x26 x27 x28 w0 (t.nx i) a' w') a w := by
  have hok := (StU.steps t.b5 t.b6 t.b7 t.b8 t.b9 hJ.1 i hi).2.2
  obtain ⟨hm, hcc⟩ := mayU hi
  clear hi
  obtain ⟨ho, hW, v8, v9, v10, v11, v12, B8, B9, B10, B11, B12, rfl, k5, k6, k7, k8, k9, n5_6, n5_7, n5_8, n5_9, n6_7, n6_8, n6_9, n7_8, n7_9, n8_9⟩ := hJ
  subst e7
  have HW := Lib.hid hW
  have HO := Lib.hid hok
  clear hW ho hok
  have K5 := Lib.hid k5
  clear k5
  have K6 := Lib.hid k6
  clear k6
  have K7 := Lib.hid k7
  clear k7
  have K8 := Lib.hid k8
  clear k8
  have K9 := Lib.hid k9
  clear k9
  have N5_6 := Lib.hid n5_6
  clear n5_6
  have N5_7 := Lib.hid n5_7
  clear n5_7
  have N5_8 := Lib.hid n5_8
  clear n5_8
  have N5_9 := Lib.hid n5_9
  clear n5_9
  have N6_7 := Lib.hid n6_7
  clear n6_7
  have N6_8 := Lib.hid n6_8
  clear n6_8
  have N6_9 := Lib.hid n6_9
  clear n6_9
  have N7_8 := Lib.hid n7_8
  clear n7_8
  have N7_9 := Lib.hid n7_9
  clear n7_9
  have N8_9 := Lib.hid n8_9
  clear n8_9
  rcases hcc with rfl | rfl | rfl | rfl | rfl
  · have HM := Lib.hid (show t.b5 = false by simpa [StU.may, and_assoc] using hm)
    clear hm
    refine wpOp_step (o := { dst := some 8, op := Op.alloc 25, type := 0, pos := "law.go:50", after := #[], guard := none }) rfl (fun K hK => ?_)
    have HK := Lib.hid hK
    clear hK
    unfold actU
    go_simp
    exact HK.out _ _ ⟨HO.out, HW.out.alloc HW.out.size _, _, v9, v10, v11, v12, w.heap.size, B9, B10, B11, B12, rfl, fun _ => ⟨rfl, HW.out.size, bz_new w⟩, fun h => ⟨(K6.out h).1, (K6.out h).2.1, (K6.out h).2.2.alloc _⟩, fun h => ⟨(K7.out h).1, (K7.out h).2.1, (K7.out h).2.2.alloc _⟩, fun h => ⟨(K8.out h).1, (K8.out h).2.1, (K8.out h).2.2.alloc _⟩, fun h => ⟨(K9.out h).1, (K9.out h).2.1, (K9.out h).2.2.alloc _⟩, fun _ h => fun e => by have := (K6.out h).2.2.1; omega, fun _ h => fun e => by have := (K7.out h).2.2.1; omega, fun _ h => fun e => by have := (K8.out h).2.2.1; omega, fun _ h => fun e => by have := (K9.out h).2.2.1; omega, N6_7.out, N6_8.out, N6_9.out, N7_8.out, N7_9.out, N8_9.out⟩
  · have HM := Lib.hid (show t.b6 = false by simpa [StU.may, and_assoc] using hm)
    clear hm
    refine wpOp_step (o := { dst := some 9, op := Op.alloc 25, type := 0, pos := "law.go:50", after := #[], guard := none }) rfl (fun K hK => ?_)
    have HK := Lib.hid hK
    clear hK
    unfold actU
    go_simp
    exact HK.out _ _ ⟨HO.out, HW.out.alloc HW.out.size _, v8, _, v10, v11, v12, B8, w.heap.size, B10, B11, B12, rfl, fun h => ⟨(K5.out h).1, (K5.out h).2.1, (K5.out h).2.2.alloc _⟩, fun _ => ⟨rfl, HW.out.size, bz_new w⟩, fun h => ⟨(K7.out h).1, (K7.out h).2.1, (K7.out h).2.2.alloc _⟩, fun h => ⟨(K8.out h).1, (K8.out h).2.1, (K8.out h).2.2.alloc _⟩, fun h => ⟨(K9.out h).1, (K9.out h).2.1, (K9.out h).2.2.alloc _⟩, fun h _ => fun e => by have := (K5.out h).2.2.1; omega, N5_7.out, N5_8.out, N5_9.out, fun _ h => fun e => by have := (K7.out h).2.2.1; omega, fun _ h => fun e => by have := (K8.out h).2.2.1; omega, fun _ h => fun e => by have := (K9.out h).2.2.1; omega, N7_8.out, N7_9.out, N8_9.out⟩
  · have HM := Lib.hid (show t.b7 = false by simpa [StU.may, and_assoc] using hm)
    clear hm
    refine wpOp_step (o := { dst := some 10, op := Op.alloc 25, type := 0, pos := "law.go:50", after := #[], guard := none }) rfl (fun K hK => ?_)
    have HK := Lib.hid hK
    clear hK
    unfold actU
    go_simp
    exact HK.out _ _ ⟨HO.out, HW.out.alloc HW.out.size _, v8, v9, _, v11, v12, B8, B9, w.heap.size, B11, B12, rfl, fun h => ⟨(K5.out h).1, (K5.out h).2.1, (K5.out h).2.2.alloc _⟩, fun h => ⟨(K6.out h).1, (K6.out h).2.1, (K6.out h).2.2.alloc _⟩, fun _ => ⟨rfl, HW.out.size, bz_new w⟩, fun h => ⟨(K8.out h).1, (K8.out h).2.1, (K8.out h).2.2.alloc _⟩, fun h => ⟨(K9.out h).1, (K9.out h).2.1, (K9.out h).2.2.alloc _⟩, N5_6.out, fun h _ => fun e => by have := (K5.out h).2.2.1; omega, N5_8.out, N5_9.out, fun h _ => fun e => by have := (K6.out h).2.2.1; omega, N6_8.out, N6_9.out, fun _ h => fun e => by have := (K8.out h).2.2.1; omega, fun _ h => fun e => by have := (K9.out h).2.2.1; omega, N8_9.out⟩
  · have HM := Lib.hid (show t.b8 = false by simpa [StU.may, and_assoc] using hm)
    clear hm
    refine wpOp_step (o := { dst := some 11, op := Op.alloc 25, type := 0, pos := "law.go:50", after := #[], guard := none }) rfl (fun K hK => ?_)
    have HK := Lib.hid hK
    clear hK
    unfold actU
    go_simp
    exact HK.out _ _ ⟨HO.out, HW.out.alloc HW.out.size _, v8, v9, v10, _, v12, B8, B9, B10, w.heap.size, B12, rfl, fun h => ⟨(K5.out h).1, (K5.out h).2.1, (K5.out h).2.2.alloc _⟩, fun h => ⟨(K6.out h).1, (K6.out h).2.1, (K6.out h).2.2.alloc _⟩, fun h => ⟨(K7.out h).1, (K7.out h).2.1, (K7.out h).2.2.alloc _⟩, fun _ => ⟨rfl, HW.out.size, bz_new w⟩, fun h => ⟨(K9.out h).1, (K9.out h).2.1, (K9.out h).2.2.alloc _⟩, N5_6.out, N5_7.out, fun h _ => fun e => by have := (K5.out h).2.2.1; omega, N5_9.out, N6_7.out, fun h _ => fun e => by have := (K6.out h).2.2.1; omega, N6_9.out, fun h _ => fun e => by have := (K7.out h).2.2.1; omega, N7_9.out, fun _ h => fun e => by have := (K9.out h).2.2.1; omega⟩
  · have HM := Lib.hid (show t.b9 = false by simpa [StU.may, and_assoc] using hm)
    clear hm
    refine wpOp_step (o := { dst := some 12, op := Op.alloc 25, type := 0, pos := "law.go:50", after := #[], guard := none }) rfl (fun K hK => ?_)
    have HK := Lib.hid hK
    clear hK
    unfold actU
    go_simp
    exact HK.out _ _ ⟨HO.out, HW.out.alloc HW.out.size _, v8, v9, v10, v11, _, B8, B9, B10, B11, w.heap.size, rfl, fun h => ⟨(K5.out h).1, (K5.out h).2.1, (K5.out h).2.2.alloc _⟩, fun h => ⟨(K6.out h).1, (K6.out h).2.1, (K6.out h).2.2.alloc _⟩, fun h => ⟨(K7.out h).1, (K7.out h).2.1, (K7.out h).2.2.alloc _⟩, fun h => ⟨(K8.out h).1, (K8.out h).2.1, (K8.out h).2.2.alloc _⟩, fun _ => ⟨rfl, HW.out.size, bz_new w⟩, N5_6.out, N5_7.out, N5_8.out, fun h _ => fun e => by have := (K5.out h).2.2.1; omega, N6_7.out, N6_8.out, fun h _ => fun e => by have := (K6.out h).2.2.1; omega, N7_8.out, fun h _ => fun e => by have := (K7.out h).2.2.1; omega, fun h _ => fun e => by have := (K8.out h).2.2.1; omega⟩
def EndU (Q : Exit → Act → World → Prop) (o : A6) (x0 x1 x2 p3 x4 p7 x19 x20 x21 x22 x23 x24 x25 x26 x27 x28 : Value) (w : World) : Prop :=
  ∀ (B8 B9 B10 B11 B12 : Nat) (w' : World), Below w.heap.size w w' → w.heap.size ≤ B8 → w.heap.size ≤ B9 → w.heap.size ≤ B10 → w.heap.size ≤ B11 → w.heap.size ≤ B12 → B8 ≠ B9 → B8 ≠ B10 → B8 ≠ B11 → B8 ≠ B12 → B9 ≠ B10 → B9 ≠ B11 → B9 ≠ B12 → B10 ≠ B11 → B10 ≠ B12 → B11 ≠ B12 → Box w' B8 (c6 o.k o.n o.m o.c0 o.c1 o.t) → Box w' B9 (c6 o.k o.n o.m o.c0 o.c1 o.t) → Box w' B10 (c6 o.k o.n o.m o.c0 o.c1 o.t) → Box w' B11 (c6 o.k o.n o.m o.c0 o.c1 o.t) → Box w' B12 (c6 o.k o.n o.m o.c0 o.c1 o.t) → Q .normal (actU x0 x1 x2 p3 x4 p7 x19 x20 x21 x22 x23 x24 x25 x26 x27 x28 (.agg #[.int .i64 o.k, .int .i64 o.n, .int .i64 o.m, .int .i64 o.c0, .int .i64 o.c1, .string ⟨o.t.toArray⟩]) (.agg #[.int .i64 o.k, .int .i64 o.n, .int .i64 o.m, .int .i64 o.c0, .int .i64 o.c1, .string ⟨o.t.toArray⟩]) (.agg #[.int .i64 o.k, .int .i64 o.n, .int .i64 o.m, .int .i64 o.c0, .int .i64 o.c1, .string ⟨o.t.toArray⟩]) (.agg #[.int .i64 o.k, .int .i64 o.n, .int .i64 o.m, .int .i64 o.c0, .int .i64 o.c1, .string ⟨o.t.toArray⟩]) (.agg #[.int .i64 o.k, .int .i64 o.n, .int .i64 o.m, .int .i64 o.c0, .int .i64 o.c1, .string ⟨o.t.toArray⟩]) (.pointer (some ⟨B8, 0, none⟩)) (.pointer (some ⟨B9, 0, none⟩)) (.pointer (some ⟨B10, 0, none⟩)) (.pointer (some ⟨B11, 0, none⟩)) (.pointer (some ⟨B12, 0, none⟩))) w'
theorem zeroU (t : StU) (h : t.n = 0) : t.b5 = true ∧ t.b6 = true ∧ t.b7 = true ∧ t.b8 = true ∧ t.b9 = true := by
  obtain ⟨b5, b6, b7, b8, b9⟩ := t
  simp only [StU.n, bn] at h
  cases b5 <;> cases b6 <;> cases b7 <;> cases b8 <;> cases b9 <;> simp at h ⊢
set_option maxRecDepth 100000 in
set_option maxHeartbeats 8000000 in
theorem regionU {Q : Exit → Act → World → Prop} (o : A6) (x0 x1 x2 p3 x4 p7 x19 x20 x21 x22 x23 x24 x25 x26 x27 x28 : Value) (w : World) (P : Nat) (e7 : p7 = .pointer (some ⟨P, 0, none⟩)) (hP : Box w P (c6 o.k o.n o.m o.c0 o.c1 o.t)) (hQp : ∀ c (a : Act) (s : Nat) v W, Q (.panic c) (a.put (some s) v) W → Q (.panic c) a W) (hQ : Hid (EndU Q o x0 x1 x2 p3 x4 p7 x19 x20 x21 x22 x23 x24 x25 x26 x27 x28 w)) :
    (Code.region 3 opsU true).wp Tryz.prog Q (actU x0 x1 x2 p3 x4 p7 x19 x20 x21 x22 x23 x24 x25 x26 x27 x28 undef undef undef undef undef undef undef undef undef undef) w := by
  subst e7
  refine wp_region_held_drew (S := fun W => Below w.heap.size w W) (by kernel_rfl) ((Below.refl _ w).drew) (fun _ => ?_)
  refine wpAnyH_take (i := 0) (oi := { dst := some 29, op := Op.load 25 (Operand.tmp 7), type := 25, pos := "law.go:50", after := #[], guard := none }) (v := .agg #[.int .i64 o.k, .int .i64 o.n, .int .i64 o.m, .int .i64 o.c0, .int .i64 o.c1, .string ⟨o.t.toArray⟩]) rfl (by kernel_rfl) (by kernel_rfl) (by kernel_rfl) (fun c a w => hQp c a _ _ w) (.inl ⟨by rfl, fun W hW => ?_⟩) ((Below.refl _ w).drew) ?_
  · obtain ⟨z0, z1, z2, z3, z4, z5⟩ := box6 (hP.below hW hP.1)
    unfold actU
    go_simp
  refine wpAnyH_take (i := 1) (oi := { dst := some 30, op := Op.load 25 (Operand.tmp 7), type := 25, pos := "law.go:50", after := #[{ on := 10, ground := Ground.gcOnly Departure.lateStores }], guard := none }) (v := .agg #[.int .i64 o.k, .int .i64 o.n, .int .i64 o.m, .int .i64 o.c0, .int .i64 o.c1, .string ⟨o.t.toArray⟩]) rfl (by kernel_rfl) (by kernel_rfl) (by kernel_rfl) (fun c a w => hQp c a _ _ w) (.inl ⟨by rfl, fun W hW => ?_⟩) ((Below.refl _ w).drew) ?_
  · obtain ⟨z0, z1, z2, z3, z4, z5⟩ := box6 (hP.below hW hP.1)
    unfold actU
    go_simp
  refine wpAnyH_take (i := 2) (oi := { dst := some 31, op := Op.load 25 (Operand.tmp 7), type := 25, pos := "law.go:50", after := #[{ on := 11, ground := Ground.gcOnly Departure.lateStores }], guard := none }) (v := .agg #[.int .i64 o.k, .int .i64 o.n, .int .i64 o.m, .int .i64 o.c0, .int .i64 o.c1, .string ⟨o.t.toArray⟩]) rfl (by kernel_rfl) (by kernel_rfl) (by kernel_rfl) (fun c a w => hQp c a _ _ w) (.inl ⟨by rfl, fun W hW => ?_⟩) ((Below.refl _ w).drew) ?_
  · obtain ⟨z0, z1, z2, z3, z4, z5⟩ := box6 (hP.below hW hP.1)
    unfold actU
    go_simp
  refine wpAnyH_take (i := 3) (oi := { dst := some 32, op := Op.load 25 (Operand.tmp 7), type := 25, pos := "law.go:50", after := #[{ on := 12, ground := Ground.gcOnly Departure.lateStores }], guard := none }) (v := .agg #[.int .i64 o.k, .int .i64 o.n, .int .i64 o.m, .int .i64 o.c0, .int .i64 o.c1, .string ⟨o.t.toArray⟩]) rfl (by kernel_rfl) (by kernel_rfl) (by kernel_rfl) (fun c a w => hQp c a _ _ w) (.inl ⟨by rfl, fun W hW => ?_⟩) ((Below.refl _ w).drew) ?_
  · obtain ⟨z0, z1, z2, z3, z4, z5⟩ := box6 (hP.below hW hP.1)
    unfold actU
    go_simp
  refine wpAnyH_take (i := 4) (oi := { dst := some 33, op := Op.load 25 (Operand.tmp 7), type := 25, pos := "law.go:50", after := #[{ on := 13, ground := Ground.gcOnly Departure.lateStores }], guard := none }) (v := .agg #[.int .i64 o.k, .int .i64 o.n, .int .i64 o.m, .int .i64 o.c0, .int .i64 o.c1, .string ⟨o.t.toArray⟩]) rfl (by kernel_rfl) (by kernel_rfl) (by kernel_rfl) (fun c a w => hQp c a _ _ w) (.inl ⟨by rfl, fun W hW => ?_⟩) ((Below.refl _ w).drew) ?_
  · obtain ⟨z0, z1, z2, z3, z4, z5⟩ := box6 (hP.below hW hP.1)
    unfold actU
    go_simp
  refine permU 5 (JU o x0 x1 x2 p3 x4 _ x19 x20 x21 x22 x23 x24 x25 x26 x27 x28 w) (fun _ _ _ h => h.1) (fun _ _ _ h => h.2.1) tabU (fun t a w' i hJ hi => stepU o x0 x1 x2 p3 x4 _ x19 x20 x21 x22 x23 x24 x25 x26 x27 x28 w P rfl t a w' i hJ hi) ?_ 5 ⟨false, false, false, false, false⟩ _ w.drew rfl ?_
  · intro t a wz hJ hn
    obtain ⟨tb5, tb6, tb7, tb8, tb9⟩ := zeroU t hn
    obtain ⟨_, hW, v8, v9, v10, v11, v12, B8, B9, B10, B11, B12, rfl, k5, k6, k7, k8, k9, n5_6, n5_7, n5_8, n5_9, n6_7, n6_8, n6_9, n7_8, n7_9, n8_9⟩ := hJ
    obtain ⟨rfl, gB8, hB8⟩ := k5 tb5
    obtain ⟨rfl, gB9, hB9⟩ := k6 tb6
    obtain ⟨rfl, gB10, hB10⟩ := k7 tb7
    obtain ⟨rfl, gB11, hB11⟩ := k8 tb8
    obtain ⟨rfl, gB12, hB12⟩ := k9 tb9
    have hl : t.lst = #[true, true, true, true, true, true, true, true, true, true, false, false, false, false, false] := by
      unfold StU.lst
      rw [tb5, tb6, tb7, tb8, tb9]
    rw [hl]
    have ne5_6 := n5_6 tb5 tb6
    have ne5_7 := n5_7 tb5 tb7
    have ne5_8 := n5_8 tb5 tb8
    have ne5_9 := n5_9 tb5 tb9
    have ne6_7 := n6_7 tb6 tb7
    have ne6_8 := n6_8 tb6 tb8
    have ne6_9 := n6_9 tb6 tb9
    have ne7_8 := n7_8 tb7 tb8
    have ne7_9 := n7_9 tb7 tb9
    have ne8_9 := n8_9 tb8 tb9
    have HW := Lib.hid hW
    have HB8 := Lib.hid hB8
    have HB9 := Lib.hid hB9
    have HB10 := Lib.hid hB10
    have HB11 := Lib.hid hB11
    have HB12 := Lib.hid hB12
    clear hW hB8 hB9 hB10 hB11 hB12 k5 k6 k7 k8 k9 n5_6 n5_7 n5_8 n5_9 n6_7 n6_8 n6_9 n7_8 n7_9 n8_9
    refine wpAnyH_ready (rs := [10]) (by kernel_rfl) (by simp) ?_
    refine AllReadyH.cons (o := { dst := none, op := Op.store 25 (Operand.tmp 8) (Operand.tmp 29), type := 0, pos := "law.go:50", after := #[{ on := 5, ground := Ground.data }, { on := 0, ground := Ground.data }, { on := 0, ground := Ground.phase }, { on := 1, ground := Ground.textOnly Departure.lateStores }, { on := 2, ground := Ground.textOnly Departure.lateStores }, { on := 3, ground := Ground.textOnly Departure.lateStores }, { on := 4, ground := Ground.textOnly Departure.lateStores }, { on := 5, ground := Ground.phase }, { on := 6, ground := Ground.phase }, { on := 7, ground := Ground.phase }, { on := 8, ground := Ground.phase }, { on := 9, ground := Ground.phase }], guard := none }) rfl (fun K hK => ?_) AllReadyH.nil
    have HK := Lib.hid hK
    clear hK
    obtain ⟨⟨x0, x1, x2, x3, x4, x5⟩, f0, f1, f2, f3, f4, f5⟩ := boxz HB8.out
    unfold actU
    go_simp
    have HW0 := Lib.hid (below_set6 HW.out gB8 o)
    refine HK.out _ _ HW0.out (fun _ => ?_)
    clear HK K x0 x1 x2 x3 x4 x5 f0 f1 f2 f3 f4 f5
    have HW := HW0
    clear HW0
    have HB8 := Lib.hid (box_set6 HB8.out o)
    have HB9 := Lib.hid (box_off6 HB9.out ne5_6 o)
    have HB10 := Lib.hid (box_off6 HB10.out ne5_7 o)
    have HB11 := Lib.hid (box_off6 HB11.out ne5_8 o)
    have HB12 := Lib.hid (box_off6 HB12.out ne5_9 o)
    change wpAnyH _ _ _ _ _ _ _ _ (set6 wz B8 o)
    generalize set6 wz B8 o = wy0 at HW HB8 HB9 HB10 HB11 HB12 ⊢
    refine wpAnyH_ready (rs := [11]) (by kernel_rfl) (by simp) ?_
    refine AllReadyH.cons (o := { dst := none, op := Op.store 25 (Operand.tmp 9) (Operand.tmp 30), type := 0, pos := "law.go:50", after := #[{ on := 6, ground := Ground.data }, { on := 1, ground := Ground.data }, { on := 10, ground := Ground.chain }, { on := 0, ground := Ground.phase }, { on := 1, ground := Ground.phase }, { on := 2, ground := Ground.textOnly Departure.lateStores }, { on := 3, ground := Ground.textOnly Departure.lateStores }, { on := 4, ground := Ground.textOnly Departure.lateStores }, { on := 5, ground := Ground.phase }, { on := 6, ground := Ground.phase }, { on := 7, ground := Ground.phase }, { on := 8, ground := Ground.phase }, { on := 9, ground := Ground.phase }, { on := 10, ground := Ground.phase }], guard := none }) rfl (fun K hK => ?_) AllReadyH.nil
    have HK := Lib.hid hK
    clear hK
    obtain ⟨⟨x0, x1, x2, x3, x4, x5⟩, f0, f1, f2, f3, f4, f5⟩ := boxz HB9.out
    go_simp
    have HW1 := Lib.hid (below_set6 HW.out gB9 o)
    refine HK.out _ _ HW1.out (fun _ => ?_)
    clear HK K x0 x1 x2 x3 x4 x5 f0 f1 f2 f3 f4 f5
    have HW := HW1
    clear HW1
    have HB9 := Lib.hid (box_set6 HB9.out o)
    have HB8 := Lib.hid (box_off6 HB8.out (Ne.symm ne5_6) o)
    have HB10 := Lib.hid (box_off6 HB10.out ne6_7 o)
    have HB11 := Lib.hid (box_off6 HB11.out ne6_8 o)
    have HB12 := Lib.hid (box_off6 HB12.out ne6_9 o)
    change wpAnyH _ _ _ _ _ _ _ _ (set6 wy0 B9 o)
    generalize set6 wy0 B9 o = wy1 at HW HB8 HB9 HB10 HB11 HB12 ⊢
    refine wpAnyH_ready (rs := [12]) (by kernel_rfl) (by simp) ?_
    refine AllReadyH.cons (o := { dst := none, op := Op.store 25 (Operand.tmp 10) (Operand.tmp 31), type := 0, pos := "law.go:50", after := #[{ on := 7, ground := Ground.data }, { on := 2, ground := Ground.data }, { on := 11, ground := Ground.chain }, { on := 0, ground := Ground.phase }, { on := 1, ground := Ground.phase }, { on := 2, ground := Ground.phase }, { on := 3, ground := Ground.textOnly Departure.lateStores }, { on := 4, ground := Ground.textOnly Departure.lateStores }, { on := 5, ground := Ground.phase }, { on := 6, ground := Ground.phase }, { on := 7, ground := Ground.phase }, { on := 8, ground := Ground.phase }, { on := 9, ground := Ground.phase }, { on := 10, ground := Ground.phase }, { on := 11, ground := Ground.phase }], guard := none }) rfl (fun K hK => ?_) AllReadyH.nil
    have HK := Lib.hid hK
    clear hK
    obtain ⟨⟨x0, x1, x2, x3, x4, x5⟩, f0, f1, f2, f3, f4, f5⟩ := boxz HB10.out
    go_simp
    have HW2 := Lib.hid (below_set6 HW.out gB10 o)
    refine HK.out _ _ HW2.out (fun _ => ?_)
    clear HK K x0 x1 x2 x3 x4 x5 f0 f1 f2 f3 f4 f5
    have HW := HW2
    clear HW2
    have HB10 := Lib.hid (box_set6 HB10.out o)
    have HB8 := Lib.hid (box_off6 HB8.out (Ne.symm ne5_7) o)
    have HB9 := Lib.hid (box_off6 HB9.out (Ne.symm ne6_7) o)
    have HB11 := Lib.hid (box_off6 HB11.out ne7_8 o)
    have HB12 := Lib.hid (box_off6 HB12.out ne7_9 o)
    change wpAnyH _ _ _ _ _ _ _ _ (set6 wy1 B10 o)
    generalize set6 wy1 B10 o = wy2 at HW HB8 HB9 HB10 HB11 HB12 ⊢
    refine wpAnyH_ready (rs := [13]) (by kernel_rfl) (by simp) ?_
    refine AllReadyH.cons (o := { dst := none, op := Op.store 25 (Operand.tmp 11) (Operand.tmp 32), type := 0, pos := "law.go:50", after := #[{ on := 8, ground := Ground.data }, { on := 3, ground := Ground.data }, { on := 12, ground := Ground.chain }, { on := 0, ground := Ground.phase }, { on := 1, ground := Ground.phase }, { on := 2, ground := Ground.phase }, { on := 3, ground := Ground.phase }, { on := 4, ground := Ground.textOnly Departure.lateStores }, { on := 5, ground := Ground.phase }, { on := 6, ground := Ground.phase }, { on := 7, ground := Ground.phase }, { on := 8, ground := Ground.phase }, { on := 9, ground := Ground.phase }, { on := 10, ground := Ground.phase }, { on := 11, ground := Ground.phase }, { on := 12, ground := Ground.phase }], guard := none }) rfl (fun K hK => ?_) AllReadyH.nil
    have HK := Lib.hid hK
    clear hK
    obtain ⟨⟨x0, x1, x2, x3, x4, x5⟩, f0, f1, f2, f3, f4, f5⟩ := boxz HB11.out
    go_simp
    have HW3 := Lib.hid (below_set6 HW.out gB11 o)
    refine HK.out _ _ HW3.out (fun _ => ?_)
    clear HK K x0 x1 x2 x3 x4 x5 f0 f1 f2 f3 f4 f5
    have HW := HW3
    clear HW3
    have HB11 := Lib.hid (box_set6 HB11.out o)
    have HB8 := Lib.hid (box_off6 HB8.out (Ne.symm ne5_8) o)
    have HB9 := Lib.hid (box_off6 HB9.out (Ne.symm ne6_8) o)
    have HB10 := Lib.hid (box_off6 HB10.out (Ne.symm ne7_8) o)
    have HB12 := Lib.hid (box_off6 HB12.out ne8_9 o)
    change wpAnyH _ _ _ _ _ _ _ _ (set6 wy2 B11 o)
    generalize set6 wy2 B11 o = wy3 at HW HB8 HB9 HB10 HB11 HB12 ⊢
    refine wpAnyH_ready (rs := [14]) (by kernel_rfl) (by simp) ?_
    refine AllReadyH.cons (o := { dst := none, op := Op.store 25 (Operand.tmp 12) (Operand.tmp 33), type := 0, pos := "law.go:50", after := #[{ on := 9, ground := Ground.data }, { on := 4, ground := Ground.data }, { on := 13, ground := Ground.chain }, { on := 0, ground := Ground.phase }, { on := 1, ground := Ground.phase }, { on := 2, ground := Ground.phase }, { on := 3, ground := Ground.phase }, { on := 4, ground := Ground.phase }, { on := 5, ground := Ground.phase }, { on := 6, ground := Ground.phase }, { on := 7, ground := Ground.phase }, { on := 8, ground := Ground.phase }, { on := 9, ground := Ground.phase }, { on := 10, ground := Ground.phase }, { on := 11, ground := Ground.phase }, { on := 12, ground := Ground.phase }, { on := 13, ground := Ground.phase }], guard := none }) rfl (fun K hK => ?_) AllReadyH.nil
    have HK := Lib.hid hK
    clear hK
    obtain ⟨⟨x0, x1, x2, x3, x4, x5⟩, f0, f1, f2, f3, f4, f5⟩ := boxz HB12.out
    go_simp
    have HW4 := Lib.hid (below_set6 HW.out gB12 o)
    refine HK.out _ _ HW4.out (fun _ => ?_)
    clear HK K x0 x1 x2 x3 x4 x5 f0 f1 f2 f3 f4 f5
    have HW := HW4
    clear HW4
    have HB12 := Lib.hid (box_set6 HB12.out o)
    have HB8 := Lib.hid (box_off6 HB8.out (Ne.symm ne5_9) o)
    have HB9 := Lib.hid (box_off6 HB9.out (Ne.symm ne6_9) o)
    have HB10 := Lib.hid (box_off6 HB10.out (Ne.symm ne7_9) o)
    have HB11 := Lib.hid (box_off6 HB11.out (Ne.symm ne8_9) o)
    change wpAnyH _ _ _ _ _ _ _ _ (set6 wy3 B12 o)
    generalize set6 wy3 B12 o = wy4 at HW HB8 HB9 HB10 HB11 HB12 ⊢
    refine wpAnyH_done (by kernel_rfl) ?_ _
    exact hQ.out B8 B9 B10 B11 B12 _ HW.out gB8 gB9 gB10 gB11 gB12 ne5_6 ne5_7 ne5_8 ne5_9 ne6_7 ne6_8 ne6_9 ne7_8 ne7_9 ne8_9 HB8.out HB9.out HB10.out HB11.out HB12.out
  · exact ⟨rfl, (Below.refl _ w).drew, _, _, _, _, _, 0, 0, 0, 0, 0, rfl, (fun h => Bool.noConfusion h), (fun h => Bool.noConfusion h), (fun h => Bool.noConfusion h), (fun h => Bool.noConfusion h), (fun h => Bool.noConfusion h), (fun h => Bool.noConfusion h), (fun h => Bool.noConfusion h), (fun h => Bool.noConfusion h), (fun h => Bool.noConfusion h), (fun h => Bool.noConfusion h), (fun h => Bool.noConfusion h), (fun h => Bool.noConfusion h), (fun h => Bool.noConfusion h), (fun h => Bool.noConfusion h), (fun h => Bool.noConfusion h)⟩
end Go.Proofs.YtoilcigmpeaedaaGreatDoor.Osc
