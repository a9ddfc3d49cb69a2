/-
  The region of OscBack's body that calls Action twice and makes two blocks, in whatever order.
-/
import Derived.Test.YtoilcigmpeaedaaGreatDoorOscT
import Derived.Deep.RegionHeld
import Derived.Deep.RegionHeld3
namespace Go.Proofs.YtoilcigmpeaedaaGreatDoor.Osc
open Go.RowKit Utf Col
open B64 (Box)

def bn (b : Bool) : Nat := if b then 0 else 1
theorem box_off6 {w : World} {B C : Nat} {cs : List Value} (h : Box w C cs) (hne : B ≠ C) (a : A6) : Box (set6 w B a) C cs := by
  have hb : (set6 w B a).heap[C]? = w.heap[C]? := by
    unfold set6
    simp only [World.setCell, Array.getElem?_modify, if_neg hne]
  exact h.at (by rw [set6_size]; exact Nat.le_refl _) hb
structure StW where
  b1 : Bool
  b3 : Bool
  b4 : Bool
  b5 : Bool
def StW.lst (s : StW) : Array Bool := #[true, s.b1, true, s.b3, s.b4, s.b5, false, false]
def StW.ok (s : StW) : Bool := (!s.b3 || s.b1)
def StW.n (s : StW) : Nat := bn s.b1 + bn s.b3 + bn s.b4 + bn s.b5
def StW.may (s : StW) (i : Nat) : Bool :=
  if i = 1 then !s.b1 else if i = 3 then !s.b3 && s.b1 else if i = 4 then !s.b4 else if i = 5 then !s.b5 else false
def StW.rd (s : StW) : List Nat := [1, 3, 4, 5].filter s.may
def StW.nx (s : StW) (i : Nat) : StW :=
  if i = 1 then { s with b1 := true } else if i = 3 then { s with b3 := true } else if i = 4 then { s with b4 := true } else if i = 5 then { s with b5 := true } else s
theorem StW.steps : ∀ b1 b3 b4 b5 : Bool, (StW.mk b1 b3 b4 b5).ok = true → ∀ i ∈ (StW.mk b1 b3 b4 b5).rd, ((StW.mk b1 b3 b4 b5).nx i).lst = (StW.mk b1 b3 b4 b5).lst.setIfInBounds i true ∧ ((StW.mk b1 b3 b4 b5).nx i).n + 1 = (StW.mk b1 b3 b4 b5).n ∧ ((StW.mk b1 b3 b4 b5).nx i).ok = true := by decide +kernel
theorem StW.some_left : ∀ b1 b3 b4 b5 : Bool, (StW.mk b1 b3 b4 b5).ok = true → (StW.mk b1 b3 b4 b5).n ≠ 0 → (StW.mk b1 b3 b4 b5).rd ≠ [] := by decide +kernel
theorem permW {P : Program} {ops : Array Oper} {Q : Exit → Act → World → Prop} {S : World → Prop} (np : Nat) (J : StW → Act → World → Prop) (hok : ∀ s a w, J s a w → s.ok = true) (hS : ∀ s a w, J s a w → S w)
    (htab : ∀ b1 b3 b4 b5 : Bool, (StW.mk b1 b3 b4 b5).ok = true → (StW.mk b1 b3 b4 b5).n ≠ 0 → Region.ready .any ops (StW.mk b1 b3 b4 b5).lst = (StW.mk b1 b3 b4 b5).rd)
    (hstep : ∀ s a w i, J s a w → i ∈ s.rd → wpOp P ops Q i (fun a' w' => J (s.nx i) a' w') a w)
    (hend : ∀ s a w, J s a w → s.n = 0 → wpAnyH P .any ops Q S np s.lst a w) :
    ∀ m s a w, s.n = m → J s a w → wpAnyH P .any ops Q S (np + m) s.lst a w := by
  intro m
  induction m with
  | zero => intro s a w hn hJ; exact hend s a w hJ hn
  | succ m ih =>
    intro s a w hn hJ
    have ho := hok s a w hJ
    have hr := htab s.b1 s.b3 s.b4 s.b5 ho (by show s.n ≠ 0; omega)
    refine wpAnyH_all (rs := s.rd) hr (StW.some_left s.b1 s.b3 s.b4 s.b5 ho (by show s.n ≠ 0; omega)) fun i hi => ?_
    obtain ⟨h1, h2, _⟩ := StW.steps s.b1 s.b3 s.b4 s.b5 ho i hi
    refine wpOp_mono (fun a' w' h' => ⟨hS _ _ _ h', ?_⟩) (hstep s a w i hJ hi)
    have h1' : s.lst.setIfInBounds i true = (s.nx i).lst := h1.symm
    rw [h1']
    have h2' : (s.nx i).n + 1 = s.n := h2
    exact ih (s.nx i) a' w' (by omega) h'
def opsW : Array Oper := #[{ dst := some 14, op := Op.load 29 (Operand.tmp 2), type := 29, pos := "outright.go:52", after := #[], guard := none }, { dst := some 15, op := Op.call { callee := Callee.value (Operand.func 9), args := #[Operand.tmp 14], argTypes := #[29] }, type := 25, pos := "outright.go:52", after := #[{ on := 0, ground := Ground.data }], guard := none }, { dst := some 16, op := Op.load 29 (Operand.tmp 3), type := 29, pos := "outright.go:52", after := #[], guard := none }, { dst := some 17, op := Op.call { callee := Callee.value (Operand.func 9), args := #[Operand.tmp 16], argTypes := #[29] }, type := 25, pos := "outright.go:52", after := #[{ on := 2, ground := Ground.data }, { on := 1, ground := Ground.chain }], guard := none }, { dst := some 5, op := Op.alloc 25, type := 0, pos := "outright.go:52", after := #[], guard := none }, { dst := some 6, op := Op.alloc 25, type := 0, pos := "outright.go:52", after := #[], guard := none }, { dst := none, op := Op.store 25 (Operand.tmp 5) (Operand.tmp 15), type := 0, pos := "outright.go:52", after := #[{ on := 4, ground := Ground.data }, { on := 1, ground := Ground.data }, { on := 3, ground := Ground.chain }, { on := 0, ground := Ground.phase }, { on := 1, ground := Ground.phase }, { on := 2, ground := Ground.textOnly Departure.lateStores }, { on := 3, ground := Ground.textOnly Departure.lateStoresUnsure }, { on := 4, ground := Ground.phase }, { on := 5, ground := Ground.phase }], guard := none }, { dst := none, op := Op.store 25 (Operand.tmp 6) (Operand.tmp 17), type := 0, pos := "outright.go:52", after := #[{ on := 5, ground := Ground.data }, { on := 3, ground := Ground.data }, { on := 6, ground := Ground.chain }, { on := 0, ground := Ground.phase }, { on := 1, ground := Ground.phase }, { on := 2, ground := Ground.phase }, { on := 3, ground := Ground.phase }, { on := 4, ground := Ground.phase }, { on := 5, ground := Ground.phase }, { on := 6, ground := Ground.phase }], guard := none }]
def actW (x0 x1 p2 p3 x4 x12 x13 r0 r2 r15 r17 v5 v6 : Value) : Act := { tmps := (x0 :: x1 :: p2 :: p3 :: x4 :: v5 :: v6 :: undef :: undef :: undef :: undef :: undef :: x12 :: x13 :: r0 :: r15 :: r2 :: r17 :: undef :: undef :: undef :: undef :: undef :: undef :: undef :: undef :: undef :: undef :: undef :: undef :: undef :: undef :: undef :: undef :: undef :: undef :: undef :: undef :: undef :: undef :: undef :: undef :: undef :: undef :: undef :: undef :: undef :: undef :: undef :: undef :: undef :: undef :: undef :: undef :: undef :: undef :: undef :: undef :: undef :: undef :: undef :: undef :: undef :: undef :: undef :: undef :: undef :: undef :: undef :: undef :: undef :: undef :: undef :: undef :: []).toArray, defers := [] }
theorem tabW : ∀ b1 b3 b4 b5 : Bool, (StW.mk b1 b3 b4 b5).ok = true → (StW.mk b1 b3 b4 b5).n ≠ 0 → Region.ready .any opsW (StW.mk b1 b3 b4 b5).lst = (StW.mk b1 b3 b4 b5).rd := by decide +kernel
def JW (d : Dr) (e : Dr) (A : Option Addr) (B : Option Addr) (cA : Nat) (cB : Nat) (o : A6) (q : A6) (x0 x1 p2 p3 x4 x12 x13 : Value) (w0 : World) (t : StW) (a : Act) (w : World) : Prop :=
  t.ok = true ∧ Below w0.heap.size w0 w ∧ ∃ r15 r17 v5 v6, ∃ B5 B6 : Nat, a = actW x0 x1 p2 p3 x4 x12 x13 (.agg #[.int .u8 (d.wh : Int), .int .u8 (d.n : Int), .int .u32 (d.rgb : Int), .slice A d.zs.length cA, .string ⟨d.cl.toArray⟩]) (.agg #[.int .u8 (e.wh : Int), .int .u8 (e.n : Int), .int .u32 (e.rgb : Int), .slice B e.zs.length cB, .string ⟨e.cl.toArray⟩]) r15 r17 v5 v6 ∧
    (t.b1 = true → r15 = .agg #[.int .i64 o.k, .int .i64 o.n, .int .i64 o.m, .int .i64 o.c0, .int .i64 o.c1, .string ⟨o.t.toArray⟩]) ∧ (t.b3 = true → r17 = .agg #[.int .i64 q.k, .int .i64 q.n, .int .i64 q.m, .int .i64 q.c0, .int .i64 q.c1, .string ⟨q.t.toArray⟩]) ∧ (t.b4 = true → v5 = .pointer (some ⟨B5, 0, none⟩) ∧ w0.heap.size ≤ B5 ∧ Box w B5 z6) ∧ (t.b5 = true → v6 = .pointer (some ⟨B6, 0, none⟩) ∧ w0.heap.size ≤ B6 ∧ Box w B6 z6) ∧ (t.b4 = true → t.b5 = true → B5 ≠ B6)
theorem mayW {t : StW} {i : Nat} (h : i ∈ t.rd) : t.may i = true ∧ (i = 1 ∨ i = 3 ∨ i = 4 ∨ i = 5) := by
  unfold StW.rd at h
  obtain ⟨h1, h2⟩ := List.mem_filter.1 h
  exact ⟨h2, by simpa using h1⟩
set_option maxRecDepth 100000 in
set_option maxHeartbeats 4000000 in
theorem stepW {Q : Exit → Act → World → Prop} (d : Dr) (e : Dr) (A : Option Addr) (B : Option Addr) (cA : Nat) (cB : Nat) (o : A6) (q : A6) (x0 x1 p2 p3 x4 x12 x13 : Value) (w0 : World) (P : Nat) (R : Nat) (e2 : p2 = .pointer (some ⟨P, 0, none⟩)) (e3 : p3 = .pointer (some ⟨R, 0, none⟩)) (c1 : Hid (∀ W, Below w0.heap.size w0 W → Calls Tryz.prog 9 #[.agg #[.int .u8 (d.wh : Int), .int .u8 (d.n : Int), .int .u32 (d.rgb : Int), .slice A d.zs.length cA, .string ⟨d.cl.toArray⟩]] W fun z w' => z = .returned (.agg #[.int .i64 o.k, .int .i64 o.n, .int .i64 o.m, .int .i64 o.c0, .int .i64 o.c1, .string ⟨o.t.toArray⟩]) ∧ Below W.heap.size W w')) (c2 : Hid (∀ W, Below w0.heap.size w0 W → Calls Tryz.prog 9 #[.agg #[.int .u8 (e.wh : Int), .int .u8 (e.n : Int), .int .u32 (e.rgb : Int), .slice B e.zs.length cB, .string ⟨e.cl.toArray⟩]] W fun z w' => z = .returned (.agg #[.int .i64 q.k, .int .i64 q.n, .int .i64 q.m, .int .i64 q.c0, .int .i64 q.c1, .string ⟨q.t.toArray⟩]) ∧ Below W.heap.size W w'))
    (t : StW) (a : Act) (w : World) (i : Nat) (hJ : JW d e A B cA cB o q x0 x1 p2 p3 x4 x12 x13 w0 t a w) (hi : i ∈ t.rd) : wpOp Tryz.prog opsW Q i (fun a' w' => JW d e A B cA cB o q x0 x1 p2 p3 x4 x12 x13 w0 (t.nx i) a' w') a w := by
  have hok := (StW.steps t.b1 t.b3 t.b4 t.b5 hJ.1 i hi).2.2
  obtain ⟨hm, hcc⟩ := mayW hi
  clear hi
  obtain ⟨ho, hW, r15, r17, v5, v6, B5, B6, rfl, k1, k3, k4, k5, n4_5⟩ := hJ
  subst e2
  subst e3
  have HW := Lib.hid hW
  have HO := Lib.hid hok
  clear hW ho hok
  have K1 := Lib.hid k1
  clear k1
  have K3 := Lib.hid k3
  clear k3
  have K4 := Lib.hid k4
  clear k4
  have K5 := Lib.hid k5
  clear k5
  have N4_5 := Lib.hid n4_5
  clear n4_5
  rcases hcc with rfl | rfl | rfl | rfl
  · have HM := Lib.hid (show t.b1 = false by simpa [StW.may, and_assoc] using hm)
    clear hm
    refine wpOp_step (o := { dst := some 15, op := Op.call { callee := Callee.value (Operand.func 9), args := #[Operand.tmp 14], argTypes := #[29] }, type := 25, pos := "outright.go:52", after := #[{ on := 0, ground := Ground.data }], guard := none }) rfl (fun K hK => ?_)
    have HK := Lib.hid hK
    clear hK
    unfold actW
    go_simp
    refine (c1.out _ HW.out).mono ?_
    rintro e w' ⟨rfl, hb⟩
    go_wp2_with fail
    exact HK.out _ _ ⟨HO.out, HW.out.trans (hb.mono HW.out.size), _, r17, v5, v6, B5, B6, rfl, fun _ => rfl, K3.out, fun h => ⟨(K4.out h).1, (K4.out h).2.1, (K4.out h).2.2.keep hb⟩, fun h => ⟨(K5.out h).1, (K5.out h).2.1, (K5.out h).2.2.keep hb⟩, N4_5.out⟩
  · have HM := Lib.hid (show t.b3 = false ∧ t.b1 = true by simpa [StW.may, and_assoc] using hm)
    clear hm
    refine wpOp_step (o := { dst := some 17, op := Op.call { callee := Callee.value (Operand.func 9), args := #[Operand.tmp 16], argTypes := #[29] }, type := 25, pos := "outright.go:52", after := #[{ on := 2, ground := Ground.data }, { on := 1, ground := Ground.chain }], guard := none }) rfl (fun K hK => ?_)
    have HK := Lib.hid hK
    clear hK
    unfold actW
    go_simp
    refine (c2.out _ HW.out).mono ?_
    rintro e w' ⟨rfl, hb⟩
    go_wp2_with fail
    exact HK.out _ _ ⟨HO.out, HW.out.trans (hb.mono HW.out.size), r15, _, v5, v6, B5, B6, rfl, K1.out, fun _ => rfl, fun h => ⟨(K4.out h).1, (K4.out h).2.1, (K4.out h).2.2.keep hb⟩, fun h => ⟨(K5.out h).1, (K5.out h).2.1, (K5.out h).2.2.keep hb⟩, N4_5.out⟩
  · have HM := Lib.hid (show t.b4 = false by simpa [StW.may, and_assoc] using hm)
    clear hm
    refine wpOp_step (o := { dst := some 5, op := Op.alloc 25, type := 0, pos := "outright.go:52", after := #[], guard := none }) rfl (fun K hK => ?_)
    have HK := Lib.hid hK
    clear hK
    unfold actW
    go_simp
    exact HK.out _ _ ⟨HO.out, HW.out.alloc HW.out.size _, r15, r17, _, v6, w.heap.size, B6, rfl, K1.out, K3.out, fun _ => ⟨rfl, HW.out.size, bz_new w⟩, fun h => ⟨(K5.out h).1, (K5.out h).2.1, (K5.out h).2.2.alloc _⟩, fun _ h => fun e => by have := (K5.out h).2.2.1; omega⟩
  · have HM := Lib.hid (show t.b5 = false by simpa [StW.may, and_assoc] using hm)
    clear hm
    refine wpOp_step (o := { dst := some 6, op := Op.alloc 25, type := 0, pos := "outright.go:52", after := #[], guard := none }) rfl (fun K hK => ?_)
    have HK := Lib.hid hK
    clear hK
    unfold actW
    go_simp
    exact HK.out _ _ ⟨HO.out, HW.out.alloc HW.out.size _, r15, r17, v5, _, B5, w.heap.size, rfl, K1.out, K3.out, fun h => ⟨(K4.out h).1, (K4.out h).2.1, (K4.out h).2.2.alloc _⟩, fun _ => ⟨rfl, HW.out.size, bz_new w⟩, fun h _ => fun e => by have := (K4.out h).2.2.1; omega⟩
def EndW (Q : Exit → Act → World → Prop) (d : Dr) (e : Dr) (A : Option Addr) (B : Option Addr) (cA : Nat) (cB : Nat) (o : A6) (q : A6) (x0 x1 p2 p3 x4 x12 x13 : Value) (w : World) : Prop :=
  ∀ (B5 B6 : Nat) (w' : World), Below w.heap.size w w' → w.heap.size ≤ B5 → w.heap.size ≤ B6 → B5 ≠ B6 → Box w' B5 (c6 o.k o.n o.m o.c0 o.c1 o.t) → Box w' B6 (c6 q.k q.n q.m q.c0 q.c1 q.t) → Q .normal (actW x0 x1 p2 p3 x4 x12 x13 (.agg #[.int .u8 (d.wh : Int), .int .u8 (d.n : Int), .int .u32 (d.rgb : Int), .slice A d.zs.length cA, .string ⟨d.cl.toArray⟩]) (.agg #[.int .u8 (e.wh : Int), .int .u8 (e.n : Int), .int .u32 (e.rgb : Int), .slice B e.zs.length cB, .string ⟨e.cl.toArray⟩]) (.agg #[.int .i64 o.k, .int .i64 o.n, .int .i64 o.m, .int .i64 o.c0, .int .i64 o.c1, .string ⟨o.t.toArray⟩]) (.agg #[.int .i64 q.k, .int .i64 q.n, .int .i64 q.m, .int .i64 q.c0, .int .i64 q.c1, .string ⟨q.t.toArray⟩]) (.pointer (some ⟨B5, 0, none⟩)) (.pointer (some ⟨B6, 0, none⟩))) w'
theorem zeroW (t : StW) (h : t.n = 0) : t.b1 = true ∧ t.b3 = true ∧ t.b4 = true ∧ t.b5 = true := by
  obtain ⟨b1, b3, b4, b5⟩ := t
  simp only [StW.n, bn] at h
  cases b1 <;> cases b3 <;> cases b4 <;> cases b5 <;> simp at h ⊢
set_option maxRecDepth 100000 in
set_option maxHeartbeats 8000000 in
theorem regionW {Q : Exit → Act → World → Prop} (d : Dr) (e : Dr) (A : Option Addr) (B : Option Addr) (cA : Nat) (cB : Nat) (o : A6) (q : A6) (x0 x1 p2 p3 x4 x12 x13 : Value) (w : World) (P : Nat) (R : Nat) (e2 : p2 = .pointer (some ⟨P, 0, none⟩)) (e3 : p3 = .pointer (some ⟨R, 0, none⟩)) (hP : Box w P [.int .u8 (d.wh : Int), .int .u8 (d.n : Int), .int .u32 (d.rgb : Int), .slice A d.zs.length cA, .string ⟨d.cl.toArray⟩]) (hR : Box w R [.int .u8 (e.wh : Int), .int .u8 (e.n : Int), .int .u32 (e.rgb : Int), .slice B e.zs.length cB, .string ⟨e.cl.toArray⟩]) (c1 : Hid (∀ W, Below w.heap.size w W → Calls Tryz.prog 9 #[.agg #[.int .u8 (d.wh : Int), .int .u8 (d.n : Int), .int .u32 (d.rgb : Int), .slice A d.zs.length cA, .string ⟨d.cl.toArray⟩]] W fun z w' => z = .returned (.agg #[.int .i64 o.k, .int .i64 o.n, .int .i64 o.m, .int .i64 o.c0, .int .i64 o.c1, .string ⟨o.t.toArray⟩]) ∧ Below W.heap.size W w')) (c2 : Hid (∀ W, Below w.heap.size w W → Calls Tryz.prog 9 #[.agg #[.int .u8 (e.wh : Int), .int .u8 (e.n : Int), .int .u32 (e.rgb : Int), .slice B e.zs.length cB, .string ⟨e.cl.toArray⟩]] W fun z w' => z = .returned (.agg #[.int .i64 q.k, .int .i64 q.n, .int .i64 q.m, .int .i64 q.c0, .int .i64 q.c1, .string ⟨q.t.toArray⟩]) ∧ Below W.heap.size W w')) (hQp : ∀ c (a : Act) (s : Nat) v W, Q (.panic c) (a.put (some s) v) W → Q (.panic c) a W) (hQ : Hid (EndW Q d e A B cA cB o q x0 x1 p2 p3 x4 x12 x13 w)) :
    (Code.region 3 opsW true).wp Tryz.prog Q (actW x0 x1 p2 p3 x4 x12 x13 undef undef undef undef undef undef) w := by
  subst e2
  subst e3
  refine wp_region_held_drew (S := fun W => Below w.heap.size w W) (by kernel_rfl) ((Below.refl _ w).drew) (fun _ => ?_)
  refine wpAnyH_take (i := 0) (oi := { dst := some 14, op := Op.load 29 (Operand.tmp 2), type := 29, pos := "outright.go:52", after := #[], guard := none }) (v := .agg #[.int .u8 (d.wh : Int), .int .u8 (d.n : Int), .int .u32 (d.rgb : Int), .slice A d.zs.length cA, .string ⟨d.cl.toArray⟩]) rfl (by kernel_rfl) (by kernel_rfl) (by kernel_rfl) (fun c a w => hQp c a _ _ w) (.inl ⟨by rfl, fun W hW => ?_⟩) ((Below.refl _ w).drew) ?_
  · have hx := hP.below hW hP.1
    have z0 := hx.cell 0 _ rfl
    have z1 := hx.cell 1 _ rfl
    have z2 := hx.cell 2 _ rfl
    have z3 := hx.cell 3 _ rfl
    have z4 := hx.cell 4 _ rfl
    unfold actW
    go_simp
  refine wpAnyH_take (i := 2) (oi := { dst := some 16, op := Op.load 29 (Operand.tmp 3), type := 29, pos := "outright.go:52", after := #[], guard := none }) (v := .agg #[.int .u8 (e.wh : Int), .int .u8 (e.n : Int), .int .u32 (e.rgb : Int), .slice B e.zs.length cB, .string ⟨e.cl.toArray⟩]) rfl (by kernel_rfl) (by kernel_rfl) (by kernel_rfl) (fun c a w => hQp c a _ _ w) (.inl ⟨by rfl, fun W hW => ?_⟩) ((Below.refl _ w).drew) ?_
  · have hx := hR.below hW hR.1
    have z0 := hx.cell 0 _ rfl
    have z1 := hx.cell 1 _ rfl
    have z2 := hx.cell 2 _ rfl
    have z3 := hx.cell 3 _ rfl
    have z4 := hx.cell 4 _ rfl
    unfold actW
    go_simp
  refine permW 2 (JW d e A B cA cB o q x0 x1 _ _ x4 x12 x13 w) (fun _ _ _ h => h.1) (fun _ _ _ h => h.2.1) tabW (fun t a w' i hJ hi => stepW d e A B cA cB o q x0 x1 _ _ x4 x12 x13 w P R rfl rfl c1 c2 t a w' i hJ hi) ?_ 4 ⟨false, false, false, false⟩ _ w.drew rfl ?_
  · intro t a wz hJ hn
    obtain ⟨tb1, tb3, tb4, tb5⟩ := zeroW t hn
    obtain ⟨_, hW, r15, r17, v5, v6, B5, B6, rfl, k1, k3, k4, k5, n4_5⟩ := hJ
    obtain rfl := k1 tb1
    obtain rfl := k3 tb3
    obtain ⟨rfl, gB5, hB5⟩ := k4 tb4
    obtain ⟨rfl, gB6, hB6⟩ := k5 tb5
    have hl : t.lst = #[true, true, true, true, true, true, false, false] := by
      unfold StW.lst
      rw [tb1, tb3, tb4, tb5]
    rw [hl]
    have ne4_5 := n4_5 tb4 tb5
    have HW := Lib.hid hW
    have HB5 := Lib.hid hB5
    have HB6 := Lib.hid hB6
    clear hW hB5 hB6 k1 k3 k4 k5 n4_5
    refine wpAnyH_ready (rs := [6]) (by kernel_rfl) (by simp) ?_
    refine AllReadyH.cons (o := { dst := none, op := Op.store 25 (Operand.tmp 5) (Operand.tmp 15), type := 0, pos := "outright.go:52", after := #[{ on := 4, ground := Ground.data }, { on := 1, ground := Ground.data }, { on := 3, ground := Ground.chain }, { on := 0, ground := Ground.phase }, { on := 1, ground := Ground.phase }, { on := 2, ground := Ground.textOnly Departure.lateStores }, { on := 3, ground := Ground.textOnly Departure.lateStoresUnsure }, { on := 4, ground := Ground.phase }, { on := 5, ground := Ground.phase }], guard := none }) rfl (fun K hK => ?_) AllReadyH.nil
    have HK := Lib.hid hK
    clear hK
    obtain ⟨⟨x0, x1, x2, x3, x4, x5⟩, f0, f1, f2, f3, f4, f5⟩ := boxz HB5.out
    unfold actW
    go_simp
    have HW0 := Lib.hid (below_set6 HW.out gB5 o)
    refine HK.out _ _ HW0.out (fun _ => ?_)
    clear HK K x0 x1 x2 x3 x4 x5 f0 f1 f2 f3 f4 f5
    have HW := HW0
    clear HW0
    have HB5 := Lib.hid (box_set6 HB5.out o)
    have HB6 := Lib.hid (box_off6 HB6.out ne4_5 o)
    change wpAnyH _ _ _ _ _ _ _ _ (set6 wz B5 o)
    generalize set6 wz B5 o = wy0 at HW HB5 HB6 ⊢
    refine wpAnyH_ready (rs := [7]) (by kernel_rfl) (by simp) ?_
    refine AllReadyH.cons (o := { dst := none, op := Op.store 25 (Operand.tmp 6) (Operand.tmp 17), type := 0, pos := "outright.go:52", after := #[{ on := 5, ground := Ground.data }, { on := 3, ground := Ground.data }, { on := 6, ground := Ground.chain }, { on := 0, ground := Ground.phase }, { on := 1, ground := Ground.phase }, { on := 2, ground := Ground.phase }, { on := 3, ground := Ground.phase }, { on := 4, ground := Ground.phase }, { on := 5, ground := Ground.phase }, { on := 6, ground := Ground.phase }], guard := none }) rfl (fun K hK => ?_) AllReadyH.nil
    have HK := Lib.hid hK
    clear hK
    obtain ⟨⟨x0, x1, x2, x3, x4, x5⟩, f0, f1, f2, f3, f4, f5⟩ := boxz HB6.out
    go_simp
    have HW1 := Lib.hid (below_set6 HW.out gB6 q)
    refine HK.out _ _ HW1.out (fun _ => ?_)
    clear HK K x0 x1 x2 x3 x4 x5 f0 f1 f2 f3 f4 f5
    have HW := HW1
    clear HW1
    have HB6 := Lib.hid (box_set6 HB6.out q)
    have HB5 := Lib.hid (box_off6 HB5.out (Ne.symm ne4_5) q)
    change wpAnyH _ _ _ _ _ _ _ _ (set6 wy0 B6 q)
    generalize set6 wy0 B6 q = wy1 at HW HB5 HB6 ⊢
    refine wpAnyH_done (by kernel_rfl) ?_ _
    exact hQ.out B5 B6 _ HW.out gB5 gB6 ne4_5 HB5.out HB6.out
  · exact ⟨rfl, (Below.refl _ w).drew, _, _, _, _, 0, 0, rfl, (fun h => Bool.noConfusion h), (fun h => Bool.noConfusion h), (fun h => Bool.noConfusion h), (fun h => Bool.noConfusion h), (fun h => Bool.noConfusion h)⟩
end Go.Proofs.YtoilcigmpeaedaaGreatDoor.Osc
