/-
  The walk of the law OscPrints.
-/
import Derived.Test.YtoilcigmpeaedaaGreatDoorF34
import Derived.Test.YtoilcigmpeaedaaGreatDoorF35
namespace Go.Proofs.YtoilcigmpeaedaaGreatDoor.Osc
open Go.RowKit Utf Col
open B64 (Box)

theorem box_off1 {w : World} {B C : Nat} {cs : List Value} (h : Box w C cs) (hne : B ≠ C) (j : Nat) (v : Value) : Box (w.setCell ⟨B, j, none⟩ v) C cs :=
  h.at (by simp) (by simp only [World.setCell, Array.getElem?_modify, if_neg hne])
theorem lim4 {w : World} {B : Nat} {k n m c0 c1 : Int} {t : List UInt8} (h : Box w B (c6 k n m c0 c1 t)) : w.drew.cell? ⟨B, 0, none⟩ = some (.int .i64 k) ∧ w.drew.cell? ⟨B, 3, none⟩ = some (.int .i64 c0) ∧ w.drew.cell? ⟨B, 4, none⟩ = some (.int .i64 c1) ∧ w.drew.cell? ⟨B, 5, none⟩ = some (.string ⟨t.toArray⟩) :=
  ⟨h.drew.cell 0 _ rfl, h.drew.cell 3 _ rfl, h.drew.cell 4 _ rfl, h.drew.cell 5 _ rfl⟩
theorem wpList_build_as {P : Program} {ops : Array Oper} {rest : List Oper} {o : Oper} {a : Act} {w : World} {Q : Exit → Act → World → Prop} (hgd : o.guard = none) (t : TypeId) (parts : Array (Nat × Operand)) (ho : o.op = .build t parts) (cells : Array Value)
    (hb : P.built t (parts.map fun (i, x) => (i, a.eval x)).toList = some cells) (h : wpList P ops Q rest (a.put o.dst (.agg cells)) w) : wpList P ops Q (o :: rest) a w :=
  wpList_plain hgd fun _ hK => wp_build t parts ho (by rw [hb]; rfl) (by rw [hb]; exact hK _ _ h)
def arr9 (a0 a1 a2 a3 a4 a5 a6 a7 a8 : A6) : Array Value := #[.int .i64 a0.k, .int .i64 a0.n, .int .i64 a0.m, .int .i64 a0.c0, .int .i64 a0.c1, .string ⟨a0.t.toArray⟩, .int .i64 a1.k, .int .i64 a1.n, .int .i64 a1.m, .int .i64 a1.c0, .int .i64 a1.c1, .string ⟨a1.t.toArray⟩, .int .i64 a2.k, .int .i64 a2.n, .int .i64 a2.m, .int .i64 a2.c0, .int .i64 a2.c1, .string ⟨a2.t.toArray⟩, .int .i64 a3.k, .int .i64 a3.n, .int .i64 a3.m, .int .i64 a3.c0, .int .i64 a3.c1, .string ⟨a3.t.toArray⟩, .int .i64 a4.k, .int .i64 a4.n, .int .i64 a4.m, .int .i64 a4.c0, .int .i64 a4.c1, .string ⟨a4.t.toArray⟩, .int .i64 a5.k, .int .i64 a5.n, .int .i64 a5.m, .int .i64 a5.c0, .int .i64 a5.c1, .string ⟨a5.t.toArray⟩, .int .i64 a6.k, .int .i64 a6.n, .int .i64 a6.m, .int .i64 a6.c0, .int .i64 a6.c1, .string ⟨a6.t.toArray⟩, .int .i64 a7.k, .int .i64 a7.n, .int .i64 a7.m, .int .i64 a7.c0, .int .i64 a7.c1, .string ⟨a7.t.toArray⟩, .int .i64 a8.k, .int .i64 a8.n, .int .i64 a8.m, .int .i64 a8.c0, .int .i64 a8.c1, .string ⟨a8.t.toArray⟩]
theorem ix9 (a0 a1 a2 a3 a4 a5 a6 a7 a8 : A6) (P : A6 → Prop) (h0 : P a0) (h1 : P a1) (h2 : P a2) (h3 : P a3) (h4 : P a4) (h5 : P a5) (h6 : P a6) (h7 : P a7) (h8 : P a8) (k : Nat) (hk : k < 9) : ∃ a : A6, P a ∧ ∀ W, (Instr.index 31 (.agg (arr9 a0 a1 a2 a3 a4 a5 a6 a7 a8)) (.int .i64 (k : Int))).run Tryz.prog W = .ok (actV a) W := by
  rcases (show k = 0 ∨ k = 1 ∨ k = 2 ∨ k = 3 ∨ k = 4 ∨ k = 5 ∨ k = 6 ∨ k = 7 ∨ k = 8 by omega) with rfl | rfl | rfl | rfl | rfl | rfl | rfl | rfl | rfl
  · exact ⟨a0, h0, fun _ => by kernel_rfl⟩
  · exact ⟨a1, h1, fun _ => by kernel_rfl⟩
  · exact ⟨a2, h2, fun _ => by kernel_rfl⟩
  · exact ⟨a3, h3, fun _ => by kernel_rfl⟩
  · exact ⟨a4, h4, fun _ => by kernel_rfl⟩
  · exact ⟨a5, h5, fun _ => by kernel_rfl⟩
  · exact ⟨a6, h6, fun _ => by kernel_rfl⟩
  · exact ⟨a7, h7, fun _ => by kernel_rfl⟩
  · exact ⟨a8, h8, fun _ => by kernel_rfl⟩
set_option maxRecDepth 100000 in
set_option maxHeartbeats 8000000 in
theorem prints_any (a : A6) (v : Value) (d : Dr) (n : Int) (w : World) (hs : a.t.length ≤ 9223372036854775807) (hd : DrV w v d) (he : Env w) :
    Calls Tryz.prog 3 #[actV a, v, .int .i64 n] w fun e w' => e = .returned (.bool true) ∧ Below w.heap.size w w' := by
  have HB := Lib.hid (EB.refl he)
  have hdl := dra_len d
  have HA := fun W hb => action_any v d W (hd.below hb)
  obtain ⟨-, -, -, -, -, -, A, cp, rfl, -⟩ := hd
  obtain ⟨k, an, m, c0, c1, t⟩ := a
  generalize draA d = o at HA hdl
  obtain ⟨ok, on, om, o0, o1, ot⟩ := o
  unfold actV at HA ⊢
  dsimp only at *
  obtain ⟨q, hqe⟩ : ∃ q, q = t.take 600 := ⟨_, rfl⟩
  have hq : q.length ≤ 600 := by rw [hqe, List.length_take]; omega
  have ec := Lib.hid (show (⟨t.toArray⟩ : ByteArray).extract 0 (min (t.length : Int) 600).toNat = ⟨q.toArray⟩ by
    rw [← ext_front ⟨t.toArray⟩, hqe]
    show (⟨(t.take _).toArray⟩ : ByteArray) = _
    by_cases hq : t.length ≤ 600
    · rw [List.take_of_length_le (by omega), List.take_of_length_le hq]
    · rw [show (min (t.length : Int) 600).toNat = 600 by omega])
  have HA := Lib.hid HA
  clear hqe he
  go_enter Tryz.func3, Tryz.ntmps3
  go_upto_region 2 with fail
  rw [ec.out]
  have hX := (bx_new w k an m c0 c1 q).alloc (.cells #[.int .u8 (d.wh : Int), .int .u8 (d.n : Int), .int .u32 (d.rgb : Int), .slice A d.zs.length cp, .string ⟨d.cl.toArray⟩] 29)
  have hG : Below w.heap.size w ((w.alloc (.cells #[.int .i64 k, .int .i64 an, .int .i64 m, .int .i64 c0, .int .i64 c1, .string ⟨q.toArray⟩] 25)).alloc (.cells #[.int .u8 (d.wh : Int), .int .u8 (d.n : Int), .int .u32 (d.rgb : Int), .slice A d.zs.length cp, .string ⟨d.cl.toArray⟩] 29)) := B64.up (B64.below_box _ _) (B64.below_box _ _)
  have HB := Lib.hid ((HB.out.keep (B64.below_box _ (.cells #[.int .i64 k, .int .i64 an, .int .i64 m, .int .i64 c0, .int .i64 c1, .string ⟨q.toArray⟩] 25))).keep (B64.below_box _ (.cells #[.int .u8 (d.wh : Int), .int .u8 (d.n : Int), .int .u32 (d.rgb : Int), .slice A d.zs.length cp, .string ⟨d.cl.toArray⟩] 29)))
  have hD : B64.Box ((w.alloc (.cells #[.int .i64 k, .int .i64 an, .int .i64 m, .int .i64 c0, .int .i64 c1, .string ⟨q.toArray⟩] 25)).alloc (.cells #[.int .u8 (d.wh : Int), .int .u8 (d.n : Int), .int .u32 (d.rgb : Int), .slice A d.zs.length cp, .string ⟨d.cl.toArray⟩] 29)) (w.heap.size + 1) [.int .u8 (d.wh : Int), .int .u8 (d.n : Int), .int .u32 (d.rgb : Int), .slice A d.zs.length cp, .string ⟨d.cl.toArray⟩] := by
    have := B64.Box.new (w.alloc (.cells #[.int .i64 k, .int .i64 an, .int .i64 m, .int .i64 c0, .int .i64 c1, .string ⟨q.toArray⟩] 25)) #[.int .u8 (d.wh : Int), .int .u8 (d.n : Int), .int .u32 (d.rgb : Int), .slice A d.zs.length cp, .string ⟨d.cl.toArray⟩] 29
    rwa [show (w.alloc (.cells #[.int .i64 k, .int .i64 an, .int .i64 m, .int .i64 c0, .int .i64 c1, .string ⟨q.toArray⟩] 25)).heap.size = w.heap.size + 1 by simp] at this
  generalize ((w.alloc (.cells #[.int .i64 k, .int .i64 an, .int .i64 m, .int .i64 c0, .int .i64 c1, .string ⟨q.toArray⟩] 25)).alloc (.cells #[.int .u8 (d.wh : Int), .int .u8 (d.n : Int), .int .u32 (d.rgb : Int), .slice A d.zs.length cp, .string ⟨d.cl.toArray⟩] 29)) = W0 at hX hG HB hD ⊢
  have u0 := hD.cell 0 _ rfl
  have u1 := hD.cell 1 _ rfl
  have u2 := hD.cell 2 _ rfl
  have u3 := hD.cell 3 _ rfl
  have u4 := hD.cell 4 _ rfl
  have hX := Lib.hid hX
  have hG := Lib.hid hG
  clear hD
  go_wp2_with fail
  refine (HA.out _ hG.out).mono ?_
  rintro e w1 ⟨rfl, hb1⟩
  clear u0 u1 u2 u3 u4
  have hX := Lib.hid ((hX.out.keep hb1).alloc (.cells #[.int .i64 ok, .int .i64 on, .int .i64 om, .int .i64 o0, .int .i64 o1, .string ⟨ot.toArray⟩] 25))
  have HB := Lib.hid ((HB.out.keep hb1).keep (B64.below_box _ (.cells #[.int .i64 ok, .int .i64 on, .int .i64 om, .int .i64 o0, .int .i64 o1, .string ⟨ot.toArray⟩] 25)))
  clear hb1
  go_upto_region 3 with fail
  have hO := Lib.hid (bx_new w1 ok on om o0 o1 ot)
  generalize (w1.alloc (.cells #[.int .i64 ok, .int .i64 on, .int .i64 om, .int .i64 o0, .int .i64 o1, .string ⟨ot.toArray⟩] 25)) = W1 at hO hX HB ⊢
  generalize w1.heap.size = B7 at hO ⊢
  clear hG
  rename_i K hK
  have HK := Lib.hid hK
  clear hK
  refine regionU ⟨ok, on, om, o0, o1, ot⟩ _ _ _ _ _ _ _ _ _ _ _ _ _ _ _ _ W1 B7 rfl hO.out (fun _ _ _ _ _ h => h) (Lib.hid ?_)
  intro B8 B9 B10 B11 B12 w2 hb2 g8 g9 g10 g11 g12 n1 n2 n3 n4 n5 n6 n7 n8 n9 n10 h8 h9 h10 h11 h12
  show K _ _
  refine HK.out _ _ ?_
  have hX1 := hX.out.1
  have hO1 := hO.out.1
  have hX := Lib.hid (hX.out.keep hb2)
  have hO := Lib.hid (hO.out.keep hb2)
  clear HK K HA
  unfold actU
  dsimp only at h8 h9 h10 h11 h12
  go_upto_region 4 with fail
  have hx8 : w.heap.size < W1.heap.size := hX1
  have X1 := box_off1 hX.out (show B8 ≠ w.heap.size by omega) 1 (.int .i64 n)
  have X2 := box_off1 X1 (show B9 ≠ w.heap.size by omega) 2 (.int .i64 n)
  have X3 := box_off1 X2 (show B10 ≠ w.heap.size by omega) 5 (.string ⟨q.toArray⟩)
  have X4 := box_off1 (box_off1 X3 (show B11 ≠ w.heap.size by omega) 3 (.int .i64 c0)) (show B11 ≠ w.heap.size by omega) 4 (.int .i64 c1)
  have X5 := box_off1 X4 (show B12 ≠ w.heap.size by omega) 0 (.int .i64 k)
  have HY := Lib.hid (lim4 hX.out)
  have HY1 := Lib.hid (lim4 X1)
  have HY2 := Lib.hid (lim4 X2)
  have HY3 := Lib.hid (lim4 X3)
  have HY4 := Lib.hid (lim4 X4)
  have HY5 := Lib.hid (lim4 X5)
  have hX5 := Lib.hid X5
  clear X1 X2 X3 X4 X5 hx8
  have a8 := h8.cell 1 _ rfl
  have b8 := h8.free 1 (by show 1 < 6; decide)
  have a9 := h9.cell 2 _ rfl
  have b9 := h9.free 2 (by show 2 < 6; decide)
  have a10 := h10.cell 5 _ rfl
  have b10 := h10.free 5 (by show 5 < 6; decide)
  have a11 := h11.cell 3 _ rfl
  have b11 := h11.free 3 (by show 3 < 6; decide)
  have c11 := h11.cell 4 _ rfl
  have d11 := h11.free 4 (by show 4 < 6; decide)
  have a12 := h12.cell 0 _ rfl
  have b12 := h12.free 0 (by show 0 < 6; decide)
  have H8 := Lib.hid h8
  have H9 := Lib.hid h9
  have H10 := Lib.hid h10
  have H11 := Lib.hid h11
  have H12 := Lib.hid h12
  clear h8 h9 h10 h11 h12 hX1
  go_region_held3 (fun W => W.cell? ⟨w.heap.size, 0, none⟩ = some (.int .i64 k) ∧ W.cell? ⟨w.heap.size, 3, none⟩ = some (.int .i64 c0) ∧ W.cell? ⟨w.heap.size, 4, none⟩ = some (.int .i64 c1) ∧ W.cell? ⟨w.heap.size, 5, none⟩ = some (.string ⟨q.toArray⟩)) (first | with_reducible exact HY.out | with_reducible exact HY1.out | with_reducible exact HY2.out | with_reducible exact HY3.out | with_reducible exact HY4.out | with_reducible exact HY5.out) (fail)
  rename_i K5 hK5 x5
  show K5 _ _
  refine hK5 _ _ ?_
  clear hK5 x5
  have Z8 := (box_off1 (box_off1 (box_off1 (box_off1 (box_off1 (H8.out.set 1 (.int .i64 n)) (Ne.symm n1) 2 (.int .i64 n)) (Ne.symm n2) 5 (.string ⟨q.toArray⟩)) (Ne.symm n3) 3 (.int .i64 c0)) (Ne.symm n3) 4 (.int .i64 c1)) (Ne.symm n4) 0 (.int .i64 k)).drew
  have Z9 := (box_off1 (box_off1 (box_off1 (box_off1 ((box_off1 H9.out n1 1 (.int .i64 n)).set 2 (.int .i64 n)) (Ne.symm n5) 5 (.string ⟨q.toArray⟩)) (Ne.symm n6) 3 (.int .i64 c0)) (Ne.symm n6) 4 (.int .i64 c1)) (Ne.symm n7) 0 (.int .i64 k)).drew
  have Z10 := (box_off1 (box_off1 (box_off1 ((box_off1 (box_off1 H10.out n2 1 (.int .i64 n)) n5 2 (.int .i64 n)).set 5 (.string ⟨q.toArray⟩)) (Ne.symm n8) 3 (.int .i64 c0)) (Ne.symm n8) 4 (.int .i64 c1)) (Ne.symm n9) 0 (.int .i64 k)).drew
  have Z11 := (box_off1 (((box_off1 (box_off1 (box_off1 H11.out n3 1 (.int .i64 n)) n6 2 (.int .i64 n)) n8 5 (.string ⟨q.toArray⟩)).set 3 (.int .i64 c0)).set 4 (.int .i64 c1)) (Ne.symm n10) 0 (.int .i64 k)).drew
  have Z12 := ((box_off1 (box_off1 (box_off1 (box_off1 (box_off1 H12.out n4 1 (.int .i64 n)) n7 2 (.int .i64 n)) n9 5 (.string ⟨q.toArray⟩)) n10 3 (.int .i64 c0)) n10 4 (.int .i64 c1)).set 0 (.int .i64 k)).drew
  have ZO := (box_off1 (box_off1 (box_off1 (box_off1 (box_off1 (box_off1 hO.out (show B8 ≠ B7 by omega) 1 (.int .i64 n)) (show B9 ≠ B7 by omega) 2 (.int .i64 n)) (show B10 ≠ B7 by omega) 5 (.string ⟨q.toArray⟩)) (show B11 ≠ B7 by omega) 3 (.int .i64 c0)) (show B11 ≠ B7 by omega) 4 (.int .i64 c1)) (show B12 ≠ B7 by omega) 0 (.int .i64 k)).drew
  have ZX := hX5.out.drew
  have HB := Lib.hid (EB.keep HB.out ((((((((hb2.setCell (p := ⟨B8, 1, none⟩) g8 (.int .i64 n)).setCell (p := ⟨B9, 2, none⟩) g9 (.int .i64 n)).setCell (p := ⟨B10, 5, none⟩) g10 (.string ⟨q.toArray⟩)).setCell (p := ⟨B11, 3, none⟩) g11 (.int .i64 c0)).setCell (p := ⟨B11, 4, none⟩) g11 (.int .i64 c1)).setCell (p := ⟨B12, 0, none⟩) g12 (.int .i64 k))).drew))
  generalize ((((((w2.setCell ⟨B8, 1, none⟩ (.int .i64 n)).setCell ⟨B9, 2, none⟩ (.int .i64 n)).setCell ⟨B10, 5, none⟩ (.string ⟨q.toArray⟩)).setCell ⟨B11, 3, none⟩ (.int .i64 c0)).setCell ⟨B11, 4, none⟩ (.int .i64 c1)).setCell ⟨B12, 0, none⟩ (.int .i64 k)).drew = w3 at Z8 Z9 Z10 Z11 Z12 ZO ZX HB ⊢
  clear H8 H9 H10 H11 H12 hX5 hO hX HY HY1 HY2 HY3 HY4 HY5 a8 b8 a9 b9 a10 b10 a11 b11 c11 d11 a12 b12 hb2 g8 g9 g10 g11 g12 n1 n2 n3 n4 n5 n6 n7 n8 n9 n10
  obtain ⟨y00, y01, y02, y03, y04, y05⟩ := box6 (show Box w3 w.heap.size (c6 k an m c0 c1 q) from ZX)
  obtain ⟨y10, y11, y12, y13, y14, y15⟩ := box6 (show Box w3 B7 (c6 ok on om o0 o1 ot) from ZO)
  obtain ⟨y20, y21, y22, y23, y24, y25⟩ := box6 (show Box w3 B8 (c6 ok n om o0 o1 ot) from Z8)
  obtain ⟨y30, y31, y32, y33, y34, y35⟩ := box6 (show Box w3 B9 (c6 ok on n o0 o1 ot) from Z9)
  obtain ⟨y40, y41, y42, y43, y44, y45⟩ := box6 (show Box w3 B10 (c6 ok on om o0 o1 q) from Z10)
  obtain ⟨y50, y51, y52, y53, y54, y55⟩ := box6 (show Box w3 B11 (c6 ok on om c0 c1 ot) from Z11)
  obtain ⟨y60, y61, y62, y63, y64, y65⟩ := box6 (show Box w3 B12 (c6 k on om o0 o1 ot) from Z12)
  clear ZX ZO Z8 Z9 Z10 Z11 Z12
  go_upto_region 6 with ((with_reducible refine wpList_build_as rfl 31 _ rfl (arr9 ⟨k, an, m, c0, c1, q⟩ ⟨ok, on, om, o0, o1, ot⟩ ⟨ok, n, om, o0, o1, ot⟩ ⟨ok, on, n, o0, o1, ot⟩ ⟨ok, on, om, o0, o1, q⟩ ⟨ok, on, om, c0, c1, ot⟩ ⟨k, on, om, o0, o1, ot⟩ ⟨44, 0, 0, 0, 0, q⟩ ⟨46, 0, 0, 0, 0, q⟩) ?hb ?_); (case hb => kernel_rfl))
  clear y00 y01 y02 y03 y04 y05 y10 y11 y12 y13 y14 y15 y20 y21 y22 y23 y24 y25 y30 y31 y32 y33 y34 y35 y40 y41 y42 y43 y44 y45 y50 y51 y52 y53 y54 y55 y60 y61 y62 y63 y64 y65
  have HI := Lib.hid (fun i hi => ix9 ⟨k, an, m, c0, c1, q⟩ ⟨ok, on, om, o0, o1, ot⟩ ⟨ok, n, om, o0, o1, ot⟩ ⟨ok, on, n, o0, o1, ot⟩ ⟨ok, on, om, o0, o1, q⟩ ⟨ok, on, om, c0, c1, ot⟩ ⟨k, on, om, o0, o1, ot⟩ ⟨44, 0, 0, 0, 0, q⟩ ⟨46, 0, 0, 0, 0, q⟩ (fun a => a.t.length ≤ 1000) (by dsimp only; omega) (by dsimp only; omega) (by dsimp only; omega) (by dsimp only; omega) (by dsimp only; omega) (by dsimp only; omega) (by dsimp only; omega) (by dsimp only; omega) (by dsimp only; omega) i hi)
  generalize arr9 ⟨k, an, m, c0, c1, q⟩ ⟨ok, on, om, o0, o1, ot⟩ ⟨ok, n, om, o0, o1, ot⟩ ⟨ok, on, n, o0, o1, ot⟩ ⟨ok, on, om, o0, o1, q⟩ ⟨ok, on, om, c0, c1, ot⟩ ⟨k, on, om, o0, o1, ot⟩ ⟨44, 0, 0, 0, 0, q⟩ ⟨46, 0, 0, 0, 0, q⟩ = AA at HI ⊢
  clear hq hdl
  go_loopw [61] (fun iv wr => ∃ i : Nat, i ≤ 9 ∧ iv = .int .i64 (i : Int) ∧ Hid (EB w wr)) (fun iv _ => 9 - (intOf iv).toNat)
  case atStart => exact ⟨0, by omega, rfl, HB⟩
  case round =>
    clear HB
    obtain ⟨i, hi, rfl, HB⟩ := hrel
    by_cases hi2 : i < 9
    · obtain ⟨a, ha, hix⟩ := HI.out i hi2
      have HP := fun W h => print_any a W h (by omega)
      have HR := fun W => rprint_any a W (by omega)
      have hpf : ∃ (S : ByteArray) (z : Int), prtV a = .tuple #[.string S, .int .i64 z] := by
        unfold prtV
        cases prtO a with
        | none => exact ⟨_, _, rfl⟩
        | some u => exact ⟨_, _, rfl⟩
      obtain ⟨S, z, hS⟩ := hpf
      rw [hS] at HP HR
      unfold actV at HP HR hix
      obtain ⟨ak, a1, a2, a3, a4, a5⟩ := a
      dsimp only at HP HR hix
      have HP := Lib.hid HP
      have HR := Lib.hid HR
      have s1 : (S.toList != S.toList) = false := by simp
      have s2 : (z != z) = false := by simp
      clear hS ha HI
      go_upto_region 8 with fail
      have hX := bx_new wr ak a1 a2 a3 a4 a5
      have HB := Lib.hid (HB.out.keep (B64.below_box _ (.cells #[.int .i64 ak, .int .i64 a1, .int .i64 a2, .int .i64 a3, .int .i64 a4, .string ⟨a5.toArray⟩] 25)))
      generalize (wr.alloc (.cells #[.int .i64 ak, .int .i64 a1, .int .i64 a2, .int .i64 a3, .int .i64 a4, .string ⟨a5.toArray⟩] 25)) = W1 at hX HB ⊢
      generalize wr.heap.size = B1 at hX ⊢
      obtain ⟨y0, y1, y2, y3, y4, y5⟩ := box6 hX
      have hX := Lib.hid hX
      go_wp2_with fail
      refine (HP.out _ HB.out.e).mono ?_
      rintro e w6 ⟨rfl, hb6⟩
      have HB := Lib.hid (HB.out.keep hb6)
      have hX := Lib.hid (hX.out.keep hb6)
      clear hb6 y0 y1 y2 y3 y4 y5
      obtain ⟨y0, y1, y2, y3, y4, y5⟩ := box6 hX.out
      go_wp2_with fail
      refine (HR.out _).mono ?_
      rintro e w7 ⟨rfl, hb7⟩
      have HB := Lib.hid (HB.out.keep hb7)
      clear hb7 y0 y1 y2 y3 y4 y5 hX
      go_wp2_with fail
      refine ⟨⟨i + 1, by omega, by go_num, HB⟩, ?_⟩
      show 9 - ((i : Int) + 1).toNat < 9 - (i : Int).toNat
      omega
    · obtain rfl : i = 9 := by omega
      go_wp2_with fail
      refine (works_any _ HB.out.e).mono ?_
      rintro e w8 ⟨rfl, hb8⟩
      have HB := Lib.hid (HB.out.keep hb8)
      clear hb8
      go_wp2_with fail
      go_ret
      exact ⟨rfl, HB.out.b⟩
end Go.Proofs.YtoilcigmpeaedaaGreatDoor.Osc
