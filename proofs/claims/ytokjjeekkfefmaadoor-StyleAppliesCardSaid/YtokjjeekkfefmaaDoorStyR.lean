/-
  The end of the first statement of StyleStays' body (three stores), and that statement whole.
-/
import Derived.Test.YtokjjeekkfefmaaDoorStyQ
namespace Go.Proofs.YtokjjeekkfefmaaDoor.Sty
open Go.RowKit Utf Col

theorem grown6 (w : World) (b : Nat) (p : P6) : w.grownBy ((((((w.setCell ⟨b, 0, none⟩ (.int .i64 p.k)).setCell ⟨b, 1, none⟩ (.int .i64 p.n)).setCell ⟨b, 2, none⟩ (.int .i64 p.m)).setCell ⟨b, 3, none⟩ (.int .i64 p.c0)).setCell ⟨b, 4, none⟩ (.int .i64 p.c1)).setCell ⟨b, 5, none⟩ (.string p.t)) (some b) := grown_put b (cP p) 0 w
def EndT (Q : Exit → Act → World → Prop) (D1 D2 : Array Value) (A B : Nat) (s : S8) (p q : P6) (w0 : World) : Prop :=
  ∀ (B5 B6 B7 : Nat) (w' : World), Below w0.heap.size w0 w' → w0.heap.size ≤ B5 → w0.heap.size ≤ B6 → w0.heap.size ≤ B7 → B5 ≠ B6 → B5 ≠ B7 → B6 ≠ B7 → Box w' B5 (cS s) → Box w' B6 (cP p) → Box w' B7 (cP q) →
    Q .normal (actT (.agg D1) (.agg D2) (.pointer (some ⟨A, 0, none⟩)) (.pointer (some ⟨B, 0, none⟩)) (.pointer (some ⟨B5, 0, none⟩)) (.pointer (some ⟨B6, 0, none⟩)) (.pointer (some ⟨B7, 0, none⟩)) (.agg D1) (.agg #[.int .i64 s.a, .int .i64 s.u, .int .i64 s.f0, .int .i64 s.f1, .int .i64 s.b0, .int .i64 s.b1, .int .i64 s.l0, .int .i64 s.l1]) (.agg D1) (.agg #[.int .i64 p.k, .int .i64 p.n, .int .i64 p.m, .int .i64 p.c0, .int .i64 p.c1, .string p.t]) (.agg D2) (.agg #[.int .i64 q.k, .int .i64 q.n, .int .i64 q.m, .int .i64 q.c0, .int .i64 q.c1, .string q.t])) w'
set_option maxRecDepth 100000 in
set_option maxHeartbeats 4000000 in
theorem storesT {Q : Exit → Act → World → Prop} (d0 d1 d2 d3 d4 d5 d6 d7 c0 c1 c2 c3 c4 c5 c6 c7 : Int) (A B B5 B6 B7 : Nat) (s : S8) (p q : P6) (w0 w : World) (hQ : Hid (EndT Q #[.int .u8 d0, .int .u8 d1, .int .u8 d2, .int .u8 d3, .int .u32 d4, .int .u32 d5, .int .u32 d6, .int .u32 d7] #[.int .u8 c0, .int .u8 c1, .int .u8 c2, .int .u8 c3, .int .u32 c4, .int .u32 c5, .int .u32 c6, .int .u32 c7] A B s p q w0)) (hW : Below w0.heap.size w0 w)
    (g5 : w0.heap.size ≤ B5) (g6 : w0.heap.size ≤ B6) (g7 : w0.heap.size ≤ B7) (n56 : B5 ≠ B6) (n57 : B5 ≠ B7) (n67 : B6 ≠ B7) (h5 : Box w B5 (cS z8)) (h6 : Box w B6 (cP zP)) (h7 : Box w B7 (cP zP)) :
    wpAnyH Tryd.prog .any opsT Q (fun _ => True) 3 #[true, true, true, true, true, true, true, true, true, false, false, false] (actT (.agg #[.int .u8 d0, .int .u8 d1, .int .u8 d2, .int .u8 d3, .int .u32 d4, .int .u32 d5, .int .u32 d6, .int .u32 d7]) (.agg #[.int .u8 c0, .int .u8 c1, .int .u8 c2, .int .u8 c3, .int .u32 c4, .int .u32 c5, .int .u32 c6, .int .u32 c7]) (.pointer (some ⟨A, 0, none⟩)) (.pointer (some ⟨B, 0, none⟩)) (.pointer (some ⟨B5, 0, none⟩)) (.pointer (some ⟨B6, 0, none⟩)) (.pointer (some ⟨B7, 0, none⟩)) (.agg #[.int .u8 d0, .int .u8 d1, .int .u8 d2, .int .u8 d3, .int .u32 d4, .int .u32 d5, .int .u32 d6, .int .u32 d7]) (.agg #[.int .i64 s.a, .int .i64 s.u, .int .i64 s.f0, .int .i64 s.f1, .int .i64 s.b0, .int .i64 s.b1, .int .i64 s.l0, .int .i64 s.l1]) (.agg #[.int .u8 d0, .int .u8 d1, .int .u8 d2, .int .u8 d3, .int .u32 d4, .int .u32 d5, .int .u32 d6, .int .u32 d7]) (.agg #[.int .i64 p.k, .int .i64 p.n, .int .i64 p.m, .int .i64 p.c0, .int .i64 p.c1, .string p.t]) (.agg #[.int .u8 c0, .int .u8 c1, .int .u8 c2, .int .u8 c3, .int .u32 c4, .int .u32 c5, .int .u32 c6, .int .u32 c7]) (.agg #[.int .i64 q.k, .int .i64 q.n, .int .i64 q.m, .int .i64 q.c0, .int .i64 q.c1, .string q.t])) w := by
  have HN := Lib.hid (And.intro g5 (And.intro g6 (And.intro g7 (And.intro n56 (And.intro n57 n67)))))
  have HW := Lib.hid hW
  have HB5 := Lib.hid h5
  have HB6 := Lib.hid h6
  have HB7 := Lib.hid h7
  clear g5 g6 g7 n56 n57 n67 h5 h6 h7 hW
  refine wpAnyH_all (rs := [9]) (by kernel_rfl) (by simp) fun i hi => ?_
  obtain rfl : i = 9 := by simpa using hi
  clear hi
  refine wpOp_step (o := { dst := none, op := Op.store 25 (Operand.tmp 5) (Operand.tmp 21), type := 0, pos := "outright.go:45", after := #[{ on := 6, ground := Ground.data }, { on := 1, ground := Ground.data }, { on := 5, ground := Ground.chain }, { on := 0, ground := Ground.phase }, { on := 1, ground := Ground.phase }, { on := 2, ground := Ground.textOnly Departure.lateStores }, { on := 3, ground := Ground.textOnly Departure.lateStoresUnsure }, { on := 4, ground := Ground.textOnly Departure.lateStores }, { on := 5, ground := Ground.textOnly Departure.lateStoresUnsure }, { on := 6, ground := Ground.phase }, { on := 7, ground := Ground.phase }, { on := 8, ground := Ground.phase }], guard := none }) rfl (fun K hK => ?_)
  have HK := Lib.hid hK
  clear hK
  have lB5 := HB5.out.1
  have xB50 := HB5.out.cell 0 _ rfl
  have vB50 := HB5.out.free 0 (by show 0 < 8; decide)
  have xB51 := HB5.out.cell 1 _ rfl
  have vB51 := HB5.out.free 1 (by show 1 < 8; decide)
  have xB52 := HB5.out.cell 2 _ rfl
  have vB52 := HB5.out.free 2 (by show 2 < 8; decide)
  have xB53 := HB5.out.cell 3 _ rfl
  have vB53 := HB5.out.free 3 (by show 3 < 8; decide)
  have xB54 := HB5.out.cell 4 _ rfl
  have vB54 := HB5.out.free 4 (by show 4 < 8; decide)
  have xB55 := HB5.out.cell 5 _ rfl
  have vB55 := HB5.out.free 5 (by show 5 < 8; decide)
  have xB56 := HB5.out.cell 6 _ rfl
  have vB56 := HB5.out.free 6 (by show 6 < 8; decide)
  have xB57 := HB5.out.cell 7 _ rfl
  have vB57 := HB5.out.free 7 (by show 7 < 8; decide)
  unfold actT
  go_simp
  refine HK.out _ _ ⟨trivial, ?_⟩
  clear lB5 xB50 vB50 xB51 vB51 xB52 vB52 xB53 vB53 xB54 vB54 xB55 vB55 xB56 vB56 xB57 vB57
  have j5 := put8 w B5 s z8 HB5.out
  have j6 := HB6.out.grown (grown8 w B5 s) (by simp; exact fun e => HN.out.2.2.2.1 e.symm)
  have j7 := HB7.out.grown (grown8 w B5 s) (by simp; exact fun e => HN.out.2.2.2.2.1 e.symm)
  have jW := below8 B5 s HW.out HN.out.1
  clear HK HB5 HB6 HB7 HW
  generalize ((((((((w.setCell ⟨B5, 0, none⟩ (.int .i64 s.a)).setCell ⟨B5, 1, none⟩ (.int .i64 s.u)).setCell ⟨B5, 2, none⟩ (.int .i64 s.f0)).setCell ⟨B5, 3, none⟩ (.int .i64 s.f1)).setCell ⟨B5, 4, none⟩ (.int .i64 s.b0)).setCell ⟨B5, 5, none⟩ (.int .i64 s.b1)).setCell ⟨B5, 6, none⟩ (.int .i64 s.l0)).setCell ⟨B5, 7, none⟩ (.int .i64 s.l1)) = w2 at j5 j6 j7 jW ⊢
  have HB5 := Lib.hid j5
  have HB6 := Lib.hid j6
  have HB7 := Lib.hid j7
  have HW := Lib.hid jW
  clear j5 j6 j7 jW
  refine wpAnyH_all (rs := [10]) (by kernel_rfl) (by simp) fun i hi => ?_
  obtain rfl : i = 10 := by simpa using hi
  clear hi
  refine wpOp_step (o := { dst := none, op := Op.store 27 (Operand.tmp 6) (Operand.tmp 23), type := 0, pos := "outright.go:45", after := #[{ on := 7, ground := Ground.data }, { on := 3, ground := Ground.data }, { on := 9, ground := Ground.chain }, { on := 0, ground := Ground.phase }, { on := 1, ground := Ground.phase }, { on := 2, ground := Ground.phase }, { on := 3, ground := Ground.phase }, { on := 4, ground := Ground.textOnly Departure.lateStores }, { on := 5, ground := Ground.textOnly Departure.lateStoresUnsure }, { on := 6, ground := Ground.phase }, { on := 7, ground := Ground.phase }, { on := 8, ground := Ground.phase }, { on := 9, ground := Ground.phase }], guard := none }) rfl (fun K hK => ?_)
  have HK := Lib.hid hK
  clear hK
  have lB6 := HB6.out.1
  have xB60 := HB6.out.cell 0 _ rfl
  have vB60 := HB6.out.free 0 (by show 0 < 6; decide)
  have xB61 := HB6.out.cell 1 _ rfl
  have vB61 := HB6.out.free 1 (by show 1 < 6; decide)
  have xB62 := HB6.out.cell 2 _ rfl
  have vB62 := HB6.out.free 2 (by show 2 < 6; decide)
  have xB63 := HB6.out.cell 3 _ rfl
  have vB63 := HB6.out.free 3 (by show 3 < 6; decide)
  have xB64 := HB6.out.cell 4 _ rfl
  have vB64 := HB6.out.free 4 (by show 4 < 6; decide)
  have xB65 := HB6.out.cell 5 _ rfl
  have vB65 := HB6.out.free 5 (by show 5 < 6; decide)
  go_simp
  refine HK.out _ _ ⟨trivial, ?_⟩
  clear lB6 xB60 vB60 xB61 vB61 xB62 vB62 xB63 vB63 xB64 vB64 xB65 vB65
  have j6 := put6 w2 B6 p zP HB6.out
  have j5 := HB5.out.grown (grown6 w2 B6 p) (by simp; exact HN.out.2.2.2.1)
  have j7 := HB7.out.grown (grown6 w2 B6 p) (by simp; exact fun e => HN.out.2.2.2.2.2 e.symm)
  have jW := below6 B6 p HW.out HN.out.2.1
  clear HK HB5 HB6 HB7 HW
  generalize ((((((w2.setCell ⟨B6, 0, none⟩ (.int .i64 p.k)).setCell ⟨B6, 1, none⟩ (.int .i64 p.n)).setCell ⟨B6, 2, none⟩ (.int .i64 p.m)).setCell ⟨B6, 3, none⟩ (.int .i64 p.c0)).setCell ⟨B6, 4, none⟩ (.int .i64 p.c1)).setCell ⟨B6, 5, none⟩ (.string p.t)) = w3 at j5 j6 j7 jW ⊢
  have HB5 := Lib.hid j5
  have HB6 := Lib.hid j6
  have HB7 := Lib.hid j7
  have HW := Lib.hid jW
  clear j5 j6 j7 jW
  refine wpAnyH_all (rs := [11]) (by kernel_rfl) (by simp) fun i hi => ?_
  obtain rfl : i = 11 := by simpa using hi
  clear hi
  refine wpOp_step (o := { dst := none, op := Op.store 27 (Operand.tmp 7) (Operand.tmp 25), type := 0, pos := "outright.go:45", after := #[{ on := 8, ground := Ground.data }, { on := 5, ground := Ground.data }, { on := 10, ground := Ground.chain }, { on := 0, ground := Ground.phase }, { on := 1, ground := Ground.phase }, { on := 2, ground := Ground.phase }, { on := 3, ground := Ground.phase }, { on := 4, ground := Ground.phase }, { on := 5, ground := Ground.phase }, { on := 6, ground := Ground.phase }, { on := 7, ground := Ground.phase }, { on := 8, ground := Ground.phase }, { on := 9, ground := Ground.phase }, { on := 10, ground := Ground.phase }], guard := none }) rfl (fun K hK => ?_)
  have HK := Lib.hid hK
  clear hK
  have lB7 := HB7.out.1
  have xB70 := HB7.out.cell 0 _ rfl
  have vB70 := HB7.out.free 0 (by show 0 < 6; decide)
  have xB71 := HB7.out.cell 1 _ rfl
  have vB71 := HB7.out.free 1 (by show 1 < 6; decide)
  have xB72 := HB7.out.cell 2 _ rfl
  have vB72 := HB7.out.free 2 (by show 2 < 6; decide)
  have xB73 := HB7.out.cell 3 _ rfl
  have vB73 := HB7.out.free 3 (by show 3 < 6; decide)
  have xB74 := HB7.out.cell 4 _ rfl
  have vB74 := HB7.out.free 4 (by show 4 < 6; decide)
  have xB75 := HB7.out.cell 5 _ rfl
  have vB75 := HB7.out.free 5 (by show 5 < 6; decide)
  go_simp
  refine HK.out _ _ ⟨trivial, ?_⟩
  clear lB7 xB70 vB70 xB71 vB71 xB72 vB72 xB73 vB73 xB74 vB74 xB75 vB75
  have j7 := put6 w3 B7 q zP HB7.out
  have j5 := HB5.out.grown (grown6 w3 B7 q) (by simp; exact HN.out.2.2.2.2.1)
  have j6 := HB6.out.grown (grown6 w3 B7 q) (by simp; exact HN.out.2.2.2.2.2)
  have jW := below6 B7 q HW.out HN.out.2.2.1
  refine wpAnyH_done (by kernel_rfl) ?_ _
  exact hQ.out B5 B6 B7 _ jW HN.out.1 HN.out.2.1 HN.out.2.2.1 HN.out.2.2.2.1 HN.out.2.2.2.2.1 HN.out.2.2.2.2.2 j5 j6 j7
theorem n_zero (t : St) (h : t.n = 0) : t.l0 = true ∧ t.l2 = true ∧ t.l4 = true ∧ t.x = true ∧ t.y = true ∧ t.z = true ∧ 3 ≤ t.c := by
  obtain ⟨l0, l2, l4, x, y, z, c⟩ := t
  simp only [St.n, bn] at h
  cases l0 <;> cases l2 <;> cases l4 <;> cases x <;> cases y <;> cases z <;> simp at h ⊢ <;> omega
theorem regionT {Q : Exit → Act → World → Prop} (d0 d1 d2 d3 d4 d5 d6 d7 c0 c1 c2 c3 c4 c5 c6 c7 : Int) (A B : Nat) (s : S8) (p q : P6) (w : World) (hA : Box w A [.int .u8 d0, .int .u8 d1, .int .u8 d2, .int .u8 d3, .int .u32 d4, .int .u32 d5, .int .u32 d6, .int .u32 d7]) (hB : Box w B [.int .u8 c0, .int .u8 c1, .int .u8 c2, .int .u8 c3, .int .u32 c4, .int .u32 c5, .int .u32 c6, .int .u32 c7])
    (cS1 : Hid (∀ w, Calls Tryd.prog 10 #[.agg #[.int .u8 d0, .int .u8 d1, .int .u8 d2, .int .u8 d3, .int .u32 d4, .int .u32 d5, .int .u32 d6, .int .u32 d7]] w fun r w' => r = .returned (.agg #[.int .i64 s.a, .int .i64 s.u, .int .i64 s.f0, .int .i64 s.f1, .int .i64 s.b0, .int .i64 s.b1, .int .i64 s.l0, .int .i64 s.l1]) ∧ Below w.heap.size w w'))
    (cP1 : Hid (∀ w, Calls Tryd.prog 11 #[.agg #[.int .u8 d0, .int .u8 d1, .int .u8 d2, .int .u8 d3, .int .u32 d4, .int .u32 d5, .int .u32 d6, .int .u32 d7]] w fun r w' => r = .returned (.agg #[.int .i64 p.k, .int .i64 p.n, .int .i64 p.m, .int .i64 p.c0, .int .i64 p.c1, .string p.t]) ∧ Below w.heap.size w w'))
    (cP2 : Hid (∀ w, Calls Tryd.prog 11 #[.agg #[.int .u8 c0, .int .u8 c1, .int .u8 c2, .int .u8 c3, .int .u32 c4, .int .u32 c5, .int .u32 c6, .int .u32 c7]] w fun r w' => r = .returned (.agg #[.int .i64 q.k, .int .i64 q.n, .int .i64 q.m, .int .i64 q.c0, .int .i64 q.c1, .string q.t]) ∧ Below w.heap.size w w'))
    (hQ : Hid (EndT Q #[.int .u8 d0, .int .u8 d1, .int .u8 d2, .int .u8 d3, .int .u32 d4, .int .u32 d5, .int .u32 d6, .int .u32 d7] #[.int .u8 c0, .int .u8 c1, .int .u8 c2, .int .u8 c3, .int .u32 c4, .int .u32 c5, .int .u32 c6, .int .u32 c7] A B s p q w)) :
    (Code.region 3 opsT true).wp Tryd.prog Q (actT (.agg #[.int .u8 d0, .int .u8 d1, .int .u8 d2, .int .u8 d3, .int .u32 d4, .int .u32 d5, .int .u32 d6, .int .u32 d7]) (.agg #[.int .u8 c0, .int .u8 c1, .int .u8 c2, .int .u8 c3, .int .u32 c4, .int .u32 c5, .int .u32 c6, .int .u32 c7]) (.pointer (some ⟨A, 0, none⟩)) (.pointer (some ⟨B, 0, none⟩)) undef undef undef undef undef undef undef undef undef) w := by
  refine wp_region_held_drew (S := fun _ => True) (by kernel_rfl) trivial (fun _ => ?_)
  refine perm (JT w #[.int .u8 d0, .int .u8 d1, .int .u8 d2, .int .u8 d3, .int .u32 d4, .int .u32 d5, .int .u32 d6, .int .u32 d7] #[.int .u8 c0, .int .u8 c1, .int .u8 c2, .int .u8 c3, .int .u32 c4, .int .u32 c5, .int .u32 c6, .int .u32 c7] A B s p q) (fun _ _ _ h => h.1) tabT (fun t a w' i hJ hi => stepT d0 d1 d2 d3 d4 d5 d6 d7 c0 c1 c2 c3 c4 c5 c6 c7 A B s p q w hA hB cS1 cP1 cP2 t a w' i hJ hi) ?_ 9 ⟨false, false, false, false, false, false, 0⟩ _ w.drew rfl ?_
  · intro t a wz hJ hn
    obtain ⟨e0, e2, e4, ex, ey, ez, ec⟩ := n_zero t hn
    obtain ⟨_, hW, v5, v6, v7, r20, r21, r22, r23, r24, r25, B5, B6, B7, rfl, k0, k2, k4, k21, k23, k25, kx, ky, kz, kxy, kxz, kyz⟩ := hJ
    obtain rfl := k0 e0
    obtain rfl := k2 e2
    obtain rfl := k4 e4
    obtain rfl := k21 (by omega)
    obtain rfl := k23 (by omega)
    obtain rfl := k25 ec
    obtain ⟨rfl, g5, h5⟩ := kx ex
    obtain ⟨rfl, g6, h6⟩ := ky ey
    obtain ⟨rfl, g7, h7⟩ := kz ez
    have hl : t.lst = #[true, true, true, true, true, true, true, true, true, false, false, false] := by
      unfold St.lst
      rw [e0, e2, e4, ex, ey, ez, decide_eq_true (show 1 ≤ t.c by omega), decide_eq_true (show 2 ≤ t.c by omega), decide_eq_true ec]
    rw [hl]
    exact storesT d0 d1 d2 d3 d4 d5 d6 d7 c0 c1 c2 c3 c4 c5 c6 c7 A B B5 B6 B7 s p q w wz hQ hW g5 g6 g7 (kxy ex ey) (kxz ex ez) (kyz ey ez) h5 h6 h7
  · exact ⟨rfl, (Below.refl _ w).drew, _, _, _, _, _, _, _, _, _, 0, 0, 0, rfl, (fun h => Bool.noConfusion h), (fun h => Bool.noConfusion h), (fun h => Bool.noConfusion h), (fun h => absurd (show 1 ≤ 0 from h) (by omega)), (fun h => absurd (show 2 ≤ 0 from h) (by omega)), (fun h => absurd (show 3 ≤ 0 from h) (by omega)), (fun h => Bool.noConfusion h), (fun h => Bool.noConfusion h), (fun h => Bool.noConfusion h), (fun h => Bool.noConfusion h), (fun h => Bool.noConfusion h), (fun h => Bool.noConfusion h)⟩
end Go.Proofs.YtokjjeekkfefmaaDoor.Sty
