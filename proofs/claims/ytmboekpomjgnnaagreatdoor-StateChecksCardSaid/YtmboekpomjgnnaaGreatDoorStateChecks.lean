/-
  The walk of StateChecks.
-/
import Derived.Deep.RegionHeld3
import Derived.Test.YtmboekpomjgnnaaGreatDoorF51
namespace Go.Proofs.YtmboekpomjgnnaaGreatDoor.Sta
open Go.RowKit Utf Par
attribute [local go_sem] min_300

/-- a parse and where its slices lie -/
structure Q8 where
  p : PS
  au : Option Addr
  aq : Option Addr
  cu : Nat
  cq : Nat
def okQ (w : World) (z : Q8) : Prop := RS w (.slice z.au z.p.utf.length z.cu) (.slice z.aq z.p.ps.length z.cq) z.p ∧ Lim z.p
theorem okQ.keep {w w' : World} {z : Q8} (h : okQ w z) (hb : Below w.heap.size w w') : okQ w' z := ⟨h.1.keep hb, h.2⟩
def cQ (z : Q8) : List Value := [.int .i64 z.p.st, .slice z.au z.p.utf.length z.cu, .int .u8 (z.p.pr.toNat : Int), .int .u8 (z.p.fi.toNat : Int), .slice z.aq z.p.ps.length z.cq, .string z.p.it, .string z.p.tx, .bool z.p.bad]
theorem nine_at : ∀ (xs : List Q8) (j : Nat) (p : Q8) (i : Nat), xs[j]? = some p → i < 8 → (xs.flatMap cQ)[j * 8 + i]? = (cQ p)[i]?
  | [], j, p, i, h, _ => by simp at h
  | x :: r, 0, p, i, h, hi => by
    obtain rfl : x = p := by simpa using h
    rw [List.flatMap_cons, List.getElem?_append_left (by show 0 * 8 + i < 8; omega)]
    simp
  | x :: r, j + 1, p, i, h, hi => by
    rw [List.flatMap_cons, List.getElem?_append_right (by show 8 ≤ (j + 1) * 8 + i; omega)]
    rw [show (j + 1) * 8 + i - (cQ x).length = j * 8 + i from by show (j + 1) * 8 + i - 8 = _; omega]
    exact nine_at r j p i (by simpa using h) hi
theorem may_it {p : PS} (h : mayS p = true) : p.it.size ≤ 1000 := by
  cases hb : p.bad with
  | true =>
    obtain ⟨e, _⟩ := may_bad h hb
    rw [e]
    show 0 ≤ 1000
    omega
  | false =>
    have g := (may_good hb).1 h
    have := g.itm
    unfold mostS at this
    split at this <;> omega
theorem fed_it (p : PS) (bs : List UInt8) : (fedS p bs).1.it.size ≤ 1000 := by
  unfold fedS
  cases h : mayS p with
  | false => exact Nat.zero_le _
  | true =>
    rw [if_pos rfl]
    split
    · exact Nat.zero_le _
    · exact may_it (run_may bs (p, []) h)
theorem u8_of (n : Int) (h0 : 0 ≤ n) (h1 : n < 256) : ∃ d : UInt8, n = (d.toNat : Int) := ⟨UInt8.ofNat n.toNat, by rw [UInt8.toNat_ofNat']; omega⟩
theorem wpList_build_as {P : Program} {ops : Array Oper} {rest : List Oper} {o : Oper} {a : Act} {w : World} {Q : Exit → Act → World → Prop} (hgd : o.guard = none) (t : TypeId) (parts : Array (Nat × Operand)) (ho : o.op = .build t parts) (cells : Array Value)
    (hb : P.built t (parts.map fun (i, x) => (i, a.eval x)).toList = some cells) (h : wpList P ops Q rest (a.put o.dst (.agg cells)) w) : wpList P ops Q (o :: rest) a w :=
  wpList_plain hgd fun _ hK => wp_build t parts ho (by rw [hb]; rfl) (by rw [hb]; exact hK _ _ h)
theorem there_last (w : World) (cs : Array Value) (t : TypeId) (n : Nat) (h : n ≤ cs.size) : (w.alloc (.cells cs t)).there w.heap.size 0 n := fun j hj => by
  have hg := heap_alloc_new w (.cells cs t)
  refine ⟨?_, frozen_of_row _ _ _ cs t hg⟩
  rw [cell_of_row _ _ _ cs t (0, 0) hg, Nat.zero_add, Array.getElem?_eq_getElem (by omega)]
  rfl
theorem sizeCells (b : Nat) : ∀ (vs : List Value) (o : Nat) (w : World), (w.setCells b o vs).heap.size = w.heap.size
  | [], _, _ => rfl
  | v :: r, o, w => by rw [World.setCells, sizeCells b r]; simp
theorem Box.put {w : World} {b : Nat} {cs ds : List Value} (h : Box w b cs) (hl : ds.length = cs.length) : Box (w.setCells b 0 ds) b ds :=
  ⟨by rw [sizeCells]; exact h.1, World.rangeAt_setCells_same w b 0 ds (by rw [hl]; exact h.2.2), World.there_setCells (by rw [hl]; exact h.2.2) _ _ _⟩
def arr9 (x y : Q8) : Array Value := ([x, y, y, y, y, y, y, y, y].flatMap cQ).toArray
theorem arr_sz (x y : Q8) : (Tryz.prog.info? 31).map (·.size) = some (arr9 x y).size := by kernel_rfl
theorem arr_one (x y : Q8) : (arr9 x y).all (·.oneCell') = true := by kernel_rfl
noncomputable def aW (w : World) (x y : Q8) : World := (w.alloc (.cells Tryz.zeroCells31 31)).setCells w.heap.size 0 (arr9 x y).toList
theorem aW_ok (w : World) (x y : Q8) : Box (aW w x y) w.heap.size ([x, y, y, y, y, y, y, y, y].flatMap cQ) ∧ Below w.heap.size w (aW w x y) :=
  ⟨Box.put (Box.new w Tryz.zeroCells31 31) (by kernel_rfl), below_setCells _ _ _ _ (below_box _ _) (Nat.le_refl _)⟩
/-- the nine parses, each with its field replaced -/
def mod9 (x y : Q8) (s : Int) (b : UInt8) (it : ByteArray) : List Q8 :=
  [x, y, { y with p := { y.p with st := s } }, { y with p := { y.p with pr := b } }, { y with p := { y.p with fi := b } }, { y with p := { y.p with it := it } }, { y with p := { y.p with bad := !y.p.bad } }, { y with p := { y.p with ps := x.p.ps }, aq := x.aq, cq := x.cq }, { y with p := { y.p with tx := x.p.tx } }]
theorem mod9_ok {w : World} {x y : Q8} (s : Int) (b : UInt8) (it : ByteArray) (hx : okQ w x) (hy : okQ w y) (hi : it.size ≤ 1000000) : ∀ z ∈ mod9 x y s b it, okQ w z := by
  intro z hz
  unfold mod9 at hz
  simp only [List.mem_cons, List.not_mem_nil, or_false] at hz
  rcases hz with rfl | rfl | rfl | rfl | rfl | rfl | rfl | rfl | rfl
  · exact hx
  · exact hy
  · exact ⟨⟨hy.1.1, hy.1.2⟩, hy.2⟩
  · exact ⟨⟨hy.1.1, hy.1.2⟩, hy.2⟩
  · exact ⟨⟨hy.1.1, hy.1.2⟩, hy.2⟩
  · exact ⟨⟨hy.1.1, hy.1.2⟩, hy.2.1, hy.2.2.1, hi, hy.2.2.2.2⟩
  · exact ⟨⟨hy.1.1, hy.1.2⟩, hy.2⟩
  · exact ⟨⟨hy.1.1, hx.1.2⟩, hy.2.1, hx.2.2.1, hy.2.2.2.1, hy.2.2.2.2⟩
  · exact ⟨⟨hy.1.1, hy.1.2⟩, hy.2.1, hy.2.2.1, hy.2.2.2.1, hx.2.2.2.2⟩
set_option maxRecDepth 100000 in
theorem ix9 (b k : Nat) (h : k < 9) (w : World) : (Instr.indexAt 31 (.pointer (some ⟨b, 0, none⟩)) (.int .i64 (k : Int))).run Tryz.prog w = .ok (.pointer (some ⟨b, k * 8, none⟩)) w := by
  rcases (show k = 0 ∨ k = 1 ∨ k = 2 ∨ k = 3 ∨ k = 4 ∨ k = 5 ∨ k = 6 ∨ k = 7 ∨ k = 8 by omega) with rfl | rfl | rfl | rfl | rfl | rfl | rfl | rfl | rfl <;> kernel_rfl
theorem mod9_is (x y : Q8) (s : Int) (b : UInt8) (it : ByteArray) : ((((((([x, y, y, y, y, y, y, y, y].flatMap cQ).set 16 (.int .i64 s)).set 26 (.int .u8 (b.toNat : Int))).set 35 (.int .u8 (b.toNat : Int))).set 45 (.string it)).set 55 (.bool (!y.p.bad))).set 60 (.slice x.aq x.p.ps.length x.cq)).set 70 (.string x.p.tx) = (mod9 x y s b it).flatMap cQ := rfl

set_option maxRecDepth 100000 in
set_option maxHeartbeats 8000000 in
theorem checks6_any (p : PS) (au aq A : Option Addr) (nu cu nq cq nb cb : Nat) (bs : List UInt8) (n : Int) (ea eb : EQ) (W0 : World) (hr : RS W0 (.slice au nu cu) (.slice aq nq cq) p) (h1 : nu = p.utf.length) (h2 : nq = p.ps.length)
    (hb : Rd W0 A (cB bs)) (hn : nb = bs.length) (hc : nb ≤ cb) (_hn1 : -9223372036854775808 ≤ n) (_hn2 : n ≤ 9223372036854775807) (hea : RL W0 (.slice ea.A ea.n ea.c) ea.e.ps) (heb : RL W0 (.slice eb.A eb.n eb.c) eb.e.ps) (hm : Mk W0) (ht : Tf W0) :
    Calls Tryz.prog 3 #[.agg (cS p (.slice au nu cu) (.slice aq nq cq)), .slice A nb cb, .int .i64 n, .agg (cE ea ++ cE eb).toArray] W0 fun e w' => e = .returned (.bool true) ∧ Below W0.heap.size W0 w' := by
  unfold cS cE
  dsimp only [List.cons_append, List.nil_append, List.toArray]
  have hx1 := (Box.new W0 #[.int .i64 p.st, .slice au nu cu, .int .u8 (p.pr.toNat : Int), .int .u8 (p.fi.toNat : Int), .slice aq nq cq, .string p.it, .string p.tx, .bool p.bad] 25).alloc (.cells #[.int .i64 ea.e.k, .int .i64 ea.e.c, .int .u8 (ea.e.pr.toNat : Int), .int .u8 (ea.e.fi.toNat : Int), .slice ea.A ea.n ea.c, .string ea.e.it, .string ea.e.tx, .int .i64 eb.e.k, .int .i64 eb.e.c, .int .u8 (eb.e.pr.toNat : Int), .int .u8 (eb.e.fi.toNat : Int), .slice eb.A eb.n eb.c, .string eb.e.it, .string eb.e.tx] 28)
  have he1 := Box.new (W0.alloc (.cells #[.int .i64 p.st, .slice au nu cu, .int .u8 (p.pr.toNat : Int), .int .u8 (p.fi.toNat : Int), .slice aq nq cq, .string p.it, .string p.tx, .bool p.bad] 25)) #[.int .i64 ea.e.k, .int .i64 ea.e.c, .int .u8 (ea.e.pr.toNat : Int), .int .u8 (ea.e.fi.toNat : Int), .slice ea.A ea.n ea.c, .string ea.e.it, .string ea.e.tx, .int .i64 eb.e.k, .int .i64 eb.e.c, .int .u8 (eb.e.pr.toNat : Int), .int .u8 (eb.e.fi.toNat : Int), .slice eb.A eb.n eb.c, .string eb.e.it, .string eb.e.tx] 28
  have hb1 : Below W0.heap.size W0 ((W0.alloc (.cells #[.int .i64 p.st, .slice au nu cu, .int .u8 (p.pr.toNat : Int), .int .u8 (p.fi.toNat : Int), .slice aq nq cq, .string p.it, .string p.tx, .bool p.bad] 25)).alloc (.cells #[.int .i64 ea.e.k, .int .i64 ea.e.c, .int .u8 (ea.e.pr.toNat : Int), .int .u8 (ea.e.fi.toNat : Int), .slice ea.A ea.n ea.c, .string ea.e.it, .string ea.e.tx, .int .i64 eb.e.k, .int .i64 eb.e.c, .int .u8 (eb.e.pr.toNat : Int), .int .u8 (eb.e.fi.toNat : Int), .slice eb.A eb.n eb.c, .string eb.e.it, .string eb.e.tx] 28)) := up (below_box _ _) (below_box _ _)
  rw [World.size_alloc] at he1
  have HR := Lib.hid hr
  have HN := Lib.hid (And.intro h1 h2)
  have HB := Lib.hid hb
  have HNB := Lib.hid hn
  have HM := Lib.hid hm
  have HT := Lib.hid ht
  have HEA := Lib.hid hea
  have HEB := Lib.hid heb
  have HX1 := Lib.hid hx1
  have HE1 := Lib.hid he1
  have HB1 := Lib.hid hb1
  have m1 : (mn300 nb : Int) ≤ (cb : Int) := by unfold mn300; omega
  clear hr h1 h2 hb hn hm ht hx1 hb1 hea heb he1
  go_enter Tryz.func3, Tryz.ntmps3
  go_upto_region 1 with fail
  generalize (W0.alloc (.cells #[.int .i64 p.st, .slice au nu cu, .int .u8 (p.pr.toNat : Int), .int .u8 (p.fi.toNat : Int), .slice aq nq cq, .string p.it, .string p.tx, .bool p.bad] 25)).alloc (.cells #[.int .i64 ea.e.k, .int .i64 ea.e.c, .int .u8 (ea.e.pr.toNat : Int), .int .u8 (ea.e.fi.toNat : Int), .slice ea.A ea.n ea.c, .string ea.e.it, .string ea.e.tx, .int .i64 eb.e.k, .int .i64 eb.e.c, .int .u8 (eb.e.pr.toNat : Int), .int .u8 (eb.e.fi.toNat : Int), .slice eb.A eb.n eb.c, .string eb.e.it, .string eb.e.tx] 28) = w1 at HX1 HB1 HE1 ⊢
  have hS : Calls Tryz.prog 6 #[.agg #[.int .i64 p.st, .slice au nu cu, .int .u8 (p.pr.toNat : Int), .int .u8 (p.fi.toNat : Int), .slice aq nq cq, .string p.it, .string p.tx, .bool p.bad]] w1 fun e w' => ∃ u q, e = .returned (.agg (cS (shS p) u q)) ∧ PX (fun k => k < W0.heap.size ∨ w1.heap.size ≤ k) w' u q (shS p) ∧ Below w1.heap.size w1 w' := short6_at p au aq nu cu nq cq W0 w1 HR.out HB1.out HN.out.1 HN.out.2
  have hO : ∀ W, Below W0.heap.size W0 W → Calls Tryz.prog 7 #[.slice A (mn300 nb) cb] W fun e w' => ∃ u q, e = .returned (.agg (cS (fedS (begS 0) (bs.take 300)).1 u q)) ∧ RS w' u q (fedS (begS 0) (bs.take 300)).1 ∧ Below W.heap.size W w' := fun W hW => some6_any A (mn300 nb) cb (bs.take 300) W ((rd_take HB.out 300).below hW) (by rw [List.length_take, ← HNB.out]; unfold mn300; omega) (by unfold mn300; omega)
  obtain ⟨x0, hx0⟩ : ∃ x, shS p = x := ⟨_, rfl⟩
  obtain ⟨x1, hx1⟩ : ∃ x, (fedS (begS 0) (bs.take 300)).1 = x := ⟨_, rfl⟩
  have hl0 := lim_sh p
  have hl1 := lim_fed (begS 0) (bs.take 300)
  have hit := fed_it (begS 0) (bs.take 300)
  rw [hx0] at hS hl0
  rw [hx1] at hO hl1 hit
  clear hx0 hx1
  obtain ⟨st0, utf0, pr0, fi0, pp0, it0, tx0, bad0⟩ := x0
  obtain ⟨st1, utf1, pr1, fi1, pp1, it1, tx1, bad1⟩ := x1
  dsimp only at hit
  have hit2 : ¬ (9223372036854775807 < it1.size + 1) := by omega
  have HL0 := Lib.hid hl0
  have HL1 := Lib.hid hl1
  have HS := Lib.hid hS
  have HO := Lib.hid hO
  have hx2 := HX1.out
  obtain ⟨x0, f0, x1, f1, x2, f2, x3, f3, x4, f4, x5, f5, x6, f6, x7, f7⟩ := cf8 hx2
  clear hS hO hl0 hl1 hx2
  go_upto_region 2 with (go_at_call 6; refine HS.out.mono ?_; rintro e w2 ⟨u, q, he0, hp, hb⟩; obtain ⟨Au0, cu0, hu⟩ := hp.1.1.form; obtain ⟨Aq0, cq0, hq⟩ := hp.1.2.form; dsimp only at hu hq; subst hu; subst hq; have he1 : e = .returned (.agg #[.int .i64 st0, .slice Au0 utf0.length cu0, .int .u8 (pr0.toNat : Int), .int .u8 (fi0.toNat : Int), .slice Aq0 pp0.length cq0, .string it0, .string tx0, .bool bad0]) := he0; clear he0; subst he1; have HP0 := Lib.hid hp; have HB2 := Lib.hid hb; have hx3 := HX1.out.keep hb; obtain ⟨y0, g0, y1, g1, y2, g2, y3, g3, y4, g4, y5, g5, y6, g6, y7, g7⟩ := cf8 hx3; have HX2 := Lib.hid hx3; have HE2 := Lib.hid (HE1.out.keep hb); clear hx3; clear hp hb)
  have gs := grown_set8 w2 W0.heap.size (.int .i64 st0) (.slice Au0 utf0.length cu0) (.int .u8 (pr0.toNat : Int)) (.int .u8 (fi0.toNat : Int)) (.slice Aq0 pp0.length cq0) (.string it0) (.string tx0) (.bool bad0)
  have hx3 := box_set8 (.int .i64 st0) (.slice Au0 utf0.length cu0) (.int .u8 (pr0.toNat : Int)) (.int .u8 (fi0.toNat : Int)) (.slice Aq0 pp0.length cq0) (.string it0) (.string tx0) (.bool bad0) HX2.out
  have he3 := HE2.out.grown gs (by intro e; injection e with e; omega)
  have hlt1 := HX1.out.1
  have hp3 := PX.on (Y := fun _ => True) gs.size (fun k hk => gs.block k hk.2 (by intro e; injection e with e; have := hk.1; omega)) HP0.out.below (fun _ _ => trivial)
  have hb3 : Below W0.heap.size W0 _ := (up HB1.out HB2.out).grown gs (up HB1.out HB2.out).size (fun k hk => by cases hk; exact Nat.le_refl _)
  generalize ((((((((w2.setCell ⟨W0.heap.size, 0, none⟩ (.int .i64 st0)).setCell ⟨W0.heap.size, 1, none⟩ (.slice Au0 utf0.length cu0)).setCell ⟨W0.heap.size, 2, none⟩ (.int .u8 (pr0.toNat : Int))).setCell ⟨W0.heap.size, 3, none⟩ (.int .u8 (fi0.toNat : Int))).setCell ⟨W0.heap.size, 4, none⟩ (.slice Aq0 pp0.length cq0)).setCell ⟨W0.heap.size, 5, none⟩ (.string it0)).setCell ⟨W0.heap.size, 6, none⟩ (.string tx0)).setCell ⟨W0.heap.size, 7, none⟩ (.bool bad0)) = w3 at gs hx3 he3 hp3 hb3 ⊢
  have HX3 := Lib.hid hx3
  have HE3 := Lib.hid he3
  have HP3 := Lib.hid hp3.1
  have HB3 := Lib.hid hb3
  clear gs hx3 he3 hp3 hb3 x0 f0 y0 g0 x1 f1 y1 g1 x2 f2 y2 g2 x3 f3 y3 g3 x4 f4 y4 g4 x5 f5 y5 g5 x6 f6 y6 g6 x7 f7 y7 g7
  go_upto_region 3 with (go_at_call 7; refine (HO.out _ HB3.out).mono ?_; rintro e w4 ⟨u, q, he0, hp, hb⟩; obtain ⟨Au1, cu1, hu⟩ := hp.1.form; obtain ⟨Aq1, cq1, hq⟩ := hp.2.form; dsimp only at hu hq; subst hu; subst hq; have he1 : e = .returned (.agg #[.int .i64 st1, .slice Au1 utf1.length cu1, .int .u8 (pr1.toNat : Int), .int .u8 (fi1.toNat : Int), .slice Aq1 pp1.length cq1, .string it1, .string tx1, .bool bad1]) := he0; clear he0; subst he1; have HP1 := Lib.hid hp; have HB4 := Lib.hid hb; clear hp hb)
  have hx5 := Box.new w4 #[.int .i64 st1, .slice Au1 utf1.length cu1, .int .u8 (pr1.toNat : Int), .int .u8 (fi1.toNat : Int), .slice Aq1 pp1.length cq1, .string it1, .string tx1, .bool bad1] 25
  have hb5 := below_box w4 (.cells #[.int .i64 st1, .slice Au1 utf1.length cu1, .int .u8 (pr1.toNat : Int), .int .u8 (fi1.toNat : Int), .slice Aq1 pp1.length cq1, .string it1, .string tx1, .bool bad1] 25)
  have hp5 := (HX3.out.keep HB4.out).keep hb5
  have HO5 := Lib.hid hx5
  have HX5 := Lib.hid hp5
  have HE5 := Lib.hid ((HE3.out.keep HB4.out).keep hb5)
  have HQ0 := Lib.hid ((HP3.out.keep HB4.out).keep hb5)
  have HQ1 := Lib.hid (HP1.out.keep hb5)
  have HB5 := Lib.hid (up (up HB3.out HB4.out) hb5)
  have hn4 : W0.heap.size + 1 < w4.heap.size := (HE3.out.keep HB4.out).1
  clear hb5
  generalize w4.alloc (.cells #[.int .i64 st1, .slice Au1 utf1.length cu1, .int .u8 (pr1.toNat : Int), .int .u8 (fi1.toNat : Int), .slice Aq1 pp1.length cq1, .string it1, .string tx1, .bool bad1] 25) = w5 at hx5 hp5 HO5 HX5 HE5 HQ0 HQ1 HB5 ⊢
  generalize w4.heap.size = B1 at hx5 HO5 hn4 ⊢
  have x0 := hp5.cell 0 _ rfl
  have x1 := hp5.cell 1 _ rfl
  have x2 := hp5.cell 2 _ rfl
  have x3 := hp5.cell 3 _ rfl
  have x4 := hp5.cell 4 _ rfl
  have x5 := hp5.cell 5 _ rfl
  have x6 := hp5.cell 6 _ rfl
  have x7 := hp5.cell 7 _ rfl
  have y0 := hx5.cell 0 _ rfl
  have y1 := hx5.cell 1 _ rfl
  have y2 := hx5.cell 2 _ rfl
  have y3 := hx5.cell 3 _ rfl
  have y4 := hx5.cell 4 _ rfl
  have y5 := hx5.cell 5 _ rfl
  have y6 := hx5.cell 6 _ rfl
  have y7 := hx5.cell 7 _ rfl
  clear hx5 hp5
  go_upto_region 4 with (first
    | ((with_reducible refine wpList_build_as rfl 31 _ rfl (arr9 ⟨⟨st0, utf0, pr0, fi0, pp0, it0, tx0, bad0⟩, Au0, Aq0, cu0, cq0⟩ ⟨⟨st1, utf1, pr1, fi1, pp1, it1, tx1, bad1⟩, Au1, Aq1, cu1, cq1⟩) ?hb ?_); (case hb => kernel_rfl))
    | ((with_reducible refine wpList_store_mid rfl 31 (.tmp 10) (.tmp 31) rfl w5.heap.size 0 (arr9 ⟨⟨st0, utf0, pr0, fi0, pp0, it0, tx0, bad0⟩, Au0, Aq0, cu0, cq0⟩ ⟨⟨st1, utf1, pr1, fi1, pp1, it1, tx1, bad1⟩, Au1, Aq1, cu1, cq1⟩) rfl rfl ?ht (arr_sz _ _) (arr_one _ _) ?_); (case ht => exact there_last _ _ _ _ (by show 72 ≤ 72; exact Nat.le_refl _))))
  change Code.wp _ _ _ _ (aW w5 ⟨⟨st0, utf0, pr0, fi0, pp0, it0, tx0, bad0⟩, Au0, Aq0, cu0, cq0⟩ ⟨⟨st1, utf1, pr1, fi1, pp1, it1, tx1, bad1⟩, Au1, Aq1, cu1, cq1⟩)
  obtain ⟨hl6, hb6⟩ := aW_ok w5 ⟨⟨st0, utf0, pr0, fi0, pp0, it0, tx0, bad0⟩, Au0, Aq0, cu0, cq0⟩ ⟨⟨st1, utf1, pr1, fi1, pp1, it1, tx1, bad1⟩, Au1, Aq1, cu1, cq1⟩
  have hn5 := HX5.out.1
  have hn6 := HO5.out.1
  have HO6 := Lib.hid (HO5.out.keep hb6)
  have HX6 := Lib.hid (HX5.out.keep hb6)
  have HE6 := Lib.hid (HE5.out.keep hb6)
  have HK0 := Lib.hid (HQ0.out.keep hb6)
  have HK1 := Lib.hid (HQ1.out.keep hb6)
  have HF5 := Lib.hid hb6
  clear x0 x1 x2 x3 x4 x5 x6 x7 y0 y1 y2 y3 y4 y5 y6 y7
  generalize aW w5 ⟨⟨st0, utf0, pr0, fi0, pp0, it0, tx0, bad0⟩, Au0, Aq0, cu0, cq0⟩ ⟨⟨st1, utf1, pr1, fi1, pp1, it1, tx1, bad1⟩, Au1, Aq1, cu1, cq1⟩ = w6 at hl6 hb6 HO6 HX6 HE6 HK0 HK1 HF5 ⊢
  generalize hB9 : w5.heap.size = B9 at hl6 HF5 hn5 hn6 ⊢
  have z16 := hl6.cell 16 _ rfl
  have v16 := hl6.free 16 (by show 16 < 72; decide)
  have z26 := hl6.cell 26 _ rfl
  have v26 := hl6.free 26 (by show 26 < 72; decide)
  have z35 := hl6.cell 35 _ rfl
  have v35 := hl6.free 35 (by show 35 < 72; decide)
  have HL6 := Lib.hid hl6
  clear hl6 hb6
  dsimp only [cQ] at z16 z26 z35
  obtain ⟨b8, hb8⟩ := u8_of (n % 256) (by omega) (by omega)
  go_upto_region 7 with fail
  obtain ⟨s8, hs8⟩ : ∃ s, wrap64 (wrap64 ((IntKind.u64.wrap n).tmod 17) - 1) = s := ⟨_, rfl⟩
  rw [hs8, hb8]
  have hl7 := ((HL6.out.set 16 (.int .i64 s8)).set 26 (.int .u8 (b8.toNat : Int))).set 35 (.int .u8 (b8.toNat : Int))
  have hd7 := ((HF5.out.setCell (p := ⟨B9, 16, none⟩) (Nat.le_refl _) (.int .i64 s8)).setCell (p := ⟨B9, 26, none⟩) (Nat.le_refl _) (.int .u8 (b8.toNat : Int))).setCell (p := ⟨B9, 35, none⟩) (Nat.le_refl _) (.int .u8 (b8.toNat : Int))
  clear z16 v16 z26 v26 z35 v35 hs8
  generalize ((w6.setCell ⟨B9, 16, none⟩ (.int .i64 s8)).setCell ⟨B9, 26, none⟩ (.int .u8 (b8.toNat : Int))).setCell ⟨B9, 35, none⟩ (.int .u8 (b8.toNat : Int)) = w7 at hl7 hd7 ⊢
  have y5 := (HO5.out.below hd7 (by omega)).cell 5 _ rfl
  have hb7 := below_box w7 (.cells #[.int .u8 (b8.toNat : Int)] 5)
  have hcv := str_of (w7.alloc (.cells #[.int .u8 (b8.toNat : Int)] 5)) (some ⟨w7.heap.size, 0, none⟩) 1 [b8] (Rd.one _ (.int .u8 (b8.toNat : Int)) 5)
  dsimp only [List.length] at hcv
  have hl8 := hl7.keep hb7
  have z45 := hl8.cell 45 _ rfl
  have v45 := hl8.free 45 (by show 45 < 72; decide)
  dsimp only [cQ] at z45
  go_upto_region 8 with fail
  have hl9 := hl8.set 45 (.string (it1 ++ ⟨#[b8]⟩))
  have hd9 := (hd7.trans (hb7.mono (by rw [← hB9]; exact hd7.size))).setCell (p := ⟨B9, 45, none⟩) (Nat.le_refl _) (.string (it1 ++ ⟨#[b8]⟩))
  clear hcv hb7 hl7 hl8 hd7 z45 v45 y5
  generalize ((w7.alloc (.cells #[.int .u8 (b8.toNat : Int)] 5)).setCell ⟨B9, 45, none⟩ (.string (it1 ++ ⟨#[b8]⟩))) = w9 at hl9 hd9 ⊢
  have y7 := (HO5.out.below hd9 (by omega)).cell 7 _ rfl
  have x4 := (HX5.out.below hd9 (by omega)).cell 4 _ rfl
  have x6 := (HX5.out.below hd9 (by omega)).cell 6 _ rfl
  have z55 := hl9.cell 55 _ rfl
  have v55 := hl9.free 55 (by show 55 < 72; decide)
  have z60 := hl9.cell 60 _ rfl
  have v60 := hl9.free 60 (by show 60 < 72; decide)
  have z70 := hl9.cell 70 _ rfl
  have v70 := hl9.free 70 (by show 70 < 72; decide)
  dsimp only [cQ] at z55 z60 z70
  go_upto_region 11 with fail
  have hlA := ((hl9.set 55 (.bool (!bad1))).set 60 (.slice Aq0 pp0.length cq0)).set 70 (.string tx0)
  rw [mod9_is ⟨⟨st0, utf0, pr0, fi0, pp0, it0, tx0, bad0⟩, Au0, Aq0, cu0, cq0⟩ ⟨⟨st1, utf1, pr1, fi1, pp1, it1, tx1, bad1⟩, Au1, Aq1, cu1, cq1⟩ s8 b8 (it1 ++ ⟨#[b8]⟩)] at hlA
  have hdA := ((hd9.setCell (p := ⟨B9, 55, none⟩) (Nat.le_refl _) (.bool (!bad1))).setCell (p := ⟨B9, 60, none⟩) (Nat.le_refl _) (.slice Aq0 pp0.length cq0)).setCell (p := ⟨B9, 70, none⟩) (Nat.le_refl _) (.string tx0)
  have hokA := mod9_ok (w := w5) (x := ⟨⟨st0, utf0, pr0, fi0, pp0, it0, tx0, bad0⟩, Au0, Aq0, cu0, cq0⟩) (y := ⟨⟨st1, utf1, pr1, fi1, pp1, it1, tx1, bad1⟩, Au1, Aq1, cu1, cq1⟩) s8 b8 (it1 ++ ⟨#[b8]⟩) ⟨HQ0.out, HL0.out⟩ ⟨HQ1.out, HL1.out⟩ (by rw [ByteArray.size_append]; show it1.size + 1 ≤ 1000000; omega)
  have hlenA : (mod9 ⟨⟨st0, utf0, pr0, fi0, pp0, it0, tx0, bad0⟩, Au0, Aq0, cu0, cq0⟩ ⟨⟨st1, utf1, pr1, fi1, pp1, it1, tx1, bad1⟩, Au1, Aq1, cu1, cq1⟩ s8 b8 (it1 ++ ⟨#[b8]⟩)).length = 9 := rfl
  generalize mod9 ⟨⟨st0, utf0, pr0, fi0, pp0, it0, tx0, bad0⟩, Au0, Aq0, cu0, cq0⟩ ⟨⟨st1, utf1, pr1, fi1, pp1, it1, tx1, bad1⟩, Au1, Aq1, cu1, cq1⟩ s8 b8 (it1 ++ ⟨#[b8]⟩) = l9 at hlA hokA hlenA
  generalize ((w9.setCell ⟨B9, 55, none⟩ (.bool (!bad1))).setCell ⟨B9, 60, none⟩ (.slice Aq0 pp0.length cq0)).setCell ⟨B9, 70, none⟩ (.string tx0) = wA at hlA hdA ⊢
  have HLA := Lib.hid hlA
  have HDA := Lib.hid (show Below w5.heap.size w5 wA by rw [hB9]; exact hdA)
  have HOK := Lib.hid hokA
  have hX5 := HX5.out.keep HDA.out
  have hO5 := HO5.out.keep HDA.out
  have HXA := Lib.hid hX5
  have HOA := Lib.hid hO5
  have HBA := Lib.hid (up HB5.out HDA.out)
  clear hlA hdA hokA hl9 hd9 x4 x6 y7 z55 v55 z60 v60 z70 v70 hX5 hO5
  go_wp2_with fail
  go_loopw [11] (fun i wr => ∃ k : Nat, k ≤ 9 ∧ i = .int .i64 k ∧ Hid (Below wA.heap.size wA wr)) (fun i _ => 9 - (intOf i).toNat)
  case atStart => exact ⟨0, by decide, rfl, Below.refl _ _⟩
  case round =>
    obtain ⟨k, hk, rfl, hid⟩ := hrel
    have hbe := up HBA.out hid.out
    have hb5r := up HDA.out hid.out
    by_cases hlt : k < 9
    · have i1 : (k : Int) < 9 := by omega
      have i0 : (0 : Int) ≤ (k : Int) := by omega
      obtain ⟨z, hz⟩ := get_some l9 k (by omega)
      have hq := (HOK.out z (List.mem_of_getElem? hz)).keep hb5r
      have hcz : ∀ W, Below wr.heap.size wr W → ∀ j v, (cQ z)[j]? = some v → W.cell? ⟨B9, k * 8 + j, none⟩ = some v := fun W hW j v hv => ((HLA.out.keep hid.out).keep hW).cell (k * 8 + j) v ((nine_at l9 k z j hz (by have := (List.getElem?_eq_some_iff.1 hv).1; exact this)).trans hv)
      have ix := ix9 B9 k hlt
      obtain ⟨⟨st, utf, pr, fi, pp, it, tx, bad⟩, au2, aq2, cu2, cq2⟩ := z
      obtain ⟨hq1, hl2⟩ := hq
      dsimp only at hq1 hl2
      have HC := Lib.hid (show ∀ W, Below wr.heap.size wr W → Calls Tryz.prog 8 #[.agg #[.int .i64 st, .slice au2 utf.length cu2, .int .u8 (pr.toNat : Int), .int .u8 (fi.toNat : Int), .slice aq2 pp.length cq2, .string it, .string tx, .bool bad]] W fun e w' => e = .returned (.int .i64 (if mayS ⟨st, utf, pr, fi, pp, it, tx, bad⟩ = true then 0 else 160)) ∧ Below W.heap.size W w' from fun W hW => check6_all ⟨st, utf, pr, fi, pp, it, tx, bad⟩ au2 aq2 _ cu2 _ cq2 W (hq1.keep hW) (HM.out.keep (up hbe hW)) (HT.out.keep (up hbe hW)) hl2.1 hl2.2.1 hl2.2.2.1 hl2.2.2.2)
      have HRC := Lib.hid (show ∀ W, Below wr.heap.size wr W → Calls Tryz.prog 9 #[.agg #[.int .i64 st, .slice au2 utf.length cu2, .int .u8 (pr.toNat : Int), .int .u8 (fi.toNat : Int), .slice aq2 pp.length cq2, .string it, .string tx, .bool bad]] W fun e w' => e = .returned (.int .i64 (if mayS ⟨st, utf, pr, fi, pp, it, tx, bad⟩ = true then 0 else 160)) ∧ Below W.heap.size W w' from fun W hW => rcheck6_any ⟨st, utf, pr, fi, pp, it, tx, bad⟩ au2 aq2 _ cu2 _ cq2 W (hq1.keep hW) rfl rfl hl2.kp)
      have HSO := Lib.hid (show ∀ W, Below wr.heap.size wr W → Calls Tryz.prog 10 #[.agg #[.int .i64 st, .slice au2 utf.length cu2, .int .u8 (pr.toNat : Int), .int .u8 (fi.toNat : Int), .slice aq2 pp.length cq2, .string it, .string tx, .bool bad], .agg #[.int .i64 st1, .slice Au1 utf1.length cu1, .int .u8 (pr1.toNat : Int), .int .u8 (fi1.toNat : Int), .slice Aq1 pp1.length cq1, .string it1, .string tx1, .bool bad1]] W fun e w' => e = .returned (.bool (eqS ⟨st, utf, pr, fi, pp, it, tx, bad⟩ ⟨st1, utf1, pr1, fi1, pp1, it1, tx1, bad1⟩)) ∧ Below W.heap.size W w' from fun W hW => same6_any ⟨st, utf, pr, fi, pp, it, tx, bad⟩ ⟨st1, utf1, pr1, fi1, pp1, it1, tx1, bad1⟩ _ _ _ _ _ _ _ _ _ _ _ _ W (hq1.keep hW) ((HQ1.out.keep hb5r).keep hW) hl2.2.1)
      have HRO := Lib.hid (show ∀ W, Below wr.heap.size wr W → Calls Tryz.prog 11 #[.agg #[.int .i64 st, .slice au2 utf.length cu2, .int .u8 (pr.toNat : Int), .int .u8 (fi.toNat : Int), .slice aq2 pp.length cq2, .string it, .string tx, .bool bad], .agg #[.int .i64 st1, .slice Au1 utf1.length cu1, .int .u8 (pr1.toNat : Int), .int .u8 (fi1.toNat : Int), .slice Aq1 pp1.length cq1, .string it1, .string tx1, .bool bad1]] W fun e w' => e = .returned (.bool (eqS ⟨st, utf, pr, fi, pp, it, tx, bad⟩ ⟨st1, utf1, pr1, fi1, pp1, it1, tx1, bad1⟩)) ∧ Below W.heap.size W w' from fun W hW => rsame6_any ⟨st, utf, pr, fi, pp, it, tx, bad⟩ ⟨st1, utf1, pr1, fi1, pp1, it1, tx1, bad1⟩ _ _ _ _ _ _ _ _ _ _ _ _ W (hq1.keep hW) ((HQ1.out.keep hb5r).keep hW) hl2.2.1 HL1.out.2.1)
      have HSP := Lib.hid (show ∀ W, Below wr.heap.size wr W → Calls Tryz.prog 10 #[.agg #[.int .i64 st, .slice au2 utf.length cu2, .int .u8 (pr.toNat : Int), .int .u8 (fi.toNat : Int), .slice aq2 pp.length cq2, .string it, .string tx, .bool bad], .agg #[.int .i64 st0, .slice Au0 utf0.length cu0, .int .u8 (pr0.toNat : Int), .int .u8 (fi0.toNat : Int), .slice Aq0 pp0.length cq0, .string it0, .string tx0, .bool bad0]] W fun e w' => e = .returned (.bool (eqS ⟨st, utf, pr, fi, pp, it, tx, bad⟩ ⟨st0, utf0, pr0, fi0, pp0, it0, tx0, bad0⟩)) ∧ Below W.heap.size W w' from fun W hW => same6_any ⟨st, utf, pr, fi, pp, it, tx, bad⟩ ⟨st0, utf0, pr0, fi0, pp0, it0, tx0, bad0⟩ _ _ _ _ _ _ _ _ _ _ _ _ W (hq1.keep hW) ((HQ0.out.keep hb5r).keep hW) hl2.2.1)
      have HRP := Lib.hid (show ∀ W, Below wr.heap.size wr W → Calls Tryz.prog 11 #[.agg #[.int .i64 st, .slice au2 utf.length cu2, .int .u8 (pr.toNat : Int), .int .u8 (fi.toNat : Int), .slice aq2 pp.length cq2, .string it, .string tx, .bool bad], .agg #[.int .i64 st0, .slice Au0 utf0.length cu0, .int .u8 (pr0.toNat : Int), .int .u8 (fi0.toNat : Int), .slice Aq0 pp0.length cq0, .string it0, .string tx0, .bool bad0]] W fun e w' => e = .returned (.bool (eqS ⟨st, utf, pr, fi, pp, it, tx, bad⟩ ⟨st0, utf0, pr0, fi0, pp0, it0, tx0, bad0⟩)) ∧ Below W.heap.size W w' from fun W hW => rsame6_any ⟨st, utf, pr, fi, pp, it, tx, bad⟩ ⟨st0, utf0, pr0, fi0, pp0, it0, tx0, bad0⟩ _ _ _ _ _ _ _ _ _ _ _ _ W (hq1.keep hW) ((HQ0.out.keep hb5r).keep hW) hl2.2.1 HL0.out.2.1)
      generalize (if mayS ⟨st, utf, pr, fi, pp, it, tx, bad⟩ = true then (0 : Int) else 160) = cv at HC HRC
      generalize eqS ⟨st, utf, pr, fi, pp, it, tx, bad⟩ ⟨st1, utf1, pr1, fi1, pp1, it1, tx1, bad1⟩ = e1 at HSO HRO
      generalize eqS ⟨st, utf, pr, fi, pp, it, tx, bad⟩ ⟨st0, utf0, pr0, fi0, pp0, it0, tx0, bad0⟩ = e0 at HSP HRP
      have HK := Lib.hid (show ∀ W, Below wr.heap.size wr W → (W.cell? ⟨B9, k * 8, none⟩ = some (.int .i64 st) ∧ W.cell? ⟨B9, k * 8 + 1, none⟩ = some (.slice au2 utf.length cu2) ∧ W.cell? ⟨B9, k * 8 + 2, none⟩ = some (.int .u8 (pr.toNat : Int)) ∧ W.cell? ⟨B9, k * 8 + 3, none⟩ = some (.int .u8 (fi.toNat : Int)) ∧ W.cell? ⟨B9, k * 8 + 4, none⟩ = some (.slice aq2 pp.length cq2) ∧ W.cell? ⟨B9, k * 8 + 5, none⟩ = some (.string it) ∧ W.cell? ⟨B9, k * 8 + 6, none⟩ = some (.string tx) ∧ W.cell? ⟨B9, k * 8 + 7, none⟩ = some (.bool bad)) ∧ (W.cell? ⟨B1, 0, none⟩ = some (.int .i64 st1) ∧ W.cell? ⟨B1, 1, none⟩ = some (.slice Au1 utf1.length cu1) ∧ W.cell? ⟨B1, 2, none⟩ = some (.int .u8 (pr1.toNat : Int)) ∧ W.cell? ⟨B1, 3, none⟩ = some (.int .u8 (fi1.toNat : Int)) ∧ W.cell? ⟨B1, 4, none⟩ = some (.slice Aq1 pp1.length cq1) ∧ W.cell? ⟨B1, 5, none⟩ = some (.string it1) ∧ W.cell? ⟨B1, 6, none⟩ = some (.string tx1) ∧ W.cell? ⟨B1, 7, none⟩ = some (.bool bad1)) ∧ (W.cell? ⟨W0.heap.size, 0, none⟩ = some (.int .i64 st0) ∧ W.cell? ⟨W0.heap.size, 1, none⟩ = some (.slice Au0 utf0.length cu0) ∧ W.cell? ⟨W0.heap.size, 2, none⟩ = some (.int .u8 (pr0.toNat : Int)) ∧ W.cell? ⟨W0.heap.size, 3, none⟩ = some (.int .u8 (fi0.toNat : Int)) ∧ W.cell? ⟨W0.heap.size, 4, none⟩ = some (.slice Aq0 pp0.length cq0) ∧ W.cell? ⟨W0.heap.size, 5, none⟩ = some (.string it0) ∧ W.cell? ⟨W0.heap.size, 6, none⟩ = some (.string tx0) ∧ W.cell? ⟨W0.heap.size, 7, none⟩ = some (.bool bad0)) ∧ Below wr.heap.size wr W from fun W hW => ⟨⟨hcz W hW 0 _ rfl, hcz W hW 1 _ rfl, hcz W hW 2 _ rfl, hcz W hW 3 _ rfl, hcz W hW 4 _ rfl, hcz W hW 5 _ rfl, hcz W hW 6 _ rfl, hcz W hW 7 _ rfl⟩, ⟨((HOA.out.keep hid.out).keep hW).cell 0 _ rfl, ((HOA.out.keep hid.out).keep hW).cell 1 _ rfl, ((HOA.out.keep hid.out).keep hW).cell 2 _ rfl, ((HOA.out.keep hid.out).keep hW).cell 3 _ rfl, ((HOA.out.keep hid.out).keep hW).cell 4 _ rfl, ((HOA.out.keep hid.out).keep hW).cell 5 _ rfl, ((HOA.out.keep hid.out).keep hW).cell 6 _ rfl, ((HOA.out.keep hid.out).keep hW).cell 7 _ rfl⟩, ⟨((HXA.out.keep hid.out).keep hW).cell 0 _ rfl, ((HXA.out.keep hid.out).keep hW).cell 1 _ rfl, ((HXA.out.keep hid.out).keep hW).cell 2 _ rfl, ((HXA.out.keep hid.out).keep hW).cell 3 _ rfl, ((HXA.out.keep hid.out).keep hW).cell 4 _ rfl, ((HXA.out.keep hid.out).keep hW).cell 5 _ rfl, ((HXA.out.keep hid.out).keep hW).cell 6 _ rfl, ((HXA.out.keep hid.out).keep hW).cell 7 _ rfl⟩, hW⟩)
      have D := (Below.refl wr.heap.size wr).drew
      clear hcz hq1 hl2 hz
      go_upto_region 14 with fail
      go_region_held3 (fun W => (W.cell? ⟨B9, k * 8, none⟩ = some (.int .i64 st) ∧ W.cell? ⟨B9, k * 8 + 1, none⟩ = some (.slice au2 utf.length cu2) ∧ W.cell? ⟨B9, k * 8 + 2, none⟩ = some (.int .u8 (pr.toNat : Int)) ∧ W.cell? ⟨B9, k * 8 + 3, none⟩ = some (.int .u8 (fi.toNat : Int)) ∧ W.cell? ⟨B9, k * 8 + 4, none⟩ = some (.slice aq2 pp.length cq2) ∧ W.cell? ⟨B9, k * 8 + 5, none⟩ = some (.string it) ∧ W.cell? ⟨B9, k * 8 + 6, none⟩ = some (.string tx) ∧ W.cell? ⟨B9, k * 8 + 7, none⟩ = some (.bool bad)) ∧ (W.cell? ⟨B1, 0, none⟩ = some (.int .i64 st1) ∧ W.cell? ⟨B1, 1, none⟩ = some (.slice Au1 utf1.length cu1) ∧ W.cell? ⟨B1, 2, none⟩ = some (.int .u8 (pr1.toNat : Int)) ∧ W.cell? ⟨B1, 3, none⟩ = some (.int .u8 (fi1.toNat : Int)) ∧ W.cell? ⟨B1, 4, none⟩ = some (.slice Aq1 pp1.length cq1) ∧ W.cell? ⟨B1, 5, none⟩ = some (.string it1) ∧ W.cell? ⟨B1, 6, none⟩ = some (.string tx1) ∧ W.cell? ⟨B1, 7, none⟩ = some (.bool bad1)) ∧ (W.cell? ⟨W0.heap.size, 0, none⟩ = some (.int .i64 st0) ∧ W.cell? ⟨W0.heap.size, 1, none⟩ = some (.slice Au0 utf0.length cu0) ∧ W.cell? ⟨W0.heap.size, 2, none⟩ = some (.int .u8 (pr0.toNat : Int)) ∧ W.cell? ⟨W0.heap.size, 3, none⟩ = some (.int .u8 (fi0.toNat : Int)) ∧ W.cell? ⟨W0.heap.size, 4, none⟩ = some (.slice Aq0 pp0.length cq0) ∧ W.cell? ⟨W0.heap.size, 5, none⟩ = some (.string it0) ∧ W.cell? ⟨W0.heap.size, 6, none⟩ = some (.string tx0) ∧ W.cell? ⟨W0.heap.size, 7, none⟩ = some (.bool bad0)) ∧ Below wr.heap.size wr W)
        (first | with_reducible exact HK.out _ D | with_reducible exact HK.out _ g1 | with_reducible exact HK.out _ g2 | with_reducible exact HK.out _ g3 | with_reducible exact HK.out _ g4 | with_reducible exact HK.out _ g5 | with_reducible exact HK.out _ g6 | with_reducible assumption)
        (first
          | (go_at_call 8; (with_reducible refine (HC.out _ D).mono ?_); rintro e W1 ⟨rfl, hb⟩; have g1 : Below wr.heap.size wr W1 := D.trans (hb.mono D.size); clear hb)
          | (go_at_call 9; (with_reducible refine (HRC.out _ g1).mono ?_); rintro e W2 ⟨rfl, hb⟩; have g2 : Below wr.heap.size wr W2 := g1.trans (hb.mono g1.size); clear hb)
          | (go_at_call 10; (with_reducible refine (HSO.out _ g2).mono ?_); rintro e W3 ⟨rfl, hb⟩; have g3 : Below wr.heap.size wr W3 := g2.trans (hb.mono g2.size); clear hb)
          | (go_at_call 11; (with_reducible refine (HRO.out _ g3).mono ?_); rintro e W4 ⟨rfl, hb⟩; have g4 : Below wr.heap.size wr W4 := g3.trans (hb.mono g3.size); clear hb)
          | (go_at_call 10; (with_reducible refine (HSP.out _ g4).mono ?_); rintro e W5 ⟨rfl, hb⟩; have g5 : Below wr.heap.size wr W5 := g4.trans (hb.mono g4.size); clear hb)
          | (go_at_call 11; (with_reducible refine (HRP.out _ g5).mono ?_); rintro e W6 ⟨rfl, hb⟩; have g6 : Below wr.heap.size wr W6 := g5.trans (hb.mono g5.size); clear hb))
      go_wp2_with fail
      go_roundw
      case rel => exact ⟨k + 1, by omega, by go_num, up hid.out g6⟩
      case measure => simp [intOf]; omega
    · have hk9 : k = 9 := by omega
      subst hk9
      have he1 := (((HE5.out.keep HDA.out).keep hid.out))
      generalize W0.heap.size + 1 = BE at he1 ⊢
      have HEE := Lib.hid he1
      have hlt16 : BE < wr.heap.size := he1.1
      have hlt17 : BE < wr.heap.size + 1 := Nat.lt_succ_of_lt he1.1
      have hlt18 : BE < wr.heap.size + 1 + 1 := Nat.lt_succ_of_lt hlt17
      have x0 := he1.cell 0 _ rfl
      have x1 := he1.cell 1 _ rfl
      have x2 := he1.cell 2 _ rfl
      have x3 := he1.cell 3 _ rfl
      have x4 := he1.cell 4 _ rfl
      have x5 := he1.cell 5 _ rfl
      have x6 := he1.cell 6 _ rfl
      have x7 := he1.cell 7 _ rfl
      have x8 := he1.cell 8 _ rfl
      have x9 := he1.cell 9 _ rfl
      have x10 := he1.cell 10 _ rfl
      have x11 := he1.cell 11 _ rfl
      have x12 := he1.cell 12 _ rfl
      have x13 := he1.cell 13 _ rfl
      clear he1
      go_upto_region 16 with fail
      go_cut [12, 13] from 108 to 111 (fun s12 s13 wx => ∃ gx gy, s12 = .pointer (some ⟨gx, 0, none⟩) ∧ s13 = .pointer (some ⟨gy, 0, none⟩) ∧ gx ≠ gy ∧ wr.heap.size ≤ gx ∧ wr.heap.size ≤ gy ∧ Box wx gx [.int .i64 ea.e.k, .int .i64 ea.e.c, .int .u8 (ea.e.pr.toNat : Int), .int .u8 (ea.e.fi.toNat : Int), .slice ea.A ea.n ea.c, .string ea.e.it, .string ea.e.tx] ∧ Box wx gy [.int .i64 eb.e.k, .int .i64 eb.e.c, .int .u8 (eb.e.pr.toNat : Int), .int .u8 (eb.e.fi.toNat : Int), .slice eb.A eb.n eb.c, .string eb.e.it, .string eb.e.tx] ∧ Below wr.heap.size wr wx)
      case first =>
        go_region
        · go_wp2_with fail
          go_meet
          case rel =>
            have h2 := Box.new (wr.alloc (.cells #[.int .i64 ea.e.k, .int .i64 ea.e.c, .int .u8 (ea.e.pr.toNat : Int), .int .u8 (ea.e.fi.toNat : Int), .slice ea.A ea.n ea.c, .string ea.e.it, .string ea.e.tx] 27)) #[.int .i64 eb.e.k, .int .i64 eb.e.c, .int .u8 (eb.e.pr.toNat : Int), .int .u8 (eb.e.fi.toNat : Int), .slice eb.A eb.n eb.c, .string eb.e.it, .string eb.e.tx] 27
            rw [World.size_alloc] at h2
            exact ⟨wr.heap.size, wr.heap.size + 1, rfl, rfl, by omega, Nat.le_refl _, Nat.le_succ _, ((Box.new wr #[.int .i64 ea.e.k, .int .i64 ea.e.c, .int .u8 (ea.e.pr.toNat : Int), .int .u8 (ea.e.fi.toNat : Int), .slice ea.A ea.n ea.c, .string ea.e.it, .string ea.e.tx] 27).alloc _).drew, h2.drew, (up (below_box _ _) (below_box _ _)).drew⟩
        · go_wp2_with fail
          go_meet
          case rel =>
            have h2 := Box.new (wr.alloc (.cells #[.int .i64 eb.e.k, .int .i64 eb.e.c, .int .u8 (eb.e.pr.toNat : Int), .int .u8 (eb.e.fi.toNat : Int), .slice eb.A eb.n eb.c, .string eb.e.it, .string eb.e.tx] 27)) #[.int .i64 ea.e.k, .int .i64 ea.e.c, .int .u8 (ea.e.pr.toNat : Int), .int .u8 (ea.e.fi.toNat : Int), .slice ea.A ea.n ea.c, .string ea.e.it, .string ea.e.tx] 27
            rw [World.size_alloc] at h2
            exact ⟨wr.heap.size + 1, wr.heap.size, rfl, rfl, by omega, Nat.le_succ _, Nat.le_refl _, h2.drew, ((Box.new wr #[.int .i64 eb.e.k, .int .i64 eb.e.c, .int .u8 (eb.e.pr.toNat : Int), .int .u8 (eb.e.fi.toNat : Int), .slice eb.A eb.n eb.c, .string eb.e.it, .string eb.e.tx] 27).alloc _).drew, (up (below_box _ _) (below_box _ _)).drew⟩
      case rest =>
        obtain ⟨gx, gy, rfl, rfl, hne, hgx, hgy, hx, hy, hbc⟩ := hcut
        clear x0 x1 x2 x3 x4 x5 x6 x7 x8 x9 x10 x11 x12 x13
        have hne2 := hne.symm
        have x0 := hx.cell 0 _ rfl
        have x4 := hx.cell 4 _ rfl
        have y0 := hy.cell 0 _ rfl
        have v0 := hy.free 0 (by show 0 < 7; decide)
        have y4 := hy.cell 4 _ rfl
        have v4 := hy.free 4 (by show 4 < 7; decide)
        have HX := Lib.hid hx
        have HY := Lib.hid hy
        have HBC := Lib.hid hbc
        clear hx hy hbc
        go_upto_region 17 with fail
        go_region
        have hyD := ((HY.out.set 0 (.int .i64 ea.e.k)).set 4 (.slice ea.A ea.n ea.c)).drew
        dsimp only [List.set] at hyD
        have hxD := ((HX.out.grown (grown_set wc gy 0 (.int .i64 ea.e.k)) (by intro e; injection e with e; exact hne e)).grown (grown_set _ gy 4 (.slice ea.A ea.n ea.c)) (by intro e; injection e with e; exact hne e)).drew
        have hbD := ((HBC.out.setCell (p := ⟨gy, 0, none⟩) hgy (.int .i64 ea.e.k)).setCell (p := ⟨gy, 4, none⟩) hgy (.slice ea.A ea.n ea.c)).drew
        clear x0 x4 y0 v0 y4 v4
        generalize ((wc.setCell ⟨gy, 0, none⟩ (.int .i64 ea.e.k)).setCell ⟨gy, 4, none⟩ (.slice ea.A ea.n ea.c)).drew = wE at hyD hxD hbD ⊢
        have HXD := Lib.hid hxD
        have HYD := Lib.hid hyD
        have HED := Lib.hid (HEE.out.keep hbD)
        have hbE := up hbe hbD
        have kea := HEA.out.keep hbE
        have keb := HEB.out.keep hbE
        clear hxD hyD
        have A1 := Lib.hid (show ∀ W, Below wE.heap.size wE W → Calls Tryz.prog 12 #[.agg #[.int .i64 ea.e.k, .int .i64 ea.e.c, .int .u8 (ea.e.pr.toNat : Int), .int .u8 (ea.e.fi.toNat : Int), .slice ea.A ea.n ea.c, .string ea.e.it, .string ea.e.tx], .agg #[.int .i64 eb.e.k, .int .i64 eb.e.c, .int .u8 (eb.e.pr.toNat : Int), .int .u8 (eb.e.fi.toNat : Int), .slice eb.A eb.n eb.c, .string eb.e.it, .string eb.e.tx]] W fun e w' => e = .returned (.bool (eqE ea.e eb.e)) ∧ Below W.heap.size W w' from fun W hW => alike6_any ea.e eb.e ea.A eb.A ea.n eb.n ea.c eb.c W (kea.keep hW) (keb.keep hW) (kb_rl kea))
        have A2 := Lib.hid (show ∀ W, Below wE.heap.size wE W → Calls Tryz.prog 13 #[.agg #[.int .i64 ea.e.k, .int .i64 ea.e.c, .int .u8 (ea.e.pr.toNat : Int), .int .u8 (ea.e.fi.toNat : Int), .slice ea.A ea.n ea.c, .string ea.e.it, .string ea.e.tx], .agg #[.int .i64 eb.e.k, .int .i64 eb.e.c, .int .u8 (eb.e.pr.toNat : Int), .int .u8 (eb.e.fi.toNat : Int), .slice eb.A eb.n eb.c, .string eb.e.it, .string eb.e.tx]] W fun e w' => e = .returned (.bool (eqE ea.e eb.e)) ∧ Below W.heap.size W w' from fun W hW => ralike_any ea.e eb.e ea.A eb.A ea.n eb.n ea.c eb.c W (kea.keep hW) (keb.keep hW) (kb_rl kea) (kb_rl keb))
        have A3 := Lib.hid (show ∀ W, Below wE.heap.size wE W → Calls Tryz.prog 12 #[.agg #[.int .i64 ea.e.k, .int .i64 ea.e.c, .int .u8 (ea.e.pr.toNat : Int), .int .u8 (ea.e.fi.toNat : Int), .slice ea.A ea.n ea.c, .string ea.e.it, .string ea.e.tx], .agg #[.int .i64 ea.e.k, .int .i64 eb.e.c, .int .u8 (eb.e.pr.toNat : Int), .int .u8 (eb.e.fi.toNat : Int), .slice ea.A ea.n ea.c, .string eb.e.it, .string eb.e.tx]] W fun e w' => e = .returned (.bool (eqE ea.e ⟨ea.e.k, eb.e.c, eb.e.pr, eb.e.fi, ea.e.ps, eb.e.it, eb.e.tx⟩)) ∧ Below W.heap.size W w' from fun W hW => alike6_any ea.e ⟨ea.e.k, eb.e.c, eb.e.pr, eb.e.fi, ea.e.ps, eb.e.it, eb.e.tx⟩ ea.A ea.A ea.n ea.n ea.c ea.c W (kea.keep hW) (kea.keep hW) (kb_rl kea))
        have A4 := Lib.hid (show ∀ W, Below wE.heap.size wE W → Calls Tryz.prog 13 #[.agg #[.int .i64 ea.e.k, .int .i64 ea.e.c, .int .u8 (ea.e.pr.toNat : Int), .int .u8 (ea.e.fi.toNat : Int), .slice ea.A ea.n ea.c, .string ea.e.it, .string ea.e.tx], .agg #[.int .i64 ea.e.k, .int .i64 eb.e.c, .int .u8 (eb.e.pr.toNat : Int), .int .u8 (eb.e.fi.toNat : Int), .slice ea.A ea.n ea.c, .string eb.e.it, .string eb.e.tx]] W fun e w' => e = .returned (.bool (eqE ea.e ⟨ea.e.k, eb.e.c, eb.e.pr, eb.e.fi, ea.e.ps, eb.e.it, eb.e.tx⟩)) ∧ Below W.heap.size W w' from fun W hW => ralike_any ea.e ⟨ea.e.k, eb.e.c, eb.e.pr, eb.e.fi, ea.e.ps, eb.e.it, eb.e.tx⟩ ea.A ea.A ea.n ea.n ea.c ea.c W (kea.keep hW) (kea.keep hW) (kb_rl kea) (kb_rl kea))
        have A5 := Lib.hid (show ∀ W, Below wE.heap.size wE W → Calls Tryz.prog 12 #[.agg #[.int .i64 ea.e.k, .int .i64 ea.e.c, .int .u8 (ea.e.pr.toNat : Int), .int .u8 (ea.e.fi.toNat : Int), .slice ea.A ea.n ea.c, .string ea.e.it, .string ea.e.tx], .agg #[.int .i64 ea.e.k, .int .i64 ea.e.c, .int .u8 (ea.e.pr.toNat : Int), .int .u8 (ea.e.fi.toNat : Int), .slice ea.A ea.n ea.c, .string ea.e.it, .string ea.e.tx]] W fun e w' => e = .returned (.bool true) ∧ Below W.heap.size W w' from fun W hW => by
          have h := alike6_any ea.e ea.e ea.A ea.A ea.n ea.n ea.c ea.c W (kea.keep hW) (kea.keep hW) (kb_rl kea)
          rwa [(eqE_iff ea.e ea.e).2 rfl] at h)
        have A6 := Lib.hid (show ∀ W, Below wE.heap.size wE W → Calls Tryz.prog 14 #[] W fun e w' => e = .returned (.bool true) ∧ Below W.heap.size W w' from fun W hW => works_any W (HM.out.keep (up hbE hW)) (HT.out.keep (up hbE hW)))
        generalize eqE ea.e eb.e = q1 at A1 A2
        generalize eqE ea.e ⟨ea.e.k, eb.e.c, eb.e.pr, eb.e.fi, ea.e.ps, eb.e.it, eb.e.tx⟩ = q2 at A3 A4
        have HKE := Lib.hid (show ∀ W, Below wE.heap.size wE W → (W.cell? ⟨gx, 0, none⟩ = some (.int .i64 ea.e.k) ∧ W.cell? ⟨gx, 1, none⟩ = some (.int .i64 ea.e.c) ∧ W.cell? ⟨gx, 2, none⟩ = some (.int .u8 (ea.e.pr.toNat : Int)) ∧ W.cell? ⟨gx, 3, none⟩ = some (.int .u8 (ea.e.fi.toNat : Int)) ∧ W.cell? ⟨gx, 4, none⟩ = some (.slice ea.A ea.n ea.c) ∧ W.cell? ⟨gx, 5, none⟩ = some (.string ea.e.it) ∧ W.cell? ⟨gx, 6, none⟩ = some (.string ea.e.tx)) ∧ (W.cell? ⟨gy, 0, none⟩ = some (.int .i64 ea.e.k) ∧ W.cell? ⟨gy, 1, none⟩ = some (.int .i64 eb.e.c) ∧ W.cell? ⟨gy, 2, none⟩ = some (.int .u8 (eb.e.pr.toNat : Int)) ∧ W.cell? ⟨gy, 3, none⟩ = some (.int .u8 (eb.e.fi.toNat : Int)) ∧ W.cell? ⟨gy, 4, none⟩ = some (.slice ea.A ea.n ea.c) ∧ W.cell? ⟨gy, 5, none⟩ = some (.string eb.e.it) ∧ W.cell? ⟨gy, 6, none⟩ = some (.string eb.e.tx)) ∧ (W.cell? ⟨BE, 7, none⟩ = some (.int .i64 eb.e.k) ∧ W.cell? ⟨BE, 8, none⟩ = some (.int .i64 eb.e.c) ∧ W.cell? ⟨BE, 9, none⟩ = some (.int .u8 (eb.e.pr.toNat : Int)) ∧ W.cell? ⟨BE, 10, none⟩ = some (.int .u8 (eb.e.fi.toNat : Int)) ∧ W.cell? ⟨BE, 11, none⟩ = some (.slice eb.A eb.n eb.c) ∧ W.cell? ⟨BE, 12, none⟩ = some (.string eb.e.it) ∧ W.cell? ⟨BE, 13, none⟩ = some (.string eb.e.tx)) ∧ Below wE.heap.size wE W from fun W hW => ⟨⟨(HXD.out.keep hW).cell 0 _ rfl, (HXD.out.keep hW).cell 1 _ rfl, (HXD.out.keep hW).cell 2 _ rfl, (HXD.out.keep hW).cell 3 _ rfl, (HXD.out.keep hW).cell 4 _ rfl, (HXD.out.keep hW).cell 5 _ rfl, (HXD.out.keep hW).cell 6 _ rfl⟩, ⟨(HYD.out.keep hW).cell 0 _ rfl, (HYD.out.keep hW).cell 1 _ rfl, (HYD.out.keep hW).cell 2 _ rfl, (HYD.out.keep hW).cell 3 _ rfl, (HYD.out.keep hW).cell 4 _ rfl, (HYD.out.keep hW).cell 5 _ rfl, (HYD.out.keep hW).cell 6 _ rfl⟩, ⟨(HED.out.keep hW).cell 7 _ rfl, (HED.out.keep hW).cell 8 _ rfl, (HED.out.keep hW).cell 9 _ rfl, (HED.out.keep hW).cell 10 _ rfl, (HED.out.keep hW).cell 11 _ rfl, (HED.out.keep hW).cell 12 _ rfl, (HED.out.keep hW).cell 13 _ rfl⟩, hW⟩)
        have HBE := Lib.hid hbE
        have D := (Below.refl wE.heap.size wE).drew
        clear kea keb hbE hbD hbe hb5r hlt16 hlt17 hlt18
        go_upto_region 18 with fail
        go_region_held3 (fun W => (W.cell? ⟨gx, 0, none⟩ = some (.int .i64 ea.e.k) ∧ W.cell? ⟨gx, 1, none⟩ = some (.int .i64 ea.e.c) ∧ W.cell? ⟨gx, 2, none⟩ = some (.int .u8 (ea.e.pr.toNat : Int)) ∧ W.cell? ⟨gx, 3, none⟩ = some (.int .u8 (ea.e.fi.toNat : Int)) ∧ W.cell? ⟨gx, 4, none⟩ = some (.slice ea.A ea.n ea.c) ∧ W.cell? ⟨gx, 5, none⟩ = some (.string ea.e.it) ∧ W.cell? ⟨gx, 6, none⟩ = some (.string ea.e.tx)) ∧ (W.cell? ⟨gy, 0, none⟩ = some (.int .i64 ea.e.k) ∧ W.cell? ⟨gy, 1, none⟩ = some (.int .i64 eb.e.c) ∧ W.cell? ⟨gy, 2, none⟩ = some (.int .u8 (eb.e.pr.toNat : Int)) ∧ W.cell? ⟨gy, 3, none⟩ = some (.int .u8 (eb.e.fi.toNat : Int)) ∧ W.cell? ⟨gy, 4, none⟩ = some (.slice ea.A ea.n ea.c) ∧ W.cell? ⟨gy, 5, none⟩ = some (.string eb.e.it) ∧ W.cell? ⟨gy, 6, none⟩ = some (.string eb.e.tx)) ∧ (W.cell? ⟨BE, 7, none⟩ = some (.int .i64 eb.e.k) ∧ W.cell? ⟨BE, 8, none⟩ = some (.int .i64 eb.e.c) ∧ W.cell? ⟨BE, 9, none⟩ = some (.int .u8 (eb.e.pr.toNat : Int)) ∧ W.cell? ⟨BE, 10, none⟩ = some (.int .u8 (eb.e.fi.toNat : Int)) ∧ W.cell? ⟨BE, 11, none⟩ = some (.slice eb.A eb.n eb.c) ∧ W.cell? ⟨BE, 12, none⟩ = some (.string eb.e.it) ∧ W.cell? ⟨BE, 13, none⟩ = some (.string eb.e.tx)) ∧ Below wE.heap.size wE W)
          (first | with_reducible exact HKE.out _ D | with_reducible exact HKE.out _ g1 | with_reducible exact HKE.out _ g2 | with_reducible exact HKE.out _ g3 | with_reducible exact HKE.out _ g4 | with_reducible exact HKE.out _ g5 | with_reducible exact HKE.out _ g6 | with_reducible assumption)
          (first
            | (go_at_call 12; (with_reducible refine (A1.out _ D).mono ?_); rintro e W1 ⟨rfl, hb⟩; have g1 : Below wE.heap.size wE W1 := D.trans (hb.mono D.size); clear hb)
            | (go_at_call 13; (with_reducible refine (A2.out _ g1).mono ?_); rintro e W2 ⟨rfl, hb⟩; have g2 : Below wE.heap.size wE W2 := g1.trans (hb.mono g1.size); clear hb)
            | (go_at_call 12; (with_reducible refine (A3.out _ g2).mono ?_); rintro e W3 ⟨rfl, hb⟩; have g3 : Below wE.heap.size wE W3 := g2.trans (hb.mono g2.size); clear hb)
            | (go_at_call 13; (with_reducible refine (A4.out _ g3).mono ?_); rintro e W4 ⟨rfl, hb⟩; have g4 : Below wE.heap.size wE W4 := g3.trans (hb.mono g3.size); clear hb)
            | (go_at_call 12; (with_reducible refine (A5.out _ g4).mono ?_); rintro e W5 ⟨rfl, hb⟩; have g5 : Below wE.heap.size wE W5 := g4.trans (hb.mono g4.size); clear hb)
            | (go_at_call 14; (with_reducible refine (A6.out _ g5).mono ?_); rintro e W6 ⟨rfl, hb⟩; have g6 : Below wE.heap.size wE W6 := g5.trans (hb.mono g5.size); clear hb))
        go_wp2_with fail
        go_ret
        exact ⟨rfl, up HBE.out g6⟩
end Go.Proofs.YtmboekpomjgnnaaGreatDoor.Sta
