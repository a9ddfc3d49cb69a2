/-
  Contracts of the program's Same and Alike.
-/
import Derived.Test.YtefkbdmgplfgoaaGreatDoorStaF
namespace Go.Proofs.YtefkbdmgplfgoaaGreatDoor.Sta
open Go.RowKit Utf Par

set_option maxRecDepth 100000 in
set_option maxHeartbeats 2000000 in
theorem bequal_any (A B : Option Addr) (c d : Nat) (a b : List UInt8) (w : World) (h1 : Rd w A (cB a)) (h2 : Rd w B (cB b)) :
    Calls Tryz.prog 30 #[.slice A a.length c, .slice B b.length d] w fun e w' => e = .returned (.bool (decide (a = b))) ∧ w = w' := by
  have q1 := str_of w A c a h1
  have q2 := str_of w B d b h2
  have f1 := eqB_list ⟨a.toArray⟩ ⟨b.toArray⟩
  rw [eqB_arr] at f1
  generalize decide (a = b) = t at f1 ⊢
  generalize a.length = n at q1 ⊢
  generalize b.length = m at q2 ⊢
  clear h1 h2
  go_enter Tryz.func30, Tryz.ntmps30
  go_wp2
  go_ret
  refine ⟨?_, rfl⟩
  simp_all
set_option maxRecDepth 100000 in
set_option maxHeartbeats 8000000 in
theorem alike6_any (p q : EV) (a1 a2 : Option Addr) (n1 n2 c1 c2 : Nat) (w : World) (h1 : RL w (.slice a1 n1 c1) p.ps) (h2 : RL w (.slice a2 n2 c2) q.ps) (k1 : Kq p.ps) :
    Calls Tryz.prog 13 #[.agg (cE ⟨p, a1, n1, c1⟩).toArray, .agg (cE ⟨q, a2, n2, c2⟩).toArray] w fun e w' => e = .returned (.bool (eqE p q)) ∧ Below w.heap.size w w' := by
  have HS := fun W (hb : Below w.heap.size w W) => Lib.hid (same_any _ _ p.ps q.ps W (h1.keep hb) (h2.keep hb) k1.1 k1.2)
  clear h1 h2 k1
  obtain ⟨k, c, pr, fi, pp, it, tx⟩ := p
  obtain ⟨k', c', pr', fi', pp', it', tx'⟩ := q
  unfold cE eqE
  dsimp only at *
  have f5 := eqB_list it it'
  have f6 := eqB_list tx tx'
  generalize eqB it it' = b5 at f5 ⊢
  generalize eqB tx tx' = b6 at f6 ⊢
  generalize decide (pp = pp') = b4 at HS ⊢
  generalize pr.toNat = x
  generalize pr'.toNat = x'
  generalize fi.toNat = y
  generalize fi'.toNat = y'
  rw [show decide (x = x') = decide ((x : Int) = (x' : Int)) from decide_eq_decide.2 (by omega), show decide (y = y') = decide ((y : Int) = (y' : Int)) from decide_eq_decide.2 (by omega)]
  have hb1 : Below w.heap.size w ((w.alloc (.cells #[.int .i64 k, .int .i64 c, .int .u8 (x : Int), .int .u8 (y : Int), .slice a1 n1 c1, .string it, .string tx] 27)).alloc (.cells #[.int .i64 k', .int .i64 c', .int .u8 (x' : Int), .int .u8 (y' : Int), .slice a2 n2 c2, .string it', .string tx'] 27)) := up (below_box _ _) (below_box _ _)
  have hx := (Box.new w #[.int .i64 k, .int .i64 c, .int .u8 (x : Int), .int .u8 (y : Int), .slice a1 n1 c1, .string it, .string tx] 27).alloc (.cells #[.int .i64 k', .int .i64 c', .int .u8 (x' : Int), .int .u8 (y' : Int), .slice a2 n2 c2, .string it', .string tx'] 27)
  have hy := Box.new (w.alloc (.cells #[.int .i64 k, .int .i64 c, .int .u8 (x : Int), .int .u8 (y : Int), .slice a1 n1 c1, .string it, .string tx] 27)) #[.int .i64 k', .int .i64 c', .int .u8 (x' : Int), .int .u8 (y' : Int), .slice a2 n2 c2, .string it', .string tx'] 27
  rw [World.size_alloc] at hy
  go_enter Tryz.func13, Tryz.ntmps13
  go_upto_region 1 with fail
  generalize ((w.alloc (.cells #[.int .i64 k, .int .i64 c, .int .u8 (x : Int), .int .u8 (y : Int), .slice a1 n1 c1, .string it, .string tx] 27)).alloc (.cells #[.int .i64 k', .int .i64 c', .int .u8 (x' : Int), .int .u8 (y' : Int), .slice a2 n2 c2, .string it', .string tx'] 27)) = w1 at hb1 hx hy ⊢
  have HK := Lib.hid (show ∀ W, Below w1.heap.size w1 W → W.cell? ⟨w.heap.size, 0, none⟩ = some (.int .i64 k) ∧ W.cell? ⟨w.heap.size, 1, none⟩ = some (.int .i64 c) ∧ W.cell? ⟨w.heap.size, 2, none⟩ = some (.int .u8 (x : Int)) ∧ W.cell? ⟨w.heap.size, 3, none⟩ = some (.int .u8 (y : Int)) ∧ W.cell? ⟨w.heap.size, 4, none⟩ = some (.slice a1 n1 c1) ∧ W.cell? ⟨w.heap.size, 5, none⟩ = some (.string it) ∧ W.cell? ⟨w.heap.size, 6, none⟩ = some (.string tx) ∧ W.cell? ⟨w.heap.size + 1, 0, none⟩ = some (.int .i64 k') ∧ W.cell? ⟨w.heap.size + 1, 1, none⟩ = some (.int .i64 c') ∧ W.cell? ⟨w.heap.size + 1, 2, none⟩ = some (.int .u8 (x' : Int)) ∧ W.cell? ⟨w.heap.size + 1, 3, none⟩ = some (.int .u8 (y' : Int)) ∧ W.cell? ⟨w.heap.size + 1, 4, none⟩ = some (.slice a2 n2 c2) ∧ W.cell? ⟨w.heap.size + 1, 5, none⟩ = some (.string it') ∧ W.cell? ⟨w.heap.size + 1, 6, none⟩ = some (.string tx') from fun W hW =>
    ⟨(hx.keep hW).cell 0 _ rfl, (hx.keep hW).cell 1 _ rfl, (hx.keep hW).cell 2 _ rfl, (hx.keep hW).cell 3 _ rfl, (hx.keep hW).cell 4 _ rfl, (hx.keep hW).cell 5 _ rfl, (hx.keep hW).cell 6 _ rfl, (hy.keep hW).cell 0 _ rfl, (hy.keep hW).cell 1 _ rfl, (hy.keep hW).cell 2 _ rfl, (hy.keep hW).cell 3 _ rfl, (hy.keep hW).cell 4 _ rfl, (hy.keep hW).cell 5 _ rfl, (hy.keep hW).cell 6 _ rfl⟩)
  have HB1 := Lib.hid hb1
  have hB := Below.refl w1.heap.size w1
  obtain ⟨x0, x1, x2, x3, x4, x5, x6, y0, y1, y2, y3, y4, y5, y6⟩ := HK.out _ hB
  clear hb1 hx hy
  generalize w.heap.size + 1 = B1 at HK y0 y1 y2 y3 y4 y5 y6 ⊢
  generalize w.heap.size = B0 at HK x0 x1 x2 x3 x4 x5 x6 ⊢
  go_wp2_with (go_at_call 31; refine (HS _ (up HB1.out hB)).out.mono ?_; rintro e w' ⟨rfl, hb'⟩; have hB := up hB hb'; clear x0 x1 x2 x3 x4 x5 x6 y0 y1 y2 y3 y4 y5 y6; obtain ⟨x0, x1, x2, x3, x4, x5, x6, y0, y1, y2, y3, y4, y5, y6⟩ := HK.out _ hB)
  all_goals
    go_ret
    refine ⟨?_, up HB1.out hB⟩
    clear HS HK HB1 hB x0 x1 x2 x3 x4 x5 x6 y0 y1 y2 y3 y4 y5 y6
    refine congrArg (fun z => Ending.returned (Value.bool z)) ?_
    first
      | (simp_all; done)
      | (simp_all; omega)
set_option maxRecDepth 100000 in
set_option maxHeartbeats 8000000 in
theorem same6_any (p q : PS) (u1 u2 a1 a2 : Option Addr) (m1 m2 d1 d2 n1 n2 c1 c2 : Nat) (w : World) (h1 : RS w (.slice u1 m1 d1) (.slice a1 n1 c1) p) (h2 : RS w (.slice u2 m2 d2) (.slice a2 n2 c2) q) (k1 : Kq p.ps) :
    Calls Tryz.prog 11 #[.agg (cS p (.slice u1 m1 d1) (.slice a1 n1 c1)), .agg (cS q (.slice u2 m2 d2) (.slice a2 n2 c2))] w fun e w' => e = .returned (.bool (eqS p q)) ∧ Below w.heap.size w w' := by
  have HS := fun W (hb : Below w.heap.size w W) => Lib.hid (same_any _ _ p.ps q.ps W (h1.2.keep hb) (h2.2.keep hb) k1.1 k1.2)
  have HE := fun W (hb : Below w.heap.size w W) => Lib.hid (show Calls Tryz.prog 30 #[.slice u1 m1 d1, .slice u2 m2 d2] W fun e w' => e = .returned (.bool (decide (p.utf = q.utf))) ∧ W = w' from by
    obtain ⟨A, c, he, _, h⟩ := h1.1.keep hb
    cases he
    obtain ⟨A', c', he', _, h'⟩ := h2.1.keep hb
    cases he'
    exact bequal_any _ _ _ _ p.utf q.utf W h h')
  clear h1 h2 k1
  obtain ⟨st, utf, pr, fi, pp, it, tx, bad⟩ := p
  obtain ⟨st', utf', pr', fi', pp', it', tx', bad'⟩ := q
  unfold cS eqS
  dsimp only at *
  generalize decide (utf = utf') = b1 at HE ⊢
  have f5 := eqB_list it it'
  have f6 := eqB_list tx tx'
  generalize eqB it it' = b5 at f5 ⊢
  generalize eqB tx tx' = b6 at f6 ⊢
  generalize decide (pp = pp') = b4 at HS ⊢
  generalize pr.toNat = x
  generalize pr'.toNat = x'
  generalize fi.toNat = y
  generalize fi'.toNat = y'
  rw [show decide (x = x') = decide ((x : Int) = (x' : Int)) from decide_eq_decide.2 (by omega), show decide (y = y') = decide ((y : Int) = (y' : Int)) from decide_eq_decide.2 (by omega)]
  have hb1 : Below w.heap.size w ((w.alloc (.cells #[.int .i64 st, .slice u1 m1 d1, .int .u8 (x : Int), .int .u8 (y : Int), .slice a1 n1 c1, .string it, .string tx, .bool bad] 25)).alloc (.cells #[.int .i64 st', .slice u2 m2 d2, .int .u8 (x' : Int), .int .u8 (y' : Int), .slice a2 n2 c2, .string it', .string tx', .bool bad'] 25)) := up (below_box _ _) (below_box _ _)
  have hx := (Box.new w #[.int .i64 st, .slice u1 m1 d1, .int .u8 (x : Int), .int .u8 (y : Int), .slice a1 n1 c1, .string it, .string tx, .bool bad] 25).alloc (.cells #[.int .i64 st', .slice u2 m2 d2, .int .u8 (x' : Int), .int .u8 (y' : Int), .slice a2 n2 c2, .string it', .string tx', .bool bad'] 25)
  have hy := Box.new (w.alloc (.cells #[.int .i64 st, .slice u1 m1 d1, .int .u8 (x : Int), .int .u8 (y : Int), .slice a1 n1 c1, .string it, .string tx, .bool bad] 25)) #[.int .i64 st', .slice u2 m2 d2, .int .u8 (x' : Int), .int .u8 (y' : Int), .slice a2 n2 c2, .string it', .string tx', .bool bad'] 25
  rw [World.size_alloc] at hy
  go_enter Tryz.func11, Tryz.ntmps11
  go_upto_region 1 with fail
  generalize ((w.alloc (.cells #[.int .i64 st, .slice u1 m1 d1, .int .u8 (x : Int), .int .u8 (y : Int), .slice a1 n1 c1, .string it, .string tx, .bool bad] 25)).alloc (.cells #[.int .i64 st', .slice u2 m2 d2, .int .u8 (x' : Int), .int .u8 (y' : Int), .slice a2 n2 c2, .string it', .string tx', .bool bad'] 25)) = w1 at hb1 hx hy ⊢
  have HK := Lib.hid (show ∀ W, Below w1.heap.size w1 W → W.cell? ⟨w.heap.size, 0, none⟩ = some (.int .i64 st) ∧ W.cell? ⟨w.heap.size, 1, none⟩ = some (.slice u1 m1 d1) ∧ W.cell? ⟨w.heap.size, 2, none⟩ = some (.int .u8 (x : Int)) ∧ W.cell? ⟨w.heap.size, 3, none⟩ = some (.int .u8 (y : Int)) ∧ W.cell? ⟨w.heap.size, 4, none⟩ = some (.slice a1 n1 c1) ∧ W.cell? ⟨w.heap.size, 5, none⟩ = some (.string it) ∧ W.cell? ⟨w.heap.size, 6, none⟩ = some (.string tx) ∧ W.cell? ⟨w.heap.size, 7, none⟩ = some (.bool bad) ∧ W.cell? ⟨w.heap.size + 1, 0, none⟩ = some (.int .i64 st') ∧ W.cell? ⟨w.heap.size + 1, 1, none⟩ = some (.slice u2 m2 d2) ∧ W.cell? ⟨w.heap.size + 1, 2, none⟩ = some (.int .u8 (x' : Int)) ∧ W.cell? ⟨w.heap.size + 1, 3, none⟩ = some (.int .u8 (y' : Int)) ∧ W.cell? ⟨w.heap.size + 1, 4, none⟩ = some (.slice a2 n2 c2) ∧ W.cell? ⟨w.heap.size + 1, 5, none⟩ = some (.string it') ∧ W.cell? ⟨w.heap.size + 1, 6, none⟩ = some (.string tx') ∧ W.cell? ⟨w.heap.size + 1, 7, none⟩ = some (.bool bad') from fun W hW =>
    ⟨(hx.keep hW).cell 0 _ rfl, (hx.keep hW).cell 1 _ rfl, (hx.keep hW).cell 2 _ rfl, (hx.keep hW).cell 3 _ rfl, (hx.keep hW).cell 4 _ rfl, (hx.keep hW).cell 5 _ rfl, (hx.keep hW).cell 6 _ rfl, (hx.keep hW).cell 7 _ rfl, (hy.keep hW).cell 0 _ rfl, (hy.keep hW).cell 1 _ rfl, (hy.keep hW).cell 2 _ rfl, (hy.keep hW).cell 3 _ rfl, (hy.keep hW).cell 4 _ rfl, (hy.keep hW).cell 5 _ rfl, (hy.keep hW).cell 6 _ rfl, (hy.keep hW).cell 7 _ rfl⟩)
  have HB1 := Lib.hid hb1
  have hB := Below.refl w1.heap.size w1
  obtain ⟨x0, x1, x2, x3, x4, x5, x6, x7, y0, y1, y2, y3, y4, y5, y6, y7⟩ := HK.out _ hB
  clear hb1 hx hy
  generalize w.heap.size + 1 = B1 at HK y0 y1 y2 y3 y4 y5 y6 y7 ⊢
  generalize w.heap.size = B0 at HK x0 x1 x2 x3 x4 x5 x6 x7 ⊢
  go_wp2_with (first
    | (go_at_call 30; refine (HE _ (up HB1.out hB)).out.mono ?_; rintro e w' ⟨rfl, rfl⟩)
    | (go_at_call 31; refine (HS _ (up HB1.out hB)).out.mono ?_; rintro e w' ⟨rfl, hb'⟩; have hB := up hB hb'; clear x0 x1 x2 x3 x4 x5 x6 x7 y0 y1 y2 y3 y4 y5 y6 y7; obtain ⟨x0, x1, x2, x3, x4, x5, x6, x7, y0, y1, y2, y3, y4, y5, y6, y7⟩ := HK.out _ hB))
  all_goals
    go_ret
    refine ⟨?_, up HB1.out hB⟩
    clear HS HE HK HB1 hB x0 x1 x2 x3 x4 x5 x6 x7 y0 y1 y2 y3 y4 y5 y6 y7
    refine congrArg (fun z => Ending.returned (Value.bool z)) ?_
    first
      | (simp_all; done)
      | (simp_all; omega)
end Go.Proofs.YtefkbdmgplfgoaaGreatDoor.Sta
