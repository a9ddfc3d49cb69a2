/-
  Contracts of the reference's Same and Alike.
-/
import Derived.Test.YtefkbdmgplfgoaaGreatDoorStaC
namespace Go.Proofs.YtefkbdmgplfgoaaGreatDoor.Sta
open Go.RowKit Utf Par

theorem str_of (w : World) (A : Option Addr) (c : Nat) (l : List UInt8) (h : Rd w A (cB l)) : (convert 22 9 (.slice A l.length c)).run Tryz.prog w = .ok (.string ⟨l.toArray⟩) w := by
  cases A with
  | none =>
    have : l = [] := by
      cases l with
      | nil => rfl
      | cons x r =>
        obtain ⟨ad, e, _⟩ := h 0 (.int .u8 (x.toNat : Int)) rfl
        cases e
    subst this
    rw [show ([] : List UInt8).length = 0 from rfl, run_convert_bytes_string w 22 9 5 none 0 c Tryz.underlying22 Tryz.underlying5 Tryz.underlying9]
    rfl
  | some a =>
    refine run_convert_bytes_back w 22 9 5 a c l Tryz.underlying22 Tryz.underlying5 Tryz.underlying9 fun j hj => ?_
    obtain ⟨ad, e, _, hc⟩ := h j _ (cB_at l j l[j] (by simp [hj]))
    cases e
    exact hc
def eqB (a b : ByteArray) : Bool := decide (a = b)
theorem eqB_list (a b : ByteArray) : (a.toList == b.toList) = eqB a b := by
  unfold eqB
  by_cases h : a = b
  · rw [h, decide_eq_true rfl]; simp
  · rw [decide_eq_false h]
    have : a.toList ≠ b.toList := fun e => h (by
      rw [ByteArray.toList_eq, ByteArray.toList_eq] at e
      exact ByteArray.ext (Array.ext' e))
    simp [this]
theorem eqB_arr (a b : List UInt8) : eqB ⟨a.toArray⟩ ⟨b.toArray⟩ = decide (a = b) := by
  unfold eqB
  refine decide_eq_decide.2 ⟨fun h => ?_, fun h => by rw [h]⟩
  have := congrArg (fun s : ByteArray => s.data.toList) h
  simpa using this
def eqS (p q : PS) : Bool := decide (p.st = q.st) && (decide (p.utf = q.utf) && (decide (p.pr.toNat = q.pr.toNat) && (decide (p.fi.toNat = q.fi.toNat) && (decide (p.ps = q.ps) && (eqB p.it q.it && (eqB p.tx q.tx && (p.bad == q.bad)))))))
def eqE (p q : EV) : Bool := decide (p.k = q.k) && (decide (p.c = q.c) && (decide (p.pr.toNat = q.pr.toNat) && (decide (p.fi.toNat = q.fi.toNat) && (decide (p.ps = q.ps) && (eqB p.it q.it && eqB p.tx q.tx)))))
theorem eqS_iff (p q : PS) : eqS p q = true ↔ p = q := by
  constructor
  · intro h
    unfold eqS eqB at h
    simp only [Bool.and_eq_true, decide_eq_true_eq, beq_iff_eq] at h
    obtain ⟨h1, h2, h3, h4, h5, h6, h7, h8⟩ := h
    cases p; cases q
    simp only at *
    subst h1; subst h2; subst h5; subst h6; subst h7; subst h8
    rw [UInt8.toNat_inj.1 h3, UInt8.toNat_inj.1 h4]
  · rintro rfl
    simp [eqS, eqB]
theorem eqE_iff (p q : EV) : eqE p q = true ↔ p = q := by
  constructor
  · intro h
    unfold eqE eqB at h
    simp only [Bool.and_eq_true, decide_eq_true_eq] at h
    obtain ⟨h1, h2, h3, h4, h5, h6, h7⟩ := h
    cases p; cases q
    simp only at *
    subst h1; subst h2; subst h5; subst h6; subst h7
    rw [UInt8.toNat_inj.1 h3, UInt8.toNat_inj.1 h4]
  · rintro rfl
    simp [eqE, eqB]
/-- sizes of parameters that a comparison bears -/
def Kq (l : List (List Int)) : Prop := l.length ≤ 1000000 ∧ ∀ p ∈ l, p.length ≤ 1000000
set_option maxRecDepth 100000 in
set_option maxHeartbeats 8000000 in
theorem ralike_any (p q : EV) (a1 a2 : Option Addr) (n1 n2 c1 c2 : Nat) (w : World) (h1 : RL w (.slice a1 n1 c1) p.ps) (h2 : RL w (.slice a2 n2 c2) q.ps) (k1 : Kq p.ps) (k2 : Kq q.ps) :
    Calls Tryz.prog 14 #[.agg (cE ⟨p, a1, n1, c1⟩).toArray, .agg (cE ⟨q, a2, n2, c2⟩).toArray] w fun e w' => e = .returned (.bool (eqE p q)) ∧ Below w.heap.size w w' := by
  have HS := fun W (hb : Below w.heap.size w W) => Lib.hid (rsame_any _ _ p.ps q.ps W (h1.keep hb) (h2.keep hb) k1.1 k1.2 k2.2)
  clear h1 h2 k1 k2
  obtain ⟨k, c, pr, fi, pp, it, tx⟩ := p
  obtain ⟨k', c', pr', fi', pp', it', tx'⟩ := q
  unfold cE eqE
  dsimp only at *
  have f5 := eqB_list it it'
  have f6 := eqB_list tx tx'
  generalize eqB it it' = b5 at f5 ⊢
  generalize eqB tx tx' = b6 at f6 ⊢
  generalize decide (pp = pp') = b4 at HS ⊢
  generalize pr.toNat = x
  generalize pr'.toNat = x'
  generalize fi.toNat = y
  generalize fi'.toNat = y'
  rw [show decide (x = x') = decide ((x : Int) = (x' : Int)) from decide_eq_decide.2 (by omega), show decide (y = y') = decide ((y : Int) = (y' : Int)) from decide_eq_decide.2 (by omega)]
  have hb1 : Below w.heap.size w ((w.alloc (.cells #[.int .i64 k, .int .i64 c, .int .u8 (x : Int), .int .u8 (y : Int), .slice a1 n1 c1, .string it, .string tx] 27)).alloc (.cells #[.int .i64 k', .int .i64 c', .int .u8 (x' : Int), .int .u8 (y' : Int), .slice a2 n2 c2, .string it', .string tx'] 27)) := up (below_box _ _) (below_box _ _)
  have hx := (Box.new w #[.int .i64 k, .int .i64 c, .int .u8 (x : Int), .int .u8 (y : Int), .slice a1 n1 c1, .string it, .string tx] 27).alloc (.cells #[.int .i64 k', .int .i64 c', .int .u8 (x' : Int), .int .u8 (y' : Int), .slice a2 n2 c2, .string it', .string tx'] 27)
  have hy := Box.new (w.alloc (.cells #[.int .i64 k, .int .i64 c, .int .u8 (x : Int), .int .u8 (y : Int), .slice a1 n1 c1, .string it, .string tx] 27)) #[.int .i64 k', .int .i64 c', .int .u8 (x' : Int), .int .u8 (y' : Int), .slice a2 n2 c2, .string it', .string tx'] 27
  rw [World.size_alloc] at hy
  go_enter Tryz.func14, Tryz.ntmps14
  go_upto_region 1 with fail
  generalize ((w.alloc (.cells #[.int .i64 k, .int .i64 c, .int .u8 (x : Int), .int .u8 (y : Int), .slice a1 n1 c1, .string it, .string tx] 27)).alloc (.cells #[.int .i64 k', .int .i64 c', .int .u8 (x' : Int), .int .u8 (y' : Int), .slice a2 n2 c2, .string it', .string tx'] 27)) = w1 at hb1 hx hy ⊢
  have HK := Lib.hid (show ∀ W, Below w1.heap.size w1 W → W.cell? ⟨w.heap.size, 0, none⟩ = some (.int .i64 k) ∧ W.cell? ⟨w.heap.size, 1, none⟩ = some (.int .i64 c) ∧ W.cell? ⟨w.heap.size, 2, none⟩ = some (.int .u8 (x : Int)) ∧ W.cell? ⟨w.heap.size, 3, none⟩ = some (.int .u8 (y : Int)) ∧ W.cell? ⟨w.heap.size, 4, none⟩ = some (.slice a1 n1 c1) ∧ W.cell? ⟨w.heap.size, 5, none⟩ = some (.string it) ∧ W.cell? ⟨w.heap.size, 6, none⟩ = some (.string tx) ∧ W.cell? ⟨w.heap.size + 1, 0, none⟩ = some (.int .i64 k') ∧ W.cell? ⟨w.heap.size + 1, 1, none⟩ = some (.int .i64 c') ∧ W.cell? ⟨w.heap.size + 1, 2, none⟩ = some (.int .u8 (x' : Int)) ∧ W.cell? ⟨w.heap.size + 1, 3, none⟩ = some (.int .u8 (y' : Int)) ∧ W.cell? ⟨w.heap.size + 1, 4, none⟩ = some (.slice a2 n2 c2) ∧ W.cell? ⟨w.heap.size + 1, 5, none⟩ = some (.string it') ∧ W.cell? ⟨w.heap.size + 1, 6, none⟩ = some (.string tx') from fun W hW =>
    ⟨(hx.keep hW).cell 0 _ rfl, (hx.keep hW).cell 1 _ rfl, (hx.keep hW).cell 2 _ rfl, (hx.keep hW).cell 3 _ rfl, (hx.keep hW).cell 4 _ rfl, (hx.keep hW).cell 5 _ rfl, (hx.keep hW).cell 6 _ rfl, (hy.keep hW).cell 0 _ rfl, (hy.keep hW).cell 1 _ rfl, (hy.keep hW).cell 2 _ rfl, (hy.keep hW).cell 3 _ rfl, (hy.keep hW).cell 4 _ rfl, (hy.keep hW).cell 5 _ rfl, (hy.keep hW).cell 6 _ rfl⟩)
  have HB1 := Lib.hid hb1
  have hB := Below.refl w1.heap.size w1
  obtain ⟨x0, x1, x2, x3, x4, x5, x6, y0, y1, y2, y3, y4, y5, y6⟩ := HK.out _ hB
  clear hb1 hx hy
  generalize w.heap.size + 1 = B1 at HK y0 y1 y2 y3 y4 y5 y6 ⊢
  generalize w.heap.size = B0 at HK x0 x1 x2 x3 x4 x5 x6 ⊢
  go_wp2_with (go_at_call 32; refine (HS _ (up HB1.out hB)).out.mono ?_; rintro e w' ⟨rfl, hb'⟩; have hB := up hB hb'; clear x0 x1 x2 x3 x4 x5 x6 y0 y1 y2 y3 y4 y5 y6; obtain ⟨x0, x1, x2, x3, x4, x5, x6, y0, y1, y2, y3, y4, y5, y6⟩ := HK.out _ hB)
  all_goals
    go_ret
    refine ⟨?_, up HB1.out hB⟩
    clear HS HK HB1 hB x0 x1 x2 x3 x4 x5 x6 y0 y1 y2 y3 y4 y5 y6
    refine congrArg (fun z => Ending.returned (Value.bool z)) ?_
    first
      | (simp_all; done)
      | (simp_all; omega)
set_option maxRecDepth 100000 in
set_option maxHeartbeats 8000000 in
theorem rsame6_any (p q : PS) (u1 u2 a1 a2 : Option Addr) (m1 m2 d1 d2 n1 n2 c1 c2 : Nat) (w : World) (h1 : RS w (.slice u1 m1 d1) (.slice a1 n1 c1) p) (h2 : RS w (.slice u2 m2 d2) (.slice a2 n2 c2) q) (k1 : Kq p.ps) (k2 : Kq q.ps) :
    Calls Tryz.prog 12 #[.agg (cS p (.slice u1 m1 d1) (.slice a1 n1 c1)), .agg (cS q (.slice u2 m2 d2) (.slice a2 n2 c2))] w fun e w' => e = .returned (.bool (eqS p q)) ∧ Below w.heap.size w w' := by
  have HS := fun W (hb : Below w.heap.size w W) => Lib.hid (rsame_any _ _ p.ps q.ps W (h1.2.keep hb) (h2.2.keep hb) k1.1 k1.2 k2.2)
  have HU1 := Lib.hid (show Rd w u1 (cB p.utf) by obtain ⟨A, c, he, _, h⟩ := h1.1; cases he; exact h)
  have HU2 := Lib.hid (show Rd w u2 (cB q.utf) by obtain ⟨A, c, he, _, h⟩ := h2.1; cases he; exact h)
  have HM1 := Lib.hid (show m1 = p.utf.length by obtain ⟨A, c, he, _, h⟩ := h1.1; cases he; rfl)
  have HM2 := Lib.hid (show m2 = q.utf.length by obtain ⟨A, c, he, _, h⟩ := h2.1; cases he; rfl)
  clear h1 h2 k1 k2
  obtain ⟨st, utf, pr, fi, pp, it, tx, bad⟩ := p
  obtain ⟨st', utf', pr', fi', pp', it', tx', bad'⟩ := q
  unfold cS eqS
  dsimp only at *
  have f1 := eqB_list ⟨utf.toArray⟩ ⟨utf'.toArray⟩
  rw [eqB_arr] at f1
  have f5 := eqB_list it it'
  have f6 := eqB_list tx tx'
  generalize eqB it it' = b5 at f5 ⊢
  generalize eqB tx tx' = b6 at f6 ⊢
  generalize decide (pp = pp') = b4 at HS ⊢
  generalize pr.toNat = x
  generalize pr'.toNat = x'
  generalize fi.toNat = y
  generalize fi'.toNat = y'
  rw [show decide (x = x') = decide ((x : Int) = (x' : Int)) from decide_eq_decide.2 (by omega), show decide (y = y') = decide ((y : Int) = (y' : Int)) from decide_eq_decide.2 (by omega)]
  have hb1 : Below w.heap.size w ((w.alloc (.cells #[.int .i64 st, .slice u1 m1 d1, .int .u8 (x : Int), .int .u8 (y : Int), .slice a1 n1 c1, .string it, .string tx, .bool bad] 25)).alloc (.cells #[.int .i64 st', .slice u2 m2 d2, .int .u8 (x' : Int), .int .u8 (y' : Int), .slice a2 n2 c2, .string it', .string tx', .bool bad'] 25)) := up (below_box _ _) (below_box _ _)
  have hx := (Box.new w #[.int .i64 st, .slice u1 m1 d1, .int .u8 (x : Int), .int .u8 (y : Int), .slice a1 n1 c1, .string it, .string tx, .bool bad] 25).alloc (.cells #[.int .i64 st', .slice u2 m2 d2, .int .u8 (x' : Int), .int .u8 (y' : Int), .slice a2 n2 c2, .string it', .string tx', .bool bad'] 25)
  have hy := Box.new (w.alloc (.cells #[.int .i64 st, .slice u1 m1 d1, .int .u8 (x : Int), .int .u8 (y : Int), .slice a1 n1 c1, .string it, .string tx, .bool bad] 25)) #[.int .i64 st', .slice u2 m2 d2, .int .u8 (x' : Int), .int .u8 (y' : Int), .slice a2 n2 c2, .string it', .string tx', .bool bad'] 25
  rw [World.size_alloc] at hy
  go_enter Tryz.func12, Tryz.ntmps12
  go_upto_region 1 with fail
  generalize ((w.alloc (.cells #[.int .i64 st, .slice u1 m1 d1, .int .u8 (x : Int), .int .u8 (y : Int), .slice a1 n1 c1, .string it, .string tx, .bool bad] 25)).alloc (.cells #[.int .i64 st', .slice u2 m2 d2, .int .u8 (x' : Int), .int .u8 (y' : Int), .slice a2 n2 c2, .string it', .string tx', .bool bad'] 25)) = w1 at hb1 hx hy ⊢
  have HK := Lib.hid (show ∀ W, Below w1.heap.size w1 W → W.cell? ⟨w.heap.size, 0, none⟩ = some (.int .i64 st) ∧ W.cell? ⟨w.heap.size, 1, none⟩ = some (.slice u1 m1 d1) ∧ W.cell? ⟨w.heap.size, 2, none⟩ = some (.int .u8 (x : Int)) ∧ W.cell? ⟨w.heap.size, 3, none⟩ = some (.int .u8 (y : Int)) ∧ W.cell? ⟨w.heap.size, 4, none⟩ = some (.slice a1 n1 c1) ∧ W.cell? ⟨w.heap.size, 5, none⟩ = some (.string it) ∧ W.cell? ⟨w.heap.size, 6, none⟩ = some (.string tx) ∧ W.cell? ⟨w.heap.size, 7, none⟩ = some (.bool bad) ∧ W.cell? ⟨w.heap.size + 1, 0, none⟩ = some (.int .i64 st') ∧ W.cell? ⟨w.heap.size + 1, 1, none⟩ = some (.slice u2 m2 d2) ∧ W.cell? ⟨w.heap.size + 1, 2, none⟩ = some (.int .u8 (x' : Int)) ∧ W.cell? ⟨w.heap.size + 1, 3, none⟩ = some (.int .u8 (y' : Int)) ∧ W.cell? ⟨w.heap.size + 1, 4, none⟩ = some (.slice a2 n2 c2) ∧ W.cell? ⟨w.heap.size + 1, 5, none⟩ = some (.string it') ∧ W.cell? ⟨w.heap.size + 1, 6, none⟩ = some (.string tx') ∧ W.cell? ⟨w.heap.size + 1, 7, none⟩ = some (.bool bad') from fun W hW =>
    ⟨(hx.keep hW).cell 0 _ rfl, (hx.keep hW).cell 1 _ rfl, (hx.keep hW).cell 2 _ rfl, (hx.keep hW).cell 3 _ rfl, (hx.keep hW).cell 4 _ rfl, (hx.keep hW).cell 5 _ rfl, (hx.keep hW).cell 6 _ rfl, (hx.keep hW).cell 7 _ rfl, (hy.keep hW).cell 0 _ rfl, (hy.keep hW).cell 1 _ rfl, (hy.keep hW).cell 2 _ rfl, (hy.keep hW).cell 3 _ rfl, (hy.keep hW).cell 4 _ rfl, (hy.keep hW).cell 5 _ rfl, (hy.keep hW).cell 6 _ rfl, (hy.keep hW).cell 7 _ rfl⟩)
  have HB1 := Lib.hid hb1
  have hB := Below.refl w1.heap.size w1
  obtain ⟨x0, x1, x2, x3, x4, x5, x6, x7, y0, y1, y2, y3, y4, y5, y6, y7⟩ := HK.out _ hB
  clear hb1 hx hy
  generalize w.heap.size + 1 = B1 at HK y0 y1 y2 y3 y4 y5 y6 y7 ⊢
  generalize w.heap.size = B0 at HK x0 x1 x2 x3 x4 x5 x6 x7 ⊢
  have q1 := fun W (hb : Below w1.heap.size w1 W) => str_of W u1 d1 utf (HU1.out.below (up HB1.out hb))
  have q2 := fun W (hb : Below w1.heap.size w1 W) => str_of W u2 d2 utf' (HU2.out.below (up HB1.out hb))
  rw [← HM1.out] at q1
  rw [← HM2.out] at q2
  have r1 := q1 _ hB
  have r2 := q2 _ hB
  go_wp2_with (go_at_call 32; refine (HS _ (up HB1.out hB)).out.mono ?_; rintro e w' ⟨rfl, hb'⟩; have hB := up hB hb'; clear x0 x1 x2 x3 x4 x5 x6 x7 y0 y1 y2 y3 y4 y5 y6 y7; obtain ⟨x0, x1, x2, x3, x4, x5, x6, x7, y0, y1, y2, y3, y4, y5, y6, y7⟩ := HK.out _ hB)
  all_goals
    go_ret
    refine ⟨?_, up HB1.out hB⟩
    clear HS HK HB1 hB q1 q2 r1 r2 x0 x1 x2 x3 x4 x5 x6 x7 y0 y1 y2 y3 y4 y5 y6 y7
    refine congrArg (fun z => Ending.returned (Value.bool z)) ?_
    first
      | (simp_all; done)
      | (simp_all; omega)
end Go.Proofs.YtefkbdmgplfgoaaGreatDoor.Sta
