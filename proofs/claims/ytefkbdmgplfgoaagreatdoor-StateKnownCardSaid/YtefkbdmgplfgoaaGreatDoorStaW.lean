/-
  Contracts of the decoder's small tests, of enter and spoil.
-/
import Derived.Test.YtefkbdmgplfgoaaGreatDoorStaV
import Derived.Test.YtefkbdmgplfgoaaGreatDoorStaH
namespace Go.Proofs.YtefkbdmgplfgoaaGreatDoor.Sta
open Go.RowKit Utf Par
variable {X : Nat → Prop}

theorem isSign_any (b : UInt8) (w : World) : Calls Tryz.prog 47 #[.int .u8 (b.toNat : Int)] w fun e w' => e = .returned (.bool (signB b)) ∧ w = w' := by
  have hb : signB b = (decide ((32 : Int) ≤ (b.toNat : Int)) && decide ((b.toNat : Int) ≤ 47)) := by
    unfold signB
    rw [show decide ((32 : Int) ≤ (b.toNat : Int)) = decide (32 ≤ b.toNat) from decide_eq_decide.2 (by omega), show decide ((b.toNat : Int) ≤ 47) = decide (b.toNat ≤ 47) from decide_eq_decide.2 (by omega)]
  rw [hb]
  clear hb
  go_enter Tryz.func47, Tryz.ntmps47
  go_wp2
  all_goals
    go_ret
    refine ⟨?_, rfl⟩
    first
      | (simp_all; done)
      | (simp_all; omega)
theorem isPrivate_any (b : UInt8) (w : World) : Calls Tryz.prog 44 #[.int .u8 (b.toNat : Int)] w fun e w' => e = .returned (.bool (privB b)) ∧ w = w' := by
  have hb : privB b = (decide ((60 : Int) ≤ (b.toNat : Int)) && decide ((b.toNat : Int) ≤ 63)) := by
    unfold privB
    rw [show decide ((60 : Int) ≤ (b.toNat : Int)) = decide (60 ≤ b.toNat) from decide_eq_decide.2 (by omega), show decide ((b.toNat : Int) ≤ 63) = decide (b.toNat ≤ 63) from decide_eq_decide.2 (by omega)]
  rw [hb]
  clear hb
  go_enter Tryz.func44, Tryz.ntmps44
  go_wp2
  all_goals
    go_ret
    refine ⟨?_, rfl⟩
    first
      | (simp_all; done)
      | (simp_all; omega)
theorem isFinal_any (b : UInt8) (w : World) : Calls Tryz.prog 48 #[.int .u8 (b.toNat : Int)] w fun e w' => e = .returned (.bool (finlB b)) ∧ w = w' := by
  have hb : finlB b = (decide ((64 : Int) ≤ (b.toNat : Int)) && decide ((b.toNat : Int) < 127)) := by
    unfold finlB
    rw [show decide ((64 : Int) ≤ (b.toNat : Int)) = decide (64 ≤ b.toNat) from decide_eq_decide.2 (by omega), show decide ((b.toNat : Int) < 127) = decide (b.toNat < 127) from decide_eq_decide.2 (by omega)]
  rw [hb]
  clear hb
  go_enter Tryz.func48, Tryz.ntmps48
  go_wp2
  all_goals
    go_ret
    refine ⟨?_, rfl⟩
    first
      | (simp_all; done)
      | (simp_all; omega)
theorem isPrintable_any (b : UInt8) (w : World) : Calls Tryz.prog 68 #[.int .u8 (b.toNat : Int)] w fun e w' => e = .returned (.bool (prnbB b)) ∧ w = w' := by
  have hb : prnbB b = (decide ((32 : Int) ≤ (b.toNat : Int)) && decide ((b.toNat : Int) < 127)) := by
    unfold prnbB
    rw [show decide ((32 : Int) ≤ (b.toNat : Int)) = decide (32 ≤ b.toNat) from decide_eq_decide.2 (by omega), show decide ((b.toNat : Int) < 127) = decide (b.toNat < 127) from decide_eq_decide.2 (by omega)]
  rw [hb]
  clear hb
  go_enter Tryz.func68, Tryz.ntmps68
  go_wp2
  all_goals
    go_ret
    refine ⟨?_, rfl⟩
    first
      | (simp_all; done)
      | (simp_all; omega)
theorem isText_any (b : UInt8) (w : World) : Calls Tryz.prog 49 #[.int .u8 (b.toNat : Int)] w fun e w' => e = .returned (.bool (textB b)) ∧ w = w' := by
  have hb : textB b = (decide ((32 : Int) ≤ (b.toNat : Int)) && ((b.toNat : Int) != 127)) := by
    unfold textB
    rw [show decide ((32 : Int) ≤ (b.toNat : Int)) = decide (32 ≤ b.toNat) from decide_eq_decide.2 (by omega)]
    by_cases h : b.toNat = 127
    · have : ((b.toNat : Int) != 127) = false := by simp; omega
      rw [this, decide_eq_true h]; simp
    · have : ((b.toNat : Int) != 127) = true := by simp; omega
      rw [this, decide_eq_false h]; simp
  rw [hb]
  clear hb
  go_enter Tryz.func49, Tryz.ntmps49
  go_wp2
  all_goals
    go_ret
    refine ⟨?_, rfl⟩
    first
      | (simp_all; done)
      | (simp_all; omega)
theorem Did.of {b : Nat} {g : Option Nat} {w w' : World} {p' : PS} {l : List EV} (h : Dec X b g w' p' l ∧ Frm b g g w w') : Did X b g w (p', []) l (.returned (.tuple #[])) w' :=
  ⟨rfl, g, by rw [List.append_nil]; exact h.1, h.2⟩
/-- the cells of a decoder, all nine -/
theorem Box.all8 {w : World} {b : Nat} {x0 x1 x2 x3 x4 x5 x6 x7 v : Value} (y0 y1 y2 y3 y4 y5 y6 y7 : Value) (h : Box w b [x0, x1, x2, x3, x4, x5, x6, x7, v]) : Box ((((((((w.setCell ⟨b, 0, none⟩ y0).setCell ⟨b, 1, none⟩ y1).setCell ⟨b, 2, none⟩ y2).setCell ⟨b, 3, none⟩ y3).setCell ⟨b, 4, none⟩ y4).setCell ⟨b, 5, none⟩ y5).setCell ⟨b, 6, none⟩ y6).setCell ⟨b, 7, none⟩ y7) b [y0, y1, y2, y3, y4, y5, y6, y7, v] :=
  (((((((Box.set h 0 y0).set 1 y1).set 2 y2).set 3 y3).set 4 y4).set 5 y5).set 6 y6).set 7 y7
set_option maxRecDepth 100000 in
set_option maxHeartbeats 2000000 in
theorem enter_any (b : Nat) (g : Option Nat) (w : World) (p : PS) (l : List EV) (n : Int) (h : Dec X b g w p l) :
    Calls Tryz.prog 65 #[.pointer (some ⟨b, 0, none⟩), .int .i64 n] w (Did X b g w (begS n, []) l) := by
  obtain ⟨u, q, v, xs, hx, hv, hl, hg, hu, hq, hxs, hX⟩ := h
  have c0 := hx.cell 0 _ rfl
  have c1 := hx.cell 1 _ rfl
  have c2 := hx.cell 2 _ rfl
  have c3 := hx.cell 3 _ rfl
  have c4 := hx.cell 4 _ rfl
  have c5 := hx.cell 5 _ rfl
  have c6 := hx.cell 6 _ rfl
  have c7 := hx.cell 7 _ rfl
  have f0 := hx.free 0 (by show 0 < 9; decide)
  have f1 := hx.free 1 (by show 1 < 9; decide)
  have f2 := hx.free 2 (by show 2 < 9; decide)
  have f3 := hx.free 3 (by show 3 < 9; decide)
  have f4 := hx.free 4 (by show 4 < 9; decide)
  have f5 := hx.free 5 (by show 5 < 9; decide)
  have f6 := hx.free 6 (by show 6 < 9; decide)
  have f7 := hx.free 7 (by show 7 < 9; decide)
  have HX := Lib.hid hx
  have HL := Lib.hid hl
  have HG := Lib.hid hg
  have HV := Lib.hid hv
  have HXS := Lib.hid hxs
  have HXX := Lib.hid hX
  have HU := Lib.hid hu
  have HQ := Lib.hid hq
  clear hl hg hx hv hxs hu hq hX
  go_enter Tryz.func65, Tryz.ntmps65
  go_wp2
  go_end0
  exact Did.of (Dec.put HXX.out HV.out HL.out HG.out HXS.out HX.out.1 (grown_set8 _ _ _ _ _ _ _ _ _ _) (Box.all8 _ _ _ _ _ _ _ _ HX.out) (RBx.nil _ _ _) (RLx.nil _ _ _))
set_option maxRecDepth 100000 in
set_option maxHeartbeats 2000000 in
theorem spoil_any (b : Nat) (g : Option Nat) (w : World) (p : PS) (l : List EV) (h : Dec X b g w p l) :
    Calls Tryz.prog 71 #[.pointer (some ⟨b, 0, none⟩)] w (Did X b g w (spoS p.st, []) l) := by
  obtain ⟨u, q, v, xs, hx, hv, hl, hg, hu, hq, hxs, hX⟩ := h
  have c0 := hx.cell 0 _ rfl
  have c1 := hx.cell 1 _ rfl
  have c2 := hx.cell 2 _ rfl
  have c3 := hx.cell 3 _ rfl
  have c4 := hx.cell 4 _ rfl
  have c5 := hx.cell 5 _ rfl
  have c6 := hx.cell 6 _ rfl
  have c7 := hx.cell 7 _ rfl
  have f0 := hx.free 0 (by show 0 < 9; decide)
  have f1 := hx.free 1 (by show 1 < 9; decide)
  have f2 := hx.free 2 (by show 2 < 9; decide)
  have f3 := hx.free 3 (by show 3 < 9; decide)
  have f4 := hx.free 4 (by show 4 < 9; decide)
  have f5 := hx.free 5 (by show 5 < 9; decide)
  have f6 := hx.free 6 (by show 6 < 9; decide)
  have f7 := hx.free 7 (by show 7 < 9; decide)
  have HX := Lib.hid hx
  have HL := Lib.hid hl
  have HG := Lib.hid hg
  have HV := Lib.hid hv
  have HXS := Lib.hid hxs
  have HXX := Lib.hid hX
  have HU := Lib.hid hu
  have HQ := Lib.hid hq
  clear hl hg hx hv hxs hu hq hX
  go_enter Tryz.func71, Tryz.ntmps71
  go_wp2
  go_end0
  exact Did.of (Dec.put HXX.out HV.out HL.out HG.out HXS.out HX.out.1 (grown_set8 _ _ _ _ _ _ _ _ _ _) (Box.all8 _ _ _ _ _ _ _ _ HX.out) (RBx.nil _ _ _) (RLx.nil _ _ _))
end Go.Proofs.YtefkbdmgplfgoaaGreatDoor.Sta
