/-
  OscRow
-/
import Derived.WalkKit
import Derived.ProofKit
import Derived.OpenShut
import Derived.Deep.DeepHandedRow
import Derived.Lib.LaidTab
import Derived.Lib.LaidU8
import Derived.Lib.SmallJoins
import Derived.Test.YtoilcigmpeaedaaGreatDoorCards
import Derived.Test.YtoilcigmpeaedaaGreatDoorTie
import Derived.Test.YtoilcigmpeaedaaGreatDoorF23
section
set_option maxRecDepth 100000
namespace Go.Proofs.YtoilcigmpeaedaaGreatDoor.Osc
open Go.ChangeShapes Go.WideShapes Go.ChangeAt Go.RowKit Utf Col

theorem own : ownKnob Tryz.prog.godebug = none := by kernel_rfl
theorem laidOut : laidOutB Tryz.prog = true := by kernel_rfl
theorem gL : Tryz.prog.globalNamed "fenestra/color.limits" = some 0 := by kernel_rfl
theorem gLType : (Tryz.prog.globals[0]?).map (·.type) = some 103 := by kernel_rfl
theorem gLCells : Tryz.prog.cellsOf 103 = 3 := by kernel_rfl
theorem gB : Tryz.prog.globalNamed "fenestra/color.basics" = some 1 := by kernel_rfl
theorem gBType : (Tryz.prog.globals[1]?).map (·.type) = some 120 := by kernel_rfl
theorem gBCells : Tryz.prog.cellsOf 120 = 16 := by kernel_rfl
theorem gV : Tryz.prog.globalNamed "fenestra/color.levels" = some 2 := by kernel_rfl
theorem gVType : (Tryz.prog.globals[2]?).map (·.type) = some 92 := by kernel_rfl
theorem gVCells : Tryz.prog.cellsOf 92 = 6 := by kernel_rfl
theorem gM : Tryz.prog.globalNamed "fenestra/utf.marks" = some 4 := by kernel_rfl
theorem gMType : (Tryz.prog.globals[4]?).map (·.type) = some 96 := by kernel_rfl
theorem gMCells : Tryz.prog.cellsOf 96 = 5 := by kernel_rfl
theorem gP : Tryz.prog.globalNamed "internal/strconv.uint64pow10" = some 5 := by kernel_rfl
theorem gPType : (Tryz.prog.globals[5]?).map (·.type) = some 142 := by kernel_rfl
theorem gPCells : Tryz.prog.cellsOf 142 = 20 := by kernel_rfl
theorem cells64 : Tryz.prog.cellsOf 99 = 1 := by kernel_rfl
theorem cellsC : Tryz.prog.cellsOf 23 = 2 := by kernel_rfl
theorem cellsI : Tryz.prog.cellsOf 3 = 1 := by kernel_rfl
theorem cellsT : Tryz.prog.cellsOf 9 = 1 := by kernel_rfl
theorem cellsU : Tryz.prog.cellsOf 5 = 1 := by kernel_rfl
theorem cellsW : Tryz.prog.cellsOf 26 = 1 := by kernel_rfl
theorem cellsA : Tryz.prog.cellsOf 25 = 6 := by kernel_rfl
theorem cellsN : Tryz.prog.cellsOf 27 = 1 := by kernel_rfl
theorem cellsD : Tryz.prog.cellsOf 29 = 5 := by kernel_rfl
theorem range_of {W : World} {name : String} {g t n : Nat} (zs : List Int) (hg : Tryz.prog.globalNamed name = some g) (hty : (Tryz.prog.globals[g]?).map (·.type) = some t) (ht : Tryz.prog.underlying t = some (.array n 3)) (hct : Tryz.prog.cellsOf t = n) (h0 : 0 < zs.length)
    (h : Lib.VarReads Tryz.prog W name (Lib.tabData .i64 zs)) : g < W.heap.size ∧ W.rangeAt g 0 (cI zs) := by
  obtain ⟨g', t', cs, fuel, p, hg', ht', hvar, hd⟩ := h
  obtain rfl := Option.some.inj (hg.symm.trans hg')
  obtain rfl := Option.some.inj (hty.symm.trans ht')
  have hc : cs.toList = cI zs := Lib.cells_of_tab ht Tryz.underlying3 cellsI hct hd
  have hr : W.rangeAt g 0 (cI zs) := fun j u hu => by
    rw [Nat.zero_add, World.var?_cell hg hvar j]
    rw [← hc] at hu
    simpa using hu
  refine ⟨?_, hr⟩
  exact World.block_lt_of_cell? W _ (hr 0 _ (cI_at zs 0 zs[0] (List.getElem?_eq_getElem h0)))

theorem env_of {W : World} (h : laidMetH Tryz.prog Rows.oscKnownRow.laid W) : Env W := by
  have h' : laidMet Tryz.prog [("fenestra/color.limits", Lib.tabData .i64 limT), ("fenestra/color.basics", Lib.tabData .i64 basT), ("fenestra/color.levels", Lib.tabData .i64 levT), ("math/bits.deBruijn32tab", Rows.laid_math_bits_deBruijn32tab), ("math/bits.deBruijn64tab", Rows.laid_math_bits_deBruijn64tab), ("internal/strconv.uint64pow10", Lib.tabData .u64 Lib.pow10Tab), ("unicode/utf8.acceptRanges", Rows.laid_unicode_utf8_acceptRanges), ("fenestra/utf.marks", Lib.tabData .i64 [0, 0, 192, 224, 240]), ("unicode/utf8.first", Rows.laid_unicode_utf8_first)] W := h
  refine ⟨?_, ⟨?_, ?_, ?_⟩, ?_⟩
  · obtain ⟨h1, h2⟩ := range_of [0, 0, 192, 224, 240] gM gMType Tryz.underlying96 gMCells (by decide) (Lib.laidMet.reads h' (by simp))
    refine ⟨h1, fun n hn => ?_⟩
    have h3 := fun j v hv => h2 j v hv
    rcases (show n = 0 ∨ n = 1 ∨ n = 2 ∨ n = 3 ∨ n = 4 by omega) with rfl | rfl | rfl | rfl | rfl
    · have := h3 0 _ rfl; rw [Nat.zero_add] at this; exact this
    · have := h3 1 _ rfl; rw [Nat.zero_add] at this; exact this
    · have := h3 2 _ rfl; rw [Nat.zero_add] at this; exact this
    · have := h3 3 _ rfl; rw [Nat.zero_add] at this; exact this
    · have := h3 4 _ rfl; rw [Nat.zero_add] at this; exact this
  · exact range_of limT gL gLType Tryz.underlying103 gLCells (by decide) (Lib.laidMet.reads h' (by simp))
  · exact range_of basT gB gBType Tryz.underlying120 gBCells (by decide) (Lib.laidMet.reads h' (by simp))
  · exact range_of levT gV gVType Tryz.underlying92 gVCells (by decide) (Lib.laidMet.reads h' (by simp))
  · obtain ⟨g', t', cs, fuel, p, hg', ht', hvar, hd⟩ := Lib.laidMet.reads h' (n := "internal/strconv.uint64pow10") (d := Lib.tabData .u64 Lib.pow10Tab) (by simp)
    obtain rfl := Option.some.inj (gP.symm.trans hg')
    obtain rfl := Option.some.inj (gPType.symm.trans ht')
    have hc := Lib.cells_of_tab Tryz.underlying142 Tryz.underlying99 cells64 gPCells hd
    refine Lib.tabBelow_of_tabIs ?_
    rw [Lib.TabIs, hvar, ← hc]
def litV : DataW Unit → List Value
  | .lit (.int k z) => [.int k z]
  | .agg [.lit (.int k z), .lit (.int k2 z2)] => [.int k z, .int k2 z2]
  | _ => [undef]
def valsOf : DataW Unit → Array Value
  | .agg l => (l.flatMap litV).toArray
  | _ => #[]
def setO (cs : Array Value) : Obj → Obj
  | .cells _ t frozen => .cells cs t frozen
  | o => o
/-- a world for the witnesses: the settled one, the blocks of the nine variables holding what their texts lay -/
noncomputable def laidWorld (os : Os) : World :=
  { World.holding Tryz.prog os ⟨#[], #[], []⟩ with heap := ((((((((((World.holding Tryz.prog os ⟨#[], #[], []⟩).heap.modify 0 (setO (valsOf Rows.laid_fenestra_color_limits))).modify 1 (setO (valsOf Rows.laid_fenestra_color_basics))).modify 2 (setO (valsOf Rows.laid_fenestra_color_levels))).modify 6 (setO (valsOf Rows.laid_math_bits_deBruijn32tab))).modify 7 (setO (valsOf Rows.laid_math_bits_deBruijn64tab))).modify 5 (setO (valsOf Rows.laid_internal_strconv_uint64pow10))).modify 9 (setO (valsOf Rows.laid_unicode_utf8_acceptRanges))).modify 4 (setO (valsOf Rows.laid_fenestra_utf_marks))).modify 8 (setO (valsOf Rows.laid_unicode_utf8_first))) }
/-- a slice of integers that came in, as the walks want it -/
theorem ints_in {H : Type} {enc : TypeId × Value → H} {W : World} {A : Option Addr} {n c : Nat} {d : DataW H} {p : List MemPlace}
    (h : DataW.Trod enc Tryz.prog W 0 (fun _ => true) true 27 (.slice A n c) d p) : ∃ zs : List Int, zs.length = n ∧ (n ≤ c ∧ c ≤ 9223372036854775807) ∧ Rd W A (cI zs) ∧ (∀ z ∈ zs, (Lit.int .i64 z).wf = true) := by
  obtain ⟨fuel, hf⟩ := h
  rcases open_ints Tryz.underlying27 Tryz.underlying3 cellsI hf with ⟨hcs, _⟩ | ⟨a, len', cap', zs, hcs, _, hl, hm, hz, _, hcell, hwz⟩
  · simp [Value.cells] at hcs
    obtain ⟨rfl, rfl, rfl⟩ := hcs
    exact ⟨[], rfl, ⟨Nat.le_refl _, by omega⟩, Rd.nil _ _, fun _ h => by cases h⟩
  · simp [Value.cells] at hcs
    obtain ⟨rfl, rfl, rfl⟩ := hcs
    rw [if_pos rfl] at hz
    unfold maxLen at hm
    refine ⟨zs.take n, by rw [List.length_take]; omega, ⟨hl, hm⟩, fun j u hu => ?_, fun z hz' => hwz z (List.mem_of_mem_take hz')⟩
    have hj : j < (zs.take n).length := by rw [← cI_len]; exact (List.getElem?_eq_some_iff.1 hu).1
    rw [List.length_take] at hj
    have hc := hcell j (by omega)
    refine ⟨a, rfl, ?_, ?_⟩
    · have := World.block_lt_of_cell? W _ hc
      have e : (a.add j).block = a.block := by unfold Addr.add; split <;> rfl
      rw [e] at this
      exact this
    · rw [hc, ← hu]
      have hjz : j < zs.length := by omega
      have hjn : j < n := by omega
      simp [cI, hjn, hjz]
theorem u8_wf {z : Int} (h : (Lit.int .u8 z).wf = true) : ∃ b : UInt8, z = (b.toNat : Int) := by
  have hb : 0 ≤ z ∧ z ≤ 255 := bounds_u8 h
  exact ⟨UInt8.ofNat z.toNat, by rw [UInt8.toNat_ofNat']; omega⟩
theorem len2 {α : Type} {l : List α} (h : l.length = 2) : ∃ a b, l = [a, b] := by
  match l, h with
  | [a, b], _ => exact ⟨a, b, rfl⟩
theorem len4 {α : Type} {l : List α} (h : l.length = 4) : ∃ a b c d, l = [a, b, c, d] := by
  match l, h with
  | [a, b, c, d], _ => exact ⟨a, b, c, d, rfl⟩
theorem len5 {α : Type} {l : List α} (h : l.length = 5) : ∃ a b c d e, l = [a, b, c, d, e] := by
  match l, h with
  | [a, b, c, d, e], _ => exact ⟨a, b, c, d, e, rfl⟩
theorem len6 {α : Type} {l : List α} (h : l.length = 6) : ∃ a b c d e f, l = [a, b, c, d, e, f] := by
  match l, h with
  | [a, b, c, d, e, f], _ => exact ⟨a, b, c, d, e, f, rfl⟩
theorem u32_wf {z : Int} (h : (Lit.int .u32 z).wf = true) : ∃ b : UInt32, z = (b.toNat : Int) := by
  have hb : 0 ≤ z ∧ z ≤ 4294967295 := bounds_u32 h
  exact ⟨UInt32.ofNat z.toNat, by rw [UInt32.toNat_ofNat']; omega⟩
theorem u16_wf {z : Int} (h : (Lit.int .u16 z).wf = true) : ∃ b : UInt16, z = (b.toNat : Int) := by
  have hb : 0 ≤ z ∧ z ≤ 65535 := bounds_u16 h
  exact ⟨UInt16.ofNat z.toNat, by rw [UInt16.toNat_ofNat']; omega⟩
def Wf (z : Int) : Prop := (Lit.int .i64 z).wf = true
section
variable {H : Type} {enc : TypeId × Value → H} {w : World} {base : Nat} {spare : Nat → Bool} {held : Bool} {fuel : Nat} {cs : List Value} {x : DataW H × List MemPlace}
theorem trod_col (h : DataW.trod enc Tryz.prog w base spare held fuel 23 cs = some x) : ∃ a b, cs = [.int .i64 a, .int .i64 b] ∧ Wf a ∧ Wf b ∧ x.2 = [] := by
  obtain ⟨y0, y1, n, rfl, hl, h0, h1⟩ := trod_struct2 Tryz.underlying23 h
  obtain ⟨c0, c1, rfl⟩ := len2 (hl.trans cellsC)
  simp only [cellsI] at h0 h1
  obtain ⟨a, e0, rfl, wa⟩ := DataW.trod_int Tryz.underlying3 h0
  obtain ⟨b, e1, rfl, wb⟩ := DataW.trod_int Tryz.underlying3 h1
  simp at e0 e1
  subst e0 e1
  exact ⟨a, b, rfl, wa, wb, rfl⟩
theorem trod_act (h : DataW.trod enc Tryz.prog w base spare held fuel 25 cs = some x) : ∃ k n m c0 c1, ∃ t : ByteArray, cs = [.int .i64 k, .int .i64 n, .int .i64 m, .int .i64 c0, .int .i64 c1, .string t] ∧ Wf k ∧ Wf n ∧ Wf m ∧ Wf c0 ∧ Wf c1 ∧ t.size ≤ maxLen ∧ x.2 = [] := by
  obtain ⟨xs, n, _, rfl, hl, hlen, hf⟩ := DataW.trod_struct Tryz.underlying25 h
  obtain ⟨c0, c1, c2, c3, c4, c5, rfl⟩ := len6 (hl.trans cellsA)
  obtain ⟨y0, y1, y2, y3, y4, rfl⟩ := len5 (show xs.length = 5 from hlen)
  have h0 : DataW.trod enc Tryz.prog w base spare held n 3 [c0] = some y0 := by simpa [cellsI] using hf 0 _ rfl
  have h1 : DataW.trod enc Tryz.prog w base spare held n 3 [c1] = some y1 := by simpa [cellsI] using hf 1 _ rfl
  have h2 : DataW.trod enc Tryz.prog w base spare held n 3 [c2] = some y2 := by simpa [cellsI] using hf 2 _ rfl
  have h3 : DataW.trod enc Tryz.prog w base spare held n 23 [c3, c4] = some y3 := by simpa [cellsC] using hf 3 _ rfl
  have h4 : DataW.trod enc Tryz.prog w base spare held n 9 [c5] = some y4 := by simpa [cellsT] using hf 4 _ rfl
  obtain ⟨a, e0, rfl, wa⟩ := DataW.trod_int Tryz.underlying3 h0
  obtain ⟨b, e1, rfl, wb⟩ := DataW.trod_int Tryz.underlying3 h1
  obtain ⟨c, e2, rfl, wc⟩ := DataW.trod_int Tryz.underlying3 h2
  obtain ⟨f0, f1, e3, wf0, wf1, q3⟩ := trod_col h3
  obtain ⟨s, e4, rfl, ws⟩ := DataW.trod_string Tryz.underlying9 h4
  simp at e0 e1 e2 e3 e4
  obtain ⟨rfl, rfl⟩ := e3
  subst e0 e1 e2 e4
  exact ⟨a, b, c, f0, f1, s, rfl, wa, wb, wc, wf0, wf1, ws, by simp [q3]⟩
end
end Go.Proofs.YtoilcigmpeaedaaGreatDoor.Osc
end
