/-
  StyRow
-/
import Derived.WalkKit
import Derived.ProofKit
import Derived.OpenShut
import Derived.Deep.DeepHandedRow
import Derived.Lib.LaidTab
import Derived.Lib.LaidU8
import Derived.Lib.SmallJoins
import Derived.Test.YteepfecplabinaaDoorCards
import Derived.Test.YteepfecplabinaaDoorTie
import Derived.Test.YteepfecplabinaaDoorP7
section
set_option maxRecDepth 100000
namespace Go.Proofs.YteepfecplabinaaDoor.Sty
open Go.ChangeShapes Go.WideShapes Go.ChangeAt Go.RowKit Utf Col

theorem own : ownKnob Tryd.prog.godebug = none := by kernel_rfl
theorem laidOut : laidOutB Tryd.prog = true := by kernel_rfl
theorem gL : Tryd.prog.globalNamed "fenestra/color.limits" = some 2 := by kernel_rfl
theorem gLType : (Tryd.prog.globals[2]?).map (·.type) = some 118 := by kernel_rfl
theorem cells3 : Tryd.prog.cellsOf 118 = 3 := by kernel_rfl
theorem cellsC : Tryd.prog.cellsOf 46 = 2 := by kernel_rfl
theorem cellsI : Tryd.prog.cellsOf 3 = 1 := by kernel_rfl
theorem cellsT : Tryd.prog.cellsOf 9 = 1 := by kernel_rfl
theorem cellsU : Tryd.prog.cellsOf 5 = 1 := by kernel_rfl
theorem cellsW : Tryd.prog.cellsOf 49 = 1 := by kernel_rfl
theorem cellsS : Tryd.prog.cellsOf 68 = 8 := by kernel_rfl
theorem cellsA : Tryd.prog.cellsOf 48 = 6 := by kernel_rfl
theorem cellsR : Tryd.prog.cellsOf 50 = 4 := by kernel_rfl
theorem cellsD : Tryd.prog.cellsOf 52 = 8 := by kernel_rfl

theorem range_of {W : World} {name : String} {g t n : Nat} (zs : List Int) (hg : Tryd.prog.globalNamed name = some g) (hty : (Tryd.prog.globals[g]?).map (·.type) = some t) (ht : Tryd.prog.underlying t = some (.array n 3)) (hct : Tryd.prog.cellsOf t = n) (h0 : 0 < zs.length)
    (h : Lib.VarReads Tryd.prog W name (Lib.tabData .i64 zs)) : g < W.heap.size ∧ W.rangeAt g 0 (cI zs) := by
  obtain ⟨g', t', cs, fuel, p, hg', ht', hvar, hd⟩ := h
  obtain rfl := Option.some.inj (hg.symm.trans hg')
  obtain rfl := Option.some.inj (hty.symm.trans ht')
  have hc : cs.toList = cI zs := Lib.cells_of_tab ht Tryd.underlying3 cellsI hct hd
  have hr : W.rangeAt g 0 (cI zs) := fun j u hu => by
    rw [Nat.zero_add, World.var?_cell hg hvar j]
    rw [← hc] at hu
    simpa using hu
  refine ⟨?_, hr⟩
  exact World.block_lt_of_cell? W _ (hr 0 _ (cI_at zs 0 zs[0] (List.getElem?_eq_getElem h0)))

theorem u8_wf {z : Int} (h : (Lit.int .u8 z).wf = true) : ∃ b : UInt8, z = (b.toNat : Int) := by
  have hb : 0 ≤ z ∧ z ≤ 255 := bounds_u8 h
  exact ⟨UInt8.ofNat z.toNat, by rw [UInt8.toNat_ofNat']; omega⟩
theorem len2 {α : Type} {l : List α} (h : l.length = 2) : ∃ a b, l = [a, b] := by
  match l, h with
  | [a, b], _ => exact ⟨a, b, rfl⟩
theorem len4 {α : Type} {l : List α} (h : l.length = 4) : ∃ a b c d, l = [a, b, c, d] := by
  match l, h with
  | [a, b, c, d], _ => exact ⟨a, b, c, d, rfl⟩
theorem len5 {α : Type} {l : List α} (h : l.length = 5) : ∃ a b c d e, l = [a, b, c, d, e] := by
  match l, h with
  | [a, b, c, d, e], _ => exact ⟨a, b, c, d, e, rfl⟩
theorem len6 {α : Type} {l : List α} (h : l.length = 6) : ∃ a b c d e f, l = [a, b, c, d, e, f] := by
  match l, h with
  | [a, b, c, d, e, f], _ => exact ⟨a, b, c, d, e, f, rfl⟩
theorem len8 {α : Type} {l : List α} (h : l.length = 8) : ∃ a b c d e f g i, l = [a, b, c, d, e, f, g, i] := by
  match l, h with
  | [a, b, c, d, e, f, g, i], _ => exact ⟨a, b, c, d, e, f, g, i, rfl⟩
def Wf (z : Int) : Prop := (Lit.int .i64 z).wf = true
section
variable {H : Type} {enc : TypeId × Value → H} {w : World} {base : Nat} {spare : Nat → Bool} {held : Bool} {fuel : Nat} {cs : List Value} {x : DataW H × List MemPlace}
theorem trod_col (h : DataW.trod enc Tryd.prog w base spare held fuel 46 cs = some x) : ∃ a b, cs = [.int .i64 a, .int .i64 b] ∧ Wf a ∧ Wf b ∧ x.2 = [] := by
  obtain ⟨y0, y1, n, rfl, hl, h0, h1⟩ := trod_struct2 Tryd.underlying46 h
  obtain ⟨c0, c1, rfl⟩ := len2 (hl.trans cellsC)
  simp only [cellsI] at h0 h1
  obtain ⟨a, e0, rfl, wa⟩ := DataW.trod_int Tryd.underlying3 h0
  obtain ⟨b, e1, rfl, wb⟩ := DataW.trod_int Tryd.underlying3 h1
  simp at e0 e1
  subst e0 e1
  exact ⟨a, b, rfl, wa, wb, rfl⟩
theorem trod_sty (h : DataW.trod enc Tryd.prog w base spare held fuel 68 cs = some x) : ∃ a u f0 f1 b0 b1 l0 l1, cs = [.int .i64 a, .int .i64 u, .int .i64 f0, .int .i64 f1, .int .i64 b0, .int .i64 b1, .int .i64 l0, .int .i64 l1] ∧ Wf a ∧ Wf u ∧ Wf f0 ∧ Wf f1 ∧ Wf b0 ∧ Wf b1 ∧ Wf l0 ∧ Wf l1 ∧ x.2 = [] := by
  obtain ⟨xs, n, _, rfl, hl, hlen, hf⟩ := DataW.trod_struct Tryd.underlying68 h
  obtain ⟨c0, c1, c2, c3, c4, c5, c6, c7, rfl⟩ := len8 (hl.trans cellsS)
  obtain ⟨y0, y1, y2, y3, y4, rfl⟩ := len5 (show xs.length = 5 from hlen)
  have h0 : DataW.trod enc Tryd.prog w base spare held n 3 [c0] = some y0 := by simpa [cellsI] using hf 0 _ rfl
  have h1 : DataW.trod enc Tryd.prog w base spare held n 3 [c1] = some y1 := by simpa [cellsI] using hf 1 _ rfl
  have h2 : DataW.trod enc Tryd.prog w base spare held n 46 [c2, c3] = some y2 := by simpa [cellsC] using hf 2 _ rfl
  have h3 : DataW.trod enc Tryd.prog w base spare held n 46 [c4, c5] = some y3 := by simpa [cellsC] using hf 3 _ rfl
  have h4 : DataW.trod enc Tryd.prog w base spare held n 46 [c6, c7] = some y4 := by simpa [cellsC] using hf 4 _ rfl
  obtain ⟨a, e0, rfl, wa⟩ := DataW.trod_int Tryd.underlying3 h0
  obtain ⟨u, e1, rfl, wu⟩ := DataW.trod_int Tryd.underlying3 h1
  obtain ⟨f0, f1, e2, wf0, wf1, q2⟩ := trod_col h2
  obtain ⟨b0, b1, e3, wb0, wb1, q3⟩ := trod_col h3
  obtain ⟨l0, l1, e4, wl0, wl1, q4⟩ := trod_col h4
  simp at e0 e1 e2 e3 e4
  obtain ⟨rfl, rfl⟩ := e2
  obtain ⟨rfl, rfl⟩ := e3
  obtain ⟨rfl, rfl⟩ := e4
  subst e0 e1
  exact ⟨a, u, f0, f1, b0, b1, l0, l1, rfl, wa, wu, wf0, wf1, wb0, wb1, wl0, wl1, by simp [q2, q3, q4]⟩
theorem trod_act (h : DataW.trod enc Tryd.prog w base spare held fuel 48 cs = some x) : ∃ k n m c0 c1, ∃ t : ByteArray, cs = [.int .i64 k, .int .i64 n, .int .i64 m, .int .i64 c0, .int .i64 c1, .string t] ∧ Wf k ∧ Wf n ∧ Wf m ∧ Wf c0 ∧ Wf c1 ∧ t.size ≤ maxLen ∧ x.2 = [] := by
  obtain ⟨xs, n, _, rfl, hl, hlen, hf⟩ := DataW.trod_struct Tryd.underlying48 h
  obtain ⟨c0, c1, c2, c3, c4, c5, rfl⟩ := len6 (hl.trans cellsA)
  obtain ⟨y0, y1, y2, y3, y4, rfl⟩ := len5 (show xs.length = 5 from hlen)
  have h0 : DataW.trod enc Tryd.prog w base spare held n 3 [c0] = some y0 := by simpa [cellsI] using hf 0 _ rfl
  have h1 : DataW.trod enc Tryd.prog w base spare held n 3 [c1] = some y1 := by simpa [cellsI] using hf 1 _ rfl
  have h2 : DataW.trod enc Tryd.prog w base spare held n 3 [c2] = some y2 := by simpa [cellsI] using hf 2 _ rfl
  have h3 : DataW.trod enc Tryd.prog w base spare held n 46 [c3, c4] = some y3 := by simpa [cellsC] using hf 3 _ rfl
  have h4 : DataW.trod enc Tryd.prog w base spare held n 9 [c5] = some y4 := by simpa [cellsT] using hf 4 _ rfl
  obtain ⟨a, e0, rfl, wa⟩ := DataW.trod_int Tryd.underlying3 h0
  obtain ⟨b, e1, rfl, wb⟩ := DataW.trod_int Tryd.underlying3 h1
  obtain ⟨c, e2, rfl, wc⟩ := DataW.trod_int Tryd.underlying3 h2
  obtain ⟨f0, f1, e3, wf0, wf1, q3⟩ := trod_col h3
  obtain ⟨s, e4, rfl, ws⟩ := DataW.trod_string Tryd.underlying9 h4
  simp at e0 e1 e2 e3 e4
  obtain ⟨rfl, rfl⟩ := e3
  subst e0 e1 e2 e4
  exact ⟨a, b, c, f0, f1, s, rfl, wa, wb, wc, wf0, wf1, ws, by simp [q3]⟩
end
/-- a draft's numbers -/
structure D8 where
  a : UInt8
  u : UInt8
  w : UInt8
  m : UInt8
  e0 : UInt32
  e1 : UInt32
  e2 : UInt32
  e3 : UInt32
theorem u32_wf {z : Int} (h : (Lit.int .u32 z).wf = true) : ∃ b : UInt32, z = (b.toNat : Int) := by
  have hb : 0 ≤ z ∧ z ≤ 4294967295 := bounds_u32 h
  exact ⟨UInt32.ofNat z.toNat, by rw [UInt32.toNat_ofNat']; omega⟩
def cD (d : D8) : List Value := [.int .u8 (d.a.toNat : Int), .int .u8 (d.u.toNat : Int), .int .u8 (d.w.toNat : Int), .int .u8 (d.m.toNat : Int), .int .u32 (d.e0.toNat : Int), .int .u32 (d.e1.toNat : Int), .int .u32 (d.e2.toNat : Int), .int .u32 (d.e3.toNat : Int)]
section
variable {H : Type} {enc : TypeId × Value → H} {w : World} {base : Nat} {spare : Nat → Bool} {held : Bool} {fuel : Nat} {cs : List Value} {x : DataW H × List MemPlace}
theorem trod_row (h : DataW.trod enc Tryd.prog w base spare held fuel 50 cs = some x) : ∃ a b c d, cs = [.int .u32 a, .int .u32 b, .int .u32 c, .int .u32 d] ∧ (Lit.int .u32 a).wf = true ∧ (Lit.int .u32 b).wf = true ∧ (Lit.int .u32 c).wf = true ∧ (Lit.int .u32 d).wf = true ∧ x.2 = [] := by
  obtain ⟨xs, n, _, rfl, hl, hlen, hf⟩ := DataW.trod_array Tryd.underlying50 h
  obtain ⟨c0, c1, c2, c3, rfl⟩ := len4 (hl.trans cellsR)
  obtain ⟨y0, y1, y2, y3, rfl⟩ := len4 hlen
  have h0 : DataW.trod enc Tryd.prog w base spare held n 49 [c0] = some y0 := by simpa [cellsW] using hf 0 (by omega)
  have h1 : DataW.trod enc Tryd.prog w base spare held n 49 [c1] = some y1 := by simpa [cellsW] using hf 1 (by omega)
  have h2 : DataW.trod enc Tryd.prog w base spare held n 49 [c2] = some y2 := by simpa [cellsW] using hf 2 (by omega)
  have h3 : DataW.trod enc Tryd.prog w base spare held n 49 [c3] = some y3 := by simpa [cellsW] using hf 3 (by omega)
  obtain ⟨a, e0, rfl, wa⟩ := DataW.trod_int Tryd.underlying49 h0
  obtain ⟨b, e1, rfl, wb⟩ := DataW.trod_int Tryd.underlying49 h1
  obtain ⟨c, e2, rfl, wc⟩ := DataW.trod_int Tryd.underlying49 h2
  obtain ⟨d, e3, rfl, wd⟩ := DataW.trod_int Tryd.underlying49 h3
  simp at e0 e1 e2 e3
  subst e0 e1 e2 e3
  exact ⟨a, b, c, d, rfl, wa, wb, wc, wd, rfl⟩
theorem trod_dra (h : DataW.trod enc Tryd.prog w base spare held fuel 52 cs = some x) : ∃ d : D8, cs = cD d ∧ x.2 = [] := by
  obtain ⟨xs, n, _, rfl, hl, hlen, hf⟩ := DataW.trod_struct Tryd.underlying52 h
  obtain ⟨c0, c1, c2, c3, c4, c5, c6, c7, rfl⟩ := len8 (hl.trans cellsD)
  obtain ⟨y0, y1, y2, y3, y4, rfl⟩ := len5 (show xs.length = 5 from hlen)
  have h0 : DataW.trod enc Tryd.prog w base spare held n 5 [c0] = some y0 := by simpa [cellsU] using hf 0 _ rfl
  have h1 : DataW.trod enc Tryd.prog w base spare held n 5 [c1] = some y1 := by simpa [cellsU] using hf 1 _ rfl
  have h2 : DataW.trod enc Tryd.prog w base spare held n 5 [c2] = some y2 := by simpa [cellsU] using hf 2 _ rfl
  have h3 : DataW.trod enc Tryd.prog w base spare held n 5 [c3] = some y3 := by simpa [cellsU] using hf 3 _ rfl
  have h4 : DataW.trod enc Tryd.prog w base spare held n 50 [c4, c5, c6, c7] = some y4 := by simpa [cellsR] using hf 4 _ rfl
  obtain ⟨a, e0, rfl, wa⟩ := DataW.trod_int Tryd.underlying5 h0
  obtain ⟨b, e1, rfl, wb⟩ := DataW.trod_int Tryd.underlying5 h1
  obtain ⟨c, e2, rfl, wc⟩ := DataW.trod_int Tryd.underlying5 h2
  obtain ⟨d, e3, rfl, wd⟩ := DataW.trod_int Tryd.underlying5 h3
  obtain ⟨r0, r1, r2, r3, e4, wr0, wr1, wr2, wr3, q4⟩ := trod_row h4
  simp at e0 e1 e2 e3 e4
  obtain ⟨rfl, rfl, rfl, rfl⟩ := e4
  subst e0 e1 e2 e3
  obtain ⟨a, rfl⟩ := u8_wf wa
  obtain ⟨b, rfl⟩ := u8_wf wb
  obtain ⟨c, rfl⟩ := u8_wf wc
  obtain ⟨d, rfl⟩ := u8_wf wd
  obtain ⟨r0, rfl⟩ := u32_wf wr0
  obtain ⟨r1, rfl⟩ := u32_wf wr1
  obtain ⟨r2, rfl⟩ := u32_wf wr2
  obtain ⟨r3, rfl⟩ := u32_wf wr3
  exact ⟨⟨a, b, c, d, r0, r1, r2, r3⟩, rfl, by simp [q4]⟩
variable {r : Reach} {b0 : Nat} {v : Value} {d : DataW H} {p : List MemPlace}
theorem in_sty (hv : Value.okWide Tryd.prog w r b0 68 v) (h : DataW.Trod enc Tryd.prog w base spare held 68 v d p) : ∃ a u f0 f1 b0 b1 l0 l1, v = .agg #[.int .i64 a, .int .i64 u, .int .i64 f0, .int .i64 f1, .int .i64 b0, .int .i64 b1, .int .i64 l0, .int .i64 l1] ∧ Wf a ∧ Wf u ∧ Wf f0 ∧ Wf f1 ∧ Wf b0 ∧ Wf b1 ∧ Wf l0 ∧ Wf l1 ∧ p = [] := by
  obtain ⟨cs, rfl, _⟩ := okWide_struct Tryd.underlying68 hv
  obtain ⟨fuel, hf⟩ := h
  obtain ⟨a, u, f0, f1, b0, b1, l0, l1, e, w0, w1, w2, w3, w4, w5, w6, w7, q⟩ := trod_sty hf
  exact ⟨a, u, f0, f1, b0, b1, l0, l1, congrArg Value.agg (Array.ext' (show cs.toList = _ from e)), w0, w1, w2, w3, w4, w5, w6, w7, q⟩
theorem in_act (hv : Value.okWide Tryd.prog w r b0 48 v) (h : DataW.Trod enc Tryd.prog w base spare held 48 v d p) : ∃ k n m c0 c1, ∃ t : ByteArray, v = .agg #[.int .i64 k, .int .i64 n, .int .i64 m, .int .i64 c0, .int .i64 c1, .string t] ∧ Wf k ∧ Wf n ∧ Wf m ∧ Wf c0 ∧ Wf c1 ∧ t.size ≤ maxLen ∧ p = [] := by
  obtain ⟨cs, rfl, _⟩ := okWide_struct Tryd.underlying48 hv
  obtain ⟨fuel, hf⟩ := h
  obtain ⟨k, n, m, c0, c1, t, e, w0, w1, w2, w3, w4, w5, q⟩ := trod_act hf
  exact ⟨k, n, m, c0, c1, t, congrArg Value.agg (Array.ext' (show cs.toList = _ from e)), w0, w1, w2, w3, w4, w5, q⟩
theorem in_dra (hv : Value.okWide Tryd.prog w r b0 52 v) (h : DataW.Trod enc Tryd.prog w base spare held 52 v d p) : ∃ x : D8, v = .agg (cD x).toArray ∧ p = [] := by
  obtain ⟨cs, rfl, _⟩ := okWide_struct Tryd.underlying52 hv
  obtain ⟨fuel, hf⟩ := h
  obtain ⟨x, e, q⟩ := trod_dra hf
  exact ⟨x, congrArg Value.agg (Array.ext' (show cs.toList = _ from e)), q⟩
end

def setO (cs : Array Value) : Obj → Obj
  | .cells _ t frozen => .cells cs t frozen
  | o => o
/-- a world for the witnesses: the settled one, the block of the variable holding what its initialiser lays -/
noncomputable def laidWorld (os : Os) : World :=
  { World.holding Tryd.prog os ⟨#[], #[], []⟩ with heap := (World.holding Tryd.prog os ⟨#[], #[], []⟩).heap.modify 2 (setO (cI limT).toArray) }
end Go.Proofs.YteepfecplabinaaDoor.Sty
end
