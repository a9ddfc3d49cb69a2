/-
  How an array of five numbers that came in is read.
-/
import Derived.Test.YteepfecplabinaaDoorP18
set_option maxRecDepth 100000
namespace Go.Proofs.YteepfecplabinaaDoor.Sgr
open Go.ChangeShapes Go.WideShapes Go.ChangeAt Go.RowKit Utf Col Sty

theorem cellsF : Tryd.prog.cellsOf 38 = 5 := by kernel_rfl
section
variable {H : Type} {enc : TypeId × Value → H} {w : World} {base : Nat} {spare : Nat → Bool} {held : Bool} {fuel : Nat} {cs : List Value} {x : DataW H × List MemPlace}
theorem trod_five (h : DataW.trod enc Tryd.prog w base spare held fuel 38 cs = some x) : ∃ a b c d e, cs = [.int .i64 a, .int .i64 b, .int .i64 c, .int .i64 d, .int .i64 e] ∧ x.2 = [] := by
  obtain ⟨xs, n, _, rfl, hl, hlen, hf⟩ := DataW.trod_array Tryd.underlying38 h
  obtain ⟨c0, c1, c2, c3, c4, rfl⟩ := len5 (hl.trans cellsF)
  obtain ⟨y0, y1, y2, y3, y4, rfl⟩ := len5 hlen
  have h0 : DataW.trod enc Tryd.prog w base spare held n 3 [c0] = some y0 := by simpa [cellsI] using hf 0 (by omega)
  have h1 : DataW.trod enc Tryd.prog w base spare held n 3 [c1] = some y1 := by simpa [cellsI] using hf 1 (by omega)
  have h2 : DataW.trod enc Tryd.prog w base spare held n 3 [c2] = some y2 := by simpa [cellsI] using hf 2 (by omega)
  have h3 : DataW.trod enc Tryd.prog w base spare held n 3 [c3] = some y3 := by simpa [cellsI] using hf 3 (by omega)
  have h4 : DataW.trod enc Tryd.prog w base spare held n 3 [c4] = some y4 := by simpa [cellsI] using hf 4 (by omega)
  obtain ⟨a, e0, rfl, wa⟩ := DataW.trod_int Tryd.underlying3 h0
  obtain ⟨b, e1, rfl, wb⟩ := DataW.trod_int Tryd.underlying3 h1
  obtain ⟨c, e2, rfl, wc⟩ := DataW.trod_int Tryd.underlying3 h2
  obtain ⟨d, e3, rfl, wd⟩ := DataW.trod_int Tryd.underlying3 h3
  obtain ⟨e, e4, rfl, we⟩ := DataW.trod_int Tryd.underlying3 h4
  simp at e0 e1 e2 e3 e4
  subst e0 e1 e2 e3 e4
  exact ⟨a, b, c, d, e, rfl, rfl⟩
variable {r : Reach} {b0 : Nat} {v : Value} {d : DataW H} {p : List MemPlace}
/-- an array that came in -/
theorem okWide_arr {t e : TypeId} {n : Nat} {r : Reach} {b0 : Nat} {v : Value} (ht : Tryd.prog.underlying t = some (.array n e)) (h : Value.okWide Tryd.prog w r b0 t v) : ∃ cs, v = .agg cs ∧ cs.size = Tryd.prog.cellsOf t := by
  simp only [Value.okWide, ht] at h
  obtain ⟨cs, h1, h2, _⟩ := h
  exact ⟨cs, h1, h2⟩
theorem in_five (hv : Value.okWide Tryd.prog w r b0 38 v) (h : DataW.Trod enc Tryd.prog w base spare held 38 v d p) : ∃ a b c d' e, v = .agg #[.int .i64 a, .int .i64 b, .int .i64 c, .int .i64 d', .int .i64 e] ∧ p = [] := by
  obtain ⟨cs, rfl, _⟩ := okWide_arr Tryd.underlying38 hv
  obtain ⟨fuel, hf⟩ := h
  obtain ⟨a, b, c, d', e, eq, q⟩ := trod_five hf
  exact ⟨a, b, c, d', e, congrArg Value.agg (Array.ext' (show cs.toList = _ from eq)), q⟩
end
end Go.Proofs.YteepfecplabinaaDoor.Sgr
