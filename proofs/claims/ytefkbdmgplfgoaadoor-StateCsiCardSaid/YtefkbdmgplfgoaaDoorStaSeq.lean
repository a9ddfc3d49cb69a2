/-
  How a description of a sequence that came in is read.
-/
import Derived.Test.YtefkbdmgplfgoaaDoorStaRow
set_option maxRecDepth 100000
namespace Go.Proofs.YtefkbdmgplfgoaaDoor.Sta
open Go.ChangeShapes Go.WideShapes Go.ChangeAt Go.RowKit Utf Par

theorem cellsH16 : Tryd.prog.cellsOf 43 = 1 := by kernel_rfl
theorem cellsT1 : Tryd.prog.cellsOf 9 = 1 := by kernel_rfl
theorem cellsLU8 : Tryd.prog.cellsOf 22 = 1 := by kernel_rfl
theorem cellsLH16 : Tryd.prog.cellsOf 40 = 1 := by kernel_rfl
theorem cellsSq : Tryd.prog.cellsOf 42 = 5 := by kernel_rfl
section
variable {H : Type} {enc : TypeId × Value → H} {w : World} {held : Bool} {fuel : Nat} {cs : List Value} {x : DataW H × List MemPlace}
/-- a slice of numbers of some kind, where it lies -/
theorem nums_of {t e : TypeId} {k : IntKind} (ht : Tryd.prog.underlying t = some (.slice e)) (he : Tryd.prog.underlying e = some (.int k)) (hc : Tryd.prog.cellsOf e = 1)
    (h : DataW.trod enc Tryd.prog w 0 (fun _ => true) held fuel t cs = some x) : ∃ A n c, ∃ zs : List Int, cs = [.slice A n c] ∧ zs.length = n ∧ n ≤ c ∧ c ≤ maxLen ∧ Rd w A (zs.map (Value.int k)) ∧ ∀ z ∈ zs, (Lit.int k z).wf = true := by
  rcases open_ints ht he hc h with ⟨hcs, _⟩ | ⟨a, n, c, zs, hcs, _, hl, hm, hz, _, hcell, hwz⟩
  · exact ⟨none, 0, 0, [], hcs, rfl, Nat.le_refl _, Nat.zero_le _, Rd.nil _ _, fun z hz => by simp at hz⟩
  · rw [if_pos rfl] at hz
    refine ⟨some a, n, c, zs.take n, hcs, by rw [List.length_take]; omega, hl, hm, fun j u hu => ?_, fun z hz' => hwz z (List.mem_of_mem_take hz')⟩
    have hj : j < (zs.take n).length := by simpa using (List.getElem?_eq_some_iff.1 hu).1
    rw [List.length_take] at hj
    have hcj := hcell j (by omega)
    refine ⟨a, rfl, ?_, ?_⟩
    · have := World.block_lt_of_cell? w _ hcj
      have e : (a.add j).block = a.block := by unfold Addr.add; split <;> rfl
      rw [e] at this
      exact this
    · rw [hcj, ← hu]
      have hjz : j < zs.length := by omega
      have hjn : j < n := by omega
      simp [hjn, hjz]
theorem trod_seq (h : DataW.trod enc Tryd.prog w 0 (fun _ => true) held fuel 42 cs = some x) : ∃ A n c B m e, ∃ (zs : List Int) (p f : UInt8) (sg : List UInt8) (tx : ByteArray), cs = [.slice A n c, .int .u8 (p.toNat : Int), .slice B m e, .int .u8 (f.toNat : Int), .string tx] ∧
    zs.length = n ∧ (∀ z ∈ zs, 0 ≤ z ∧ z ≤ 65535) ∧ (n ≤ c ∧ c ≤ maxLen) ∧ Rd w A (zs.map (Value.int .u16)) ∧ sg.length = m ∧ (m ≤ e ∧ e ≤ maxLen) ∧ Rd w B (cB sg) := by
  obtain ⟨xs, n, _, rfl, hl, hlen, hf⟩ := DataW.trod_struct Tryd.underlying42 h
  match cs, hl.trans cellsSq with
  | [c0, c1, c2, c3, c4], _ =>
    match xs, (show xs.length = 5 from hlen) with
    | [y0, y1, y2, y3, y4], _ =>
      have h0 : DataW.trod enc Tryd.prog w 0 (fun _ => true) held n 40 [c0] = some y0 := by simpa [cellsLH16] using hf 0 _ rfl
      have h1 : DataW.trod enc Tryd.prog w 0 (fun _ => true) held n 5 [c1] = some y1 := by simpa [cellsU, cellsLH16] using hf 1 _ rfl
      have h2 : DataW.trod enc Tryd.prog w 0 (fun _ => true) held n 22 [c2] = some y2 := by simpa [cellsU, cellsLH16, cellsLU8] using hf 2 _ rfl
      have h3 : DataW.trod enc Tryd.prog w 0 (fun _ => true) held n 5 [c3] = some y3 := by simpa [cellsU, cellsLH16, cellsLU8] using hf 3 _ rfl
      have h4 : DataW.trod enc Tryd.prog w 0 (fun _ => true) held n 9 [c4] = some y4 := by simpa [cellsU, cellsLH16, cellsLU8, cellsT1] using hf 4 _ rfl
      obtain ⟨A, k, c, zs, e0, hn, g1, g2, hr, hw⟩ := nums_of Tryd.underlying40 Tryd.underlying43 cellsH16 h0
      obtain ⟨p, e1, _, wp⟩ := DataW.trod_int Tryd.underlying5 h1
      obtain ⟨B, m, e, ys, e2, hm, g3, g4, hr', hw'⟩ := nums_of Tryd.underlying22 Tryd.underlying5 cellsU h2
      obtain ⟨f, e3, _, wf⟩ := DataW.trod_int Tryd.underlying5 h3
      obtain ⟨tx, e4, _, _⟩ := DataW.trod_string Tryd.underlying9 h4
      obtain ⟨p, rfl⟩ := u8_wf wp
      obtain ⟨f, rfl⟩ := u8_wf wf
      obtain ⟨sg, rfl⟩ := map_u8 ys hw'
      simp at e0 e1 e2 e3 e4
      subst e0 e1 e2 e3 e4
      exact ⟨A, k, c, B, m, e, zs, p, f, sg, tx, rfl, hn, fun z hz => bounds_u16 (hw z hz), ⟨g1, g2⟩, hr, by simpa using hm, ⟨g3, g4⟩, by simpa [cB, Function.comp_def] using hr'⟩
variable {r : Reach} {b0 : Nat} {v : Value} {d : DataW H} {p : List MemPlace}
theorem seq_in (hv : Value.okWide Tryd.prog w r b0 42 v) (h : DataW.Trod enc Tryd.prog w 0 (fun _ => true) held 42 v d p) : ∃ A n c B m e, ∃ (zs : List Int) (q f : UInt8) (sg : List UInt8) (tx : ByteArray), v = .agg #[.slice A n c, .int .u8 (q.toNat : Int), .slice B m e, .int .u8 (f.toNat : Int), .string tx] ∧
    zs.length = n ∧ (∀ z ∈ zs, 0 ≤ z ∧ z ≤ 65535) ∧ (n ≤ c ∧ c ≤ maxLen) ∧ Rd w A (zs.map (Value.int .u16)) ∧ sg.length = m ∧ (m ≤ e ∧ e ≤ maxLen) ∧ Rd w B (cB sg) := by
  obtain ⟨cs, rfl, _⟩ := okWide_struct Tryd.underlying42 hv
  obtain ⟨fuel, hf⟩ := h
  obtain ⟨A, n, c, B, m, e, zs, q, f, sg, tx, hcs, hh⟩ := trod_seq hf
  exact ⟨A, n, c, B, m, e, zs, q, f, sg, tx, congrArg Value.agg (Array.ext' (show cs.toList = _ from hcs)), hh⟩
end
end Go.Proofs.YtefkbdmgplfgoaaDoor.Sta
