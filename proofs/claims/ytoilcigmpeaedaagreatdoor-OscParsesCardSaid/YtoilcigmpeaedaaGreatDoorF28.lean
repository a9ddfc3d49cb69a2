/-
  OscIn
-/
import Derived.Test.YtoilcigmpeaedaaGreatDoorF24
import Derived.Test.YtoilcigmpeaedaaGreatDoorF26
section
set_option maxRecDepth 100000
namespace Go.Proofs.YtoilcigmpeaedaaGreatDoor.Osc
open Go.ChangeShapes Go.WideShapes Go.ChangeAt Go.RowKit Utf Col

section
variable {H : Type} {enc : TypeId × Value → H} {w : World} {held : Bool} {fuel : Nat} {cs : List Value} {x : DataW H × List MemPlace}
theorem trod_dra (h : DataW.trod enc Tryz.prog w 0 (fun _ => true) held fuel 29 cs = some x) : ∃ d : Dr, ∃ v, v = Value.agg cs.toArray ∧ DrV w v d := by
  obtain ⟨xs, n, _, rfl, hl, hlen, hf⟩ := DataW.trod_struct Tryz.underlying29 h
  obtain ⟨c0, c1, c2, c3, c4, rfl⟩ := len5 (hl.trans cellsD)
  obtain ⟨y0, y1, y2, y3, y4, rfl⟩ := len5 (show xs.length = 5 from hlen)
  have h0 : DataW.trod enc Tryz.prog w 0 (fun _ => true) held n 5 [c0] = some y0 := by simpa [cellsU] using hf 0 _ rfl
  have h1 : DataW.trod enc Tryz.prog w 0 (fun _ => true) held n 5 [c1] = some y1 := by simpa [cellsU] using hf 1 _ rfl
  have h2 : DataW.trod enc Tryz.prog w 0 (fun _ => true) held n 26 [c2] = some y2 := by simpa [cellsW] using hf 2 _ rfl
  have h3 : DataW.trod enc Tryz.prog w 0 (fun _ => true) held n 27 [c3] = some y3 := by simpa [cellsN] using hf 3 _ rfl
  have h4 : DataW.trod enc Tryz.prog w 0 (fun _ => true) held n 9 [c4] = some y4 := by simpa [cellsT] using hf 4 _ rfl
  obtain ⟨a, e0, rfl, wa⟩ := DataW.trod_int Tryz.underlying5 h0
  obtain ⟨b, e1, rfl, wb⟩ := DataW.trod_int Tryz.underlying5 h1
  obtain ⟨c, e2, rfl, wc⟩ := DataW.trod_int Tryz.underlying26 h2
  obtain ⟨s, e4, rfl, ws⟩ := DataW.trod_string Tryz.underlying9 h4
  obtain ⟨ua, rfl⟩ := u8_wf wa
  obtain ⟨ub, rfl⟩ := u8_wf wb
  obtain ⟨uc, rfl⟩ := u32_wf wc
  have h3' : ∃ A m cp, ∃ zs : List Int, [c3] = [Value.slice A m cp] ∧ zs.length = m ∧ (m ≤ cp ∧ cp ≤ maxLen) ∧ Rd w A (cI zs) ∧ ∀ z ∈ zs, (Lit.int .i64 z).wf = true := by
    rcases open_ints Tryz.underlying27 Tryz.underlying3 cellsI h3 with ⟨hcs, _⟩ | ⟨a, m, cp, zs, hcs, _, hl, hm, hz, _, hcell, hwz⟩
    · exact ⟨none, 0, 0, [], hcs, rfl, ⟨Nat.le_refl _, Nat.zero_le _⟩, Rd.nil _ _, fun z hz => by simp at hz⟩
    · rw [if_pos rfl] at hz
      refine ⟨some a, m, cp, zs.take m, hcs, by rw [List.length_take]; omega, ⟨hl, hm⟩, fun j u hu => ?_, fun z hz' => hwz z (List.mem_of_mem_take hz')⟩
      have hj : j < (zs.take m).length := by rw [← cI_len]; exact (List.getElem?_eq_some_iff.1 hu).1
      rw [List.length_take] at hj
      have hcj := hcell j (by omega)
      refine ⟨a, rfl, ?_, ?_⟩
      · have := World.block_lt_of_cell? w _ hcj
        have e : (a.add j).block = a.block := by unfold Addr.add; split <;> rfl
        rw [e] at this
        exact this
      · rw [hcj, ← hu]
        have hjz : j < zs.length := by omega
        have hjn : j < m := by omega
        simp [cI, hjn, hjz]
  obtain ⟨A, m, cp, zs, e3, hzl, hmc, hr, hwz⟩ := h3'
  simp at e0 e1 e2 e3 e4
  subst e0 e1 e2 e3 e4
  subst hzl
  refine ⟨⟨ua.toNat, ub.toNat, uc.toNat, zs, s.data.toList⟩, _, rfl, ⟨ua.toNat_lt, ub.toNat_lt, uc.toNat_lt, ?_, ?_, fun z hz => bounds_i64 (hwz z hz), A, cp, ?_, hr⟩⟩
  · dsimp only; unfold maxLen at hmc; omega
  · dsimp only; unfold maxLen at ws; simp; omega
  · rfl
variable {r : Reach} {b0 : Nat} {v : Value} {d : DataW H} {p : List MemPlace}
theorem draft_in (hv : Value.okWide Tryz.prog w r b0 29 v) (h : DataW.Trod enc Tryz.prog w 0 (fun _ => true) held 29 v d p) : ∃ dr : Dr, DrV w v dr := by
  obtain ⟨cs, rfl, _⟩ := okWide_struct Tryz.underlying29 hv
  obtain ⟨fuel, hf⟩ := h
  obtain ⟨dr, v', hv', hd⟩ := trod_dra hf
  have e : v' = Value.agg cs := by rw [hv']; exact congrArg Value.agg (Array.ext' rfl)
  rw [e] at hd
  exact ⟨dr, hd⟩
theorem act_in (hv : Value.okWide Tryz.prog w r b0 25 v) (h : DataW.Trod enc Tryz.prog w 0 (fun _ => true) held 25 v d p) : ∃ a : A6, v = actV a ∧ a.t.length ≤ 9223372036854775807 := by
  obtain ⟨cs, rfl, _⟩ := okWide_struct Tryz.underlying25 hv
  obtain ⟨fuel, hf⟩ := h
  obtain ⟨k, n, m, c0, c1, t, hcs, -, -, -, -, -, ht, -⟩ := trod_act hf
  refine ⟨⟨k, n, m, c0, c1, t.data.toList⟩, congrArg Value.agg (Array.ext' (show cs.toList = _ from hcs)), ?_⟩
  dsimp only; unfold maxLen at ht; simp; omega
end
end Go.Proofs.YtoilcigmpeaedaaGreatDoor.Osc
end
