/-
  StaRow StaIn
-/
import Derived.WalkKit
import Derived.ProofKit
import Derived.OpenShut
import Derived.Deep.DeepHandedRow
import Derived.Lib.LaidTab
import Derived.Lib.LaidU8
import Derived.Lib.SmallJoins
import Derived.Test.YtmboekpomjgnnaaGreatDoorCards
import Derived.Test.YtmboekpomjgnnaaGreatDoorTie
import Derived.Test.YtmboekpomjgnnaaGreatDoorF22
section
set_option maxRecDepth 100000
namespace Go.Proofs.YtmboekpomjgnnaaGreatDoor.Sta
open Go.ChangeShapes Go.WideShapes Go.ChangeAt Go.RowKit Utf Par

theorem own : ownKnob Tryz.prog.godebug = none := by kernel_rfl
theorem laidOut : laidOutB Tryz.prog = true := by kernel_rfl
theorem gMarks : Tryz.prog.globalNamed "fenestra/utf.marks" = some 1 := by kernel_rfl
theorem gMarksType : (Tryz.prog.globals[1]?).map (·.type) = some 104 := by kernel_rfl
theorem gFields : Tryz.prog.globalNamed "fenestra/state.fields" = some 0 := by kernel_rfl
theorem gFieldsType : (Tryz.prog.globals[0]?).map (·.type) = some 66 := by kernel_rfl
theorem cells5 : Tryz.prog.cellsOf 104 = 5 := by kernel_rfl
theorem cells15 : Tryz.prog.cellsOf 66 = 15 := by kernel_rfl
theorem cellsI : Tryz.prog.cellsOf 3 = 1 := by kernel_rfl
theorem cellsU : Tryz.prog.cellsOf 5 = 1 := by kernel_rfl
theorem mk_in {W : World} {l : List (String × DataW Unit)} (h' : laidMet Tryz.prog l W) (hm : ("fenestra/utf.marks", (Rows.laid_fenestra_utf_marks : DataW Unit)) ∈ l) : Mk W := by
  obtain ⟨g', t', cs, fuel, p, hg', ht', hvar, hd⟩ := Lib.laidMet.reads h' hm
  obtain rfl := Option.some.inj (gMarks.symm.trans hg')
  obtain rfl := Option.some.inj (gMarksType.symm.trans ht')
  rw [show (Rows.laid_fenestra_utf_marks : DataW Unit) = Lib.tabData .i64 [0, 0, 192, 224, 240] from rfl] at hd
  have hc := Lib.cells_of_tab Tryz.underlying104 Tryz.underlying3 cellsI cells5 hd
  have ht : Lib.TabIs Tryz.prog W "fenestra/utf.marks" .i64 [0, 0, 192, 224, 240] := by rw [Lib.TabIs, hvar, ← hc]
  have c0 := ht.cell gMarks 0 (by decide)
  have c1 := ht.cell gMarks 1 (by decide)
  have c2 := ht.cell gMarks 2 (by decide)
  have c3 := ht.cell gMarks 3 (by decide)
  have c4 := ht.cell gMarks 4 (by decide)
  refine ⟨World.block_lt_of_cell? W ⟨1, 0, none⟩ c0, fun n hn => ?_⟩
  rcases (show n = 0 ∨ n = 1 ∨ n = 2 ∨ n = 3 ∨ n = 4 by omega) with rfl | rfl | rfl | rfl | rfl
  · exact c0
  · exact c1
  · exact c2
  · exact c3
  · exact c4
theorem fld_at (n : Nat) (hn : n < 15) : ([1, 0, 8, 0, 6, 14, 32, 32, 0, 6, 14, 62, 62, 0, 0] : List Int).getD n 0 = fld n := by
  have : ∀ n : Fin 15, ([1, 0, 8, 0, 6, 14, 32, 32, 0, 6, 14, 62, 62, 0, 0] : List Int).getD n.val 0 = fld n.val := by decide +kernel
  exact this ⟨n, hn⟩
theorem tf_in {W : World} {l : List (String × DataW Unit)} (h' : laidMet Tryz.prog l W) (hm : ("fenestra/state.fields", (Rows.laid_fenestra_state_fields : DataW Unit)) ∈ l) : Tf W := by
  obtain ⟨g', t', cs, fuel, p, hg', ht', hvar, hd⟩ := Lib.laidMet.reads h' hm
  obtain rfl := Option.some.inj (gFields.symm.trans hg')
  obtain rfl := Option.some.inj (gFieldsType.symm.trans ht')
  rw [show (Rows.laid_fenestra_state_fields : DataW Unit) = Lib.tabData .i64 [1, 0, 8, 0, 6, 14, 32, 32, 0, 6, 14, 62, 62, 0, 0] from rfl] at hd
  have hc := Lib.cells_of_tab Tryz.underlying66 Tryz.underlying3 cellsI cells15 hd
  have ht : Lib.TabIs Tryz.prog W "fenestra/state.fields" .i64 [1, 0, 8, 0, 6, 14, 32, 32, 0, 6, 14, 62, 62, 0, 0] := by rw [Lib.TabIs, hvar, ← hc]
  have hx : ∀ n : Nat, n < 15 → W.cell? ⟨0, n, none⟩ = some (.int .i64 (fld n)) := fun n hn => by
    have := ht.cell gFields n hn
    rw [fld_at n hn] at this
    exact this
  exact ⟨World.block_lt_of_cell? W ⟨0, 0, none⟩ (hx 0 (by decide)), hx⟩
theorem u8_wf {z : Int} (h : (Lit.int .u8 z).wf = true) : ∃ b : UInt8, z = (b.toNat : Int) := by
  have hb : 0 ≤ z ∧ z ≤ 255 := bounds_u8 h
  exact ⟨UInt8.ofNat z.toNat, by rw [UInt8.toNat_ofNat']; omega⟩
theorem map_u8 : ∀ (zs : List Int), (∀ z ∈ zs, (Lit.int .u8 z).wf = true) → ∃ bs : List UInt8, zs = bs.map fun b => (b.toNat : Int)
  | [], _ => ⟨[], rfl⟩
  | z :: r, h => by
    obtain ⟨b, hb⟩ := u8_wf (h z (by simp))
    obtain ⟨bs, hbs⟩ := map_u8 r (fun x hx => h x (by simp [hx]))
    exact ⟨b :: bs, by simp [hb, hbs]⟩
/-- a slice of bytes that came in -/
theorem bytes_in {H : Type} {enc : TypeId × Value → H} {W : World} {A : Option Addr} {n c : Nat} {d : DataW H} {p : List MemPlace}
    (h : DataW.Trod enc Tryz.prog W 0 (fun _ => true) true 22 (.slice A n c) d p) : ∃ bs : List UInt8, bs.length = n ∧ (n ≤ c ∧ c ≤ maxLen) ∧ Rd W A (cB bs) := by
  obtain ⟨fuel, hf⟩ := h
  rcases open_ints Tryz.underlying22 Tryz.underlying5 cellsU hf with ⟨hcs, _⟩ | ⟨a, len', cap', zs, hcs, _, hl, hm, hz, _, hcell, hwz⟩
  · simp [Value.cells] at hcs
    obtain ⟨rfl, rfl, rfl⟩ := hcs
    exact ⟨[], rfl, ⟨Nat.le_refl _, Nat.zero_le _⟩, Rd.nil _ _⟩
  · simp [Value.cells] at hcs
    obtain ⟨rfl, rfl, rfl⟩ := hcs
    rw [if_pos rfl] at hz
    obtain ⟨bs, rfl⟩ := map_u8 zs hwz
    rw [List.length_map] at hz
    refine ⟨bs.take n, by rw [List.length_take]; omega, ⟨hl, hm⟩, fun j u hu => ?_⟩
    have hj : j < (bs.take n).length := by rw [← cB_len]; exact (List.getElem?_eq_some_iff.1 hu).1
    rw [List.length_take] at hj
    have hc := hcell j (by rw [List.length_map]; omega)
    refine ⟨a, rfl, ?_, ?_⟩
    · have := World.block_lt_of_cell? W _ hc
      have e : (a.add j).block = a.block := by unfold Addr.add; split <;> rfl
      rw [e] at this
      exact this
    · rw [hc, ← hu]
      have hjz : j < bs.length := by omega
      have hjn : j < n := by omega
      simp [cB, hjn, hjz]
def litV : DataW Unit → Value
  | .lit (.int k z) => .int k z
  | _ => undef
def valsOf : DataW Unit → Array Value
  | .agg l => (l.map litV).toArray
  | _ => #[]
def setO (cs : Array Value) : Obj → Obj
  | .cells _ t frozen => .cells cs t frozen
  | o => o
end Go.Proofs.YtmboekpomjgnnaaGreatDoor.Sta
end
section
set_option maxRecDepth 100000
namespace Go.Proofs.YtmboekpomjgnnaaGreatDoor.Sta
open Go.ChangeShapes Go.WideShapes Go.ChangeAt Go.RowKit Utf Par

theorem tabs_of {W : World} (h : laidMetH Tryz.prog [("fenestra/utf.marks", Rows.laid_fenestra_utf_marks), ("fenestra/state.fields", Rows.laid_fenestra_state_fields)] W) : Mk W ∧ Tf W := by
  have h' : laidMet Tryz.prog [("fenestra/utf.marks", Rows.laid_fenestra_utf_marks), ("fenestra/state.fields", Rows.laid_fenestra_state_fields)] W := h
  exact ⟨mk_in h' (by simp), tf_in h' (by simp)⟩
/-- a world for the witnesses: the settled one, the blocks of the two variables holding what their initialisers lay -/
noncomputable def laidWorld (os : Os) : World :=
  { World.holding Tryz.prog os ⟨#[], #[], []⟩ with heap := ((World.holding Tryz.prog os ⟨#[], #[], []⟩).heap.modify 1 (setO (valsOf Rows.laid_fenestra_utf_marks))).modify 0 (setO (valsOf Rows.laid_fenestra_state_fields)) }
end Go.Proofs.YtmboekpomjgnnaaGreatDoor.Sta
end

section
set_option maxRecDepth 100000
namespace Go.Proofs.YtmboekpomjgnnaaGreatDoor.Sta
open Go.ChangeShapes Go.WideShapes Go.ChangeAt Go.RowKit Utf Par

theorem cellsT1' : Tryz.prog.cellsOf 9 = 1 := by kernel_rfl
theorem cellsLU8' : Tryz.prog.cellsOf 22 = 1 := by kernel_rfl
theorem cellsBo : Tryz.prog.cellsOf 4 = 1 := by kernel_rfl
theorem cellsPm : Tryz.prog.cellsOf 51 = 1 := by kernel_rfl
theorem cellsLP : Tryz.prog.cellsOf 23 = 1 := by kernel_rfl
theorem cellsLI : Tryz.prog.cellsOf 49 = 1 := by kernel_rfl
theorem cellsPs : Tryz.prog.cellsOf 25 = 8 := by kernel_rfl
theorem cellsEv : Tryz.prog.cellsOf 27 = 7 := by kernel_rfl
theorem cellsE2 : Tryz.prog.cellsOf 28 = 14 := by kernel_rfl
section
variable {H : Type} {enc : TypeId × Value → H} {w : World} {held : Bool} {fuel : Nat} {cs : List Value} {x : DataW H × List MemPlace}
theorem add_zero' (a : Addr) : a.add 0 = a := by unfold Addr.add; simp
/-- a slice of numbers of some kind, where it lies -/
theorem nums_at {t e : TypeId} {k : IntKind} (ht : Tryz.prog.underlying t = some (.slice e)) (he : Tryz.prog.underlying e = some (.int k)) (hc : Tryz.prog.cellsOf e = 1)
    (h : DataW.trod enc Tryz.prog w 0 (fun _ => true) held fuel t cs = some x) : ∃ A n c, ∃ zs : List Int, cs = [.slice A n c] ∧ zs.length = n ∧ n ≤ c ∧ c ≤ maxLen ∧ (A = none → c = 0) ∧ Rd w A (zs.map (Value.int k)) ∧ ∀ z ∈ zs, (Lit.int k z).wf = true := by
  rcases open_ints ht he hc h with ⟨hcs, _⟩ | ⟨a, n, c, zs, hcs, _, hl, hm, hz, _, hcell, hwz⟩
  · exact ⟨none, 0, 0, [], hcs, rfl, Nat.le_refl _, Nat.zero_le _, fun _ => rfl, Rd.nil _ _, fun z hz => by simp at hz⟩
  · rw [if_pos rfl] at hz
    refine ⟨some a, n, c, zs.take n, hcs, by rw [List.length_take]; omega, hl, hm, fun h => (by cases h), fun j u hu => ?_, fun z hz' => hwz z (List.mem_of_mem_take hz')⟩
    have hj : j < (zs.take n).length := by simpa using (List.getElem?_eq_some_iff.1 hu).1
    rw [List.length_take] at hj
    have hcj := hcell j (by omega)
    refine ⟨a, rfl, ?_, ?_⟩
    · have := World.block_lt_of_cell? w _ hcj
      have e : (a.add j).block = a.block := by unfold Addr.add; split <;> rfl
      rw [e] at this
      exact this
    · rw [hcj, ← hu]
      have hjz : j < zs.length := by omega
      have hjn : j < n := by omega
      simp [hjn, hjz]
theorem trod_param (h : DataW.trod enc Tryz.prog w 0 (fun _ => true) held fuel 51 cs = some x) : ∃ v p, cs = [v] ∧ RI w v p := by
  obtain ⟨xs, n, _, rfl, hl, hlen, hf⟩ := DataW.trod_struct Tryz.underlying51 h
  match cs, hl.trans cellsPm with
  | [c0], _ =>
    match xs, (show xs.length = 1 from hlen) with
    | [y0], _ =>
      have h0 : DataW.trod enc Tryz.prog w 0 (fun _ => true) held n 49 [c0] = some y0 := by simpa [cellsLI] using hf 0 _ rfl
      obtain ⟨A, n, c, zs, e0, hn, h1, h2, h3, hr, _⟩ := nums_at Tryz.underlying49 Tryz.underlying3 cellsI h0
      subst hn
      exact ⟨c0, zs, rfl, A, c, by simpa using e0, h1, h2, h3, hr⟩
theorem gather {α : Type} (P : Nat → α → Prop) : ∀ n, (∀ i, i < n → ∃ d, P i d) → ∃ ds : List α, ds.length = n ∧ ∀ i d, ds[i]? = some d → P i d
  | 0, _ => ⟨[], rfl, fun i d h => by simp at h⟩
  | n + 1, h => by
    obtain ⟨ds, hl, hd⟩ := gather P n (fun i hi => h i (by omega))
    obtain ⟨d, hP⟩ := h n (by omega)
    refine ⟨ds ++ [d], by simp [hl], fun i x hx => ?_⟩
    rw [List.getElem?_append] at hx
    split at hx
    · exact hd i x hx
    · rename_i hi
      have : i - ds.length = 0 := by
        rcases Nat.eq_zero_or_pos (i - ds.length) with h0 | h0
        · exact h0
        · rw [List.getElem?_eq_none (by simp; omega)] at hx; cases hx
      rw [this] at hx
      simp at hx
      subst hx
      obtain rfl : i = n := by omega
      exact hP
theorem trod_params {fuel : Nat} {cs : List Value} {x : DataW H × List MemPlace} (hf : DataW.trod enc Tryz.prog w 0 (fun _ => true) held fuel 23 cs = some x) : ∃ A n c, ∃ l : List (List Int), cs = [.slice A n c] ∧ n = l.length ∧ RL w (.slice A n c) l := by
  rcases DataW.trod_slice Tryz.underlying23 hf with ⟨hcs, _⟩ | ⟨a, len, cap, elems, rest, m, _, hcs, _, hb, hl, hm, hel, hE, _⟩
  · subst hcs
    exact ⟨none, 0, 0, [], rfl, rfl, RL.nil w⟩
  · subst hcs
    rw [cellsPm] at hE
    obtain ⟨ds, hdl, hds⟩ := gather (fun i (d : Value × List Int) => w.cell? (a.add i) = some d.1 ∧ RI w d.1 d.2) len (fun i hi => by
      have h1 := hE i hi
      have h2 : ∃ e, elems[i]? = some e := ⟨_, List.getElem?_eq_getElem (by omega)⟩
      obtain ⟨e, he⟩ := h2
      rw [he, Nat.mul_one] at h1
      obtain ⟨cs, hc1, hc2⟩ := Option.bind_eq_some_iff.1 h1
      obtain ⟨x, q, rfl, hq⟩ := trod_param hc2
      obtain ⟨_, _, hc⟩ := World.cells?_some hc1
      have h3 := hc 0 (by omega)
      rw [add_zero'] at h3
      exact ⟨(x, q), by simpa using h3, hq⟩)
    refine ⟨some a, len, cap, ds.map (·.2), rfl, by simp [hdl], some a, cap, ds.map (·.1), by simp [hdl], by simp [hdl]; exact hl, hm, fun h => (by cases h), by simp, fun j u hu => ?_, fun j x q hx hq => ?_⟩
    · obtain ⟨d, hd, rfl⟩ : ∃ d, ds[j]? = some d ∧ d.1 = u := by simpa using hu
      have hcj := (hds j d hd).1
      refine ⟨a, rfl, ?_, hcj⟩
      have := World.block_lt_of_cell? w _ hcj
      rwa [add_block] at this
    · obtain ⟨d, hd, rfl⟩ : ∃ d, ds[j]? = some d ∧ d.1 = x := by simpa using hx
      rw [List.getElem?_map, hd] at hq
      simp at hq
      subst hq
      exact (hds j d hd).2
theorem okWide_arr {t e : TypeId} {n : Nat} {r : Reach} {b0 : Nat} {v : Value} (ht : Tryz.prog.underlying t = some (.array n e)) (h : Value.okWide Tryz.prog w r b0 t v) : ∃ cs, v = .agg cs ∧ cs.size = Tryz.prog.cellsOf t := by
  simp only [Value.okWide, ht] at h
  obtain ⟨cs, h1, h2, _⟩ := h
  exact ⟨cs, h1, h2⟩
theorem trod_parse (h : DataW.trod enc Tryz.prog w 0 (fun _ => true) held fuel 25 cs = some x) : ∃ (p : PS) (A B : Option Addr) (n c m e : Nat), cs = (cS p (.slice A n c) (.slice B m e)).toList ∧ n = p.utf.length ∧ m = p.ps.length ∧ RS w (.slice A n c) (.slice B m e) p := by
  obtain ⟨xs, n, _, rfl, hl, hlen, hf⟩ := DataW.trod_struct Tryz.underlying25 h
  match cs, hl.trans cellsPs with
  | [c0, c1, c2, c3, c4, c5, c6, c7], _ =>
    match xs, (show xs.length = 8 from hlen) with
    | [y0, y1, y2, y3, y4, y5, y6, y7], _ =>
      have h0 : DataW.trod enc Tryz.prog w 0 (fun _ => true) held n 3 [c0] = some y0 := by simpa [cellsI, cellsLU8', cellsU, cellsLP, cellsT1', cellsBo] using hf 0 _ rfl
      have h1 : DataW.trod enc Tryz.prog w 0 (fun _ => true) held n 22 [c1] = some y1 := by simpa [cellsI, cellsLU8', cellsU, cellsLP, cellsT1', cellsBo] using hf 1 _ rfl
      have h2 : DataW.trod enc Tryz.prog w 0 (fun _ => true) held n 5 [c2] = some y2 := by simpa [cellsI, cellsLU8', cellsU, cellsLP, cellsT1', cellsBo] using hf 2 _ rfl
      have h3 : DataW.trod enc Tryz.prog w 0 (fun _ => true) held n 5 [c3] = some y3 := by simpa [cellsI, cellsLU8', cellsU, cellsLP, cellsT1', cellsBo] using hf 3 _ rfl
      have h4 : DataW.trod enc Tryz.prog w 0 (fun _ => true) held n 23 [c4] = some y4 := by simpa [cellsI, cellsLU8', cellsU, cellsLP, cellsT1', cellsBo] using hf 4 _ rfl
      have h5 : DataW.trod enc Tryz.prog w 0 (fun _ => true) held n 9 [c5] = some y5 := by simpa [cellsI, cellsLU8', cellsU, cellsLP, cellsT1', cellsBo] using hf 5 _ rfl
      have h6 : DataW.trod enc Tryz.prog w 0 (fun _ => true) held n 9 [c6] = some y6 := by simpa [cellsI, cellsLU8', cellsU, cellsLP, cellsT1', cellsBo] using hf 6 _ rfl
      have h7 : DataW.trod enc Tryz.prog w 0 (fun _ => true) held n 4 [c7] = some y7 := by simpa [cellsI, cellsLU8', cellsU, cellsLP, cellsT1', cellsBo] using hf 7 _ rfl
      obtain ⟨st, e0, _, _⟩ := DataW.trod_int Tryz.underlying3 h0
      obtain ⟨A, k, c, zs, e1, hn, g1, g2, _, hr, hw⟩ := nums_at Tryz.underlying22 Tryz.underlying5 cellsU h1
      obtain ⟨pr, e2, _, wp⟩ := DataW.trod_int Tryz.underlying5 h2
      obtain ⟨fi, e3, _, wf⟩ := DataW.trod_int Tryz.underlying5 h3
      obtain ⟨B, m, e, l, e4, hm, hl4⟩ := trod_params h4
      obtain ⟨it, e5, _, _⟩ := DataW.trod_string Tryz.underlying9 h5
      obtain ⟨tx, e6, _, _⟩ := DataW.trod_string Tryz.underlying9 h6
      obtain ⟨bad, e7, _⟩ := DataW.trod_bool Tryz.underlying4 h7
      obtain ⟨pr, rfl⟩ := u8_wf wp
      obtain ⟨fi, rfl⟩ := u8_wf wf
      obtain ⟨utf, rfl⟩ := map_u8 zs hw
      simp at e0 e1 e2 e3 e4 e5 e6 e7
      subst e0 e1 e2 e3 e4 e5 e6 e7
      have hk : k = utf.length := by simpa using hn.symm
      subst hk
      exact ⟨⟨st, utf, pr, fi, l, it, tx, bad⟩, A, B, utf.length, c, m, e, rfl, rfl, hm, ⟨A, c, rfl, g1, by simpa [cB, Function.comp_def] using hr⟩, hl4⟩
theorem trod_event (h : DataW.trod enc Tryz.prog w 0 (fun _ => true) held fuel 27 cs = some x) : ∃ q : EQ, cs = cE q ∧ q.n = q.e.ps.length ∧ RL w (.slice q.A q.n q.c) q.e.ps := by
  obtain ⟨xs, n, _, rfl, hl, hlen, hf⟩ := DataW.trod_struct Tryz.underlying27 h
  match cs, hl.trans cellsEv with
  | [c0, c1, c2, c3, c4, c5, c6], _ =>
    match xs, (show xs.length = 7 from hlen) with
    | [y0, y1, y2, y3, y4, y5, y6], _ =>
      have h0 : DataW.trod enc Tryz.prog w 0 (fun _ => true) held n 3 [c0] = some y0 := by simpa [cellsI, cellsLU8', cellsU, cellsLP, cellsT1', cellsBo] using hf 0 _ rfl
      have h1 : DataW.trod enc Tryz.prog w 0 (fun _ => true) held n 3 [c1] = some y1 := by simpa [cellsI, cellsLU8', cellsU, cellsLP, cellsT1', cellsBo] using hf 1 _ rfl
      have h2 : DataW.trod enc Tryz.prog w 0 (fun _ => true) held n 5 [c2] = some y2 := by simpa [cellsI, cellsLU8', cellsU, cellsLP, cellsT1', cellsBo] using hf 2 _ rfl
      have h3 : DataW.trod enc Tryz.prog w 0 (fun _ => true) held n 5 [c3] = some y3 := by simpa [cellsI, cellsLU8', cellsU, cellsLP, cellsT1', cellsBo] using hf 3 _ rfl
      have h4 : DataW.trod enc Tryz.prog w 0 (fun _ => true) held n 23 [c4] = some y4 := by simpa [cellsI, cellsLU8', cellsU, cellsLP, cellsT1', cellsBo] using hf 4 _ rfl
      have h5 : DataW.trod enc Tryz.prog w 0 (fun _ => true) held n 9 [c5] = some y5 := by simpa [cellsI, cellsLU8', cellsU, cellsLP, cellsT1', cellsBo] using hf 5 _ rfl
      have h6 : DataW.trod enc Tryz.prog w 0 (fun _ => true) held n 9 [c6] = some y6 := by simpa [cellsI, cellsLU8', cellsU, cellsLP, cellsT1', cellsBo] using hf 6 _ rfl
      obtain ⟨k, e0, _, _⟩ := DataW.trod_int Tryz.underlying3 h0
      obtain ⟨c, e1, _, _⟩ := DataW.trod_int Tryz.underlying3 h1
      obtain ⟨pr, e2, _, wp⟩ := DataW.trod_int Tryz.underlying5 h2
      obtain ⟨fi, e3, _, wf⟩ := DataW.trod_int Tryz.underlying5 h3
      obtain ⟨B, m, e, l, e4, hm, hl4⟩ := trod_params h4
      obtain ⟨it, e5, _, _⟩ := DataW.trod_string Tryz.underlying9 h5
      obtain ⟨tx, e6, _, _⟩ := DataW.trod_string Tryz.underlying9 h6
      obtain ⟨pr, rfl⟩ := u8_wf wp
      obtain ⟨fi, rfl⟩ := u8_wf wf
      simp at e0 e1 e2 e3 e4 e5 e6
      subst e0 e1 e2 e3 e4 e5 e6
      exact ⟨⟨⟨k, c, pr, fi, l, it, tx⟩, B, m, e⟩, rfl, hm, hl4⟩
variable {r : Reach} {b0 : Nat} {v : Value} {d : DataW H} {p : List MemPlace}
theorem parse_in (hv : Value.okWide Tryz.prog w r b0 25 v) (h : DataW.Trod enc Tryz.prog w 0 (fun _ => true) held 25 v d p) : ∃ (q : PS) (A B : Option Addr) (n c m e : Nat), v = .agg (cS q (.slice A n c) (.slice B m e)) ∧ n = q.utf.length ∧ m = q.ps.length ∧ RS w (.slice A n c) (.slice B m e) q := by
  obtain ⟨cs, rfl, _⟩ := okWide_struct Tryz.underlying25 hv
  obtain ⟨fuel, hf⟩ := h
  obtain ⟨q, A, B, n, c, m, e, hcs, hh⟩ := trod_parse hf
  exact ⟨q, A, B, n, c, m, e, congrArg Value.agg (Array.ext' (show cs.toList = _ from hcs)), hh⟩
theorem events_in (hv : Value.okWide Tryz.prog w r b0 28 v) (h : DataW.Trod enc Tryz.prog w 0 (fun _ => true) held 28 v d p) : ∃ a b : EQ, v = .agg (cE a ++ cE b).toArray ∧ (a.n = a.e.ps.length ∧ RL w (.slice a.A a.n a.c) a.e.ps) ∧ b.n = b.e.ps.length ∧ RL w (.slice b.A b.n b.c) b.e.ps := by
  obtain ⟨cs, rfl, _⟩ := okWide_arr Tryz.underlying28 hv
  obtain ⟨fuel, hf⟩ := h
  obtain ⟨xs, n, _, _, hl, hlen, hf⟩ := DataW.trod_array Tryz.underlying28 hf
  match xs, (show xs.length = 2 from hlen) with
  | [y0, y1], _ =>
    have h0 := hf 0 (by omega)
    have h1 := hf 1 (by omega)
    rw [cellsEv] at h0 h1
    obtain ⟨a, ha, ha2⟩ := trod_event (x := y0) h0
    obtain ⟨b, hb, hb2⟩ := trod_event (x := y1) h1
    refine ⟨a, b, congrArg Value.agg (Array.ext' ?_), ha2, hb2⟩
    have hl' : cs.toList.length = 14 := hl.trans cellsE2
    rw [← ha, ← hb, Nat.zero_mul, List.drop_zero, Nat.one_mul]
    show cs.toList = List.take 7 cs.toList ++ List.take 7 (List.drop 7 cs.toList)
    rw [List.take_of_length_le (l := cs.toList.drop 7) (by rw [List.length_drop]; omega), List.take_append_drop]
end
end Go.Proofs.YtmboekpomjgnnaaGreatDoor.Sta
end
