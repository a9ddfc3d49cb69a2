/-
  ParRow ParIn
-/
import Derived.WalkKit
import Derived.ProofKit
import Derived.OpenShut
import Derived.Deep.DeepHandedRow
import Derived.Lib.LaidTab
import Derived.Lib.LaidU8
import Derived.Lib.SmallJoins
import Derived.Test.YteepfecplabinaaDoorCards
import Derived.Test.YteepfecplabinaaDoorTie
import Derived.Test.YteepfecplabinaaDoorP26
import Derived.Test.YteepfecplabinaaDoorP31
namespace Go.Proofs.YteepfecplabinaaDoor.Par
open Go.ChangeShapes Go.WideShapes Go.ChangeAt Go.RowKit Utf

theorem own : ownKnob Tryd.prog.godebug = none := by kernel_rfl
theorem laidOut : laidOutB Tryd.prog = true := by kernel_rfl
theorem gP : Tryd.prog.globalNamed "internal/strconv.uint64pow10" = some 5 := by kernel_rfl
theorem gPType : (Tryd.prog.globals[5]?).map (·.type) = some 158 := by kernel_rfl
theorem cells20 : Tryd.prog.cellsOf 158 = 20 := by kernel_rfl
theorem cells64 : Tryd.prog.cellsOf 139 = 1 := by kernel_rfl
theorem tab_of {W : World} (h : laidMetH Tryd.prog [("math/bits.deBruijn32tab", Rows.laid_math_bits_deBruijn32tab), ("math/bits.deBruijn64tab", Rows.laid_math_bits_deBruijn64tab), ("internal/strconv.uint64pow10", Rows.laid_internal_strconv_uint64pow10)] W) : Tab W := by
  have h' : laidMet Tryd.prog [("math/bits.deBruijn32tab", Rows.laid_math_bits_deBruijn32tab), ("math/bits.deBruijn64tab", Rows.laid_math_bits_deBruijn64tab), ("internal/strconv.uint64pow10", Rows.laid_internal_strconv_uint64pow10)] W := h
  obtain ⟨g', t', cs, fuel, p, hg', ht', hvar, hd⟩ := Lib.laidMet.reads h' (n := "internal/strconv.uint64pow10") (d := Rows.laid_internal_strconv_uint64pow10) (by simp)
  obtain rfl := Option.some.inj (gP.symm.trans hg')
  obtain rfl := Option.some.inj (gPType.symm.trans ht')
  rw [show (Rows.laid_internal_strconv_uint64pow10 : DataW Unit) = Lib.tabData .u64 Lib.pow10Tab from rfl] at hd
  have hc := Lib.cells_of_tab Tryd.underlying158 Tryd.underlying139 cells64 cells20 hd
  refine Lib.tabBelow_of_tabIs ?_
  rw [Lib.TabIs, hvar, ← hc]
def litV : DataW Unit → Value
  | .lit (.int k z) => .int k z
  | _ => undef
def valsOf : DataW Unit → Array Value
  | .agg l => (l.map litV).toArray
  | _ => #[]
def setO (cs : Array Value) : Obj → Obj
  | .cells _ t frozen => .cells cs t frozen
  | o => o
/-- a world for the witnesses: the settled one, the blocks of the three variables holding what their initialisers lay -/
noncomputable def laidWorld (os : Os) : World :=
  { World.holding Tryd.prog os ⟨#[], #[], []⟩ with heap := (((World.holding Tryd.prog os ⟨#[], #[], []⟩).heap.modify 5 (setO (valsOf Rows.laid_internal_strconv_uint64pow10))).modify 3 (setO (valsOf Rows.laid_math_bits_deBruijn32tab))).modify 4 (setO (valsOf Rows.laid_math_bits_deBruijn64tab)) }
end Go.Proofs.YteepfecplabinaaDoor.Par

section
set_option maxRecDepth 100000
namespace Go.Proofs.YteepfecplabinaaDoor.Par
open Go.ChangeShapes Go.WideShapes Go.ChangeAt Go.RowKit Utf

theorem cellsI : Tryd.prog.cellsOf 3 = 1 := by kernel_rfl
theorem cellsU : Tryd.prog.cellsOf 5 = 1 := by kernel_rfl
theorem cellsH : Tryd.prog.cellsOf 75 = 1 := by kernel_rfl
theorem cellsP : Tryd.prog.cellsOf 41 = 1 := by kernel_rfl
theorem cellsLU : Tryd.prog.cellsOf 24 = 1 := by kernel_rfl
theorem cellsLH : Tryd.prog.cellsOf 23 = 1 := by kernel_rfl
theorem cellsLI : Tryd.prog.cellsOf 39 = 1 := by kernel_rfl
theorem cellsD : Tryd.prog.cellsOf 26 = 2 := by kernel_rfl
theorem u8_wf {z : Int} (h : (Lit.int .u8 z).wf = true) : ∃ b : UInt8, z = (b.toNat : Int) := by
  have hb : 0 ≤ z ∧ z ≤ 255 := bounds_u8 h
  exact ⟨UInt8.ofNat z.toNat, by rw [UInt8.toNat_ofNat']; omega⟩
theorem u16_wf {z : Int} (h : (Lit.int .u16 z).wf = true) : ∃ b : UInt16, z = (b.toNat : Int) := by
  have hb : 0 ≤ z ∧ z ≤ 65535 := bounds_u16 h
  exact ⟨UInt16.ofNat z.toNat, by rw [UInt16.toNat_ofNat']; omega⟩
theorem u32_wf {z : Int} (h : (Lit.int .u32 z).wf = true) : ∃ b : UInt32, z = (b.toNat : Int) := by
  have hb : 0 ≤ z ∧ z ≤ 4294967295 := bounds_u32 h
  exact ⟨UInt32.ofNat z.toNat, by rw [UInt32.toNat_ofNat']; omega⟩
theorem map_u8 : ∀ (zs : List Int), (∀ z ∈ zs, (Lit.int .u8 z).wf = true) → ∃ bs : List UInt8, zs = bs.map fun b => (b.toNat : Int)
  | [], _ => ⟨[], rfl⟩
  | z :: r, h => by
    obtain ⟨b, hb⟩ := u8_wf (h z (by simp))
    obtain ⟨bs, hbs⟩ := map_u8 r (fun x hx => h x (by simp [hx]))
    exact ⟨b :: bs, by simp [hb, hbs]⟩
theorem map_u16 : ∀ (zs : List Int), (∀ z ∈ zs, (Lit.int .u16 z).wf = true) → ∃ bs : List UInt16, zs = bs.map fun b => (b.toNat : Int)
  | [], _ => ⟨[], rfl⟩
  | z :: r, h => by
    obtain ⟨b, hb⟩ := u16_wf (h z (by simp))
    obtain ⟨bs, hbs⟩ := map_u16 r (fun x hx => h x (by simp [hx]))
    exact ⟨b :: bs, by simp [hb, hbs]⟩
section
variable {H : Type} {enc : TypeId × Value → H} {w : World} {held : Bool} {fuel : Nat} {cs : List Value} {x : DataW H × List MemPlace}
/-- a slice of numbers of some kind, where it lies -/
theorem ints_of {t e : TypeId} {k : IntKind} (ht : Tryd.prog.underlying t = some (.slice e)) (he : Tryd.prog.underlying e = some (.int k)) (hc : Tryd.prog.cellsOf e = 1)
    (h : DataW.trod enc Tryd.prog w 0 (fun _ => true) held fuel t cs = some x) : ∃ A n c, ∃ zs : List Int, cs = [.slice A n c] ∧ zs.length = n ∧ n ≤ c ∧ c ≤ maxLen ∧ (A = none → c = 0) ∧ Rd w A (zs.map (Value.int k)) ∧ ∀ z ∈ zs, (Lit.int k z).wf = true := by
  rcases open_ints ht he hc h with ⟨hcs, _⟩ | ⟨a, n, c, zs, hcs, _, hl, hm, hz, _, hcell, hwz⟩
  · exact ⟨none, 0, 0, [], hcs, rfl, Nat.le_refl _, Nat.zero_le _, fun _ => rfl, Rd.nil _ _, fun z hz => by simp at hz⟩
  · rw [if_pos rfl] at hz
    refine ⟨some a, n, c, zs.take n, hcs, by rw [List.length_take]; omega, hl, hm, fun h => (by cases h), fun j u hu => ?_, fun z hz' => hwz z (List.mem_of_mem_take hz')⟩
    have hj : j < (zs.take n).length := by simpa using (List.getElem?_eq_some_iff.1 hu).1
    rw [List.length_take] at hj
    have hcj := hcell j (by omega)
    refine ⟨a, rfl, ?_, ?_⟩
    · have := World.block_lt_of_cell? w _ hcj
      have e : (a.add j).block = a.block := by unfold Addr.add; split <;> rfl
      rw [e] at this
      exact this
    · rw [hcj, ← hu]
      have hjz : j < zs.length := by omega
      have hjn : j < n := by omega
      simp [hjn, hjz]
theorem trod_draft (h : DataW.trod enc Tryd.prog w 0 (fun _ => true) held fuel 26 cs = some x) : ∃ A n c B m e, ∃ (ps : List UInt16) (ms : List UInt8), cs = [.slice A n c, .slice B m e] ∧ n = ps.length ∧ Rd w A (cH ps) ∧ m = ms.length ∧ Rd w B (cB ms) := by
  obtain ⟨y0, y1, k, rfl, hl, h0, h1⟩ := trod_struct2 Tryd.underlying26 h
  match cs, hl.trans cellsD with
  | [c0, c1], _ =>
    simp only [cellsLU, cellsLH] at h0 h1
    obtain ⟨A, n, c, zs, e0, hn, _, _, _, hr, hw⟩ := ints_of Tryd.underlying23 Tryd.underlying75 cellsH h0
    obtain ⟨B, m, e, ys, e1, hm, _, _, _, hr', hw'⟩ := ints_of Tryd.underlying24 Tryd.underlying5 cellsU h1
    obtain ⟨ps, rfl⟩ := map_u16 zs hw
    obtain ⟨ms, rfl⟩ := map_u8 ys hw'
    simp at e0 e1
    subst e0 e1
    refine ⟨A, n, c, B, m, e, ps, ms, rfl, by simpa using hn.symm, by simpa [cH, Function.comp_def] using hr, by simpa using hm.symm, by simpa [cB, Function.comp_def] using hr'⟩
theorem trod_param (h : DataW.trod enc Tryd.prog w 0 (fun _ => true) held fuel 41 cs = some x) : ∃ v p, cs = [v] ∧ RI w v p := by
  obtain ⟨xs, n, _, rfl, hl, hlen, hf⟩ := DataW.trod_struct Tryd.underlying41 h
  match cs, hl.trans cellsP with
  | [c0], _ =>
    match xs, (show xs.length = 1 from hlen) with
    | [y0], _ =>
      have h0 : DataW.trod enc Tryd.prog w 0 (fun _ => true) held n 39 [c0] = some y0 := by simpa [cellsLI] using hf 0 _ rfl
      obtain ⟨A, n, c, zs, e0, hn, h1, h2, h3, hr, _⟩ := ints_of Tryd.underlying39 Tryd.underlying3 cellsI h0
      subst hn
      exact ⟨c0, zs, rfl, A, c, by simpa using e0, h1, h2, h3, hr⟩
variable {r : Reach} {b0 : Nat} {v : Value} {d : DataW H} {p : List MemPlace}
theorem draft_in (hv : Value.okWide Tryd.prog w r b0 26 v) (h : DataW.Trod enc Tryd.prog w 0 (fun _ => true) held 26 v d p) : ∃ ps ms, DrR w v ps ms := by
  obtain ⟨cs, rfl, _⟩ := okWide_struct Tryd.underlying26 hv
  obtain ⟨fuel, hf⟩ := h
  obtain ⟨A, n, c, B, m, e, ps, ms, hcs, h1, h2, h3, h4⟩ := trod_draft hf
  exact ⟨ps, ms, A, n, c, B, m, e, congrArg Value.agg (Array.ext' (show cs.toList = _ from hcs)), h1, h2, h3, h4⟩
theorem bytes_in {A : Option Addr} {n c : Nat} (h : DataW.Trod enc Tryd.prog w 0 (fun _ => true) held 24 (.slice A n c) d p) : ∃ bs : List UInt8, bs.length = n ∧ (n ≤ c ∧ c ≤ maxLen) ∧ Rd w A (cB bs) := by
  obtain ⟨fuel, hf⟩ := h
  obtain ⟨A', n', c', zs, e0, hn, h1, h2, _, hr, hw⟩ := ints_of Tryd.underlying24 Tryd.underlying5 cellsU hf
  simp [Value.cells] at e0
  obtain ⟨rfl, rfl, rfl⟩ := e0
  obtain ⟨bs, rfl⟩ := map_u8 zs hw
  exact ⟨bs, by simpa using hn, ⟨h1, h2⟩, by simpa [cB, Function.comp_def] using hr⟩
theorem gather {α : Type} (P : Nat → α → Prop) : ∀ n, (∀ i, i < n → ∃ d, P i d) → ∃ ds : List α, ds.length = n ∧ ∀ i d, ds[i]? = some d → P i d
  | 0, _ => ⟨[], rfl, fun i d h => by simp at h⟩
  | n + 1, h => by
    obtain ⟨ds, hl, hd⟩ := gather P n (fun i hi => h i (by omega))
    obtain ⟨d, hP⟩ := h n (by omega)
    refine ⟨ds ++ [d], by simp [hl], fun i x hx => ?_⟩
    rw [List.getElem?_append] at hx
    split at hx
    · exact hd i x hx
    · rename_i hi
      have : i - ds.length = 0 := by
        rcases Nat.eq_zero_or_pos (i - ds.length) with h0 | h0
        · exact h0
        · rw [List.getElem?_eq_none (by simp; omega)] at hx; cases hx
      rw [this] at hx
      simp at hx
      subst hx
      obtain rfl : i = n := by omega
      exact hP
theorem params_in {A : Option Addr} {n c : Nat} (h : DataW.Trod enc Tryd.prog w 0 (fun _ => true) held 22 (.slice A n c) d p) : ∃ l : List (List Int), RL w (.slice A n c) l := by
  obtain ⟨fuel, hf⟩ := h
  rcases DataW.trod_slice Tryd.underlying22 hf with ⟨hcs, _⟩ | ⟨a, len, cap, elems, rest, m, _, hcs, _, hb, hl, hm, hel, hE, _⟩
  · simp [Value.cells] at hcs
    obtain ⟨rfl, rfl, rfl⟩ := hcs
    exact ⟨[], RL.nil w⟩
  · simp [Value.cells] at hcs
    obtain ⟨rfl, rfl, rfl⟩ := hcs
    rw [cellsP] at hE
    obtain ⟨ds, hdl, hds⟩ := gather (fun i (d : Value × List Int) => w.cell? (a.add i) = some d.1 ∧ RI w d.1 d.2) n (fun i hi => by
      have h1 := hE i hi
      have h2 : ∃ e, elems[i]? = some e := ⟨_, List.getElem?_eq_getElem (by omega)⟩
      obtain ⟨e, he⟩ := h2
      rw [he, Nat.mul_one] at h1
      obtain ⟨cs, hc1, hc2⟩ := Option.bind_eq_some_iff.1 h1
      obtain ⟨x, q, rfl, hq⟩ := trod_param hc2
      obtain ⟨_, _, hc⟩ := World.cells?_some hc1
      have h3 := hc 0 (by omega)
      rw [add_zero'] at h3
      exact ⟨(x, q), by simpa using h3, hq⟩)
    refine ⟨ds.map (·.2), some a, c, ds.map (·.1), by simp [hdl], by simp [hdl]; exact hl, hm, fun h => (by cases h), by simp, fun j u hu => ?_, fun j x q hx hq => ?_⟩
    · obtain ⟨d, hd, rfl⟩ : ∃ d, ds[j]? = some d ∧ d.1 = u := by simpa using hu
      have hcj := (hds j d hd).1
      refine ⟨a, rfl, ?_, hcj⟩
      have := World.block_lt_of_cell? w _ hcj
      rwa [add_block] at this
    · obtain ⟨d, hd, rfl⟩ : ∃ d, ds[j]? = some d ∧ d.1 = x := by simpa using hx
      rw [List.getElem?_map, hd] at hq
      simp at hq
      subst hq
      exact (hds j d hd).2
end
end Go.Proofs.YteepfecplabinaaDoor.Par
end
