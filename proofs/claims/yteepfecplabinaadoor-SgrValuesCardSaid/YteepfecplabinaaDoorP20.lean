/-
  StyV StyX
-/
import Derived.OwnWalk
import Derived.Maps.AppendAt
import Derived.Test.YteepfecplabinaaDoorP19
section
set_option maxRecDepth 100000
namespace Go.Proofs.YteepfecplabinaaDoor.Sty
open Go.ChangeShapes Go.WideShapes Go.ChangeAt Go.RowKit Utf Col

/-- the drafts of a slice, where they lie -/
def RdD (w : World) (A : Option Addr) (ds : List D8) : Prop := ∀ j d, ds[j]? = some d → ∃ b o, A = some ⟨b, o, none⟩ ∧ b < w.heap.size ∧ w.rangeAt b (o + j * 8) (cD d)
theorem RdD.keep {w w' : World} {A : Option Addr} {ds : List D8} (h : RdD w A ds) (hb : Below w.heap.size w w') : RdD w' A ds := fun j p hp => by
  obtain ⟨b, o, hA, hlt, hr⟩ := h j p hp
  exact ⟨b, o, hA, Nat.lt_of_lt_of_le hlt hb.size, fun i v hv => (hb.cell (p := ⟨b, o + j * 8 + i, none⟩) hlt).trans (hr i v hv)⟩
theorem ixD_run (b o n c k : Nat) (h : k < n) (w : World) : (Instr.indexAt 44 (.slice (some ⟨b, o, none⟩) n c) (.int .i64 (k : Int))).run Tryd.prog w = .ok (.pointer (some ⟨b, o + k * 8, none⟩)) w := by
  have h1 : (k : Int) < (n : Int) := by omega
  rw [run_indexAt_slice w 44 _ _ _ _ _ Tryd.underlying44]
  go_simp
theorem load_dra (w : World) (b o : Nat) (d : D8) (h : w.rangeAt b o (cD d)) : (Instr.loadAt 52 (.pointer (some ⟨b, o, none⟩))).run Tryd.prog w = .ok (.agg #[.int .u8 (d.a.toNat : Int), .int .u8 (d.u.toNat : Int), .int .u8 (d.w.toNat : Int), .int .u8 (d.m.toNat : Int), .int .u32 (d.e0.toNat : Int), .int .u32 (d.e1.toNat : Int), .int .u32 (d.e2.toNat : Int), .int .u32 (d.e3.toNat : Int)]) w :=
  (run_loadAt_mid w b o 52 (cD d) _ h Tryd.underlying52 rfl (by kernel_rfl)).trans rfl
theorem gather {α : Type} (P : Nat → α → Prop) : ∀ n, (∀ i, i < n → ∃ d, P i d) → ∃ ds : List α, ds.length = n ∧ ∀ i d, ds[i]? = some d → P i d
  | 0, _ => ⟨[], rfl, fun i d h => by simp at h⟩
  | n + 1, h => by
    obtain ⟨ds, hl, hd⟩ := gather P n (fun i hi => h i (by omega))
    obtain ⟨d, hP⟩ := h n (by omega)
    refine ⟨ds ++ [d], by simp [hl], fun i x hx => ?_⟩
    rw [List.getElem?_append] at hx
    split at hx
    · exact hd i x hx
    · rename_i hi
      have : i - ds.length = 0 := by
        rcases Nat.eq_zero_or_pos (i - ds.length) with h0 | h0
        · exact h0
        · rw [List.getElem?_eq_none (by simp; omega)] at hx; cases hx
      rw [this] at hx
      simp at hx
      subst hx
      obtain rfl : i = n := by omega
      exact hP
theorem drafts_in {H : Type} {enc : TypeId × Value → H} {W : World} {A : Option Addr} {n c : Nat} {d : DataW H} {p : List MemPlace}
    (h : DataW.Trod enc Tryd.prog W 0 (fun _ => true) true 44 (.slice A n c) d p) : ∃ ds : List D8, ds.length = n ∧ (n ≤ c ∧ c ≤ 9223372036854775807) ∧ RdD W A ds := by
  obtain ⟨fuel, hf⟩ := h
  rcases DataW.trod_slice Tryd.underlying44 hf with ⟨hcs, _⟩ | ⟨a, len, cap, elems, rest, m, _, hcs, _, hb, hl, hm, hel, hE, _⟩
  · simp [Value.cells] at hcs
    obtain ⟨rfl, rfl, rfl⟩ := hcs
    exact ⟨[], rfl, ⟨Nat.le_refl _, by omega⟩, fun j d h => by simp at h⟩
  · simp [Value.cells] at hcs
    obtain ⟨rfl, rfl, rfl⟩ := hcs
    unfold maxLen at hm
    rw [cellsD] at hE
    obtain ⟨ds, hdl, hds⟩ := gather (fun i d => ∀ q v, (cD d)[q]? = some v → W.cell? ((a.add (i * 8)).add q) = some v) n (fun i hi => by
      have h1 := hE i hi
      have h2 : ∃ e, elems[i]? = some e := ⟨_, List.getElem?_eq_getElem (by omega)⟩
      obtain ⟨e, he⟩ := h2
      rw [he] at h1
      obtain ⟨cs, hc1, hc2⟩ := Option.bind_eq_some_iff.1 h1
      obtain ⟨d, hd, _⟩ := trod_dra hc2
      subst hd
      obtain ⟨_, _, hc⟩ := World.cells?_some hc1
      refine ⟨d, fun q v hq => ?_⟩
      have : q < 8 := (List.getElem?_eq_some_iff.1 hq).1
      rw [hc q this, hq])
    refine ⟨ds, hdl, ⟨hl, hm⟩, fun j d hj => ?_⟩
    have h0 : ∃ d0, ds[0]? = some d0 := ⟨_, List.getElem?_eq_getElem (by have := (List.getElem?_eq_some_iff.1 hj).1; omega)⟩
    obtain ⟨d0, hd0⟩ := h0
    have hz := hds 0 d0 hd0 0 _ rfl
    have ha : a = ⟨a.block, a.off, none⟩ := by
      have e : (a.add (0 * 8)).add 0 = a := by simp [Addr.add]
      rw [e] at hz
      unfold World.cell? at hz
      split at hz
      · split at hz
        · cases hz
        · rename_i hs
          have : a.spot = none := by simpa using hs
          cases a
          simp_all
      · cases hz
    have hlt : a.block < W.heap.size := by
      have := World.block_lt_of_cell? W _ hz
      simpa [Addr.add] using this
    refine ⟨a.block, a.off, congrArg some ha, hlt, fun q v hq => ?_⟩
    have h3 := hds j d hj q v hq
    rw [ha, Addr.add_mid, Addr.add_mid] at h3
    exact h3
/-- a row of actions of the call's own -/
def OwnP (w : World) (base : Nat) (v : Value) (ps : List P6) : Prop := w.ownsRow base 48 6 v ps.length (ps.flatMap cP)
theorem flat_len : ∀ ps : List P6, (ps.flatMap cP).length = ps.length * 6
  | [] => rfl
  | p :: r => by rw [List.flatMap_cons, List.length_append, flat_len r, List.length_cons]; show 6 + _ = _; omega
theorem flat_at : ∀ (ps : List P6) (j : Nat) (p : P6) (i : Nat), ps[j]? = some p → i < 6 → (ps.flatMap cP)[j * 6 + i]? = (cP p)[i]?
  | [], j, p, i, h, _ => by simp at h
  | x :: r, 0, p, i, h, hi => by
    obtain rfl : x = p := by simpa using h
    rw [List.flatMap_cons, List.getElem?_append_left (by show 0 * 6 + i < 6; omega)]
    simp
  | x :: r, j + 1, p, i, h, hi => by
    rw [List.flatMap_cons, List.getElem?_append_right (by show 6 ≤ (j + 1) * 6 + i; omega)]
    rw [show (j + 1) * 6 + i - (cP x).length = j * 6 + i from by show (j + 1) * 6 + i - 6 = _; omega]
    exact flat_at r j p i (by simpa using h) hi
theorem flat_one (ps : List P6) : ∀ u ∈ ps.flatMap cP, u.oneCell' = true := fun u hu => by
  obtain ⟨p, _, h⟩ := List.mem_flatMap.1 hu
  simp [cP] at h
  rcases h with rfl | rfl | rfl | rfl | rfl | rfl <;> rfl
theorem OwnP.rd {w : World} {base n c : Nat} {A : Option Addr} {ps : List P6} (h : OwnP w base (.slice A n c) ps) : RdP w A ps := fun j p hp => by
  have hj : j < ps.length := (List.getElem?_eq_some_iff.1 hp).1
  rcases h.2 with ⟨_, h0⟩ | ⟨g, cap, cur, hv, _, hg, _, _, _, ht⟩
  · omega
  · cases hv
    refine ⟨g, 0, rfl, (Array.getElem?_eq_some_iff.1 hg).1, fun i v hv => ?_⟩
    have hi : i < 6 := (List.getElem?_eq_some_iff.1 hv).1
    have h1 := flat_at ps j p i hp hi
    rw [← ht, List.getElem?_take_of_lt (by omega), hv] at h1
    unfold World.cell?
    rw [hg, Nat.zero_add]
    simpa using h1
theorem OwnP.len {w : World} {base n c : Nat} {A : Option Addr} {ps : List P6} (h : OwnP w base (.slice A n c) ps) : n = ps.length := by
  rcases h.2 with ⟨hv, h0⟩ | ⟨g, cap, cur, hv, _⟩
  · cases hv; exact h0.symm
  · cases hv; rfl
theorem OwnP.form {w : World} {base : Nat} {v : Value} {ps : List P6} (h : OwnP w base v ps) : ∃ A c, v = .slice A ps.length c ∧ ps.length ≤ c ∧ c ≤ maxLen := by
  rcases h.2 with ⟨hv, h0⟩ | ⟨g, cap, cur, hv, _, _, h1, h2, _⟩
  · exact ⟨none, 0, by rw [hv, h0], by omega, by unfold maxLen; omega⟩
  · exact ⟨_, _, hv, h1, h2⟩
theorem OwnP.keep {w w' : World} {base : Nat} {v : Value} {ps : List P6} (h : OwnP w base v ps) (hb : Below w.heap.size w w') : OwnP w' base v ps := by
  rcases h with ⟨h0, hv | ⟨g, cap, cur, hv, h1, hg, h2⟩⟩
  · exact ⟨h0, .inl hv⟩
  · exact ⟨h0, .inr ⟨g, cap, cur, hv, h1, (hb.block g (Array.getElem?_eq_some_iff.1 hg).1).trans hg, h2⟩⟩
theorem OwnP.new (w : World) (base : Nat) (hb : base ≤ w.heap.size) (ps : List P6) (cs : Array Value) (hcs : cs.toList = ps.flatMap cP) (hl : ps.length ≤ maxLen) : OwnP (w.alloc (.cells cs 48)) base (.slice (some ⟨w.heap.size, 0, none⟩) ps.length ps.length) ps :=
  ⟨flat_len ps, .inr ⟨w.heap.size, ps.length, cs, rfl, hb, heap_alloc_new w _, Nat.le_refl _, hl, by rw [← Array.length_toList, hcs, flat_len], by rw [hcs, ← flat_len, List.take_length]⟩⟩
theorem infoP : (Tryd.prog.info? 48).map (fun i => (i.zero, i.size, i.bytes)) = some (some (.agg #[.int .i64 0, .int .i64 0, .int .i64 0, .int .i64 0, .int .i64 0, .string ⟨#[]⟩]), 6, 56) := by kernel_rfl
/-- an append onto such a row, the source nil, empty or not: its run -/
theorem run_appP (w : World) (base : Nat) (ty : TypeId) (v : Value) (ps : List P6) (hown : OwnP w base v ps) (A : Option Addr) (m c : Nat) (qs : List P6) (hm : qs.length = m) (hr : RdP w A qs) (hA : A = none → m = 0)
    (hsmall : ps.length + m ≤ 100000) (hbase : base ≤ w.heap.size) :
    ∃ v' w', (Builtin.append_ #[31, 31] ty #[v, .slice A m c]).run Tryd.prog w = .ok v' w' ∧ OwnP w' base v' (ps ++ qs) ∧ w.grownBy w' v.ownBlock := by
  obtain ⟨i, hi, hz, hs, hb⟩ := info_parts infoP
  cases A with
  | none =>
    obtain rfl := hA rfl
    obtain rfl : qs = [] := List.eq_nil_of_length_eq_zero hm
    have hrun : (Builtin.append_ #[31, 31] ty #[v, .slice none 0 c]).run Tryd.prog w = .ok v w := by
      rcases hown.2 with ⟨rfl, h0⟩ | ⟨g, cap, cur, rfl, _, _, hnc, _⟩
      · simp [Builtin.append_, run_underlying Tryd.underlying31, sizeOf, typeInfo, hi, Builtin.lenOf, Builtin.firstCells]
      · simp [Builtin.append_, run_underlying Tryd.underlying31, sizeOf, typeInfo, hi, Builtin.lenOf, Builtin.firstCells, hnc, storeCells]
    exact ⟨v, w, hrun, by simpa using hown, ⟨rfl, rfl, rfl, Nat.le_refl _, fun _ _ _ => rfl⟩⟩
  | some ad =>
    have hcells : ∀ j u, (qs.flatMap cP)[j]? = some u → w.cell? (ad.add j) = some u := fun j u hu => by
      have hj : j < qs.length * 6 := by rw [← flat_len]; exact (List.getElem?_eq_some_iff.1 hu).1
      have hq : ∃ p, qs[j / 6]? = some p := ⟨_, List.getElem?_eq_getElem (by omega)⟩
      obtain ⟨p, hp⟩ := hq
      obtain ⟨b, o, hA', _, hc⟩ := hr _ p hp
      cases hA'
      have h1 := flat_at qs (j / 6) p (j % 6) hp (by omega)
      rw [show j / 6 * 6 + j % 6 = j by omega, hu] at h1
      have h2 := hc (j % 6) u h1.symm
      rw [show o + j / 6 * 6 + j % 6 = o + j by omega] at h2
      rw [Addr.add_mid]
      exact h2
    obtain ⟨v', w', hrun, h2, h3, _, _⟩ := run_append_own_at (P := Tryd.prog) w base 31 ty 48 i _ 6 56 Tryd.underlying31 hi hz hs hb rfl (by omega) v ps.length (ps.flatMap cP) hown ad m c (qs.flatMap cP) (by rw [flat_len, hm]) hcells (flat_one qs) (by unfold maxLen; omega) (by omega) hbase
    refine ⟨v', w', hrun, ?_, h3⟩
    have := h2
    rw [← List.flatMap_append, ← hm, ← List.length_append] at this
    exact this
theorem wp_appP (w : World) {o : Oper} {a : Act} {K : Act → World → Prop} {Q : Exit → Act → World → Prop} (s x : Operand)
    (ho : o.op = .call { callee := .builtin .append, args := #[s, x], argTypes := #[31, 31] })
    (base : Nat) (v : Value) (ps : List P6) (hs : a.eval s = v) (hown : OwnP w base v ps) (A : Option Addr) (m c : Nat) (qs : List P6) (hx : a.eval x = .slice A m c) (hm : qs.length = m) (hr : RdP w A qs) (hA : A = none → m = 0)
    (hsmall : ps.length + m ≤ 100000) (hbase : base ≤ w.heap.size) (h : ∀ v' w', OwnP w' base v' (ps ++ qs) → Below base w w' → K (a.put o.dst v') w') : o.wp Tryd.prog a w K Q := by
  obtain ⟨v', w', hrun, h2, h3⟩ := run_appP w base o.type v ps hown A m c qs hm hr hA hsmall hbase
  unfold Oper.wp execOp
  simp only [ho, resolve, invoke, builtin, Sem.run_bind, Sem.run_pure, Result.andThen_ok, List.map_toArray, List.map_cons, List.map_nil, hs, hx, hrun]
  exact h v' w' h2 ((Below.refl _ _).grown h3 hbase fun k hk => (hown.lt k hk).1)
theorem wpList_appP (w : World) {ops : Array Oper} {rest : List Oper} {o : Oper} {a : Act} {Q : Exit → Act → World → Prop} (hgd : o.guard = none) (s x : Operand)
    (ho : o.op = .call { callee := .builtin .append, args := #[s, x], argTypes := #[31, 31] })
    (base : Nat) (v : Value) (ps : List P6) (hs : a.eval s = v) (hown : OwnP w base v ps) (A : Option Addr) (m c : Nat) (qs : List P6) (hx : a.eval x = .slice A m c) (hm : qs.length = m) (hr : RdP w A qs) (hA : A = none → m = 0)
    (hsmall : ps.length + m ≤ 100000) (hbase : base ≤ w.heap.size) (h : ∀ v' w', OwnP w' base v' (ps ++ qs) → Below base w w' → wpList Tryd.prog ops Q rest (a.put o.dst v') w') : wpList Tryd.prog ops Q (o :: rest) a w :=
  wpList_plain hgd fun _ hK => wp_appP w s x ho base v ps hs hown A m c qs hx hm hr hA hsmall hbase fun v' w' h2 h3 => hK _ _ (h v' w' h2 h3)
end Go.Proofs.YteepfecplabinaaDoor.Sty
end

section
set_option maxRecDepth 100000
namespace Go.Proofs.YteepfecplabinaaDoor.Sty
open Go.RowKit Utf Col

theorem OwnP.grown {w w' : World} {base b : Nat} {v : Value} {ps : List P6} (h : OwnP w base v ps) (hg : w.grownBy w' (some b)) (hb : b < base) : OwnP w' base v ps := by
  rcases h with ⟨h0, hv | ⟨g, cap, cur, hv, h1, hh, h2⟩⟩
  · exact ⟨h0, .inl hv⟩
  · exact ⟨h0, .inr ⟨g, cap, cur, hv, h1, (hg.block g (Array.getElem?_eq_some_iff.1 hh).1 (by simp; omega)).trans hh, h2⟩⟩
theorem OwnP.nil {w : World} {base n c : Nat} {ps : List P6} (h : OwnP w base (.slice none n c) ps) : n = 0 := by
  rcases h.2 with ⟨hv, _⟩ | ⟨g, cap, cur, hv, _⟩
  · cases hv; rfl
  · cases hv
theorem OwnP.there {w : World} {base n c g j : Nat} {ps : List P6} (h : OwnP w base (.slice (some ⟨g, 0, none⟩) n c) ps) (hj : j < ps.length) : w.there g (j * 6) 6 := by
  rcases h.2 with ⟨hv, _⟩ | ⟨g', cap, cur, hv, _, hh, hn, _, hs, _⟩
  · cases hv
  · cases hv
    intro i hi
    have hlt : j * 6 + i < cur.size := by rw [hs]; have : (j + 1) * 6 ≤ c * 6 := Nat.mul_le_mul_right _ (by omega); omega
    constructor
    · simp [World.cell?, hh, hlt]
    · simp [World.frozen?, hh]
theorem OwnP.at0 {w : World} {base n c : Nat} {A : Option Addr} {ps : List P6} (h : OwnP w base (.slice A n c) ps) (hn : 0 < n) : ∃ g, A = some ⟨g, 0, none⟩ ∧ base ≤ g ∧ g < w.heap.size := by
  rcases h.2 with ⟨hv, _⟩ | ⟨g, cap, cur, hv, hb, hh, _⟩
  · cases hv; omega
  · cases hv; exact ⟨g, rfl, hb, (Array.getElem?_eq_some_iff.1 hh).1⟩
theorem RdP.put {w : World} {g j : Nat} {ps : List P6} (h : RdP w (some ⟨g, 0, none⟩) ps) (p : P6) (ht : w.there g (j * 6) 6) : RdP (w.setCells g (j * 6) (cP p)) (some ⟨g, 0, none⟩) (ps.set j p) := fun i q hq => by
  have hsz : (w.setCells g (j * 6) (cP p)).heap.size = w.heap.size := sizeCells _ _ _ _
  by_cases hij : j = i
  · subst hij
    rw [List.getElem?_set_self (by simpa using (List.getElem?_eq_some_iff.1 hq).1)] at hq
    cases hq
    have hlt : g < w.heap.size := by
      obtain ⟨v, hv⟩ := Option.isSome_iff_exists.1 (ht 0 (by omega)).1
      exact World.block_lt_of_cell? w _ hv
    exact ⟨g, 0, rfl, by rw [hsz]; exact hlt, by rw [Nat.zero_add]; exact World.rangeAt_setCells_same w g (j * 6) (cP p) ht⟩
  · rw [List.getElem?_set_ne hij] at hq
    obtain ⟨b, o, hA, hlt, hr⟩ := h i q hq
    cases hA
    exact ⟨g, 0, rfl, by rw [hsz]; exact hlt, World.rangeAt_setCells_apart hr g (j * 6) (cP p) (.inr (by show 0 + i * 6 + 6 ≤ j * 6 ∨ j * 6 + 6 ≤ 0 + i * 6; omega))⟩
theorem ix3 (A0 A1 A2 : Option Addr) (n0 n1 n2 c0 c1 c2 : Nat) (w : World) (p0 p1 p2 : List P6) (h0 : p0.length = n0 ∧ n0 ≤ 100 ∧ RdP w A0 p0) (h1 : p1.length = n1 ∧ n1 ≤ 100 ∧ RdP w A1 p1) (h2 : p2.length = n2 ∧ n2 ≤ 100 ∧ RdP w A2 p2) (k : Nat) (hk : k < 3) :
    ∃ (A : Option Addr) (n c : Nat) (qs : List P6), (qs.length = n ∧ n ≤ 100 ∧ RdP w A qs) ∧ ∀ W, (Instr.index 54 (.agg #[.slice A0 n0 c0, .slice A1 n1 c1, .slice A2 n2 c2]) (.int .i64 (k : Int))).run Tryd.prog W = .ok (.slice A n c) W := by
  rcases (show k = 0 ∨ k = 1 ∨ k = 2 by omega) with rfl | rfl | rfl
  · exact ⟨A0, n0, c0, p0, h0, fun _ => by kernel_rfl⟩
  · exact ⟨A1, n1, c1, p1, h1, fun _ => by kernel_rfl⟩
  · exact ⟨A2, n2, c2, p2, h2, fun _ => by kernel_rfl⟩
end Go.Proofs.YteepfecplabinaaDoor.Sty
end
