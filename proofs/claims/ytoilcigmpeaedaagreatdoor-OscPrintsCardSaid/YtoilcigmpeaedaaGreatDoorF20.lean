/-
  B64C
-/
import Derived.BigQuiet
import Derived.Test.YtoilcigmpeaedaaGreatDoorF19
namespace Go.Proofs.YtoilcigmpeaedaaGreatDoor.B64
open Go.RowKit Utf

theorem Hp.drew {X : Nat → Prop} {base n T : Nat} {fr to : Int} {use : Value} {b k : Int} {xs : List UInt8} {w : World} (h : Hp X base n T fr to use b k xs w) : Hp X base n T fr to use b k xs w.drew :=
  ⟨h.hT, h.hn, h.hTn, h.hX, h.b0.drew, h.b1.drew, h.b2.drew, h.b3.drew, h.b4.drew, h.row.imp fun _ r => ⟨r.1.drew, r.2.1.drew, r.2.2⟩⟩
theorem Stay.drew {X : Nat → Prop} {base : Nat} {a w : World} (h : Stay X base a w) : Stay X base a w.drew := ⟨h.1.drew, h.2⟩
theorem Hp.put {X : Nat → Prop} {base n T : Nat} {fr to : Int} {use : Value} {b k : Int} {xs : List UInt8} {w : World} (h : Hp X base n T fr to use b k xs w) (i : Nat) (hi : i < 5) (v : Value) :
    (∀ i' cs, i' ≠ i → Box w (n + i') cs → Box (w.setCell ⟨n + i, 0, none⟩ v) (n + i') cs) ∧ (∀ j, X j → j < (w.setCell ⟨n + i, 0, none⟩ v).heap.size ∧ j ≠ T ∧ ¬ (n ≤ j ∧ j < n + 5)) ∧
    (∃ r, Box (w.setCell ⟨n + i, 0, none⟩ v) T [r] ∧ (w.setCell ⟨n + i, 0, none⟩ v).ownsRow base 5 1 r xs.length (cB xs) ∧ ∀ g, r.ownBlock = some g → g ≠ T ∧ ¬ (n ≤ g ∧ g < n + 5) ∧ ¬ X g) ∧ Stay X base w (w.setCell ⟨n + i, 0, none⟩ v) := by
  have hs := grown_set w (n + i) 0 v
  refine ⟨fun i' cs hne hx => hx.grown hs (fun e => by injection e with e; omega), fun j hj => ?_, ?_, ⟨?_, fun j hj => ?_⟩⟩
  · obtain ⟨h1, h2, h3⟩ := h.hX j hj
    exact ⟨Nat.lt_of_lt_of_le h1 hs.size, h2, h3⟩
  · obtain ⟨r, h1, h2, h3⟩ := h.row
    exact ⟨r, h1.grown hs (fun e => by injection e with e; exact h.hTn ⟨by omega, by omega⟩), Go.ownsRow_setCell_other h2 (fun e => (h3 _ e).2.1 ⟨by show n ≤ n + i; omega, by show n + i < n + 5; omega⟩) v, h3⟩
  · exact (Below.refl _ _).setCell (by show base ≤ n + i; have := h.hn; omega) _
  · obtain ⟨h1, h2, h3⟩ := h.hX j hj
    exact hs.block j h1 (fun e => by injection e with e; exact h3 ⟨by omega, by omega⟩)
theorem Hp.setB {X : Nat → Prop} {base n T : Nat} {fr to : Int} {use : Value} {b k : Int} {xs : List UInt8} {w : World} (h : Hp X base n T fr to use b k xs w) (b' : Int) :
    Hp X base n T fr to use b' k xs (w.setCell ⟨n + 3, 0, none⟩ (.int .i64 b')) ∧ Stay X base w (w.setCell ⟨n + 3, 0, none⟩ (.int .i64 b')) := by
  obtain ⟨p1, p2, p3, p4⟩ := h.put 3 (by omega) (.int .i64 b')
  exact ⟨⟨h.hT, h.hn, h.hTn, p2, p1 0 _ (by omega) h.b0, p1 1 _ (by omega) h.b1, p1 2 _ (by omega) h.b2, h.b3.set 0 _, p1 4 _ (by omega) h.b4, p3⟩, p4⟩
theorem Hp.setK {X : Nat → Prop} {base n T : Nat} {fr to : Int} {use : Value} {b k : Int} {xs : List UInt8} {w : World} (h : Hp X base n T fr to use b k xs w) (k' : Int) :
    Hp X base n T fr to use b k' xs (w.setCell ⟨n + 4, 0, none⟩ (.int .i64 k')) ∧ Stay X base w (w.setCell ⟨n + 4, 0, none⟩ (.int .i64 k')) := by
  obtain ⟨p1, p2, p3, p4⟩ := h.put 4 (by omega) (.int .i64 k')
  exact ⟨⟨h.hT, h.hn, h.hTn, p2, p1 0 _ (by omega) h.b0, p1 1 _ (by omega) h.b1, p1 2 _ (by omega) h.b2, p1 3 _ (by omega) h.b3, h.b4.set 0 _, p3⟩, p4⟩
theorem Hp.cells {X : Nat → Prop} {base n T : Nat} {fr to : Int} {use : Value} {b k : Int} {xs : List UInt8} {w : World} (h : Hp X base n T fr to use b k xs w) :
    w.cell? ⟨n, 0, none⟩ = some (.int .i64 fr) ∧ w.cell? ⟨n + 1, 0, none⟩ = some (.int .i64 to) ∧ w.cell? ⟨n + 2, 0, none⟩ = some use ∧ w.cell? ⟨n + 3, 0, none⟩ = some (.int .i64 b) ∧ w.cell? ⟨n + 4, 0, none⟩ = some (.int .i64 k) ∧ w.frozen? ⟨n + 3, 0, none⟩ = false ∧ w.frozen? ⟨n + 4, 0, none⟩ = false :=
  ⟨h.b0.cell 0 _ rfl, h.b1.cell 0 _ rfl, h.b2.cell 0 _ rfl, h.b3.cell 0 _ rfl, h.b4.cell 0 _ rfl, h.b3.free 0 (by show 0 < 1; decide), h.b4.free 0 (by show 0 < 1; decide)⟩

set_option maxRecDepth 100000 in
set_option maxHeartbeats 4000000 in
theorem putE_0 (X : Nat → Prop) (base n T b x : Nat) (xs : List UInt8) (hb : b < 1) (hx : x < 256) (w : World) (h : Hp X base n T 8 6 (.func (.func 56) #[] #[.pointer (some ⟨T, 0, none⟩)]) b 0 xs w) (hl : xs.length ≤ 800000) :
    Calls Tryz.prog 82 #[.int .i64 (x : Int), .pointer (some ⟨n + 3, 0, none⟩), .pointer (some ⟨n, 0, none⟩), .pointer (some ⟨n + 4, 0, none⟩), .pointer (some ⟨n + 1, 0, none⟩), .pointer (some ⟨n + 2, 0, none⟩)] w fun e w' => e = .returned (.tuple #[]) ∧ Hp X base n T 8 6 (.func (.func 56) #[] #[.pointer (some ⟨T, 0, none⟩)]) (((b * 256 + x) % 4) : Nat) 2 (xs ++ [ch ((b * 256 + x) / 4)]) w' ∧ Stay X base w w' := by
  obtain ⟨c0, c1, c2, c3, c4, f3, f4⟩ := h.cells
  obtain ⟨t0, ht⟩ : ∃ t, t = b * 256 + x := ⟨_, rfl⟩
  have hor : bits .or .i64 ((b : Int) * 256) (x : Int) = (t0 : Int) := by
    rw [show (b : Int) * 256 = ((b * 2 ^ 8 : Nat) : Int) by omega, or_i64 _ _ (by omega) (by omega), or_add b x 8 (by omega), ht]
  have ht0 : t0 < 256 := by omega
  rw [← ht]
  clear ht
  have hl1 := h.b4.1
  have HP := Lib.hid h; clear h
  go_enter Tryz.func82, Tryz.ntmps82
  go_wp2_with fail
  go_region
  rename_i K hK
  show K _ _
  refine hK _ _ ?_
  clear hK
  obtain ⟨p1, q1⟩ := HP.out.setB (t0 : Int)
  obtain ⟨p2, q2⟩ := p1.setK 8
  have q3 := (q1.trans q2).drew
  have p3 := p2.drew
  clear p1 p2 q1 q2 c0 c1 c2 c3 c4 f3 f4 hor HP hb hx hl1
  generalize World.drew (World.setCell (World.setCell w _ _) _ _) = W0 at p3 q3 ⊢
  go_wp2_with fail
  refine wp_loop_rounds 2 ?_
  rw [rounds_succ]
  obtain ⟨c0, c1, c2, c3, c4, f3, f4⟩ := p3.cells
  have hl1 := p3.b4.1
  obtain ⟨v0, hv0⟩ : ∃ v : Nat, v = t0 / 4 := ⟨_, rfl⟩
  have hw0 : (t0 : Int) / 4 = (v0 : Int) := by omega
  obtain ⟨pk, qk⟩ := p3.setK 2
  have pd := pk.drew
  have HU := Lib.hid (useE_any X base n T 8 6 _ (t0 : Int) 2 (xs) v0 (by omega) _ pd (by omega))
  have QK := Lib.hid qk.drew
  have HW0 := Lib.hid hv0
  have HD := Lib.hid (And.intro pd.cells.2.2.1 (And.intro pd.cells.2.2.2.1 pd.cells.2.2.2.2.1))
  clear pk qk pd hv0
  clear p3
  go_wp2_with fail
  have d2 : (W0.setCell ⟨n + 4, 0, none⟩ (.int .i64 2)).drew.cell? ⟨n + 2, 0, none⟩ = some (.func (.func 56) #[] #[.pointer (some ⟨T, 0, none⟩)]) := HD.out.1
  have d3 : (W0.setCell ⟨n + 4, 0, none⟩ (.int .i64 2)).drew.cell? ⟨n + 3, 0, none⟩ = some (.int .i64 t0) := HD.out.2.1
  have d4 : (W0.setCell ⟨n + 4, 0, none⟩ (.int .i64 2)).drew.cell? ⟨n + 4, 0, none⟩ = some (.int .i64 2) := HD.out.2.2
  go_region_held3 (fun W => W.cell? ⟨n + 2, 0, none⟩ = some (.func (.func 56) #[] #[.pointer (some ⟨T, 0, none⟩)]) ∧ W.cell? ⟨n + 3, 0, none⟩ = some (.int .i64 t0) ∧ W.cell? ⟨n + 4, 0, none⟩ = some (.int .i64 2)) (first | (with_reducible exact ⟨d2, d3, d4⟩) | (with_reducible exact ⟨ph.cells.2.2.1, ph.cells.2.2.2.1, ph.cells.2.2.2.2.1⟩)) ((go_at_call 56; refine HU.out.mono ?_; rintro e w3 ⟨rfl, ph, qh⟩))
  clear c0 c1 c2 c3 c4 f3 f4 hl1
  have pg := ph
  have qg := q3.trans (QK.out.trans qh)
  clear HU QK qh ph q3 HD d2 d3 d4
  rename_i K1 hK1 hS
  refine hK1 _ _ ?_
  clear hK1 K1 hS
  obtain ⟨c0, c1, c2, c3, c4, f3, f4⟩ := pg.cells
  have hl1 := pg.b4.1
  obtain ⟨t1, ht1⟩ : ∃ t : Nat, t = t0 % 4 := ⟨_, rfl⟩
  have ha0 : bits .and .i64 (t0 : Int) 3 = (t1 : Int) := by
    have := and_i64 t0 2 (by omega) (by omega)
    rw [ht1]; exact this
  have hb1 : t1 < 4 := by omega
  have HV0 := Lib.hid (And.intro HW0.out ht1)
  clear HW0 ht1 hw0
  go_region
  change Code.rounds _ _ _ _ _ _
  clear c0 c1 c2 c3 c4 f3 f4 hl1 ha0
  obtain ⟨p1, q1⟩ := pg.setB (t1 : Int)
  have p4 := p1.drew
  have q4 := (qg.trans q1).drew
  clear p1 q1 pg qg
  generalize World.drew (World.setCell w3 _ _) = W1 at p4 q4 ⊢
  rw [rounds_succ]
  obtain ⟨c0, c1, c2, c3, c4, f3, f4⟩ := p4.cells
  have hl1 := p4.b4.1
  go_wp2_with fail
  go_end0
  obtain ⟨rfl, e1⟩ := HV0.out; subst e1; exact ⟨rfl, p4, q4⟩

set_option maxRecDepth 100000 in
set_option maxHeartbeats 4000000 in
theorem putE_2 (X : Nat → Prop) (base n T b x : Nat) (xs : List UInt8) (hb : b < 4) (hx : x < 256) (w : World) (h : Hp X base n T 8 6 (.func (.func 56) #[] #[.pointer (some ⟨T, 0, none⟩)]) b 2 xs w) (hl : xs.length ≤ 800000) :
    Calls Tryz.prog 82 #[.int .i64 (x : Int), .pointer (some ⟨n + 3, 0, none⟩), .pointer (some ⟨n, 0, none⟩), .pointer (some ⟨n + 4, 0, none⟩), .pointer (some ⟨n + 1, 0, none⟩), .pointer (some ⟨n + 2, 0, none⟩)] w fun e w' => e = .returned (.tuple #[]) ∧ Hp X base n T 8 6 (.func (.func 56) #[] #[.pointer (some ⟨T, 0, none⟩)]) (((b * 256 + x) % 16) : Nat) 4 (xs ++ [ch ((b * 256 + x) / 16)]) w' ∧ Stay X base w w' := by
  obtain ⟨c0, c1, c2, c3, c4, f3, f4⟩ := h.cells
  obtain ⟨t0, ht⟩ : ∃ t, t = b * 256 + x := ⟨_, rfl⟩
  have hor : bits .or .i64 ((b : Int) * 256) (x : Int) = (t0 : Int) := by
    rw [show (b : Int) * 256 = ((b * 2 ^ 8 : Nat) : Int) by omega, or_i64 _ _ (by omega) (by omega), or_add b x 8 (by omega), ht]
  have ht0 : t0 < 1024 := by omega
  rw [← ht]
  clear ht
  have hl1 := h.b4.1
  have HP := Lib.hid h; clear h
  go_enter Tryz.func82, Tryz.ntmps82
  go_wp2_with fail
  go_region
  rename_i K hK
  show K _ _
  refine hK _ _ ?_
  clear hK
  obtain ⟨p1, q1⟩ := HP.out.setB (t0 : Int)
  obtain ⟨p2, q2⟩ := p1.setK 10
  have q3 := (q1.trans q2).drew
  have p3 := p2.drew
  clear p1 p2 q1 q2 c0 c1 c2 c3 c4 f3 f4 hor HP hb hx hl1
  generalize World.drew (World.setCell (World.setCell w _ _) _ _) = W0 at p3 q3 ⊢
  go_wp2_with fail
  refine wp_loop_rounds 2 ?_
  rw [rounds_succ]
  obtain ⟨c0, c1, c2, c3, c4, f3, f4⟩ := p3.cells
  have hl1 := p3.b4.1
  obtain ⟨v0, hv0⟩ : ∃ v : Nat, v = t0 / 16 := ⟨_, rfl⟩
  have hw0 : (t0 : Int) / 16 = (v0 : Int) := by omega
  obtain ⟨pk, qk⟩ := p3.setK 4
  have pd := pk.drew
  have HU := Lib.hid (useE_any X base n T 8 6 _ (t0 : Int) 4 (xs) v0 (by omega) _ pd (by omega))
  have QK := Lib.hid qk.drew
  have HW0 := Lib.hid hv0
  have HD := Lib.hid (And.intro pd.cells.2.2.1 (And.intro pd.cells.2.2.2.1 pd.cells.2.2.2.2.1))
  clear pk qk pd hv0
  clear p3
  go_wp2_with fail
  have d2 : (W0.setCell ⟨n + 4, 0, none⟩ (.int .i64 4)).drew.cell? ⟨n + 2, 0, none⟩ = some (.func (.func 56) #[] #[.pointer (some ⟨T, 0, none⟩)]) := HD.out.1
  have d3 : (W0.setCell ⟨n + 4, 0, none⟩ (.int .i64 4)).drew.cell? ⟨n + 3, 0, none⟩ = some (.int .i64 t0) := HD.out.2.1
  have d4 : (W0.setCell ⟨n + 4, 0, none⟩ (.int .i64 4)).drew.cell? ⟨n + 4, 0, none⟩ = some (.int .i64 4) := HD.out.2.2
  go_region_held3 (fun W => W.cell? ⟨n + 2, 0, none⟩ = some (.func (.func 56) #[] #[.pointer (some ⟨T, 0, none⟩)]) ∧ W.cell? ⟨n + 3, 0, none⟩ = some (.int .i64 t0) ∧ W.cell? ⟨n + 4, 0, none⟩ = some (.int .i64 4)) (first | (with_reducible exact ⟨d2, d3, d4⟩) | (with_reducible exact ⟨ph.cells.2.2.1, ph.cells.2.2.2.1, ph.cells.2.2.2.2.1⟩)) ((go_at_call 56; refine HU.out.mono ?_; rintro e w3 ⟨rfl, ph, qh⟩))
  clear c0 c1 c2 c3 c4 f3 f4 hl1
  have pg := ph
  have qg := q3.trans (QK.out.trans qh)
  clear HU QK qh ph q3 HD d2 d3 d4
  rename_i K1 hK1 hS
  refine hK1 _ _ ?_
  clear hK1 K1 hS
  obtain ⟨c0, c1, c2, c3, c4, f3, f4⟩ := pg.cells
  have hl1 := pg.b4.1
  obtain ⟨t1, ht1⟩ : ∃ t : Nat, t = t0 % 16 := ⟨_, rfl⟩
  have ha0 : bits .and .i64 (t0 : Int) 15 = (t1 : Int) := by
    have := and_i64 t0 4 (by omega) (by omega)
    rw [ht1]; exact this
  have hb1 : t1 < 16 := by omega
  have HV0 := Lib.hid (And.intro HW0.out ht1)
  clear HW0 ht1 hw0
  go_region
  change Code.rounds _ _ _ _ _ _
  clear c0 c1 c2 c3 c4 f3 f4 hl1 ha0
  obtain ⟨p1, q1⟩ := pg.setB (t1 : Int)
  have p4 := p1.drew
  have q4 := (qg.trans q1).drew
  clear p1 q1 pg qg
  generalize World.drew (World.setCell w3 _ _) = W1 at p4 q4 ⊢
  rw [rounds_succ]
  obtain ⟨c0, c1, c2, c3, c4, f3, f4⟩ := p4.cells
  have hl1 := p4.b4.1
  go_wp2_with fail
  go_end0
  obtain ⟨rfl, e1⟩ := HV0.out; subst e1; exact ⟨rfl, p4, q4⟩

set_option maxRecDepth 100000 in
set_option maxHeartbeats 4000000 in
theorem putE_4 (X : Nat → Prop) (base n T b x : Nat) (xs : List UInt8) (hb : b < 16) (hx : x < 256) (w : World) (h : Hp X base n T 8 6 (.func (.func 56) #[] #[.pointer (some ⟨T, 0, none⟩)]) b 4 xs w) (hl : xs.length ≤ 800000) :
    Calls Tryz.prog 82 #[.int .i64 (x : Int), .pointer (some ⟨n + 3, 0, none⟩), .pointer (some ⟨n, 0, none⟩), .pointer (some ⟨n + 4, 0, none⟩), .pointer (some ⟨n + 1, 0, none⟩), .pointer (some ⟨n + 2, 0, none⟩)] w fun e w' => e = .returned (.tuple #[]) ∧ Hp X base n T 8 6 (.func (.func 56) #[] #[.pointer (some ⟨T, 0, none⟩)]) (0 : Nat) 0 (xs ++ [ch ((b * 256 + x) / 64)] ++ [ch ((b * 256 + x) % 64)]) w' ∧ Stay X base w w' := by
  obtain ⟨c0, c1, c2, c3, c4, f3, f4⟩ := h.cells
  obtain ⟨t0, ht⟩ : ∃ t, t = b * 256 + x := ⟨_, rfl⟩
  have hor : bits .or .i64 ((b : Int) * 256) (x : Int) = (t0 : Int) := by
    rw [show (b : Int) * 256 = ((b * 2 ^ 8 : Nat) : Int) by omega, or_i64 _ _ (by omega) (by omega), or_add b x 8 (by omega), ht]
  have ht0 : t0 < 4096 := by omega
  rw [← ht]
  clear ht
  have hl1 := h.b4.1
  have HP := Lib.hid h; clear h
  go_enter Tryz.func82, Tryz.ntmps82
  go_wp2_with fail
  go_region
  rename_i K hK
  show K _ _
  refine hK _ _ ?_
  clear hK
  obtain ⟨p1, q1⟩ := HP.out.setB (t0 : Int)
  obtain ⟨p2, q2⟩ := p1.setK 12
  have q3 := (q1.trans q2).drew
  have p3 := p2.drew
  clear p1 p2 q1 q2 c0 c1 c2 c3 c4 f3 f4 hor HP hb hx hl1
  generalize World.drew (World.setCell (World.setCell w _ _) _ _) = W0 at p3 q3 ⊢
  go_wp2_with fail
  refine wp_loop_rounds 3 ?_
  rw [rounds_succ]
  obtain ⟨c0, c1, c2, c3, c4, f3, f4⟩ := p3.cells
  have hl1 := p3.b4.1
  obtain ⟨v0, hv0⟩ : ∃ v : Nat, v = t0 / 64 := ⟨_, rfl⟩
  have hw0 : (t0 : Int) / 64 = (v0 : Int) := by omega
  obtain ⟨pk, qk⟩ := p3.setK 6
  have pd := pk.drew
  have HU := Lib.hid (useE_any X base n T 8 6 _ (t0 : Int) 6 (xs) v0 (by omega) _ pd (by omega))
  have QK := Lib.hid qk.drew
  have HW0 := Lib.hid hv0
  have HD := Lib.hid (And.intro pd.cells.2.2.1 (And.intro pd.cells.2.2.2.1 pd.cells.2.2.2.2.1))
  clear pk qk pd hv0
  clear p3
  go_wp2_with fail
  have d2 : (W0.setCell ⟨n + 4, 0, none⟩ (.int .i64 6)).drew.cell? ⟨n + 2, 0, none⟩ = some (.func (.func 56) #[] #[.pointer (some ⟨T, 0, none⟩)]) := HD.out.1
  have d3 : (W0.setCell ⟨n + 4, 0, none⟩ (.int .i64 6)).drew.cell? ⟨n + 3, 0, none⟩ = some (.int .i64 t0) := HD.out.2.1
  have d4 : (W0.setCell ⟨n + 4, 0, none⟩ (.int .i64 6)).drew.cell? ⟨n + 4, 0, none⟩ = some (.int .i64 6) := HD.out.2.2
  go_region_held3 (fun W => W.cell? ⟨n + 2, 0, none⟩ = some (.func (.func 56) #[] #[.pointer (some ⟨T, 0, none⟩)]) ∧ W.cell? ⟨n + 3, 0, none⟩ = some (.int .i64 t0) ∧ W.cell? ⟨n + 4, 0, none⟩ = some (.int .i64 6)) (first | (with_reducible exact ⟨d2, d3, d4⟩) | (with_reducible exact ⟨ph.cells.2.2.1, ph.cells.2.2.2.1, ph.cells.2.2.2.2.1⟩)) ((go_at_call 56; refine HU.out.mono ?_; rintro e w3 ⟨rfl, ph, qh⟩))
  clear c0 c1 c2 c3 c4 f3 f4 hl1
  have pg := ph
  have qg := q3.trans (QK.out.trans qh)
  clear HU QK qh ph q3 HD d2 d3 d4
  rename_i K1 hK1 hS
  refine hK1 _ _ ?_
  clear hK1 K1 hS
  obtain ⟨c0, c1, c2, c3, c4, f3, f4⟩ := pg.cells
  have hl1 := pg.b4.1
  obtain ⟨t1, ht1⟩ : ∃ t : Nat, t = t0 % 64 := ⟨_, rfl⟩
  have ha0 : bits .and .i64 (t0 : Int) 63 = (t1 : Int) := by
    have := and_i64 t0 6 (by omega) (by omega)
    rw [ht1]; exact this
  have hb1 : t1 < 64 := by omega
  have HV0 := Lib.hid (And.intro HW0.out ht1)
  clear HW0 ht1 hw0
  go_region
  change Code.rounds _ _ _ _ _ _
  clear c0 c1 c2 c3 c4 f3 f4 hl1 ha0
  obtain ⟨p1, q1⟩ := pg.setB (t1 : Int)
  have p4 := p1.drew
  have q4 := (qg.trans q1).drew
  clear p1 q1 pg qg
  generalize World.drew (World.setCell w3 _ _) = W1 at p4 q4 ⊢
  rw [rounds_succ]
  obtain ⟨c0, c1, c2, c3, c4, f3, f4⟩ := p4.cells
  have hl1 := p4.b4.1
  obtain ⟨v1, hv1⟩ : ∃ v : Nat, v = t1 / 1 := ⟨_, rfl⟩
  have hw1 : (t1 : Int) / 1 = (v1 : Int) := by omega
  obtain ⟨pk, qk⟩ := p4.setK 0
  have pd := pk.drew
  have HU := Lib.hid (useE_any X base n T 8 6 _ (t1 : Int) 0 (xs ++ [ch v0]) v1 (by omega) _ pd (by simp; omega))
  have QK := Lib.hid qk.drew
  have HW1 := Lib.hid hv1
  have HD := Lib.hid (And.intro pd.cells.2.2.1 (And.intro pd.cells.2.2.2.1 pd.cells.2.2.2.2.1))
  clear pk qk pd hv1
  clear p4
  go_wp2_with fail
  have d2 : (W1.setCell ⟨n + 4, 0, none⟩ (.int .i64 0)).drew.cell? ⟨n + 2, 0, none⟩ = some (.func (.func 56) #[] #[.pointer (some ⟨T, 0, none⟩)]) := HD.out.1
  have d3 : (W1.setCell ⟨n + 4, 0, none⟩ (.int .i64 0)).drew.cell? ⟨n + 3, 0, none⟩ = some (.int .i64 t1) := HD.out.2.1
  have d4 : (W1.setCell ⟨n + 4, 0, none⟩ (.int .i64 0)).drew.cell? ⟨n + 4, 0, none⟩ = some (.int .i64 0) := HD.out.2.2
  go_region_held3 (fun W => W.cell? ⟨n + 2, 0, none⟩ = some (.func (.func 56) #[] #[.pointer (some ⟨T, 0, none⟩)]) ∧ W.cell? ⟨n + 3, 0, none⟩ = some (.int .i64 t1) ∧ W.cell? ⟨n + 4, 0, none⟩ = some (.int .i64 0)) (first | (with_reducible exact ⟨d2, d3, d4⟩) | (with_reducible exact ⟨ph.cells.2.2.1, ph.cells.2.2.2.1, ph.cells.2.2.2.2.1⟩)) ((go_at_call 56; refine HU.out.mono ?_; rintro e w4 ⟨rfl, ph, qh⟩))
  clear c0 c1 c2 c3 c4 f3 f4 hl1
  have pg := ph
  have qg := q4.trans (QK.out.trans qh)
  clear HU QK qh ph q4 HD d2 d3 d4
  rename_i K1 hK1 hS
  refine hK1 _ _ ?_
  clear hK1 K1 hS
  obtain ⟨c0, c1, c2, c3, c4, f3, f4⟩ := pg.cells
  have hl1 := pg.b4.1
  obtain ⟨t2, ht2⟩ : ∃ t : Nat, t = 0 := ⟨_, rfl⟩
  have ha1 : bits .and .i64 (t1 : Int) 0 = 0 := by
    have := and_i64 t1 0 (by omega) (by omega)
    rw [Nat.pow_zero, Nat.mod_one] at this
    exact this
  have HV1 := Lib.hid (And.intro HW1.out ht2)
  clear HW1 ht2 hw1
  go_region
  change Code.rounds _ _ _ _ _ _
  clear c0 c1 c2 c3 c4 f3 f4 hl1 ha1
  obtain ⟨p1, q1⟩ := pg.setB 0
  have p5 := p1.drew
  have q5 := (qg.trans q1).drew
  clear p1 q1 pg qg
  generalize World.drew (World.setCell w4 _ _) = W2 at p5 q5 ⊢
  rw [rounds_succ]
  obtain ⟨c0, c1, c2, c3, c4, f3, f4⟩ := p5.cells
  have hl1 := p5.b4.1
  go_wp2_with fail
  go_end0
  obtain ⟨rfl, e1⟩ := HV0.out; obtain ⟨rfl, e2⟩ := HV1.out; subst e1; subst e2; rw [Nat.div_one] at p5; exact ⟨rfl, p5, q5⟩

set_option maxRecDepth 100000 in
set_option maxHeartbeats 4000000 in
theorem putD_0 (X : Nat → Prop) (base n T b x : Nat) (xs : List UInt8) (hb : b < 1) (hx : x < 64) (w : World) (h : Hp X base n T 6 8 (.func (.func 90) #[] #[.pointer (some ⟨T, 0, none⟩)]) b 0 xs w) (_ : xs.length ≤ 800000) :
    Calls Tryz.prog 82 #[.int .i64 (x : Int), .pointer (some ⟨n + 3, 0, none⟩), .pointer (some ⟨n, 0, none⟩), .pointer (some ⟨n + 4, 0, none⟩), .pointer (some ⟨n + 1, 0, none⟩), .pointer (some ⟨n + 2, 0, none⟩)] w fun e w' => e = .returned (.tuple #[]) ∧ Hp X base n T 6 8 (.func (.func 90) #[] #[.pointer (some ⟨T, 0, none⟩)]) ((b * 64 + x) : Nat) 6 (xs) w' ∧ Stay X base w w' := by
  obtain ⟨c0, c1, c2, c3, c4, f3, f4⟩ := h.cells
  obtain ⟨t0, ht⟩ : ∃ t, t = b * 64 + x := ⟨_, rfl⟩
  have hor : bits .or .i64 ((b : Int) * 64) (x : Int) = (t0 : Int) := by
    rw [show (b : Int) * 64 = ((b * 2 ^ 6 : Nat) : Int) by omega, or_i64 _ _ (by omega) (by omega), or_add b x 6 (by omega), ht]
  have ht0 : t0 < 64 := by omega
  rw [← ht]
  clear ht
  have hl1 := h.b4.1
  have HP := Lib.hid h; clear h
  go_enter Tryz.func82, Tryz.ntmps82
  go_wp2_with fail
  go_region
  rename_i K hK
  show K _ _
  refine hK _ _ ?_
  clear hK
  obtain ⟨p1, q1⟩ := HP.out.setB (t0 : Int)
  obtain ⟨p2, q2⟩ := p1.setK 6
  have q3 := (q1.trans q2).drew
  have p3 := p2.drew
  clear p1 p2 q1 q2 c0 c1 c2 c3 c4 f3 f4 hor HP hb hx hl1
  generalize World.drew (World.setCell (World.setCell w _ _) _ _) = W0 at p3 q3 ⊢
  go_wp2_with fail
  refine wp_loop_rounds 1 ?_
  rw [rounds_succ]
  obtain ⟨c0, c1, c2, c3, c4, f3, f4⟩ := p3.cells
  have hl1 := p3.b4.1
  go_wp2_with fail
  go_end0
  exact ⟨rfl, p3, q3⟩

set_option maxRecDepth 100000 in
set_option maxHeartbeats 4000000 in
theorem putD_6 (X : Nat → Prop) (base n T b x : Nat) (xs : List UInt8) (hb : b < 64) (hx : x < 64) (w : World) (h : Hp X base n T 6 8 (.func (.func 90) #[] #[.pointer (some ⟨T, 0, none⟩)]) b 6 xs w) (hl : xs.length ≤ 800000) :
    Calls Tryz.prog 82 #[.int .i64 (x : Int), .pointer (some ⟨n + 3, 0, none⟩), .pointer (some ⟨n, 0, none⟩), .pointer (some ⟨n + 4, 0, none⟩), .pointer (some ⟨n + 1, 0, none⟩), .pointer (some ⟨n + 2, 0, none⟩)] w fun e w' => e = .returned (.tuple #[]) ∧ Hp X base n T 6 8 (.func (.func 90) #[] #[.pointer (some ⟨T, 0, none⟩)]) (((b * 64 + x) % 16) : Nat) 4 (xs ++ [byt ((b * 64 + x) / 16)]) w' ∧ Stay X base w w' := by
  obtain ⟨c0, c1, c2, c3, c4, f3, f4⟩ := h.cells
  obtain ⟨t0, ht⟩ : ∃ t, t = b * 64 + x := ⟨_, rfl⟩
  have hor : bits .or .i64 ((b : Int) * 64) (x : Int) = (t0 : Int) := by
    rw [show (b : Int) * 64 = ((b * 2 ^ 6 : Nat) : Int) by omega, or_i64 _ _ (by omega) (by omega), or_add b x 6 (by omega), ht]
  have ht0 : t0 < 4096 := by omega
  rw [← ht]
  clear ht
  have hl1 := h.b4.1
  have HP := Lib.hid h; clear h
  go_enter Tryz.func82, Tryz.ntmps82
  go_wp2_with fail
  go_region
  rename_i K hK
  show K _ _
  refine hK _ _ ?_
  clear hK
  obtain ⟨p1, q1⟩ := HP.out.setB (t0 : Int)
  obtain ⟨p2, q2⟩ := p1.setK 12
  have q3 := (q1.trans q2).drew
  have p3 := p2.drew
  clear p1 p2 q1 q2 c0 c1 c2 c3 c4 f3 f4 hor HP hb hx hl1
  generalize World.drew (World.setCell (World.setCell w _ _) _ _) = W0 at p3 q3 ⊢
  go_wp2_with fail
  refine wp_loop_rounds 2 ?_
  rw [rounds_succ]
  obtain ⟨c0, c1, c2, c3, c4, f3, f4⟩ := p3.cells
  have hl1 := p3.b4.1
  obtain ⟨v0, hv0⟩ : ∃ v : Nat, v = t0 / 16 := ⟨_, rfl⟩
  have hw0 : (t0 : Int) / 16 = (v0 : Int) := by omega
  obtain ⟨pk, qk⟩ := p3.setK 4
  have pd := pk.drew
  have HU := Lib.hid (useD_any X base n T 6 8 _ (t0 : Int) 4 (xs) v0 (by omega) _ pd (by omega))
  have QK := Lib.hid qk.drew
  have HW0 := Lib.hid hv0
  have HD := Lib.hid (And.intro pd.cells.2.2.1 (And.intro pd.cells.2.2.2.1 pd.cells.2.2.2.2.1))
  clear pk qk pd hv0
  clear p3
  go_wp2_with fail
  have d2 : (W0.setCell ⟨n + 4, 0, none⟩ (.int .i64 4)).drew.cell? ⟨n + 2, 0, none⟩ = some (.func (.func 90) #[] #[.pointer (some ⟨T, 0, none⟩)]) := HD.out.1
  have d3 : (W0.setCell ⟨n + 4, 0, none⟩ (.int .i64 4)).drew.cell? ⟨n + 3, 0, none⟩ = some (.int .i64 t0) := HD.out.2.1
  have d4 : (W0.setCell ⟨n + 4, 0, none⟩ (.int .i64 4)).drew.cell? ⟨n + 4, 0, none⟩ = some (.int .i64 4) := HD.out.2.2
  go_region_held3 (fun W => W.cell? ⟨n + 2, 0, none⟩ = some (.func (.func 90) #[] #[.pointer (some ⟨T, 0, none⟩)]) ∧ W.cell? ⟨n + 3, 0, none⟩ = some (.int .i64 t0) ∧ W.cell? ⟨n + 4, 0, none⟩ = some (.int .i64 4)) (first | (with_reducible exact ⟨d2, d3, d4⟩) | (with_reducible exact ⟨ph.cells.2.2.1, ph.cells.2.2.2.1, ph.cells.2.2.2.2.1⟩)) ((go_at_call 90; refine HU.out.mono ?_; rintro e w3 ⟨rfl, ph, qh⟩))
  clear c0 c1 c2 c3 c4 f3 f4 hl1
  have pg := ph
  have qg := q3.trans (QK.out.trans qh)
  clear HU QK qh ph q3 HD d2 d3 d4
  rename_i K1 hK1 hS
  refine hK1 _ _ ?_
  clear hK1 K1 hS
  obtain ⟨c0, c1, c2, c3, c4, f3, f4⟩ := pg.cells
  have hl1 := pg.b4.1
  obtain ⟨t1, ht1⟩ : ∃ t : Nat, t = t0 % 16 := ⟨_, rfl⟩
  have ha0 : bits .and .i64 (t0 : Int) 15 = (t1 : Int) := by
    have := and_i64 t0 4 (by omega) (by omega)
    rw [ht1]; exact this
  have hb1 : t1 < 16 := by omega
  have HV0 := Lib.hid (And.intro HW0.out ht1)
  clear HW0 ht1 hw0
  go_region
  change Code.rounds _ _ _ _ _ _
  clear c0 c1 c2 c3 c4 f3 f4 hl1 ha0
  obtain ⟨p1, q1⟩ := pg.setB (t1 : Int)
  have p4 := p1.drew
  have q4 := (qg.trans q1).drew
  clear p1 q1 pg qg
  generalize World.drew (World.setCell w3 _ _) = W1 at p4 q4 ⊢
  rw [rounds_succ]
  obtain ⟨c0, c1, c2, c3, c4, f3, f4⟩ := p4.cells
  have hl1 := p4.b4.1
  go_wp2_with fail
  go_end0
  obtain ⟨rfl, e1⟩ := HV0.out; subst e1; exact ⟨rfl, p4, q4⟩

set_option maxRecDepth 100000 in
set_option maxHeartbeats 4000000 in
theorem putD_4 (X : Nat → Prop) (base n T b x : Nat) (xs : List UInt8) (hb : b < 16) (hx : x < 64) (w : World) (h : Hp X base n T 6 8 (.func (.func 90) #[] #[.pointer (some ⟨T, 0, none⟩)]) b 4 xs w) (hl : xs.length ≤ 800000) :
    Calls Tryz.prog 82 #[.int .i64 (x : Int), .pointer (some ⟨n + 3, 0, none⟩), .pointer (some ⟨n, 0, none⟩), .pointer (some ⟨n + 4, 0, none⟩), .pointer (some ⟨n + 1, 0, none⟩), .pointer (some ⟨n + 2, 0, none⟩)] w fun e w' => e = .returned (.tuple #[]) ∧ Hp X base n T 6 8 (.func (.func 90) #[] #[.pointer (some ⟨T, 0, none⟩)]) (((b * 64 + x) % 4) : Nat) 2 (xs ++ [byt ((b * 64 + x) / 4)]) w' ∧ Stay X base w w' := by
  obtain ⟨c0, c1, c2, c3, c4, f3, f4⟩ := h.cells
  obtain ⟨t0, ht⟩ : ∃ t, t = b * 64 + x := ⟨_, rfl⟩
  have hor : bits .or .i64 ((b : Int) * 64) (x : Int) = (t0 : Int) := by
    rw [show (b : Int) * 64 = ((b * 2 ^ 6 : Nat) : Int) by omega, or_i64 _ _ (by omega) (by omega), or_add b x 6 (by omega), ht]
  have ht0 : t0 < 1024 := by omega
  rw [← ht]
  clear ht
  have hl1 := h.b4.1
  have HP := Lib.hid h; clear h
  go_enter Tryz.func82, Tryz.ntmps82
  go_wp2_with fail
  go_region
  rename_i K hK
  show K _ _
  refine hK _ _ ?_
  clear hK
  obtain ⟨p1, q1⟩ := HP.out.setB (t0 : Int)
  obtain ⟨p2, q2⟩ := p1.setK 10
  have q3 := (q1.trans q2).drew
  have p3 := p2.drew
  clear p1 p2 q1 q2 c0 c1 c2 c3 c4 f3 f4 hor HP hb hx hl1
  generalize World.drew (World.setCell (World.setCell w _ _) _ _) = W0 at p3 q3 ⊢
  go_wp2_with fail
  refine wp_loop_rounds 2 ?_
  rw [rounds_succ]
  obtain ⟨c0, c1, c2, c3, c4, f3, f4⟩ := p3.cells
  have hl1 := p3.b4.1
  obtain ⟨v0, hv0⟩ : ∃ v : Nat, v = t0 / 4 := ⟨_, rfl⟩
  have hw0 : (t0 : Int) / 4 = (v0 : Int) := by omega
  obtain ⟨pk, qk⟩ := p3.setK 2
  have pd := pk.drew
  have HU := Lib.hid (useD_any X base n T 6 8 _ (t0 : Int) 2 (xs) v0 (by omega) _ pd (by omega))
  have QK := Lib.hid qk.drew
  have HW0 := Lib.hid hv0
  have HD := Lib.hid (And.intro pd.cells.2.2.1 (And.intro pd.cells.2.2.2.1 pd.cells.2.2.2.2.1))
  clear pk qk pd hv0
  clear p3
  go_wp2_with fail
  have d2 : (W0.setCell ⟨n + 4, 0, none⟩ (.int .i64 2)).drew.cell? ⟨n + 2, 0, none⟩ = some (.func (.func 90) #[] #[.pointer (some ⟨T, 0, none⟩)]) := HD.out.1
  have d3 : (W0.setCell ⟨n + 4, 0, none⟩ (.int .i64 2)).drew.cell? ⟨n + 3, 0, none⟩ = some (.int .i64 t0) := HD.out.2.1
  have d4 : (W0.setCell ⟨n + 4, 0, none⟩ (.int .i64 2)).drew.cell? ⟨n + 4, 0, none⟩ = some (.int .i64 2) := HD.out.2.2
  go_region_held3 (fun W => W.cell? ⟨n + 2, 0, none⟩ = some (.func (.func 90) #[] #[.pointer (some ⟨T, 0, none⟩)]) ∧ W.cell? ⟨n + 3, 0, none⟩ = some (.int .i64 t0) ∧ W.cell? ⟨n + 4, 0, none⟩ = some (.int .i64 2)) (first | (with_reducible exact ⟨d2, d3, d4⟩) | (with_reducible exact ⟨ph.cells.2.2.1, ph.cells.2.2.2.1, ph.cells.2.2.2.2.1⟩)) ((go_at_call 90; refine HU.out.mono ?_; rintro e w3 ⟨rfl, ph, qh⟩))
  clear c0 c1 c2 c3 c4 f3 f4 hl1
  have pg := ph
  have qg := q3.trans (QK.out.trans qh)
  clear HU QK qh ph q3 HD d2 d3 d4
  rename_i K1 hK1 hS
  refine hK1 _ _ ?_
  clear hK1 K1 hS
  obtain ⟨c0, c1, c2, c3, c4, f3, f4⟩ := pg.cells
  have hl1 := pg.b4.1
  obtain ⟨t1, ht1⟩ : ∃ t : Nat, t = t0 % 4 := ⟨_, rfl⟩
  have ha0 : bits .and .i64 (t0 : Int) 3 = (t1 : Int) := by
    have := and_i64 t0 2 (by omega) (by omega)
    rw [ht1]; exact this
  have hb1 : t1 < 4 := by omega
  have HV0 := Lib.hid (And.intro HW0.out ht1)
  clear HW0 ht1 hw0
  go_region
  change Code.rounds _ _ _ _ _ _
  clear c0 c1 c2 c3 c4 f3 f4 hl1 ha0
  obtain ⟨p1, q1⟩ := pg.setB (t1 : Int)
  have p4 := p1.drew
  have q4 := (qg.trans q1).drew
  clear p1 q1 pg qg
  generalize World.drew (World.setCell w3 _ _) = W1 at p4 q4 ⊢
  rw [rounds_succ]
  obtain ⟨c0, c1, c2, c3, c4, f3, f4⟩ := p4.cells
  have hl1 := p4.b4.1
  go_wp2_with fail
  go_end0
  obtain ⟨rfl, e1⟩ := HV0.out; subst e1; exact ⟨rfl, p4, q4⟩

set_option maxRecDepth 100000 in
set_option maxHeartbeats 4000000 in
theorem putD_2 (X : Nat → Prop) (base n T b x : Nat) (xs : List UInt8) (hb : b < 4) (hx : x < 64) (w : World) (h : Hp X base n T 6 8 (.func (.func 90) #[] #[.pointer (some ⟨T, 0, none⟩)]) b 2 xs w) (hl : xs.length ≤ 800000) :
    Calls Tryz.prog 82 #[.int .i64 (x : Int), .pointer (some ⟨n + 3, 0, none⟩), .pointer (some ⟨n, 0, none⟩), .pointer (some ⟨n + 4, 0, none⟩), .pointer (some ⟨n + 1, 0, none⟩), .pointer (some ⟨n + 2, 0, none⟩)] w fun e w' => e = .returned (.tuple #[]) ∧ Hp X base n T 6 8 (.func (.func 90) #[] #[.pointer (some ⟨T, 0, none⟩)]) (0 : Nat) 0 (xs ++ [byt (b * 64 + x)]) w' ∧ Stay X base w w' := by
  obtain ⟨c0, c1, c2, c3, c4, f3, f4⟩ := h.cells
  obtain ⟨t0, ht⟩ : ∃ t, t = b * 64 + x := ⟨_, rfl⟩
  have hor : bits .or .i64 ((b : Int) * 64) (x : Int) = (t0 : Int) := by
    rw [show (b : Int) * 64 = ((b * 2 ^ 6 : Nat) : Int) by omega, or_i64 _ _ (by omega) (by omega), or_add b x 6 (by omega), ht]
  have ht0 : t0 < 256 := by omega
  rw [← ht]
  clear ht
  have hl1 := h.b4.1
  have HP := Lib.hid h; clear h
  go_enter Tryz.func82, Tryz.ntmps82
  go_wp2_with fail
  go_region
  rename_i K hK
  show K _ _
  refine hK _ _ ?_
  clear hK
  obtain ⟨p1, q1⟩ := HP.out.setB (t0 : Int)
  obtain ⟨p2, q2⟩ := p1.setK 8
  have q3 := (q1.trans q2).drew
  have p3 := p2.drew
  clear p1 p2 q1 q2 c0 c1 c2 c3 c4 f3 f4 hor HP hb hx hl1
  generalize World.drew (World.setCell (World.setCell w _ _) _ _) = W0 at p3 q3 ⊢
  go_wp2_with fail
  refine wp_loop_rounds 2 ?_
  rw [rounds_succ]
  obtain ⟨c0, c1, c2, c3, c4, f3, f4⟩ := p3.cells
  have hl1 := p3.b4.1
  obtain ⟨v0, hv0⟩ : ∃ v : Nat, v = t0 / 1 := ⟨_, rfl⟩
  have hw0 : (t0 : Int) / 1 = (v0 : Int) := by omega
  obtain ⟨pk, qk⟩ := p3.setK 0
  have pd := pk.drew
  have HU := Lib.hid (useD_any X base n T 6 8 _ (t0 : Int) 0 (xs) v0 (by omega) _ pd (by omega))
  have QK := Lib.hid qk.drew
  have HW0 := Lib.hid hv0
  have HD := Lib.hid (And.intro pd.cells.2.2.1 (And.intro pd.cells.2.2.2.1 pd.cells.2.2.2.2.1))
  clear pk qk pd hv0
  clear p3
  go_wp2_with fail
  have d2 : (W0.setCell ⟨n + 4, 0, none⟩ (.int .i64 0)).drew.cell? ⟨n + 2, 0, none⟩ = some (.func (.func 90) #[] #[.pointer (some ⟨T, 0, none⟩)]) := HD.out.1
  have d3 : (W0.setCell ⟨n + 4, 0, none⟩ (.int .i64 0)).drew.cell? ⟨n + 3, 0, none⟩ = some (.int .i64 t0) := HD.out.2.1
  have d4 : (W0.setCell ⟨n + 4, 0, none⟩ (.int .i64 0)).drew.cell? ⟨n + 4, 0, none⟩ = some (.int .i64 0) := HD.out.2.2
  go_region_held3 (fun W => W.cell? ⟨n + 2, 0, none⟩ = some (.func (.func 90) #[] #[.pointer (some ⟨T, 0, none⟩)]) ∧ W.cell? ⟨n + 3, 0, none⟩ = some (.int .i64 t0) ∧ W.cell? ⟨n + 4, 0, none⟩ = some (.int .i64 0)) (first | (with_reducible exact ⟨d2, d3, d4⟩) | (with_reducible exact ⟨ph.cells.2.2.1, ph.cells.2.2.2.1, ph.cells.2.2.2.2.1⟩)) ((go_at_call 90; refine HU.out.mono ?_; rintro e w3 ⟨rfl, ph, qh⟩))
  clear c0 c1 c2 c3 c4 f3 f4 hl1
  have pg := ph
  have qg := q3.trans (QK.out.trans qh)
  clear HU QK qh ph q3 HD d2 d3 d4
  rename_i K1 hK1 hS
  refine hK1 _ _ ?_
  clear hK1 K1 hS
  obtain ⟨c0, c1, c2, c3, c4, f3, f4⟩ := pg.cells
  have hl1 := pg.b4.1
  obtain ⟨t1, ht1⟩ : ∃ t : Nat, t = 0 := ⟨_, rfl⟩
  have ha0 : bits .and .i64 (t0 : Int) 0 = 0 := by
    have := and_i64 t0 0 (by omega) (by omega)
    rw [Nat.pow_zero, Nat.mod_one] at this
    exact this
  have HV0 := Lib.hid (And.intro HW0.out ht1)
  clear HW0 ht1 hw0
  go_region
  change Code.rounds _ _ _ _ _ _
  clear c0 c1 c2 c3 c4 f3 f4 hl1 ha0
  obtain ⟨p1, q1⟩ := pg.setB 0
  have p4 := p1.drew
  have q4 := (qg.trans q1).drew
  clear p1 q1 pg qg
  generalize World.drew (World.setCell w3 _ _) = W1 at p4 q4 ⊢
  rw [rounds_succ]
  obtain ⟨c0, c1, c2, c3, c4, f3, f4⟩ := p4.cells
  have hl1 := p4.b4.1
  go_wp2_with fail
  go_end0
  obtain ⟨rfl, e1⟩ := HV0.out; subst e1; rw [Nat.div_one] at p4; exact ⟨rfl, p4, q4⟩
end Go.Proofs.YtoilcigmpeaedaaGreatDoor.B64
