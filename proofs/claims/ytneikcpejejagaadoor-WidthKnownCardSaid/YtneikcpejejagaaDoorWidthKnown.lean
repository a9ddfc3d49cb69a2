/-
  The walk of the law WidthKnown: it returns true; nothing that lay before the call has turned.
-/
import Derived.Test.YtneikcpejejagaaDoorWidF
import Derived.Deep.DeepCutAuto
namespace Go.Proofs.YtneikcpejejagaaDoor.Wid
open Go.RowKit Utf

def kzL : List Int := [768, 879, 1155, 1161, 1425, 1469, 1552, 1562, 1611, 1631, 6832, 6911, 7616, 7679, 8203, 8207, 8400, 8447, 65024, 65039, 65056, 65071]
def ktL : List Int := [4352, 4447, 11904, 12350, 12353, 19903, 19968, 42191, 44032, 55203, 63744, 64255, 65072, 65135, 65280, 65376, 65504, 65510, 127744, 128591, 131072, 262141]
def kZ : Array Value := #[.int .i64 768, .int .i64 879, .int .i64 1155, .int .i64 1161, .int .i64 1425, .int .i64 1469, .int .i64 1552, .int .i64 1562, .int .i64 1611, .int .i64 1631, .int .i64 6832, .int .i64 6911, .int .i64 7616, .int .i64 7679, .int .i64 8203, .int .i64 8207, .int .i64 8400, .int .i64 8447, .int .i64 65024, .int .i64 65039, .int .i64 65056, .int .i64 65071]
def kT : Array Value := #[.int .i64 4352, .int .i64 4447, .int .i64 11904, .int .i64 12350, .int .i64 12353, .int .i64 19903, .int .i64 19968, .int .i64 42191, .int .i64 44032, .int .i64 55203, .int .i64 63744, .int .i64 64255, .int .i64 65072, .int .i64 65135, .int .i64 65280, .int .i64 65376, .int .i64 65504, .int .i64 65510, .int .i64 127744, .int .i64 128591, .int .i64 131072, .int .i64 262141]
/-- what the law asks at place k -/
def kOk (k : Nat) (z t : Int) : Prop := wid z = 0 ∧ wid t = 2 ∧ (z ≠ 65071 → wid (z + (2 * ((k : Int) % 2) - 1)) = 1) ∧ (t ≠ 65072 → wid (t + (2 * ((k : Int) % 2) - 1)) ≠ 2) ∧ 0 ≤ z ∧ z ≤ 300000 ∧ 0 ≤ t ∧ t ≤ 300000
instance (k : Nat) (z t : Int) : Decidable (kOk k z t) := by unfold kOk; exact inferInstance
theorem kAll : ∀ k : Fin 22, ∃ z t : Int, kzL[k.val]? = some z ∧ ktL[k.val]? = some t ∧ kOk k.val z t := by
  have h : ∀ k : Fin 22, kOk k.val (kzL[k.val]?.getD 0) (ktL[k.val]?.getD 0) ∧ (kzL[k.val]?).isSome = true ∧ (ktL[k.val]?).isSome = true := by decide +kernel
  intro k
  obtain ⟨h1, h2, h3⟩ := h k
  obtain ⟨z, hz⟩ := Option.isSome_iff_exists.1 h2
  obtain ⟨t, ht⟩ := Option.isSome_iff_exists.1 h3
  rw [hz, ht] at h1
  exact ⟨z, t, hz, ht, h1⟩
theorem kZ_eq : kZ = (kzL.map (Value.int .i64)).toArray := rfl
theorem kT_eq : kT = (ktL.map (Value.int .i64)).toArray := rfl
theorem szK : (Tryd.prog.info? 38).map (·.size) = some kZ.size := by kernel_rfl
theorem szK2 : (Tryd.prog.info? 38).map (·.size) = some kT.size := by kernel_rfl
theorem kZ_one : kZ.all (·.oneCell') = true := all_oneCell_toArray (cI_one kzL)
theorem kT_one : kT.all (·.oneCell') = true := all_oneCell_toArray (cI_one ktL)
attribute [local go_sem] sizeCells
theorem wpList_build_as {P : Program} {ops : Array Oper} {rest : List Oper} {o : Oper} {a : Act} {w : World} {Q : Exit → Act → World → Prop} (hgd : o.guard = none) (t : TypeId) (parts : Array (Nat × Operand)) (ho : o.op = .build t parts) (cells : Array Value)
    (hb : P.built t (parts.map fun (i, x) => (i, a.eval x)).toList = some cells) (h : wpList P ops Q rest (a.put o.dst (.agg cells)) w) : wpList P ops Q (o :: rest) a w :=
  wpList_plain hgd fun _ hK => wp_build t parts ho (by rw [hb]; rfl) (by rw [hb]; exact hK _ _ h)
theorem there_after (w : World) (o : Obj) (vs : List Value) (cs : Array Value) (t : TypeId) (n b : Nat) (h : n ≤ cs.size) : (((w.alloc o).setCells b 0 vs).alloc (.cells cs t)).there (w.heap.size + 1) 0 n := by
  have := there_new ((w.alloc o).setCells b 0 vs) cs t n h
  rwa [sizeCells, World.size_alloc] at this
def kW (w : World) : World := (((w.alloc (.cells #[.int .i64 0, .int .i64 0, .int .i64 0, .int .i64 0, .int .i64 0, .int .i64 0, .int .i64 0, .int .i64 0, .int .i64 0, .int .i64 0, .int .i64 0, .int .i64 0, .int .i64 0, .int .i64 0, .int .i64 0, .int .i64 0, .int .i64 0, .int .i64 0, .int .i64 0, .int .i64 0, .int .i64 0, .int .i64 0] 38)).setCells w.heap.size 0 kZ.toList).alloc (.cells #[.int .i64 0, .int .i64 0, .int .i64 0, .int .i64 0, .int .i64 0, .int .i64 0, .int .i64 0, .int .i64 0, .int .i64 0, .int .i64 0, .int .i64 0, .int .i64 0, .int .i64 0, .int .i64 0, .int .i64 0, .int .i64 0, .int .i64 0, .int .i64 0, .int .i64 0, .int .i64 0, .int .i64 0, .int .i64 0] 38)).setCells (w.heap.size + 1) 0 kT.toList
theorem kW_ok (w : World) : (kW w).rangeAt w.heap.size 0 kZ.toList ∧ (kW w).rangeAt (w.heap.size + 1) 0 kT.toList ∧ Below w.heap.size w (kW w) ∧ (kW w).heap.size = w.heap.size + 2 := by
  unfold kW
  refine ⟨?_, ?_, ?_, ?_⟩
  · refine World.rangeAt_setCells_apart (World.rangeAt_alloc (World.rangeAt_setCells_same _ _ _ _ ?_) _) _ _ _ (.inl (by omega))
    exact there_new _ _ _ _ (by decide)
  · refine World.rangeAt_setCells_same _ _ _ _ ?_
    exact there_after _ _ _ _ _ _ _ (by decide)
  · exact ((((Below.refl _ w).alloc (Nat.le_refl _) _).trans (Lib.below_setCells_w (Nat.le_refl _) _ _ _)).alloc (by rw [sizeCells]; simp) _).trans (Lib.below_setCells_w (by omega) _ _ _)
  · rw [sizeCells, World.size_alloc, sizeCells, World.size_alloc]

set_option maxRecDepth 100000 in
set_option maxHeartbeats 8000000 in
theorem known_any (w : World) (h : Tb w) : Calls Tryd.prog 7 #[] w fun e w' => e = .returned (.bool true) ∧ Below w.heap.size w w' := by
  have H := Lib.hid h; clear h
  go_enter Tryd.func7, Tryd.ntmps7
  go_upto_region 2 with (first
    | ((with_reducible refine wpList_build_as rfl 38 _ rfl kZ ?hb ?_); (case hb => kernel_rfl))
    | ((with_reducible refine wpList_store_mid rfl 38 (.tmp 1) (.tmp 7) rfl w.heap.size 0 kZ rfl rfl ?ht szK kZ_one ?_); (case ht => exact there_new _ _ _ _ (by decide))))
  go_wp2_with (first
    | ((with_reducible refine wpList_build_as rfl 38 _ rfl kT ?hb ?_); (case hb => kernel_rfl))
    | ((with_reducible refine wpList_store_mid rfl 38 (.tmp 2) (.tmp 8) rfl (w.heap.size + 1) 0 kT rfl rfl ?ht szK2 kT_one ?_); (case ht => exact there_after _ _ _ _ _ _ _ (by decide))))
  change Code.wp _ _ _ _ (kW w)
  obtain ⟨r1, r2, hb2, hsz⟩ := kW_ok w
  obtain ⟨w2, hw2⟩ : ∃ w2, kW w = w2 := ⟨_, rfl⟩
  rw [hw2] at r1 r2 hb2 hsz ⊢
  clear hw2
  have Hsz := Lib.hid hsz; clear hsz
  have HC := Lib.hid (show ∀ k, k < 22 → ∃ z t : Int, w2.cell? ⟨w.heap.size, k, none⟩ = some (.int .i64 z) ∧ w2.cell? ⟨w.heap.size + 1, k, none⟩ = some (.int .i64 t) ∧ kOk k z t from fun k hk => by
    obtain ⟨z, t, hz, ht, hok⟩ := kAll ⟨k, hk⟩
    refine ⟨z, t, ?_, ?_, hok⟩
    · have := r1 k (.int .i64 z) (by rw [kZ_eq]; simp at hz; simp [hz])
      rwa [Nat.zero_add] at this
    · have := r2 k (.int .i64 t) (by rw [kT_eq]; simp at ht; simp [ht])
      rwa [Nat.zero_add] at this)
  clear r1 r2
  go_loopw [3] (fun i wr => ∃ k : Nat, k ≤ 22 ∧ i = .int .i64 k ∧ Hid (Below w2.heap.size w2 wr)) (fun i _ => 22 - (intOf i).toNat)
  case atStart => exact ⟨0, by omega, rfl, Below.refl _ _⟩
  case round =>
    obtain ⟨k, hk, rfl, hid⟩ := hrel
    by_cases hlt : k < 22
    · obtain ⟨z, t, hc1, hc2, hok⟩ := (HC.out) k hlt
      have p1 := (hid.out.cell (p := ⟨w.heap.size, k, none⟩) (by rw [Hsz.out]; show w.heap.size < _; omega)).trans hc1
      have p2 := (hid.out.cell (p := ⟨w.heap.size + 1, k, none⟩) (by rw [Hsz.out]; show w.heap.size + 1 < _; omega)).trans hc2
      have hs2 := hid.out.size
      have hl1 : w.heap.size + 1 < w2.heap.size := by rw [Hsz.out]; omega
      have h0 : Below w.heap.size w wr := hb2.trans (hid.out.mono hb2.size)
      obtain ⟨o1, o2, o3, o4, o5, o6, o7, o8⟩ := hok
      have O1 := Lib.hid o1; clear o1
      have O2 := Lib.hid o2; clear o2
      have O3 := Lib.hid o3; clear o3
      have O4 := Lib.hid o4; clear o4
      clear hc1 hc2
      have p0 := p1
      have r0 := p2
      have g0 := hid.out
      have s0 : w.heap.size + 1 < wr.heap.size := Nat.lt_of_lt_of_le hl1 hs2
      clear p1 p2 hid hs2 hl1
      go_wp2_with fail
      obtain ⟨sd, hsd⟩ : ∃ sd : Int, 2 * ((k : Int) % 2) - 1 = sd := ⟨_, rfl⟩
      rw [hsd] at O3 O4 ⊢
      have sd1 : -1 ≤ sd := by omega
      have sd2 : sd ≤ 1 := by omega
      clear hsd
      refine (of_is z 0 O1.out _ ((H.out).keep h0)).mono ?_
      rintro e w1 ⟨rfl, hb1⟩
      have h1 := h0.trans (hb1.mono h0.size)
      have g1 := g0.trans (hb1.mono g0.size)
      have p1 := (hb1.cell (p := ⟨w.heap.size, k, none⟩) (show w.heap.size < _ by omega)).trans p0
      have r1 := (hb1.cell (p := ⟨w.heap.size + 1, k, none⟩) (show w.heap.size + 1 < _ by omega)).trans r0
      have s1 : w.heap.size + 1 < w1.heap.size := Nat.lt_of_lt_of_le s0 hb1.size
      clear hb1 h0 g0 p0 r0 s0
      go_wp2_with fail
      refine (of_is t 2 O2.out _ ((H.out).keep h1)).mono ?_
      rintro e w2 ⟨rfl, hb2⟩
      have h2 := h1.trans (hb2.mono h1.size)
      have g2 := g1.trans (hb2.mono g1.size)
      have p2 := (hb2.cell (p := ⟨w.heap.size, k, none⟩) (show w.heap.size < _ by omega)).trans p1
      have r2 := (hb2.cell (p := ⟨w.heap.size + 1, k, none⟩) (show w.heap.size + 1 < _ by omega)).trans r1
      have s2 : w.heap.size + 1 < w2.heap.size := Nat.lt_of_lt_of_le s1 hb2.size
      clear hb2 h1 g1 p1 r1 s1
      by_cases hz : z = 65071
      · subst hz
        by_cases ht : t = 65072
        · subst ht
          go_wp2
          go_roundw
          case rel => exact ⟨k + 1, by omega, by go_num, g2⟩
          case measure => simp [intOf]; omega
        · have Ht := Lib.hid (O4.out ht)
          have t1 : (t != 65072) = true := by simp [ht]
          clear ht
          go_wp2_with fail
          refine (of_any (t + sd) _ ((H.out).keep h2)).mono ?_
          rintro e w3 ⟨rfl, hb3⟩
          have h3 := h2.trans (hb3.mono h2.size)
          have g3 := g2.trans (hb3.mono g2.size)
          have p3 := (hb3.cell (p := ⟨w.heap.size, k, none⟩) (show w.heap.size < _ by omega)).trans p2
          have r3 := (hb3.cell (p := ⟨w.heap.size + 1, k, none⟩) (show w.heap.size + 1 < _ by omega)).trans r2
          have s3 : w.heap.size + 1 < w3.heap.size := Nat.lt_of_lt_of_le s2 hb3.size
          clear hb3 h2 g2 p2 r2 s2
          have t2 : (wid (t + sd) == 2) = false := by simp [Ht.out]
          go_wp2
          go_roundw
          case rel => exact ⟨k + 1, by omega, by go_num, g3⟩
          case measure => simp [intOf]; omega
      · have Hz := Lib.hid (O3.out hz)
        have z1 : (z != 65071) = true := by simp [hz]
        clear hz
        go_wp2_with fail
        refine (of_is (z + sd) 1 Hz.out _ ((H.out).keep h2)).mono ?_
        rintro e w3 ⟨rfl, hb3⟩
        have h3 := h2.trans (hb3.mono h2.size)
        have g3 := g2.trans (hb3.mono g2.size)
        have p3 := (hb3.cell (p := ⟨w.heap.size, k, none⟩) (show w.heap.size < _ by omega)).trans p2
        have r3 := (hb3.cell (p := ⟨w.heap.size + 1, k, none⟩) (show w.heap.size + 1 < _ by omega)).trans r2
        have s3 : w.heap.size + 1 < w3.heap.size := Nat.lt_of_lt_of_le s2 hb3.size
        clear hb3 h2 g2 p2 r2 s2
        by_cases ht : t = 65072
        · subst ht
          go_wp2
          go_roundw
          case rel => exact ⟨k + 1, by omega, by go_num, g3⟩
          case measure => simp [intOf]; omega
        · have Ht := Lib.hid (O4.out ht)
          have t1 : (t != 65072) = true := by simp [ht]
          clear ht
          go_wp2_with fail
          refine (of_any (t + sd) _ ((H.out).keep h3)).mono ?_
          rintro e w4 ⟨rfl, hb4⟩
          have h4 := h3.trans (hb4.mono h3.size)
          have g4 := g3.trans (hb4.mono g3.size)
          have p4 := (hb4.cell (p := ⟨w.heap.size, k, none⟩) (show w.heap.size < _ by omega)).trans p3
          have r4 := (hb4.cell (p := ⟨w.heap.size + 1, k, none⟩) (show w.heap.size + 1 < _ by omega)).trans r3
          have s4 : w.heap.size + 1 < w4.heap.size := Nat.lt_of_lt_of_le s3 hb4.size
          clear hb4 h3 g3 p3 r3 s3
          have t2 : (wid (t + sd) == 2) = false := by simp [Ht.out]
          go_wp2
          go_roundw
          case rel => exact ⟨k + 1, by omega, by go_num, g4⟩
          case measure => simp [intOf]; omega
    · have h0 : Below w.heap.size w wr := hb2.trans (hid.out.mono hb2.size)
      clear hid HC Hsz hb2
      go_wp2_with fail
      refine (of_is _ 2 (by decide +kernel) _ ((H.out).keep h0)).mono ?_
      rintro e w1 ⟨rfl, hb1⟩
      have h1 := h0.trans (hb1.mono h0.size)
      clear hb1 h0
      go_wp2_with fail
      refine (of_is _ 2 (by decide +kernel) _ ((H.out).keep h1)).mono ?_
      rintro e w2 ⟨rfl, hb2⟩
      have h2 := h1.trans (hb2.mono h1.size)
      clear hb2 h1
      go_wp2_with fail
      refine (of_is _ 2 (by decide +kernel) _ ((H.out).keep h2)).mono ?_
      rintro e w3 ⟨rfl, hb3⟩
      have h3 := h2.trans (hb3.mono h2.size)
      clear hb3 h2
      go_wp2_with fail
      refine (of_is _ 2 (by decide +kernel) _ ((H.out).keep h3)).mono ?_
      rintro e w4 ⟨rfl, hb4⟩
      have h4 := h3.trans (hb4.mono h3.size)
      clear hb4 h3
      go_wp2_with fail
      refine (of_is _ 1 (by decide +kernel) _ ((H.out).keep h4)).mono ?_
      rintro e w5 ⟨rfl, hb5⟩
      have h5 := h4.trans (hb5.mono h4.size)
      clear hb5 h4
      go_wp2_with fail
      refine (of_is _ 1 (by decide +kernel) _ ((H.out).keep h5)).mono ?_
      rintro e w6 ⟨rfl, hb6⟩
      have h6 := h5.trans (hb6.mono h5.size)
      clear hb6 h5
      go_wp2_with fail
      refine (of_is _ 1 (by decide +kernel) _ ((H.out).keep h6)).mono ?_
      rintro e w7 ⟨rfl, hb7⟩
      have h7 := h6.trans (hb7.mono h6.size)
      clear hb7 h6
      go_wp2_with fail
      refine (of_is _ (-1) (by decide +kernel) _ ((H.out).keep h7)).mono ?_
      rintro e w8 ⟨rfl, hb8⟩
      have h8 := h7.trans (hb8.mono h7.size)
      clear hb8 h7
      go_wp2_with fail
      refine (of_is _ (-1) (by decide +kernel) _ ((H.out).keep h8)).mono ?_
      rintro e w9 ⟨rfl, hb9⟩
      have h9 := h8.trans (hb9.mono h8.size)
      clear hb9 h8
      go_wp2_with fail
      refine (of_is _ 1 (by decide +kernel) _ ((H.out).keep h9)).mono ?_
      rintro e w10 ⟨rfl, hb10⟩
      have h10 := h9.trans (hb10.mono h9.size)
      clear hb10 h9
      go_wp2_with fail
      refine (of_is _ 1 (by decide +kernel) _ ((H.out).keep h10)).mono ?_
      rintro e w11 ⟨rfl, hb11⟩
      have h11 := h10.trans (hb11.mono h10.size)
      clear hb11 h10
      go_wp2_with fail
      refine (of_is _ (-1) (by decide +kernel) _ ((H.out).keep h11)).mono ?_
      rintro e w12 ⟨rfl, hb12⟩
      have h12 := h11.trans (hb12.mono h11.size)
      clear hb12 h11
      go_wp2_with fail
      refine (of_is _ (-1) (by decide +kernel) _ ((H.out).keep h12)).mono ?_
      rintro e w13 ⟨rfl, hb13⟩
      have h13 := h12.trans (hb13.mono h12.size)
      clear hb13 h12
      go_wp2_with fail
      refine (of_is _ 1 (by decide +kernel) _ ((H.out).keep h13)).mono ?_
      rintro e w14 ⟨rfl, hb14⟩
      have h14 := h13.trans (hb14.mono h13.size)
      clear hb14 h13
      go_wp2_with fail
      refine (of_is _ (-1) (by decide +kernel) _ ((H.out).keep h14)).mono ?_
      rintro e w15 ⟨rfl, hb15⟩
      have h15 := h14.trans (hb15.mono h14.size)
      clear hb15 h14
      go_wp2_with fail
      refine (of_is _ 1 (by decide +kernel) _ ((H.out).keep h15)).mono ?_
      rintro e w16 ⟨rfl, hb16⟩
      have h16 := h15.trans (hb16.mono h15.size)
      clear hb16 h15
      go_wp2_with fail
      refine (of_is _ (-1) (by decide +kernel) _ ((H.out).keep h16)).mono ?_
      rintro e w17 ⟨rfl, hb17⟩
      have h17 := h16.trans (hb17.mono h16.size)
      clear hb17 h16
      go_wp2_with fail
      refine (of_is _ 1 (by decide +kernel) _ ((H.out).keep h17)).mono ?_
      rintro e w18 ⟨rfl, hb18⟩
      have h18 := h17.trans (hb18.mono h17.size)
      clear hb18 h17
      go_wp2_with fail
      refine (works_any _ ((H.out).keep h18)).mono ?_
      rintro e w19 ⟨rfl, hb19⟩
      have h19 := h18.trans (hb19.mono h18.size)
      clear hb19 h18
      go_wp2_with fail
      refine (wtext_is _ 0 (by decide +kernel) _ ((H.out).keep h19) (by decide +kernel)).mono ?_
      rintro e w20 ⟨rfl, hb20⟩
      have h20 := h19.trans (hb20.mono h19.size)
      clear hb20 h19
      go_wp2_with fail
      refine (cuts_yes _ _ _ _ _ ((H.out).keep h20) (by decide +kernel) (by decide +kernel) (by decide +kernel)).mono ?_
      rintro e w21 ⟨rfl, hb21⟩
      have h21 := h20.trans (hb21.mono h20.size)
      clear hb21 h20
      go_wp2_with fail
      refine (cuts_yes _ _ _ _ _ ((H.out).keep h21) (by decide +kernel) (by decide +kernel) (by decide +kernel)).mono ?_
      rintro e w22 ⟨rfl, hb22⟩
      have h22 := h21.trans (hb22.mono h21.size)
      clear hb22 h21
      go_wp2_with fail
      refine (wtext_is _ 1 (by decide +kernel) _ ((H.out).keep h22) (by decide +kernel)).mono ?_
      rintro e w23 ⟨rfl, hb23⟩
      have h23 := h22.trans (hb23.mono h22.size)
      clear hb23 h22
      go_wp2
      go_ret
      exact ⟨rfl, h23⟩
end Go.Proofs.YtneikcpejejagaaDoor.Wid
