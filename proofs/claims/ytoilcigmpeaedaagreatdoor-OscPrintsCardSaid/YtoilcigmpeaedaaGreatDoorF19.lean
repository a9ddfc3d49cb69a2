/-
  B64B
-/
import Derived.Deep.RegionHeld3
import Derived.Deep.RegionWith
import Derived.Deep.RegionLaw
import Derived.Deep.RegionLawGrows
import Derived.Test.YtoilcigmpeaedaaGreatDoorF4
namespace Go.Proofs.YtoilcigmpeaedaaGreatDoor.B64
open Go.RowKit Utf

theorem Hp.pushed {X : Nat → Prop} {base n T : Nat} {fr to : Int} {use : Value} {b k : Int} {xs : List UInt8} {w w1 : World} (h : Hp X base n T fr to use b k xs w) {v : Value} (hv : Box w T [v]) (hof : ∀ g, v.ownBlock = some g → g ≠ T ∧ ¬ (n ≤ g ∧ g < n + 5) ∧ ¬ X g)
    {v' : Value} {c : UInt8} (hown : w.ownsRow base 5 1 v xs.length (cB xs)) (hown' : w1.ownsRow base 5 1 v' (xs.length + 1) (cB (xs ++ [c]))) (hg : w.grownBy w1 v.ownBlock) (hb : v'.ownBlock = v.ownBlock ∨ ∃ g, v'.ownBlock = some g ∧ w.heap.size ≤ g) :
    Hp X base n T fr to use b k (xs ++ [c]) (w1.setCell ⟨T, 0, none⟩ v') ∧ Stay X base w (w1.setCell ⟨T, 0, none⟩ v') := by
  have hTl := hv.1
  have ho : ∀ j, j ≠ T → some j ≠ v.ownBlock → j < w.heap.size → (w1.setCell ⟨T, 0, none⟩ v').heap[j]? = w.heap[j]? := fun j h1 h2 h3 =>
    ((grown_set w1 T 0 v').block j (Nat.lt_of_lt_of_le h3 hg.size) (fun e => h1 (by injection e))).trans (hg.block j h3 h2)
  have hs : w.heap.size ≤ (w1.setCell ⟨T, 0, none⟩ v').heap.size := by simpa using hg.size
  have hbx : ∀ i, i < 5 → ∀ cs, Box w (n + i) cs → Box (w1.setCell ⟨T, 0, none⟩ v') (n + i) cs := fun i hi cs hx => hx.at hs (ho _ (fun e => h.hTn ⟨by omega, by omega⟩) (fun e => (hof _ e.symm).2.1 ⟨by omega, by omega⟩) hx.1)
  have hbl : ∀ g, v.ownBlock = some g → base ≤ g := fun g hg => (hown.lt g hg).1
  have hv1 : Box w1 T [v] := hv.grown hg (fun e => (hof T e.symm).1 rfl)
  have hg2 : ∀ g, v'.ownBlock = some g → g ≠ T ∧ ¬ (n ≤ g ∧ g < n + 5) ∧ ¬ X g := fun g hgv => by
    rcases hb with e | ⟨g', e, hge⟩
    · exact hof g (e ▸ hgv)
    · rw [e] at hgv
      injection hgv with hgv
      subst hgv
      have h4 := h.b4.1
      exact ⟨by omega, by omega, fun hx => by have := (h.hX _ hx).1; omega⟩
  refine ⟨⟨h.hT, h.hn, h.hTn, fun j hj => ?_, hbx 0 (by omega) _ h.b0, hbx 1 (by omega) _ h.b1, hbx 2 (by omega) _ h.b2, hbx 3 (by omega) _ h.b3, hbx 4 (by omega) _ h.b4, v', hv1.set 0 v', ?_, hg2⟩, ⟨?_, fun j hj => ?_⟩⟩
  · obtain ⟨h1, h2, h3⟩ := h.hX j hj
    exact ⟨Nat.lt_of_lt_of_le h1 hs, h2, h3⟩
  · rw [List.length_append, List.length_singleton]
    exact Go.ownsRow_setCell_other hown' (fun e => (hg2 T e).1 rfl) v'
  · refine ⟨hg.os, hg.tape, hg.output, hs, fun j hj => ?_⟩
    have := h.hT
    exact ho j (by omega) (fun e => by have := hbl j e.symm; omega) (by omega)
  · obtain ⟨h1, h2, h3⟩ := h.hX j hj
    exact ho j h2 (fun e => (hof j e.symm).2.2 hj) h1
theorem grown_new {w w1 : World} {o : Obj} {r : Option Nat} (h : ((w.alloc o).drew).grownBy w1 r) : w.grownBy w1 r := by
  have hb := ((below_box w o).drew)
  exact ⟨h.os.trans hb.os, h.tape.trans hb.tape, h.output.trans hb.output, Nat.le_trans hb.size h.size, fun k hk hr => (h.block k (Nat.lt_of_lt_of_le hk hb.size) hr).trans (hb.block k hk)⟩
theorem grown_new' {w w1 : World} {o : Obj} {r : Option Nat} (h : (w.alloc o).grownBy w1 r) : w.grownBy w1 r := by
  have hb := below_box w o
  exact ⟨h.os.trans hb.os, h.tape.trans hb.tape, h.output.trans hb.output, Nat.le_trans hb.size h.size, fun k hk hr => (h.block k (Nat.lt_of_lt_of_le hk hb.size) hr).trans (hb.block k hk)⟩
set_option maxRecDepth 100000 in
set_option maxHeartbeats 4000000 in
theorem useE_any (X : Nat → Prop) (base n T : Nat) (fr to : Int) (use : Value) (b k : Int) (xs : List UInt8) (v : Nat) (hv : v < 64) (w : World) (h : Hp X base n T fr to use b k xs w) (hl : xs.length ≤ 900000) :
    Calls Tryz.prog 56 #[.int .i64 (v : Int), .pointer (some ⟨T, 0, none⟩)] w fun e w' => e = .returned (.tuple #[]) ∧ Hp X base n T fr to use b k (xs ++ [ch v]) w' ∧ Stay X base w w' := by
  obtain ⟨i1, hi1, hy0, hy1, hy2⟩ := info_parts infoB
  have har := alpha_run v hv
  obtain ⟨r, hbox, hown, hof⟩ := h.row
  have hT : w.cell? ⟨T, 0, none⟩ = some r := hbox.cell 0 _ rfl
  have hTf : w.frozen? ⟨T, 0, none⟩ = false := hbox.free 0 (by show 0 < 1; decide)
  have hlt := hbox.1
  have hbs : base ≤ w.heap.size := by have := h.hT; omega
  have HP := Lib.hid (show ∀ w1 v' c, w1.ownsRow base 5 1 v' (xs.length + 1) (cB (xs ++ [c])) → w.grownBy w1 r.ownBlock → (v'.ownBlock = r.ownBlock ∨ ∃ g, v'.ownBlock = some g ∧ w.heap.size ≤ g) → Hp X base n T fr to use b k (xs ++ [c]) (w1.setCell ⟨T, 0, none⟩ v') ∧ Stay X base w (w1.setCell ⟨T, 0, none⟩ v') from fun w1 v' c h1 h2 h3 => h.pushed hbox hof hown h1 h2 h3)
  have HO := Lib.hid hown
  have HN := Lib.hid (show r.ownBlock ≠ some T from fun e => (hof T e).1 rfl)
  have HB := Lib.hid hbox
  clear h hof hown hbox
  generalize xs.length = m at HP HO hl
  have v0 : (0 : Int) ≤ v := by omega
  have v1 : (v : Int) < 64 := by omega
  generalize ch v = c at har HP ⊢
  go_enter Tryz.func56, Tryz.ntmps56
  go_region_law (refine step_appO _ rfl (.tmp 3) (.tmp 6) 38 rfl base 5 i1 _ 1 Tryz.underlying38 hi1 hy0 hy1 hy2 rfl r m (cB xs) (by simp [Act.eval]) (((HO.out).alloc (.cells #[.int .u8 (c.toNat : Int)] 5)).drew) (some ⟨w.heap.size, 0, none⟩) 1 1 [.int .u8 (c.toNat : Int)] (by simp [Act.eval]) rfl ((Rd.one w (.int .u8 (c.toNat : Int)) 5).below ((Below.refl _ _).drew)) (by intro u hu; simp at hu; subst hu; rfl) (by omega) (by decide) (by simp; omega) ?_; intro v' w1 hown1 hgrow hob; obtain ⟨gg, cap, rfl, -⟩ := hown1.form (by omega); have hb1 := ((HB.out.alloc _).drew).grown hgrow (Ne.symm HN.out); have y1 := hb1.cell 0 _ rfl; have z1 := hb1.free 0 (by show 0 < 1; decide); clear hb1)
  all_goals
    clear har
    go_wp2
    go_end0
    rw [cB_snoc] at hown1
    obtain ⟨p1, p2⟩ := HP.out w1 _ c hown1 (grown_new hgrow) (hob.imp id fun e => ⟨_, e, by simp⟩)
    exact ⟨rfl, p1, p2⟩

set_option maxRecDepth 100000 in
set_option maxHeartbeats 4000000 in
theorem useD_any (X : Nat → Prop) (base n T : Nat) (fr to : Int) (use : Value) (b k : Int) (xs : List UInt8) (v : Nat) (hv : v < 256) (w : World) (h : Hp X base n T fr to use b k xs w) (hl : xs.length ≤ 900000) :
    Calls Tryz.prog 90 #[.int .i64 (v : Int), .pointer (some ⟨T, 0, none⟩)] w fun e w' => e = .returned (.tuple #[]) ∧ Hp X base n T fr to use b k (xs ++ [byt v]) w' ∧ Stay X base w w' := by
  obtain ⟨i1, hi1, hy0, hy1, hy2⟩ := info_parts infoB
  obtain ⟨r, hbox, hown, hof⟩ := h.row
  have hT : w.cell? ⟨T, 0, none⟩ = some r := hbox.cell 0 _ rfl
  have hTf : w.frozen? ⟨T, 0, none⟩ = false := hbox.free 0 (by show 0 < 1; decide)
  have hlt := hbox.1
  have hbs : base ≤ w.heap.size := by have := h.hT; omega
  have HP := Lib.hid (show ∀ w1 v' c, w1.ownsRow base 5 1 v' (xs.length + 1) (cB (xs ++ [c])) → w.grownBy w1 r.ownBlock → (v'.ownBlock = r.ownBlock ∨ ∃ g, v'.ownBlock = some g ∧ w.heap.size ≤ g) → Hp X base n T fr to use b k (xs ++ [c]) (w1.setCell ⟨T, 0, none⟩ v') ∧ Stay X base w (w1.setCell ⟨T, 0, none⟩ v') from fun w1 v' c h1 h2 h3 => h.pushed hbox hof hown h1 h2 h3)
  have HO := Lib.hid hown
  have HN := Lib.hid (show r.ownBlock ≠ some T from fun e => (hof T e).1 rfl)
  have HB := Lib.hid hbox
  clear h hof hown hbox
  generalize xs.length = m at HP HO hl
  have e1 : IntKind.u8.wrap (v : Int) = ((byt v).toNat : Int) := by
    rw [byt_toNat v hv, IntKind.wrap_u8]; omega
  generalize byt v = c at e1 HP ⊢
  go_enter Tryz.func90, Tryz.ntmps90
  go_wp2_with (refine wpList_app _ rfl (.tmp 3) (.tmp 6) 38 rfl base 5 i1 _ 1 Tryz.underlying38 hi1 hy0 hy1 hy2 rfl r m (cB xs) (by simp [Act.eval]) ((HO.out).alloc (.cells #[.int .u8 (c.toNat : Int)] 5)) (some ⟨w.heap.size, 0, none⟩) 1 1 [.int .u8 (c.toNat : Int)] (by simp [Act.eval]) rfl (Rd.one w (.int .u8 (c.toNat : Int)) 5) (by intro u hu; simp at hu; subst hu; rfl) (by omega) (by decide) (by simp; omega) ?_; intro v' w1 hown1 hgrow hob; obtain ⟨gg, cap, rfl, -⟩ := hown1.form (by omega); have hb1 := (HB.out.alloc _).grown hgrow (Ne.symm HN.out); have y1 := hb1.cell 0 _ rfl; have z1 := hb1.free 0 (by show 0 < 1; decide); clear hb1)
  go_end0
  rw [cB_snoc] at hown1
  obtain ⟨p1, p2⟩ := HP.out w1 _ c hown1 (grown_new' hgrow) (hob.imp id fun e => ⟨_, e, by simp⟩)
  exact ⟨rfl, p1, p2⟩

end Go.Proofs.YtoilcigmpeaedaaGreatDoor.B64
