/-
  SgrBa SgrBb
-/
import Derived.Test.YteepfecplabinaaDoorP17
import Derived.Test.YteepfecplabinaaDoorP27
import Derived.Test.YteepfecplabinaaDoorP32
namespace Go.Proofs.YteepfecplabinaaDoor.Sgr
open Go.RowKit Utf

def attsL : List Int := [1, 2, 4, 8, 16, 32, 64, 128]
/-- a parameter of a call's own -/
def PrmPost (w : World) (p : List Int) (e : Ending) (w' : World) : Prop := ∃ v, e = .returned (.agg #[v]) ∧ w'.ownsRow w.heap.size 3 1 v p.length (cI p) ∧ Below w.heap.size w w'
theorem prm_end {w W : World} {G g n : Nat} {u : Value} (zs : List Int) (hg : g = W.heap.size) (hn : n = zs.length) (hl : n ≤ maxLen) (hX : Par.Box W G [u]) (hb : Below w.heap.size w W) (hG : w.heap.size ≤ G) :
    (loadVar 41 ⟨G, 0, none⟩).run Tryd.prog ((W.alloc (.cells (cI zs).toArray 3)).setCell ⟨G, 0, none⟩ (.slice (some ⟨g, 0, none⟩) n n)) = .ok (.agg #[.slice (some ⟨g, 0, none⟩) n n]) ((W.alloc (.cells (cI zs).toArray 3)).setCell ⟨G, 0, none⟩ (.slice (some ⟨g, 0, none⟩) n n)) ∧
    PrmPost w zs (.returned (.agg #[.slice (some ⟨g, 0, none⟩) n n])) ((W.alloc (.cells (cI zs).toArray 3)).setCell ⟨G, 0, none⟩ (.slice (some ⟨g, 0, none⟩) n n)) := by
  subst hg hn
  have hb2 := below_box W (.cells (cI zs).toArray 3)
  have hX2 := hX.keep hb2
  refine ⟨Par.load_par _ _ _ ((hX2.set 0 _).cell 0 _ rfl), _, rfl, ?_, (hb.alloc hb.size _).setCell (p := ⟨G, 0, none⟩) hG _⟩
  refine (own_lit w W zs zs.length rfl hl hb).kept (Par.grown_set _ G 0 _) (.inr ?_)
  intro e
  have : W.heap.size = G := by simpa [Value.ownBlock] using e
  have := hX.1
  omega
set_option maxRecDepth 100000 in
set_option maxHeartbeats 8000000 in
/-- no attribute -/
theorem prm_z (w : World) : Calls Tryd.prog 39 #[.agg #[.int .i64 39, .int .i64 0, .int .i64 0, .int .i64 0, .int .i64 0, .string ⟨#[]⟩]] w (PrmPost w [0]) := by
  have hP := Par.Box.new w #[.int .i64 39, .int .i64 0, .int .i64 0, .int .i64 0, .int .i64 0, .string ⟨#[]⟩] 48
  have hR := Par.Box.new (w.alloc (.cells #[.int .i64 39, .int .i64 0, .int .i64 0, .int .i64 0, .int .i64 0, .string ⟨#[]⟩] 48)) #[.slice none 0 0] 41
  have hA := Par.Box.new ((w.alloc (.cells #[.int .i64 39, .int .i64 0, .int .i64 0, .int .i64 0, .int .i64 0, .string ⟨#[]⟩] 48)).alloc (.cells #[.slice none 0 0] 41)) #[.int .i64 1, .int .i64 1, .int .i64 22, .int .i64 2, .int .i64 2, .int .i64 22, .int .i64 3, .int .i64 4, .int .i64 23, .int .i64 5, .int .i64 8, .int .i64 25, .int .i64 7, .int .i64 16, .int .i64 27, .int .i64 8, .int .i64 32, .int .i64 28, .int .i64 9, .int .i64 64, .int .i64 29, .int .i64 53, .int .i64 128, .int .i64 55] 118
  rw [World.size_alloc] at hR
  rw [World.size_alloc, World.size_alloc] at hA
  have HP := Lib.hid ((hP.alloc (.cells #[.slice none 0 0] 41)).alloc (.cells #[.int .i64 1, .int .i64 1, .int .i64 22, .int .i64 2, .int .i64 2, .int .i64 22, .int .i64 3, .int .i64 4, .int .i64 23, .int .i64 5, .int .i64 8, .int .i64 25, .int .i64 7, .int .i64 16, .int .i64 27, .int .i64 8, .int .i64 32, .int .i64 28, .int .i64 9, .int .i64 64, .int .i64 29, .int .i64 53, .int .i64 128, .int .i64 55] 118))
  have HR := Lib.hid (hR.alloc (.cells #[.int .i64 1, .int .i64 1, .int .i64 22, .int .i64 2, .int .i64 2, .int .i64 22, .int .i64 3, .int .i64 4, .int .i64 23, .int .i64 5, .int .i64 8, .int .i64 25, .int .i64 7, .int .i64 16, .int .i64 27, .int .i64 8, .int .i64 32, .int .i64 28, .int .i64 9, .int .i64 64, .int .i64 29, .int .i64 53, .int .i64 128, .int .i64 55] 118))
  have HA := Lib.hid hA
  have HB := Lib.hid (Par.up (Par.up (below_box w (.cells #[.int .i64 39, .int .i64 0, .int .i64 0, .int .i64 0, .int .i64 0, .string ⟨#[]⟩] 48)) (below_box _ (.cells #[.slice none 0 0] 41))) (below_box _ (.cells #[.int .i64 1, .int .i64 1, .int .i64 22, .int .i64 2, .int .i64 2, .int .i64 22, .int .i64 3, .int .i64 4, .int .i64 23, .int .i64 5, .int .i64 8, .int .i64 25, .int .i64 7, .int .i64 16, .int .i64 27, .int .i64 8, .int .i64 32, .int .i64 28, .int .i64 9, .int .i64 64, .int .i64 29, .int .i64 53, .int .i64 128, .int .i64 55] 118)))
  clear hP hR hA
  go_enter Tryd.func39, Tryd.ntmps39
  go_upto_region 2 with (go_at_call 65; refine (rattrs_any _).mono ?_; rintro e w2 ⟨rfl, rfl⟩)
  generalize (((w.alloc (.cells #[.int .i64 39, .int .i64 0, .int .i64 0, .int .i64 0, .int .i64 0, .string ⟨#[]⟩] 48)).alloc (.cells #[.slice none 0 0] 41)).alloc (.cells #[.int .i64 1, .int .i64 1, .int .i64 22, .int .i64 2, .int .i64 2, .int .i64 22, .int .i64 3, .int .i64 4, .int .i64 23, .int .i64 5, .int .i64 8, .int .i64 25, .int .i64 7, .int .i64 16, .int .i64 27, .int .i64 8, .int .i64 32, .int .i64 28, .int .i64 9, .int .i64 64, .int .i64 29, .int .i64 53, .int .i64 128, .int .i64 55] 118)) = w3 at HP HR HA HB ⊢
  generalize w.heap.size + 1 + 1 = G2 at HA ⊢
  generalize hG1 : w.heap.size + 1 = G1 at HR ⊢
  have HG := Lib.hid (show w.heap.size ≤ G1 by omega)
  clear hG1
  go_wp2_with fail
  go_loopw [4] (fun i wr => ∃ k : Nat, k ≤ 8 ∧ i = .int .i64 k ∧ Hid (Below w3.heap.size w3 wr)) (fun i _ => 8 - (intOf i).toNat)
  case atStart => exact ⟨0, by omega, rfl, Below.refl _ _⟩
  case round =>
    obtain ⟨k, hk, rfl, hb⟩ := hrel
    have HPr := Lib.hid (HP.out.keep hb.out)
    have HRr := Lib.hid (HR.out.keep hb.out)
    have HBr := Lib.hid (Par.up HB.out hb.out)
    have hszr := hb.out.size
    have y0 := HPr.out.cell 0 _ rfl
    have y1 := HPr.out.cell 1 _ rfl
    have y2 := HPr.out.cell 2 _ rfl
    have y3 := HPr.out.cell 3 _ rfl
    have y4 := HPr.out.cell 4 _ rfl
    have y5 := HPr.out.cell 5 _ rfl
    by_cases hk8 : k < 8
    · have i1 : (k : Int) < 8 := by omega
      go_upto_region 5 with fail
      go_region
      go_upto_region 7 with fail
      go_region
      go_wp2_with fail
      go_roundw
      case rel => exact ⟨k + 1, by omega, by go_num, (hb.out.drew).drew⟩
      case measure => simp [intOf]; omega
    · obtain rfl : k = 8 := by omega
      have r0 := HRr.out.cell 0 _ rfl
      have s0 := HRr.out.free 0 (by show 0 < 1; decide)
      go_upto_region 10 with fail
      have HP4 := Lib.hid (HPr.out.alloc (.cells #[.int .i64 0, .int .i64 0] 46))
      have HR4 := Lib.hid (HRr.out.alloc (.cells #[.int .i64 0, .int .i64 0] 46))
      have HB4 := Lib.hid (Par.up HBr.out (below_box wr (.cells #[.int .i64 0, .int .i64 0] 46)))
      have HC4 := Lib.hid (Par.Box.new wr #[.int .i64 0, .int .i64 0] 46)
      clear y0 y1 y2 y3 y4 y5 r0 s0
      generalize wr.alloc (.cells #[.int .i64 0, .int .i64 0] 46) = w4 at HP4 HR4 HB4 HC4 ⊢
      generalize wr.heap.size = G4 at HC4 ⊢
      have y0 := HP4.out.cell 0 _ rfl
      have y1 := HP4.out.cell 1 _ rfl
      have y2 := HP4.out.cell 2 _ rfl
      have y3 := HP4.out.cell 3 _ rfl
      have y4 := HP4.out.cell 4 _ rfl
      have y5 := HP4.out.cell 5 _ rfl
      have r0 := HR4.out.cell 0 _ rfl
      have s0 := HR4.out.free 0 (by show 0 < 1; decide)
      have r9 := fun o => (HR4.out.alloc o).cell 0 _ rfl
      have s9 := fun o => (HR4.out.alloc o).free 0 (by show 0 < 1; decide)
      have t0 := HC4.out.cell 0 _ rfl
      have t1 := HC4.out.cell 1 _ rfl
      go_wp2_with fail
      obtain ⟨e1, e2⟩ := prm_end (w := w) (W := w4) (g := w4.heap.size) [0] rfl (show 1 = _ from rfl) (by decide) HR4.out HB4.out HG.out
      refine bodyPost_ret (ret_cell1 rfl _ _ ⟨G1, 0, none⟩ _ rfl e1) rfl ?_
      exact e2
set_option maxRecDepth 100000 in
set_option maxHeartbeats 8000000 in
/-- underlined -/
theorem prm_u1 (w : World) : Calls Tryd.prog 39 #[.agg #[.int .i64 39, .int .i64 3, .int .i64 1, .int .i64 0, .int .i64 0, .string ⟨#[]⟩]] w (PrmPost w [4]) := by
  have hP := Par.Box.new w #[.int .i64 39, .int .i64 3, .int .i64 1, .int .i64 0, .int .i64 0, .string ⟨#[]⟩] 48
  have hR := Par.Box.new (w.alloc (.cells #[.int .i64 39, .int .i64 3, .int .i64 1, .int .i64 0, .int .i64 0, .string ⟨#[]⟩] 48)) #[.slice none 0 0] 41
  have hA := Par.Box.new ((w.alloc (.cells #[.int .i64 39, .int .i64 3, .int .i64 1, .int .i64 0, .int .i64 0, .string ⟨#[]⟩] 48)).alloc (.cells #[.slice none 0 0] 41)) #[.int .i64 1, .int .i64 1, .int .i64 22, .int .i64 2, .int .i64 2, .int .i64 22, .int .i64 3, .int .i64 4, .int .i64 23, .int .i64 5, .int .i64 8, .int .i64 25, .int .i64 7, .int .i64 16, .int .i64 27, .int .i64 8, .int .i64 32, .int .i64 28, .int .i64 9, .int .i64 64, .int .i64 29, .int .i64 53, .int .i64 128, .int .i64 55] 118
  rw [World.size_alloc] at hR
  rw [World.size_alloc, World.size_alloc] at hA
  have HP := Lib.hid ((hP.alloc (.cells #[.slice none 0 0] 41)).alloc (.cells #[.int .i64 1, .int .i64 1, .int .i64 22, .int .i64 2, .int .i64 2, .int .i64 22, .int .i64 3, .int .i64 4, .int .i64 23, .int .i64 5, .int .i64 8, .int .i64 25, .int .i64 7, .int .i64 16, .int .i64 27, .int .i64 8, .int .i64 32, .int .i64 28, .int .i64 9, .int .i64 64, .int .i64 29, .int .i64 53, .int .i64 128, .int .i64 55] 118))
  have HR := Lib.hid (hR.alloc (.cells #[.int .i64 1, .int .i64 1, .int .i64 22, .int .i64 2, .int .i64 2, .int .i64 22, .int .i64 3, .int .i64 4, .int .i64 23, .int .i64 5, .int .i64 8, .int .i64 25, .int .i64 7, .int .i64 16, .int .i64 27, .int .i64 8, .int .i64 32, .int .i64 28, .int .i64 9, .int .i64 64, .int .i64 29, .int .i64 53, .int .i64 128, .int .i64 55] 118))
  have HA := Lib.hid hA
  have HB := Lib.hid (Par.up (Par.up (below_box w (.cells #[.int .i64 39, .int .i64 3, .int .i64 1, .int .i64 0, .int .i64 0, .string ⟨#[]⟩] 48)) (below_box _ (.cells #[.slice none 0 0] 41))) (below_box _ (.cells #[.int .i64 1, .int .i64 1, .int .i64 22, .int .i64 2, .int .i64 2, .int .i64 22, .int .i64 3, .int .i64 4, .int .i64 23, .int .i64 5, .int .i64 8, .int .i64 25, .int .i64 7, .int .i64 16, .int .i64 27, .int .i64 8, .int .i64 32, .int .i64 28, .int .i64 9, .int .i64 64, .int .i64 29, .int .i64 53, .int .i64 128, .int .i64 55] 118)))
  clear hP hR hA
  go_enter Tryd.func39, Tryd.ntmps39
  go_upto_region 2 with (go_at_call 65; refine (rattrs_any _).mono ?_; rintro e w2 ⟨rfl, rfl⟩)
  generalize (((w.alloc (.cells #[.int .i64 39, .int .i64 3, .int .i64 1, .int .i64 0, .int .i64 0, .string ⟨#[]⟩] 48)).alloc (.cells #[.slice none 0 0] 41)).alloc (.cells #[.int .i64 1, .int .i64 1, .int .i64 22, .int .i64 2, .int .i64 2, .int .i64 22, .int .i64 3, .int .i64 4, .int .i64 23, .int .i64 5, .int .i64 8, .int .i64 25, .int .i64 7, .int .i64 16, .int .i64 27, .int .i64 8, .int .i64 32, .int .i64 28, .int .i64 9, .int .i64 64, .int .i64 29, .int .i64 53, .int .i64 128, .int .i64 55] 118)) = w3 at HP HR HA HB ⊢
  generalize w.heap.size + 1 + 1 = G2 at HA ⊢
  generalize hG1 : w.heap.size + 1 = G1 at HR ⊢
  have HG := Lib.hid (show w.heap.size ≤ G1 by omega)
  clear hG1
  go_wp2_with fail
  go_loopw [4] (fun i wr => ∃ k : Nat, k ≤ 8 ∧ i = .int .i64 k ∧ Hid (Below w3.heap.size w3 wr)) (fun i _ => 8 - (intOf i).toNat)
  case atStart => exact ⟨0, by omega, rfl, Below.refl _ _⟩
  case round =>
    obtain ⟨k, hk, rfl, hb⟩ := hrel
    have HPr := Lib.hid (HP.out.keep hb.out)
    have HRr := Lib.hid (HR.out.keep hb.out)
    have HBr := Lib.hid (Par.up HB.out hb.out)
    have hszr := hb.out.size
    have y0 := HPr.out.cell 0 _ rfl
    have y1 := HPr.out.cell 1 _ rfl
    have y2 := HPr.out.cell 2 _ rfl
    have y3 := HPr.out.cell 3 _ rfl
    have y4 := HPr.out.cell 4 _ rfl
    have y5 := HPr.out.cell 5 _ rfl
    by_cases hk8 : k < 8
    · have i1 : (k : Int) < 8 := by omega
      go_upto_region 5 with fail
      go_region
      go_upto_region 7 with fail
      go_region
      go_wp2_with fail
      go_roundw
      case rel => exact ⟨k + 1, by omega, by go_num, (hb.out.drew).drew⟩
      case measure => simp [intOf]; omega
    · obtain rfl : k = 8 := by omega
      have r0 := HRr.out.cell 0 _ rfl
      have s0 := HRr.out.free 0 (by show 0 < 1; decide)
      go_upto_region 10 with fail
      have HP4 := Lib.hid (HPr.out.alloc (.cells #[.int .i64 0, .int .i64 0] 46))
      have HR4 := Lib.hid (HRr.out.alloc (.cells #[.int .i64 0, .int .i64 0] 46))
      have HB4 := Lib.hid (Par.up HBr.out (below_box wr (.cells #[.int .i64 0, .int .i64 0] 46)))
      have HC4 := Lib.hid (Par.Box.new wr #[.int .i64 0, .int .i64 0] 46)
      clear y0 y1 y2 y3 y4 y5 r0 s0
      generalize wr.alloc (.cells #[.int .i64 0, .int .i64 0] 46) = w4 at HP4 HR4 HB4 HC4 ⊢
      generalize wr.heap.size = G4 at HC4 ⊢
      have y0 := HP4.out.cell 0 _ rfl
      have y1 := HP4.out.cell 1 _ rfl
      have y2 := HP4.out.cell 2 _ rfl
      have y3 := HP4.out.cell 3 _ rfl
      have y4 := HP4.out.cell 4 _ rfl
      have y5 := HP4.out.cell 5 _ rfl
      have r0 := HR4.out.cell 0 _ rfl
      have s0 := HR4.out.free 0 (by show 0 < 1; decide)
      have r9 := fun o => (HR4.out.alloc o).cell 0 _ rfl
      have s9 := fun o => (HR4.out.alloc o).free 0 (by show 0 < 1; decide)
      have t0 := HC4.out.cell 0 _ rfl
      have t1 := HC4.out.cell 1 _ rfl
      go_wp2_with fail
      obtain ⟨e1, e2⟩ := prm_end (w := w) (W := w4) (g := w4.heap.size) [4] rfl (show 1 = _ from rfl) (by decide) HR4.out HB4.out HG.out
      refine bodyPost_ret (ret_cell1 rfl _ _ ⟨G1, 0, none⟩ _ rfl e1) rfl ?_
      exact e2
set_option maxRecDepth 100000 in
set_option maxHeartbeats 8000000 in
/-- not underlined -/
theorem prm_u0 (w : World) : Calls Tryd.prog 39 #[.agg #[.int .i64 39, .int .i64 3, .int .i64 0, .int .i64 0, .int .i64 0, .string ⟨#[]⟩]] w (PrmPost w [24]) := by
  have hP := Par.Box.new w #[.int .i64 39, .int .i64 3, .int .i64 0, .int .i64 0, .int .i64 0, .string ⟨#[]⟩] 48
  have hR := Par.Box.new (w.alloc (.cells #[.int .i64 39, .int .i64 3, .int .i64 0, .int .i64 0, .int .i64 0, .string ⟨#[]⟩] 48)) #[.slice none 0 0] 41
  have hA := Par.Box.new ((w.alloc (.cells #[.int .i64 39, .int .i64 3, .int .i64 0, .int .i64 0, .int .i64 0, .string ⟨#[]⟩] 48)).alloc (.cells #[.slice none 0 0] 41)) #[.int .i64 1, .int .i64 1, .int .i64 22, .int .i64 2, .int .i64 2, .int .i64 22, .int .i64 3, .int .i64 4, .int .i64 23, .int .i64 5, .int .i64 8, .int .i64 25, .int .i64 7, .int .i64 16, .int .i64 27, .int .i64 8, .int .i64 32, .int .i64 28, .int .i64 9, .int .i64 64, .int .i64 29, .int .i64 53, .int .i64 128, .int .i64 55] 118
  rw [World.size_alloc] at hR
  rw [World.size_alloc, World.size_alloc] at hA
  have HP := Lib.hid ((hP.alloc (.cells #[.slice none 0 0] 41)).alloc (.cells #[.int .i64 1, .int .i64 1, .int .i64 22, .int .i64 2, .int .i64 2, .int .i64 22, .int .i64 3, .int .i64 4, .int .i64 23, .int .i64 5, .int .i64 8, .int .i64 25, .int .i64 7, .int .i64 16, .int .i64 27, .int .i64 8, .int .i64 32, .int .i64 28, .int .i64 9, .int .i64 64, .int .i64 29, .int .i64 53, .int .i64 128, .int .i64 55] 118))
  have HR := Lib.hid (hR.alloc (.cells #[.int .i64 1, .int .i64 1, .int .i64 22, .int .i64 2, .int .i64 2, .int .i64 22, .int .i64 3, .int .i64 4, .int .i64 23, .int .i64 5, .int .i64 8, .int .i64 25, .int .i64 7, .int .i64 16, .int .i64 27, .int .i64 8, .int .i64 32, .int .i64 28, .int .i64 9, .int .i64 64, .int .i64 29, .int .i64 53, .int .i64 128, .int .i64 55] 118))
  have HA := Lib.hid hA
  have HB := Lib.hid (Par.up (Par.up (below_box w (.cells #[.int .i64 39, .int .i64 3, .int .i64 0, .int .i64 0, .int .i64 0, .string ⟨#[]⟩] 48)) (below_box _ (.cells #[.slice none 0 0] 41))) (below_box _ (.cells #[.int .i64 1, .int .i64 1, .int .i64 22, .int .i64 2, .int .i64 2, .int .i64 22, .int .i64 3, .int .i64 4, .int .i64 23, .int .i64 5, .int .i64 8, .int .i64 25, .int .i64 7, .int .i64 16, .int .i64 27, .int .i64 8, .int .i64 32, .int .i64 28, .int .i64 9, .int .i64 64, .int .i64 29, .int .i64 53, .int .i64 128, .int .i64 55] 118)))
  clear hP hR hA
  go_enter Tryd.func39, Tryd.ntmps39
  go_upto_region 2 with (go_at_call 65; refine (rattrs_any _).mono ?_; rintro e w2 ⟨rfl, rfl⟩)
  generalize (((w.alloc (.cells #[.int .i64 39, .int .i64 3, .int .i64 0, .int .i64 0, .int .i64 0, .string ⟨#[]⟩] 48)).alloc (.cells #[.slice none 0 0] 41)).alloc (.cells #[.int .i64 1, .int .i64 1, .int .i64 22, .int .i64 2, .int .i64 2, .int .i64 22, .int .i64 3, .int .i64 4, .int .i64 23, .int .i64 5, .int .i64 8, .int .i64 25, .int .i64 7, .int .i64 16, .int .i64 27, .int .i64 8, .int .i64 32, .int .i64 28, .int .i64 9, .int .i64 64, .int .i64 29, .int .i64 53, .int .i64 128, .int .i64 55] 118)) = w3 at HP HR HA HB ⊢
  generalize w.heap.size + 1 + 1 = G2 at HA ⊢
  generalize hG1 : w.heap.size + 1 = G1 at HR ⊢
  have HG := Lib.hid (show w.heap.size ≤ G1 by omega)
  clear hG1
  go_wp2_with fail
  go_loopw [4] (fun i wr => ∃ k : Nat, k ≤ 8 ∧ i = .int .i64 k ∧ Hid (Below w3.heap.size w3 wr)) (fun i _ => 8 - (intOf i).toNat)
  case atStart => exact ⟨0, by omega, rfl, Below.refl _ _⟩
  case round =>
    obtain ⟨k, hk, rfl, hb⟩ := hrel
    have HPr := Lib.hid (HP.out.keep hb.out)
    have HRr := Lib.hid (HR.out.keep hb.out)
    have HBr := Lib.hid (Par.up HB.out hb.out)
    have hszr := hb.out.size
    have y0 := HPr.out.cell 0 _ rfl
    have y1 := HPr.out.cell 1 _ rfl
    have y2 := HPr.out.cell 2 _ rfl
    have y3 := HPr.out.cell 3 _ rfl
    have y4 := HPr.out.cell 4 _ rfl
    have y5 := HPr.out.cell 5 _ rfl
    by_cases hk8 : k < 8
    · have i1 : (k : Int) < 8 := by omega
      go_upto_region 5 with fail
      go_region
      go_upto_region 7 with fail
      go_region
      go_wp2_with fail
      go_roundw
      case rel => exact ⟨k + 1, by omega, by go_num, (hb.out.drew).drew⟩
      case measure => simp [intOf]; omega
    · obtain rfl : k = 8 := by omega
      have r0 := HRr.out.cell 0 _ rfl
      have s0 := HRr.out.free 0 (by show 0 < 1; decide)
      go_upto_region 10 with fail
      have HP4 := Lib.hid (HPr.out.alloc (.cells #[.int .i64 0, .int .i64 0] 46))
      have HR4 := Lib.hid (HRr.out.alloc (.cells #[.int .i64 0, .int .i64 0] 46))
      have HB4 := Lib.hid (Par.up HBr.out (below_box wr (.cells #[.int .i64 0, .int .i64 0] 46)))
      have HC4 := Lib.hid (Par.Box.new wr #[.int .i64 0, .int .i64 0] 46)
      clear y0 y1 y2 y3 y4 y5 r0 s0
      generalize wr.alloc (.cells #[.int .i64 0, .int .i64 0] 46) = w4 at HP4 HR4 HB4 HC4 ⊢
      generalize wr.heap.size = G4 at HC4 ⊢
      have y0 := HP4.out.cell 0 _ rfl
      have y1 := HP4.out.cell 1 _ rfl
      have y2 := HP4.out.cell 2 _ rfl
      have y3 := HP4.out.cell 3 _ rfl
      have y4 := HP4.out.cell 4 _ rfl
      have y5 := HP4.out.cell 5 _ rfl
      have r0 := HR4.out.cell 0 _ rfl
      have s0 := HR4.out.free 0 (by show 0 < 1; decide)
      have r9 := fun o => (HR4.out.alloc o).cell 0 _ rfl
      have s9 := fun o => (HR4.out.alloc o).free 0 (by show 0 < 1; decide)
      have t0 := HC4.out.cell 0 _ rfl
      have t1 := HC4.out.cell 1 _ rfl
      go_wp2_with fail
      obtain ⟨e1, e2⟩ := prm_end (w := w) (W := w4) (g := w4.heap.size) [24] rfl (show 1 = _ from rfl) (by decide) HR4.out HB4.out HG.out
      refine bodyPost_ret (ret_cell1 rfl _ _ ⟨G1, 0, none⟩ _ rfl e1) rfl ?_
      exact e2
set_option maxRecDepth 100000 in
set_option maxHeartbeats 8000000 in
/-- underlined otherwise -/
theorem prm_um (m : Int) (w : World) (h0 : m ≠ 0) (h1 : m ≠ 1) : Calls Tryd.prog 39 #[.agg #[.int .i64 39, .int .i64 3, .int .i64 m, .int .i64 0, .int .i64 0, .string ⟨#[]⟩]] w (PrmPost w [4, m]) := by
  have b0 : (m == 0) = false := by simp [h0]
  have b1 : (m == 1) = false := by simp [h1]
  clear h0 h1
  have hP := Par.Box.new w #[.int .i64 39, .int .i64 3, .int .i64 m, .int .i64 0, .int .i64 0, .string ⟨#[]⟩] 48
  have hR := Par.Box.new (w.alloc (.cells #[.int .i64 39, .int .i64 3, .int .i64 m, .int .i64 0, .int .i64 0, .string ⟨#[]⟩] 48)) #[.slice none 0 0] 41
  have hA := Par.Box.new ((w.alloc (.cells #[.int .i64 39, .int .i64 3, .int .i64 m, .int .i64 0, .int .i64 0, .string ⟨#[]⟩] 48)).alloc (.cells #[.slice none 0 0] 41)) #[.int .i64 1, .int .i64 1, .int .i64 22, .int .i64 2, .int .i64 2, .int .i64 22, .int .i64 3, .int .i64 4, .int .i64 23, .int .i64 5, .int .i64 8, .int .i64 25, .int .i64 7, .int .i64 16, .int .i64 27, .int .i64 8, .int .i64 32, .int .i64 28, .int .i64 9, .int .i64 64, .int .i64 29, .int .i64 53, .int .i64 128, .int .i64 55] 118
  rw [World.size_alloc] at hR
  rw [World.size_alloc, World.size_alloc] at hA
  have HP := Lib.hid ((hP.alloc (.cells #[.slice none 0 0] 41)).alloc (.cells #[.int .i64 1, .int .i64 1, .int .i64 22, .int .i64 2, .int .i64 2, .int .i64 22, .int .i64 3, .int .i64 4, .int .i64 23, .int .i64 5, .int .i64 8, .int .i64 25, .int .i64 7, .int .i64 16, .int .i64 27, .int .i64 8, .int .i64 32, .int .i64 28, .int .i64 9, .int .i64 64, .int .i64 29, .int .i64 53, .int .i64 128, .int .i64 55] 118))
  have HR := Lib.hid (hR.alloc (.cells #[.int .i64 1, .int .i64 1, .int .i64 22, .int .i64 2, .int .i64 2, .int .i64 22, .int .i64 3, .int .i64 4, .int .i64 23, .int .i64 5, .int .i64 8, .int .i64 25, .int .i64 7, .int .i64 16, .int .i64 27, .int .i64 8, .int .i64 32, .int .i64 28, .int .i64 9, .int .i64 64, .int .i64 29, .int .i64 53, .int .i64 128, .int .i64 55] 118))
  have HA := Lib.hid hA
  have HB := Lib.hid (Par.up (Par.up (below_box w (.cells #[.int .i64 39, .int .i64 3, .int .i64 m, .int .i64 0, .int .i64 0, .string ⟨#[]⟩] 48)) (below_box _ (.cells #[.slice none 0 0] 41))) (below_box _ (.cells #[.int .i64 1, .int .i64 1, .int .i64 22, .int .i64 2, .int .i64 2, .int .i64 22, .int .i64 3, .int .i64 4, .int .i64 23, .int .i64 5, .int .i64 8, .int .i64 25, .int .i64 7, .int .i64 16, .int .i64 27, .int .i64 8, .int .i64 32, .int .i64 28, .int .i64 9, .int .i64 64, .int .i64 29, .int .i64 53, .int .i64 128, .int .i64 55] 118)))
  clear hP hR hA
  go_enter Tryd.func39, Tryd.ntmps39
  go_upto_region 2 with (go_at_call 65; refine (rattrs_any _).mono ?_; rintro e w2 ⟨rfl, rfl⟩)
  generalize (((w.alloc (.cells #[.int .i64 39, .int .i64 3, .int .i64 m, .int .i64 0, .int .i64 0, .string ⟨#[]⟩] 48)).alloc (.cells #[.slice none 0 0] 41)).alloc (.cells #[.int .i64 1, .int .i64 1, .int .i64 22, .int .i64 2, .int .i64 2, .int .i64 22, .int .i64 3, .int .i64 4, .int .i64 23, .int .i64 5, .int .i64 8, .int .i64 25, .int .i64 7, .int .i64 16, .int .i64 27, .int .i64 8, .int .i64 32, .int .i64 28, .int .i64 9, .int .i64 64, .int .i64 29, .int .i64 53, .int .i64 128, .int .i64 55] 118)) = w3 at HP HR HA HB ⊢
  generalize w.heap.size + 1 + 1 = G2 at HA ⊢
  generalize hG1 : w.heap.size + 1 = G1 at HR ⊢
  have HG := Lib.hid (show w.heap.size ≤ G1 by omega)
  clear hG1
  go_wp2_with fail
  go_loopw [4] (fun i wr => ∃ k : Nat, k ≤ 8 ∧ i = .int .i64 k ∧ Hid (Below w3.heap.size w3 wr)) (fun i _ => 8 - (intOf i).toNat)
  case atStart => exact ⟨0, by omega, rfl, Below.refl _ _⟩
  case round =>
    obtain ⟨k, hk, rfl, hb⟩ := hrel
    have HPr := Lib.hid (HP.out.keep hb.out)
    have HRr := Lib.hid (HR.out.keep hb.out)
    have HBr := Lib.hid (Par.up HB.out hb.out)
    have hszr := hb.out.size
    have y0 := HPr.out.cell 0 _ rfl
    have y1 := HPr.out.cell 1 _ rfl
    have y2 := HPr.out.cell 2 _ rfl
    have y3 := HPr.out.cell 3 _ rfl
    have y4 := HPr.out.cell 4 _ rfl
    have y5 := HPr.out.cell 5 _ rfl
    by_cases hk8 : k < 8
    · have i1 : (k : Int) < 8 := by omega
      go_upto_region 5 with fail
      go_region
      go_upto_region 7 with fail
      go_region
      go_wp2_with fail
      go_roundw
      case rel => exact ⟨k + 1, by omega, by go_num, (hb.out.drew).drew⟩
      case measure => simp [intOf]; omega
    · obtain rfl : k = 8 := by omega
      have r0 := HRr.out.cell 0 _ rfl
      have s0 := HRr.out.free 0 (by show 0 < 1; decide)
      go_upto_region 10 with fail
      have HP4 := Lib.hid (HPr.out.alloc (.cells #[.int .i64 0, .int .i64 0] 46))
      have HR4 := Lib.hid (HRr.out.alloc (.cells #[.int .i64 0, .int .i64 0] 46))
      have HB4 := Lib.hid (Par.up HBr.out (below_box wr (.cells #[.int .i64 0, .int .i64 0] 46)))
      have HC4 := Lib.hid (Par.Box.new wr #[.int .i64 0, .int .i64 0] 46)
      clear y0 y1 y2 y3 y4 y5 r0 s0
      generalize wr.alloc (.cells #[.int .i64 0, .int .i64 0] 46) = w4 at HP4 HR4 HB4 HC4 ⊢
      generalize wr.heap.size = G4 at HC4 ⊢
      have y0 := HP4.out.cell 0 _ rfl
      have y1 := HP4.out.cell 1 _ rfl
      have y2 := HP4.out.cell 2 _ rfl
      have y3 := HP4.out.cell 3 _ rfl
      have y4 := HP4.out.cell 4 _ rfl
      have y5 := HP4.out.cell 5 _ rfl
      have r0 := HR4.out.cell 0 _ rfl
      have s0 := HR4.out.free 0 (by show 0 < 1; decide)
      have r9 := fun o => (HR4.out.alloc o).cell 0 _ rfl
      have s9 := fun o => (HR4.out.alloc o).free 0 (by show 0 < 1; decide)
      have t0 := HC4.out.cell 0 _ rfl
      have t1 := HC4.out.cell 1 _ rfl
      go_wp2_with fail
      obtain ⟨e1, e2⟩ := prm_end (w := w) (W := w4) (g := w4.heap.size) [4, m] rfl (show 2 = _ from rfl) (by decide) HR4.out HB4.out HG.out
      refine bodyPost_ret (ret_cell1 rfl _ _ ⟨G1, 0, none⟩ _ rfl e1) rfl ?_
      exact e2
set_option maxRecDepth 100000 in
set_option maxHeartbeats 8000000 in
/-- no color -/
theorem prm_c4n (w : World) : Calls Tryd.prog 39 #[.agg #[.int .i64 39, .int .i64 4, .int .i64 0, .int .i64 0, .int .i64 0, .string ⟨#[]⟩]] w (PrmPost w [39]) := by
  have hP := Par.Box.new w #[.int .i64 39, .int .i64 4, .int .i64 0, .int .i64 0, .int .i64 0, .string ⟨#[]⟩] 48
  have hR := Par.Box.new (w.alloc (.cells #[.int .i64 39, .int .i64 4, .int .i64 0, .int .i64 0, .int .i64 0, .string ⟨#[]⟩] 48)) #[.slice none 0 0] 41
  have hA := Par.Box.new ((w.alloc (.cells #[.int .i64 39, .int .i64 4, .int .i64 0, .int .i64 0, .int .i64 0, .string ⟨#[]⟩] 48)).alloc (.cells #[.slice none 0 0] 41)) #[.int .i64 1, .int .i64 1, .int .i64 22, .int .i64 2, .int .i64 2, .int .i64 22, .int .i64 3, .int .i64 4, .int .i64 23, .int .i64 5, .int .i64 8, .int .i64 25, .int .i64 7, .int .i64 16, .int .i64 27, .int .i64 8, .int .i64 32, .int .i64 28, .int .i64 9, .int .i64 64, .int .i64 29, .int .i64 53, .int .i64 128, .int .i64 55] 118
  rw [World.size_alloc] at hR
  rw [World.size_alloc, World.size_alloc] at hA
  have HP := Lib.hid ((hP.alloc (.cells #[.slice none 0 0] 41)).alloc (.cells #[.int .i64 1, .int .i64 1, .int .i64 22, .int .i64 2, .int .i64 2, .int .i64 22, .int .i64 3, .int .i64 4, .int .i64 23, .int .i64 5, .int .i64 8, .int .i64 25, .int .i64 7, .int .i64 16, .int .i64 27, .int .i64 8, .int .i64 32, .int .i64 28, .int .i64 9, .int .i64 64, .int .i64 29, .int .i64 53, .int .i64 128, .int .i64 55] 118))
  have HR := Lib.hid (hR.alloc (.cells #[.int .i64 1, .int .i64 1, .int .i64 22, .int .i64 2, .int .i64 2, .int .i64 22, .int .i64 3, .int .i64 4, .int .i64 23, .int .i64 5, .int .i64 8, .int .i64 25, .int .i64 7, .int .i64 16, .int .i64 27, .int .i64 8, .int .i64 32, .int .i64 28, .int .i64 9, .int .i64 64, .int .i64 29, .int .i64 53, .int .i64 128, .int .i64 55] 118))
  have HA := Lib.hid hA
  have HB := Lib.hid (Par.up (Par.up (below_box w (.cells #[.int .i64 39, .int .i64 4, .int .i64 0, .int .i64 0, .int .i64 0, .string ⟨#[]⟩] 48)) (below_box _ (.cells #[.slice none 0 0] 41))) (below_box _ (.cells #[.int .i64 1, .int .i64 1, .int .i64 22, .int .i64 2, .int .i64 2, .int .i64 22, .int .i64 3, .int .i64 4, .int .i64 23, .int .i64 5, .int .i64 8, .int .i64 25, .int .i64 7, .int .i64 16, .int .i64 27, .int .i64 8, .int .i64 32, .int .i64 28, .int .i64 9, .int .i64 64, .int .i64 29, .int .i64 53, .int .i64 128, .int .i64 55] 118)))
  clear hP hR hA
  go_enter Tryd.func39, Tryd.ntmps39
  go_upto_region 2 with (go_at_call 65; refine (rattrs_any _).mono ?_; rintro e w2 ⟨rfl, rfl⟩)
  generalize (((w.alloc (.cells #[.int .i64 39, .int .i64 4, .int .i64 0, .int .i64 0, .int .i64 0, .string ⟨#[]⟩] 48)).alloc (.cells #[.slice none 0 0] 41)).alloc (.cells #[.int .i64 1, .int .i64 1, .int .i64 22, .int .i64 2, .int .i64 2, .int .i64 22, .int .i64 3, .int .i64 4, .int .i64 23, .int .i64 5, .int .i64 8, .int .i64 25, .int .i64 7, .int .i64 16, .int .i64 27, .int .i64 8, .int .i64 32, .int .i64 28, .int .i64 9, .int .i64 64, .int .i64 29, .int .i64 53, .int .i64 128, .int .i64 55] 118)) = w3 at HP HR HA HB ⊢
  generalize w.heap.size + 1 + 1 = G2 at HA ⊢
  generalize hG1 : w.heap.size + 1 = G1 at HR ⊢
  have HG := Lib.hid (show w.heap.size ≤ G1 by omega)
  clear hG1
  go_wp2_with fail
  go_loopw [4] (fun i wr => ∃ k : Nat, k ≤ 8 ∧ i = .int .i64 k ∧ Hid (Below w3.heap.size w3 wr)) (fun i _ => 8 - (intOf i).toNat)
  case atStart => exact ⟨0, by omega, rfl, Below.refl _ _⟩
  case round =>
    obtain ⟨k, hk, rfl, hb⟩ := hrel
    have HPr := Lib.hid (HP.out.keep hb.out)
    have HRr := Lib.hid (HR.out.keep hb.out)
    have HBr := Lib.hid (Par.up HB.out hb.out)
    have hszr := hb.out.size
    have y0 := HPr.out.cell 0 _ rfl
    have y1 := HPr.out.cell 1 _ rfl
    have y2 := HPr.out.cell 2 _ rfl
    have y3 := HPr.out.cell 3 _ rfl
    have y4 := HPr.out.cell 4 _ rfl
    have y5 := HPr.out.cell 5 _ rfl
    by_cases hk8 : k < 8
    · have i1 : (k : Int) < 8 := by omega
      go_upto_region 5 with fail
      go_region
      go_upto_region 7 with fail
      go_region
      go_wp2_with fail
      go_roundw
      case rel => exact ⟨k + 1, by omega, by go_num, (hb.out.drew).drew⟩
      case measure => simp [intOf]; omega
    · obtain rfl : k = 8 := by omega
      have r0 := HRr.out.cell 0 _ rfl
      have s0 := HRr.out.free 0 (by show 0 < 1; decide)
      go_upto_region 10 with fail
      have HP4 := Lib.hid (HPr.out.alloc (.cells #[.int .i64 0, .int .i64 0] 46))
      have HR4 := Lib.hid (HRr.out.alloc (.cells #[.int .i64 0, .int .i64 0] 46))
      have HB4 := Lib.hid (Par.up HBr.out (below_box wr (.cells #[.int .i64 0, .int .i64 0] 46)))
      have HC4 := Lib.hid (Par.Box.new wr #[.int .i64 0, .int .i64 0] 46)
      clear y0 y1 y2 y3 y4 y5 r0 s0
      generalize wr.alloc (.cells #[.int .i64 0, .int .i64 0] 46) = w4 at HP4 HR4 HB4 HC4 ⊢
      generalize wr.heap.size = G4 at HC4 ⊢
      have y0 := HP4.out.cell 0 _ rfl
      have y1 := HP4.out.cell 1 _ rfl
      have y2 := HP4.out.cell 2 _ rfl
      have y3 := HP4.out.cell 3 _ rfl
      have y4 := HP4.out.cell 4 _ rfl
      have y5 := HP4.out.cell 5 _ rfl
      have r0 := HR4.out.cell 0 _ rfl
      have s0 := HR4.out.free 0 (by show 0 < 1; decide)
      have r9 := fun o => (HR4.out.alloc o).cell 0 _ rfl
      have s9 := fun o => (HR4.out.alloc o).free 0 (by show 0 < 1; decide)
      have t0 := HC4.out.cell 0 _ rfl
      have t1 := HC4.out.cell 1 _ rfl
      go_wp2_with fail
      obtain ⟨e1, e2⟩ := prm_end (w := w) (W := w4) (g := w4.heap.size) [39] rfl (show 1 = _ from rfl) (by decide) HR4.out HB4.out HG.out
      refine bodyPost_ret (ret_cell1 rfl _ _ ⟨G1, 0, none⟩ _ rfl e1) rfl ?_
      exact e2
set_option maxRecDepth 100000 in
set_option maxHeartbeats 8000000 in
/-- three numbers -/
theorem prm_c4r (c : Int) (w : World) (h0 : 0 ≤ c) (h1 : c ≤ 16777215) : Calls Tryd.prog 39 #[.agg #[.int .i64 39, .int .i64 4, .int .i64 0, .int .i64 2, .int .i64 c, .string ⟨#[]⟩]] w (PrmPost w [38, 2, -1, c / 65536, c / 256 % 256, c % 256]) := by
  have a1 : c.tdiv 65536 = c / 65536 := Int.tdiv_eq_ediv_of_nonneg h0
  have a2 : c.tdiv 256 = c / 256 := Int.tdiv_eq_ediv_of_nonneg h0
  have a3 : (c / 256).tmod 256 = c / 256 % 256 := Int.tmod_eq_emod_of_nonneg (by omega)
  have a4 : c.tmod 256 = c % 256 := Int.tmod_eq_emod_of_nonneg h0
  have hP := Par.Box.new w #[.int .i64 39, .int .i64 4, .int .i64 0, .int .i64 2, .int .i64 c, .string ⟨#[]⟩] 48
  have hR := Par.Box.new (w.alloc (.cells #[.int .i64 39, .int .i64 4, .int .i64 0, .int .i64 2, .int .i64 c, .string ⟨#[]⟩] 48)) #[.slice none 0 0] 41
  have hA := Par.Box.new ((w.alloc (.cells #[.int .i64 39, .int .i64 4, .int .i64 0, .int .i64 2, .int .i64 c, .string ⟨#[]⟩] 48)).alloc (.cells #[.slice none 0 0] 41)) #[.int .i64 1, .int .i64 1, .int .i64 22, .int .i64 2, .int .i64 2, .int .i64 22, .int .i64 3, .int .i64 4, .int .i64 23, .int .i64 5, .int .i64 8, .int .i64 25, .int .i64 7, .int .i64 16, .int .i64 27, .int .i64 8, .int .i64 32, .int .i64 28, .int .i64 9, .int .i64 64, .int .i64 29, .int .i64 53, .int .i64 128, .int .i64 55] 118
  rw [World.size_alloc] at hR
  rw [World.size_alloc, World.size_alloc] at hA
  have HP := Lib.hid ((hP.alloc (.cells #[.slice none 0 0] 41)).alloc (.cells #[.int .i64 1, .int .i64 1, .int .i64 22, .int .i64 2, .int .i64 2, .int .i64 22, .int .i64 3, .int .i64 4, .int .i64 23, .int .i64 5, .int .i64 8, .int .i64 25, .int .i64 7, .int .i64 16, .int .i64 27, .int .i64 8, .int .i64 32, .int .i64 28, .int .i64 9, .int .i64 64, .int .i64 29, .int .i64 53, .int .i64 128, .int .i64 55] 118))
  have HR := Lib.hid (hR.alloc (.cells #[.int .i64 1, .int .i64 1, .int .i64 22, .int .i64 2, .int .i64 2, .int .i64 22, .int .i64 3, .int .i64 4, .int .i64 23, .int .i64 5, .int .i64 8, .int .i64 25, .int .i64 7, .int .i64 16, .int .i64 27, .int .i64 8, .int .i64 32, .int .i64 28, .int .i64 9, .int .i64 64, .int .i64 29, .int .i64 53, .int .i64 128, .int .i64 55] 118))
  have HA := Lib.hid hA
  have HB := Lib.hid (Par.up (Par.up (below_box w (.cells #[.int .i64 39, .int .i64 4, .int .i64 0, .int .i64 2, .int .i64 c, .string ⟨#[]⟩] 48)) (below_box _ (.cells #[.slice none 0 0] 41))) (below_box _ (.cells #[.int .i64 1, .int .i64 1, .int .i64 22, .int .i64 2, .int .i64 2, .int .i64 22, .int .i64 3, .int .i64 4, .int .i64 23, .int .i64 5, .int .i64 8, .int .i64 25, .int .i64 7, .int .i64 16, .int .i64 27, .int .i64 8, .int .i64 32, .int .i64 28, .int .i64 9, .int .i64 64, .int .i64 29, .int .i64 53, .int .i64 128, .int .i64 55] 118)))
  clear hP hR hA
  go_enter Tryd.func39, Tryd.ntmps39
  go_upto_region 2 with (go_at_call 65; refine (rattrs_any _).mono ?_; rintro e w2 ⟨rfl, rfl⟩)
  generalize (((w.alloc (.cells #[.int .i64 39, .int .i64 4, .int .i64 0, .int .i64 2, .int .i64 c, .string ⟨#[]⟩] 48)).alloc (.cells #[.slice none 0 0] 41)).alloc (.cells #[.int .i64 1, .int .i64 1, .int .i64 22, .int .i64 2, .int .i64 2, .int .i64 22, .int .i64 3, .int .i64 4, .int .i64 23, .int .i64 5, .int .i64 8, .int .i64 25, .int .i64 7, .int .i64 16, .int .i64 27, .int .i64 8, .int .i64 32, .int .i64 28, .int .i64 9, .int .i64 64, .int .i64 29, .int .i64 53, .int .i64 128, .int .i64 55] 118)) = w3 at HP HR HA HB ⊢
  generalize w.heap.size + 1 + 1 = G2 at HA ⊢
  generalize hG1 : w.heap.size + 1 = G1 at HR ⊢
  have HG := Lib.hid (show w.heap.size ≤ G1 by omega)
  clear hG1
  go_wp2_with fail
  go_loopw [4] (fun i wr => ∃ k : Nat, k ≤ 8 ∧ i = .int .i64 k ∧ Hid (Below w3.heap.size w3 wr)) (fun i _ => 8 - (intOf i).toNat)
  case atStart => exact ⟨0, by omega, rfl, Below.refl _ _⟩
  case round =>
    obtain ⟨k, hk, rfl, hb⟩ := hrel
    have HPr := Lib.hid (HP.out.keep hb.out)
    have HRr := Lib.hid (HR.out.keep hb.out)
    have HBr := Lib.hid (Par.up HB.out hb.out)
    have hszr := hb.out.size
    have y0 := HPr.out.cell 0 _ rfl
    have y1 := HPr.out.cell 1 _ rfl
    have y2 := HPr.out.cell 2 _ rfl
    have y3 := HPr.out.cell 3 _ rfl
    have y4 := HPr.out.cell 4 _ rfl
    have y5 := HPr.out.cell 5 _ rfl
    by_cases hk8 : k < 8
    · have i1 : (k : Int) < 8 := by omega
      go_upto_region 5 with fail
      go_region
      go_upto_region 7 with fail
      go_region
      go_wp2_with fail
      go_roundw
      case rel => exact ⟨k + 1, by omega, by go_num, (hb.out.drew).drew⟩
      case measure => simp [intOf]; omega
    · obtain rfl : k = 8 := by omega
      have r0 := HRr.out.cell 0 _ rfl
      have s0 := HRr.out.free 0 (by show 0 < 1; decide)
      go_upto_region 10 with fail
      have HP4 := Lib.hid (HPr.out.alloc (.cells #[.int .i64 2, .int .i64 c] 46))
      have HR4 := Lib.hid (HRr.out.alloc (.cells #[.int .i64 2, .int .i64 c] 46))
      have HB4 := Lib.hid (Par.up HBr.out (below_box wr (.cells #[.int .i64 2, .int .i64 c] 46)))
      have HC4 := Lib.hid (Par.Box.new wr #[.int .i64 2, .int .i64 c] 46)
      clear y0 y1 y2 y3 y4 y5 r0 s0
      generalize wr.alloc (.cells #[.int .i64 2, .int .i64 c] 46) = w4 at HP4 HR4 HB4 HC4 ⊢
      generalize wr.heap.size = G4 at HC4 ⊢
      have y0 := HP4.out.cell 0 _ rfl
      have y1 := HP4.out.cell 1 _ rfl
      have y2 := HP4.out.cell 2 _ rfl
      have y3 := HP4.out.cell 3 _ rfl
      have y4 := HP4.out.cell 4 _ rfl
      have y5 := HP4.out.cell 5 _ rfl
      have r0 := HR4.out.cell 0 _ rfl
      have s0 := HR4.out.free 0 (by show 0 < 1; decide)
      have r9 := fun o => (HR4.out.alloc o).cell 0 _ rfl
      have s9 := fun o => (HR4.out.alloc o).free 0 (by show 0 < 1; decide)
      have t0 := HC4.out.cell 0 _ rfl
      have t1 := HC4.out.cell 1 _ rfl
      go_wp2_with fail
      obtain ⟨e1, e2⟩ := prm_end (w := w) (W := w4) (g := w4.heap.size) [38, 2, -1, c / 65536, c / 256 % 256, c % 256] rfl (show 6 = _ from rfl) (by decide) HR4.out HB4.out HG.out
      refine bodyPost_ret (ret_cell1 rfl _ _ ⟨G1, 0, none⟩ _ rfl e1) rfl ?_
      exact e2
set_option maxRecDepth 100000 in
set_option maxHeartbeats 8000000 in
/-- one of the first eight -/
theorem prm_c4l (c : Int) (w : World) (h0 : 0 ≤ c) (h1 : c < 8) : Calls Tryd.prog 39 #[.agg #[.int .i64 39, .int .i64 4, .int .i64 0, .int .i64 1, .int .i64 c, .string ⟨#[]⟩]] w (PrmPost w [30 + c]) := by
  have w1 : IntKind.i64.wrap (30 + c) = 30 + c := IntWalk.i64_in _ (by omega)
  have hP := Par.Box.new w #[.int .i64 39, .int .i64 4, .int .i64 0, .int .i64 1, .int .i64 c, .string ⟨#[]⟩] 48
  have hR := Par.Box.new (w.alloc (.cells #[.int .i64 39, .int .i64 4, .int .i64 0, .int .i64 1, .int .i64 c, .string ⟨#[]⟩] 48)) #[.slice none 0 0] 41
  have hA := Par.Box.new ((w.alloc (.cells #[.int .i64 39, .int .i64 4, .int .i64 0, .int .i64 1, .int .i64 c, .string ⟨#[]⟩] 48)).alloc (.cells #[.slice none 0 0] 41)) #[.int .i64 1, .int .i64 1, .int .i64 22, .int .i64 2, .int .i64 2, .int .i64 22, .int .i64 3, .int .i64 4, .int .i64 23, .int .i64 5, .int .i64 8, .int .i64 25, .int .i64 7, .int .i64 16, .int .i64 27, .int .i64 8, .int .i64 32, .int .i64 28, .int .i64 9, .int .i64 64, .int .i64 29, .int .i64 53, .int .i64 128, .int .i64 55] 118
  rw [World.size_alloc] at hR
  rw [World.size_alloc, World.size_alloc] at hA
  have HP := Lib.hid ((hP.alloc (.cells #[.slice none 0 0] 41)).alloc (.cells #[.int .i64 1, .int .i64 1, .int .i64 22, .int .i64 2, .int .i64 2, .int .i64 22, .int .i64 3, .int .i64 4, .int .i64 23, .int .i64 5, .int .i64 8, .int .i64 25, .int .i64 7, .int .i64 16, .int .i64 27, .int .i64 8, .int .i64 32, .int .i64 28, .int .i64 9, .int .i64 64, .int .i64 29, .int .i64 53, .int .i64 128, .int .i64 55] 118))
  have HR := Lib.hid (hR.alloc (.cells #[.int .i64 1, .int .i64 1, .int .i64 22, .int .i64 2, .int .i64 2, .int .i64 22, .int .i64 3, .int .i64 4, .int .i64 23, .int .i64 5, .int .i64 8, .int .i64 25, .int .i64 7, .int .i64 16, .int .i64 27, .int .i64 8, .int .i64 32, .int .i64 28, .int .i64 9, .int .i64 64, .int .i64 29, .int .i64 53, .int .i64 128, .int .i64 55] 118))
  have HA := Lib.hid hA
  have HB := Lib.hid (Par.up (Par.up (below_box w (.cells #[.int .i64 39, .int .i64 4, .int .i64 0, .int .i64 1, .int .i64 c, .string ⟨#[]⟩] 48)) (below_box _ (.cells #[.slice none 0 0] 41))) (below_box _ (.cells #[.int .i64 1, .int .i64 1, .int .i64 22, .int .i64 2, .int .i64 2, .int .i64 22, .int .i64 3, .int .i64 4, .int .i64 23, .int .i64 5, .int .i64 8, .int .i64 25, .int .i64 7, .int .i64 16, .int .i64 27, .int .i64 8, .int .i64 32, .int .i64 28, .int .i64 9, .int .i64 64, .int .i64 29, .int .i64 53, .int .i64 128, .int .i64 55] 118)))
  clear hP hR hA
  go_enter Tryd.func39, Tryd.ntmps39
  go_upto_region 2 with (go_at_call 65; refine (rattrs_any _).mono ?_; rintro e w2 ⟨rfl, rfl⟩)
  generalize (((w.alloc (.cells #[.int .i64 39, .int .i64 4, .int .i64 0, .int .i64 1, .int .i64 c, .string ⟨#[]⟩] 48)).alloc (.cells #[.slice none 0 0] 41)).alloc (.cells #[.int .i64 1, .int .i64 1, .int .i64 22, .int .i64 2, .int .i64 2, .int .i64 22, .int .i64 3, .int .i64 4, .int .i64 23, .int .i64 5, .int .i64 8, .int .i64 25, .int .i64 7, .int .i64 16, .int .i64 27, .int .i64 8, .int .i64 32, .int .i64 28, .int .i64 9, .int .i64 64, .int .i64 29, .int .i64 53, .int .i64 128, .int .i64 55] 118)) = w3 at HP HR HA HB ⊢
  generalize w.heap.size + 1 + 1 = G2 at HA ⊢
  generalize hG1 : w.heap.size + 1 = G1 at HR ⊢
  have HG := Lib.hid (show w.heap.size ≤ G1 by omega)
  clear hG1
  go_wp2_with fail
  go_loopw [4] (fun i wr => ∃ k : Nat, k ≤ 8 ∧ i = .int .i64 k ∧ Hid (Below w3.heap.size w3 wr)) (fun i _ => 8 - (intOf i).toNat)
  case atStart => exact ⟨0, by omega, rfl, Below.refl _ _⟩
  case round =>
    obtain ⟨k, hk, rfl, hb⟩ := hrel
    have HPr := Lib.hid (HP.out.keep hb.out)
    have HRr := Lib.hid (HR.out.keep hb.out)
    have HBr := Lib.hid (Par.up HB.out hb.out)
    have hszr := hb.out.size
    have y0 := HPr.out.cell 0 _ rfl
    have y1 := HPr.out.cell 1 _ rfl
    have y2 := HPr.out.cell 2 _ rfl
    have y3 := HPr.out.cell 3 _ rfl
    have y4 := HPr.out.cell 4 _ rfl
    have y5 := HPr.out.cell 5 _ rfl
    by_cases hk8 : k < 8
    · have i1 : (k : Int) < 8 := by omega
      go_upto_region 5 with fail
      go_region
      go_upto_region 7 with fail
      go_region
      go_wp2_with fail
      go_roundw
      case rel => exact ⟨k + 1, by omega, by go_num, (hb.out.drew).drew⟩
      case measure => simp [intOf]; omega
    · obtain rfl : k = 8 := by omega
      have r0 := HRr.out.cell 0 _ rfl
      have s0 := HRr.out.free 0 (by show 0 < 1; decide)
      go_upto_region 10 with fail
      have HP4 := Lib.hid (HPr.out.alloc (.cells #[.int .i64 1, .int .i64 c] 46))
      have HR4 := Lib.hid (HRr.out.alloc (.cells #[.int .i64 1, .int .i64 c] 46))
      have HB4 := Lib.hid (Par.up HBr.out (below_box wr (.cells #[.int .i64 1, .int .i64 c] 46)))
      have HC4 := Lib.hid (Par.Box.new wr #[.int .i64 1, .int .i64 c] 46)
      clear y0 y1 y2 y3 y4 y5 r0 s0
      generalize wr.alloc (.cells #[.int .i64 1, .int .i64 c] 46) = w4 at HP4 HR4 HB4 HC4 ⊢
      generalize wr.heap.size = G4 at HC4 ⊢
      have y0 := HP4.out.cell 0 _ rfl
      have y1 := HP4.out.cell 1 _ rfl
      have y2 := HP4.out.cell 2 _ rfl
      have y3 := HP4.out.cell 3 _ rfl
      have y4 := HP4.out.cell 4 _ rfl
      have y5 := HP4.out.cell 5 _ rfl
      have r0 := HR4.out.cell 0 _ rfl
      have s0 := HR4.out.free 0 (by show 0 < 1; decide)
      have r9 := fun o => (HR4.out.alloc o).cell 0 _ rfl
      have s9 := fun o => (HR4.out.alloc o).free 0 (by show 0 < 1; decide)
      have t0 := HC4.out.cell 0 _ rfl
      have t1 := HC4.out.cell 1 _ rfl
      go_wp2_with fail
      obtain ⟨e1, e2⟩ := prm_end (w := w) (W := w4) (g := w4.heap.size) [30 + c] rfl (show 1 = _ from rfl) (by decide) HR4.out HB4.out HG.out
      refine bodyPost_ret (ret_cell1 rfl _ _ ⟨G1, 0, none⟩ _ rfl e1) rfl ?_
      exact e2
set_option maxRecDepth 100000 in
set_option maxHeartbeats 8000000 in
/-- one of the next eight -/
theorem prm_c4m (c : Int) (w : World) (h0 : 8 ≤ c) (h1 : c < 16) : Calls Tryd.prog 39 #[.agg #[.int .i64 39, .int .i64 4, .int .i64 0, .int .i64 1, .int .i64 c, .string ⟨#[]⟩]] w (PrmPost w [82 + c]) := by
  have w1 : IntKind.i64.wrap (82 + c) = 82 + c := IntWalk.i64_in _ (by omega)
  have g8 : ¬ c < 8 := by omega
  have hP := Par.Box.new w #[.int .i64 39, .int .i64 4, .int .i64 0, .int .i64 1, .int .i64 c, .string ⟨#[]⟩] 48
  have hR := Par.Box.new (w.alloc (.cells #[.int .i64 39, .int .i64 4, .int .i64 0, .int .i64 1, .int .i64 c, .string ⟨#[]⟩] 48)) #[.slice none 0 0] 41
  have hA := Par.Box.new ((w.alloc (.cells #[.int .i64 39, .int .i64 4, .int .i64 0, .int .i64 1, .int .i64 c, .string ⟨#[]⟩] 48)).alloc (.cells #[.slice none 0 0] 41)) #[.int .i64 1, .int .i64 1, .int .i64 22, .int .i64 2, .int .i64 2, .int .i64 22, .int .i64 3, .int .i64 4, .int .i64 23, .int .i64 5, .int .i64 8, .int .i64 25, .int .i64 7, .int .i64 16, .int .i64 27, .int .i64 8, .int .i64 32, .int .i64 28, .int .i64 9, .int .i64 64, .int .i64 29, .int .i64 53, .int .i64 128, .int .i64 55] 118
  rw [World.size_alloc] at hR
  rw [World.size_alloc, World.size_alloc] at hA
  have HP := Lib.hid ((hP.alloc (.cells #[.slice none 0 0] 41)).alloc (.cells #[.int .i64 1, .int .i64 1, .int .i64 22, .int .i64 2, .int .i64 2, .int .i64 22, .int .i64 3, .int .i64 4, .int .i64 23, .int .i64 5, .int .i64 8, .int .i64 25, .int .i64 7, .int .i64 16, .int .i64 27, .int .i64 8, .int .i64 32, .int .i64 28, .int .i64 9, .int .i64 64, .int .i64 29, .int .i64 53, .int .i64 128, .int .i64 55] 118))
  have HR := Lib.hid (hR.alloc (.cells #[.int .i64 1, .int .i64 1, .int .i64 22, .int .i64 2, .int .i64 2, .int .i64 22, .int .i64 3, .int .i64 4, .int .i64 23, .int .i64 5, .int .i64 8, .int .i64 25, .int .i64 7, .int .i64 16, .int .i64 27, .int .i64 8, .int .i64 32, .int .i64 28, .int .i64 9, .int .i64 64, .int .i64 29, .int .i64 53, .int .i64 128, .int .i64 55] 118))
  have HA := Lib.hid hA
  have HB := Lib.hid (Par.up (Par.up (below_box w (.cells #[.int .i64 39, .int .i64 4, .int .i64 0, .int .i64 1, .int .i64 c, .string ⟨#[]⟩] 48)) (below_box _ (.cells #[.slice none 0 0] 41))) (below_box _ (.cells #[.int .i64 1, .int .i64 1, .int .i64 22, .int .i64 2, .int .i64 2, .int .i64 22, .int .i64 3, .int .i64 4, .int .i64 23, .int .i64 5, .int .i64 8, .int .i64 25, .int .i64 7, .int .i64 16, .int .i64 27, .int .i64 8, .int .i64 32, .int .i64 28, .int .i64 9, .int .i64 64, .int .i64 29, .int .i64 53, .int .i64 128, .int .i64 55] 118)))
  clear hP hR hA
  go_enter Tryd.func39, Tryd.ntmps39
  go_upto_region 2 with (go_at_call 65; refine (rattrs_any _).mono ?_; rintro e w2 ⟨rfl, rfl⟩)
  generalize (((w.alloc (.cells #[.int .i64 39, .int .i64 4, .int .i64 0, .int .i64 1, .int .i64 c, .string ⟨#[]⟩] 48)).alloc (.cells #[.slice none 0 0] 41)).alloc (.cells #[.int .i64 1, .int .i64 1, .int .i64 22, .int .i64 2, .int .i64 2, .int .i64 22, .int .i64 3, .int .i64 4, .int .i64 23, .int .i64 5, .int .i64 8, .int .i64 25, .int .i64 7, .int .i64 16, .int .i64 27, .int .i64 8, .int .i64 32, .int .i64 28, .int .i64 9, .int .i64 64, .int .i64 29, .int .i64 53, .int .i64 128, .int .i64 55] 118)) = w3 at HP HR HA HB ⊢
  generalize w.heap.size + 1 + 1 = G2 at HA ⊢
  generalize hG1 : w.heap.size + 1 = G1 at HR ⊢
  have HG := Lib.hid (show w.heap.size ≤ G1 by omega)
  clear hG1
  go_wp2_with fail
  go_loopw [4] (fun i wr => ∃ k : Nat, k ≤ 8 ∧ i = .int .i64 k ∧ Hid (Below w3.heap.size w3 wr)) (fun i _ => 8 - (intOf i).toNat)
  case atStart => exact ⟨0, by omega, rfl, Below.refl _ _⟩
  case round =>
    obtain ⟨k, hk, rfl, hb⟩ := hrel
    have HPr := Lib.hid (HP.out.keep hb.out)
    have HRr := Lib.hid (HR.out.keep hb.out)
    have HBr := Lib.hid (Par.up HB.out hb.out)
    have hszr := hb.out.size
    have y0 := HPr.out.cell 0 _ rfl
    have y1 := HPr.out.cell 1 _ rfl
    have y2 := HPr.out.cell 2 _ rfl
    have y3 := HPr.out.cell 3 _ rfl
    have y4 := HPr.out.cell 4 _ rfl
    have y5 := HPr.out.cell 5 _ rfl
    by_cases hk8 : k < 8
    · have i1 : (k : Int) < 8 := by omega
      go_upto_region 5 with fail
      go_region
      go_upto_region 7 with fail
      go_region
      go_wp2_with fail
      go_roundw
      case rel => exact ⟨k + 1, by omega, by go_num, (hb.out.drew).drew⟩
      case measure => simp [intOf]; omega
    · obtain rfl : k = 8 := by omega
      have r0 := HRr.out.cell 0 _ rfl
      have s0 := HRr.out.free 0 (by show 0 < 1; decide)
      go_upto_region 10 with fail
      have HP4 := Lib.hid (HPr.out.alloc (.cells #[.int .i64 1, .int .i64 c] 46))
      have HR4 := Lib.hid (HRr.out.alloc (.cells #[.int .i64 1, .int .i64 c] 46))
      have HB4 := Lib.hid (Par.up HBr.out (below_box wr (.cells #[.int .i64 1, .int .i64 c] 46)))
      have HC4 := Lib.hid (Par.Box.new wr #[.int .i64 1, .int .i64 c] 46)
      clear y0 y1 y2 y3 y4 y5 r0 s0
      generalize wr.alloc (.cells #[.int .i64 1, .int .i64 c] 46) = w4 at HP4 HR4 HB4 HC4 ⊢
      generalize wr.heap.size = G4 at HC4 ⊢
      have y0 := HP4.out.cell 0 _ rfl
      have y1 := HP4.out.cell 1 _ rfl
      have y2 := HP4.out.cell 2 _ rfl
      have y3 := HP4.out.cell 3 _ rfl
      have y4 := HP4.out.cell 4 _ rfl
      have y5 := HP4.out.cell 5 _ rfl
      have r0 := HR4.out.cell 0 _ rfl
      have s0 := HR4.out.free 0 (by show 0 < 1; decide)
      have r9 := fun o => (HR4.out.alloc o).cell 0 _ rfl
      have s9 := fun o => (HR4.out.alloc o).free 0 (by show 0 < 1; decide)
      have t0 := HC4.out.cell 0 _ rfl
      have t1 := HC4.out.cell 1 _ rfl
      go_wp2_with fail
      obtain ⟨e1, e2⟩ := prm_end (w := w) (W := w4) (g := w4.heap.size) [82 + c] rfl (show 1 = _ from rfl) (by decide) HR4.out HB4.out HG.out
      refine bodyPost_ret (ret_cell1 rfl _ _ ⟨G1, 0, none⟩ _ rfl e1) rfl ?_
      exact e2
set_option maxRecDepth 100000 in
set_option maxHeartbeats 8000000 in
/-- one of the rest -/
theorem prm_c4h (c : Int) (w : World) (h0 : 16 ≤ c) : Calls Tryd.prog 39 #[.agg #[.int .i64 39, .int .i64 4, .int .i64 0, .int .i64 1, .int .i64 c, .string ⟨#[]⟩]] w (PrmPost w [38, 5, c]) := by
  have g8 : ¬ c < 8 := by omega
  have g16 : ¬ c < 16 := by omega
  have hP := Par.Box.new w #[.int .i64 39, .int .i64 4, .int .i64 0, .int .i64 1, .int .i64 c, .string ⟨#[]⟩] 48
  have hR := Par.Box.new (w.alloc (.cells #[.int .i64 39, .int .i64 4, .int .i64 0, .int .i64 1, .int .i64 c, .string ⟨#[]⟩] 48)) #[.slice none 0 0] 41
  have hA := Par.Box.new ((w.alloc (.cells #[.int .i64 39, .int .i64 4, .int .i64 0, .int .i64 1, .int .i64 c, .string ⟨#[]⟩] 48)).alloc (.cells #[.slice none 0 0] 41)) #[.int .i64 1, .int .i64 1, .int .i64 22, .int .i64 2, .int .i64 2, .int .i64 22, .int .i64 3, .int .i64 4, .int .i64 23, .int .i64 5, .int .i64 8, .int .i64 25, .int .i64 7, .int .i64 16, .int .i64 27, .int .i64 8, .int .i64 32, .int .i64 28, .int .i64 9, .int .i64 64, .int .i64 29, .int .i64 53, .int .i64 128, .int .i64 55] 118
  rw [World.size_alloc] at hR
  rw [World.size_alloc, World.size_alloc] at hA
  have HP := Lib.hid ((hP.alloc (.cells #[.slice none 0 0] 41)).alloc (.cells #[.int .i64 1, .int .i64 1, .int .i64 22, .int .i64 2, .int .i64 2, .int .i64 22, .int .i64 3, .int .i64 4, .int .i64 23, .int .i64 5, .int .i64 8, .int .i64 25, .int .i64 7, .int .i64 16, .int .i64 27, .int .i64 8, .int .i64 32, .int .i64 28, .int .i64 9, .int .i64 64, .int .i64 29, .int .i64 53, .int .i64 128, .int .i64 55] 118))
  have HR := Lib.hid (hR.alloc (.cells #[.int .i64 1, .int .i64 1, .int .i64 22, .int .i64 2, .int .i64 2, .int .i64 22, .int .i64 3, .int .i64 4, .int .i64 23, .int .i64 5, .int .i64 8, .int .i64 25, .int .i64 7, .int .i64 16, .int .i64 27, .int .i64 8, .int .i64 32, .int .i64 28, .int .i64 9, .int .i64 64, .int .i64 29, .int .i64 53, .int .i64 128, .int .i64 55] 118))
  have HA := Lib.hid hA
  have HB := Lib.hid (Par.up (Par.up (below_box w (.cells #[.int .i64 39, .int .i64 4, .int .i64 0, .int .i64 1, .int .i64 c, .string ⟨#[]⟩] 48)) (below_box _ (.cells #[.slice none 0 0] 41))) (below_box _ (.cells #[.int .i64 1, .int .i64 1, .int .i64 22, .int .i64 2, .int .i64 2, .int .i64 22, .int .i64 3, .int .i64 4, .int .i64 23, .int .i64 5, .int .i64 8, .int .i64 25, .int .i64 7, .int .i64 16, .int .i64 27, .int .i64 8, .int .i64 32, .int .i64 28, .int .i64 9, .int .i64 64, .int .i64 29, .int .i64 53, .int .i64 128, .int .i64 55] 118)))
  clear hP hR hA
  go_enter Tryd.func39, Tryd.ntmps39
  go_upto_region 2 with (go_at_call 65; refine (rattrs_any _).mono ?_; rintro e w2 ⟨rfl, rfl⟩)
  generalize (((w.alloc (.cells #[.int .i64 39, .int .i64 4, .int .i64 0, .int .i64 1, .int .i64 c, .string ⟨#[]⟩] 48)).alloc (.cells #[.slice none 0 0] 41)).alloc (.cells #[.int .i64 1, .int .i64 1, .int .i64 22, .int .i64 2, .int .i64 2, .int .i64 22, .int .i64 3, .int .i64 4, .int .i64 23, .int .i64 5, .int .i64 8, .int .i64 25, .int .i64 7, .int .i64 16, .int .i64 27, .int .i64 8, .int .i64 32, .int .i64 28, .int .i64 9, .int .i64 64, .int .i64 29, .int .i64 53, .int .i64 128, .int .i64 55] 118)) = w3 at HP HR HA HB ⊢
  generalize w.heap.size + 1 + 1 = G2 at HA ⊢
  generalize hG1 : w.heap.size + 1 = G1 at HR ⊢
  have HG := Lib.hid (show w.heap.size ≤ G1 by omega)
  clear hG1
  go_wp2_with fail
  go_loopw [4] (fun i wr => ∃ k : Nat, k ≤ 8 ∧ i = .int .i64 k ∧ Hid (Below w3.heap.size w3 wr)) (fun i _ => 8 - (intOf i).toNat)
  case atStart => exact ⟨0, by omega, rfl, Below.refl _ _⟩
  case round =>
    obtain ⟨k, hk, rfl, hb⟩ := hrel
    have HPr := Lib.hid (HP.out.keep hb.out)
    have HRr := Lib.hid (HR.out.keep hb.out)
    have HBr := Lib.hid (Par.up HB.out hb.out)
    have hszr := hb.out.size
    have y0 := HPr.out.cell 0 _ rfl
    have y1 := HPr.out.cell 1 _ rfl
    have y2 := HPr.out.cell 2 _ rfl
    have y3 := HPr.out.cell 3 _ rfl
    have y4 := HPr.out.cell 4 _ rfl
    have y5 := HPr.out.cell 5 _ rfl
    by_cases hk8 : k < 8
    · have i1 : (k : Int) < 8 := by omega
      go_upto_region 5 with fail
      go_region
      go_upto_region 7 with fail
      go_region
      go_wp2_with fail
      go_roundw
      case rel => exact ⟨k + 1, by omega, by go_num, (hb.out.drew).drew⟩
      case measure => simp [intOf]; omega
    · obtain rfl : k = 8 := by omega
      have r0 := HRr.out.cell 0 _ rfl
      have s0 := HRr.out.free 0 (by show 0 < 1; decide)
      go_upto_region 10 with fail
      have HP4 := Lib.hid (HPr.out.alloc (.cells #[.int .i64 1, .int .i64 c] 46))
      have HR4 := Lib.hid (HRr.out.alloc (.cells #[.int .i64 1, .int .i64 c] 46))
      have HB4 := Lib.hid (Par.up HBr.out (below_box wr (.cells #[.int .i64 1, .int .i64 c] 46)))
      have HC4 := Lib.hid (Par.Box.new wr #[.int .i64 1, .int .i64 c] 46)
      clear y0 y1 y2 y3 y4 y5 r0 s0
      generalize wr.alloc (.cells #[.int .i64 1, .int .i64 c] 46) = w4 at HP4 HR4 HB4 HC4 ⊢
      generalize wr.heap.size = G4 at HC4 ⊢
      have y0 := HP4.out.cell 0 _ rfl
      have y1 := HP4.out.cell 1 _ rfl
      have y2 := HP4.out.cell 2 _ rfl
      have y3 := HP4.out.cell 3 _ rfl
      have y4 := HP4.out.cell 4 _ rfl
      have y5 := HP4.out.cell 5 _ rfl
      have r0 := HR4.out.cell 0 _ rfl
      have s0 := HR4.out.free 0 (by show 0 < 1; decide)
      have r9 := fun o => (HR4.out.alloc o).cell 0 _ rfl
      have s9 := fun o => (HR4.out.alloc o).free 0 (by show 0 < 1; decide)
      have t0 := HC4.out.cell 0 _ rfl
      have t1 := HC4.out.cell 1 _ rfl
      go_wp2_with fail
      obtain ⟨e1, e2⟩ := prm_end (w := w) (W := w4) (g := w4.heap.size) [38, 5, c] rfl (show 3 = _ from rfl) (by decide) HR4.out HB4.out HG.out
      refine bodyPost_ret (ret_cell1 rfl _ _ ⟨G1, 0, none⟩ _ rfl e1) rfl ?_
      exact e2
set_option maxRecDepth 100000 in
set_option maxHeartbeats 8000000 in
/-- no color -/
theorem prm_c5n (w : World) : Calls Tryd.prog 39 #[.agg #[.int .i64 39, .int .i64 5, .int .i64 0, .int .i64 0, .int .i64 0, .string ⟨#[]⟩]] w (PrmPost w [49]) := by
  have hP := Par.Box.new w #[.int .i64 39, .int .i64 5, .int .i64 0, .int .i64 0, .int .i64 0, .string ⟨#[]⟩] 48
  have hR := Par.Box.new (w.alloc (.cells #[.int .i64 39, .int .i64 5, .int .i64 0, .int .i64 0, .int .i64 0, .string ⟨#[]⟩] 48)) #[.slice none 0 0] 41
  have hA := Par.Box.new ((w.alloc (.cells #[.int .i64 39, .int .i64 5, .int .i64 0, .int .i64 0, .int .i64 0, .string ⟨#[]⟩] 48)).alloc (.cells #[.slice none 0 0] 41)) #[.int .i64 1, .int .i64 1, .int .i64 22, .int .i64 2, .int .i64 2, .int .i64 22, .int .i64 3, .int .i64 4, .int .i64 23, .int .i64 5, .int .i64 8, .int .i64 25, .int .i64 7, .int .i64 16, .int .i64 27, .int .i64 8, .int .i64 32, .int .i64 28, .int .i64 9, .int .i64 64, .int .i64 29, .int .i64 53, .int .i64 128, .int .i64 55] 118
  rw [World.size_alloc] at hR
  rw [World.size_alloc, World.size_alloc] at hA
  have HP := Lib.hid ((hP.alloc (.cells #[.slice none 0 0] 41)).alloc (.cells #[.int .i64 1, .int .i64 1, .int .i64 22, .int .i64 2, .int .i64 2, .int .i64 22, .int .i64 3, .int .i64 4, .int .i64 23, .int .i64 5, .int .i64 8, .int .i64 25, .int .i64 7, .int .i64 16, .int .i64 27, .int .i64 8, .int .i64 32, .int .i64 28, .int .i64 9, .int .i64 64, .int .i64 29, .int .i64 53, .int .i64 128, .int .i64 55] 118))
  have HR := Lib.hid (hR.alloc (.cells #[.int .i64 1, .int .i64 1, .int .i64 22, .int .i64 2, .int .i64 2, .int .i64 22, .int .i64 3, .int .i64 4, .int .i64 23, .int .i64 5, .int .i64 8, .int .i64 25, .int .i64 7, .int .i64 16, .int .i64 27, .int .i64 8, .int .i64 32, .int .i64 28, .int .i64 9, .int .i64 64, .int .i64 29, .int .i64 53, .int .i64 128, .int .i64 55] 118))
  have HA := Lib.hid hA
  have HB := Lib.hid (Par.up (Par.up (below_box w (.cells #[.int .i64 39, .int .i64 5, .int .i64 0, .int .i64 0, .int .i64 0, .string ⟨#[]⟩] 48)) (below_box _ (.cells #[.slice none 0 0] 41))) (below_box _ (.cells #[.int .i64 1, .int .i64 1, .int .i64 22, .int .i64 2, .int .i64 2, .int .i64 22, .int .i64 3, .int .i64 4, .int .i64 23, .int .i64 5, .int .i64 8, .int .i64 25, .int .i64 7, .int .i64 16, .int .i64 27, .int .i64 8, .int .i64 32, .int .i64 28, .int .i64 9, .int .i64 64, .int .i64 29, .int .i64 53, .int .i64 128, .int .i64 55] 118)))
  clear hP hR hA
  go_enter Tryd.func39, Tryd.ntmps39
  go_upto_region 2 with (go_at_call 65; refine (rattrs_any _).mono ?_; rintro e w2 ⟨rfl, rfl⟩)
  generalize (((w.alloc (.cells #[.int .i64 39, .int .i64 5, .int .i64 0, .int .i64 0, .int .i64 0, .string ⟨#[]⟩] 48)).alloc (.cells #[.slice none 0 0] 41)).alloc (.cells #[.int .i64 1, .int .i64 1, .int .i64 22, .int .i64 2, .int .i64 2, .int .i64 22, .int .i64 3, .int .i64 4, .int .i64 23, .int .i64 5, .int .i64 8, .int .i64 25, .int .i64 7, .int .i64 16, .int .i64 27, .int .i64 8, .int .i64 32, .int .i64 28, .int .i64 9, .int .i64 64, .int .i64 29, .int .i64 53, .int .i64 128, .int .i64 55] 118)) = w3 at HP HR HA HB ⊢
  generalize w.heap.size + 1 + 1 = G2 at HA ⊢
  generalize hG1 : w.heap.size + 1 = G1 at HR ⊢
  have HG := Lib.hid (show w.heap.size ≤ G1 by omega)
  clear hG1
  go_wp2_with fail
  go_loopw [4] (fun i wr => ∃ k : Nat, k ≤ 8 ∧ i = .int .i64 k ∧ Hid (Below w3.heap.size w3 wr)) (fun i _ => 8 - (intOf i).toNat)
  case atStart => exact ⟨0, by omega, rfl, Below.refl _ _⟩
  case round =>
    obtain ⟨k, hk, rfl, hb⟩ := hrel
    have HPr := Lib.hid (HP.out.keep hb.out)
    have HRr := Lib.hid (HR.out.keep hb.out)
    have HBr := Lib.hid (Par.up HB.out hb.out)
    have hszr := hb.out.size
    have y0 := HPr.out.cell 0 _ rfl
    have y1 := HPr.out.cell 1 _ rfl
    have y2 := HPr.out.cell 2 _ rfl
    have y3 := HPr.out.cell 3 _ rfl
    have y4 := HPr.out.cell 4 _ rfl
    have y5 := HPr.out.cell 5 _ rfl
    by_cases hk8 : k < 8
    · have i1 : (k : Int) < 8 := by omega
      go_upto_region 5 with fail
      go_region
      go_upto_region 7 with fail
      go_region
      go_wp2_with fail
      go_roundw
      case rel => exact ⟨k + 1, by omega, by go_num, (hb.out.drew).drew⟩
      case measure => simp [intOf]; omega
    · obtain rfl : k = 8 := by omega
      have r0 := HRr.out.cell 0 _ rfl
      have s0 := HRr.out.free 0 (by show 0 < 1; decide)
      go_upto_region 10 with fail
      have HP4 := Lib.hid (HPr.out.alloc (.cells #[.int .i64 0, .int .i64 0] 46))
      have HR4 := Lib.hid (HRr.out.alloc (.cells #[.int .i64 0, .int .i64 0] 46))
      have HB4 := Lib.hid (Par.up HBr.out (below_box wr (.cells #[.int .i64 0, .int .i64 0] 46)))
      have HC4 := Lib.hid (Par.Box.new wr #[.int .i64 0, .int .i64 0] 46)
      clear y0 y1 y2 y3 y4 y5 r0 s0
      generalize wr.alloc (.cells #[.int .i64 0, .int .i64 0] 46) = w4 at HP4 HR4 HB4 HC4 ⊢
      generalize wr.heap.size = G4 at HC4 ⊢
      have y0 := HP4.out.cell 0 _ rfl
      have y1 := HP4.out.cell 1 _ rfl
      have y2 := HP4.out.cell 2 _ rfl
      have y3 := HP4.out.cell 3 _ rfl
      have y4 := HP4.out.cell 4 _ rfl
      have y5 := HP4.out.cell 5 _ rfl
      have r0 := HR4.out.cell 0 _ rfl
      have s0 := HR4.out.free 0 (by show 0 < 1; decide)
      have r9 := fun o => (HR4.out.alloc o).cell 0 _ rfl
      have s9 := fun o => (HR4.out.alloc o).free 0 (by show 0 < 1; decide)
      have t0 := HC4.out.cell 0 _ rfl
      have t1 := HC4.out.cell 1 _ rfl
      go_wp2_with fail
      obtain ⟨e1, e2⟩ := prm_end (w := w) (W := w4) (g := w4.heap.size) [49] rfl (show 1 = _ from rfl) (by decide) HR4.out HB4.out HG.out
      refine bodyPost_ret (ret_cell1 rfl _ _ ⟨G1, 0, none⟩ _ rfl e1) rfl ?_
      exact e2
set_option maxRecDepth 100000 in
set_option maxHeartbeats 8000000 in
/-- three numbers -/
theorem prm_c5r (c : Int) (w : World) (h0 : 0 ≤ c) (h1 : c ≤ 16777215) : Calls Tryd.prog 39 #[.agg #[.int .i64 39, .int .i64 5, .int .i64 0, .int .i64 2, .int .i64 c, .string ⟨#[]⟩]] w (PrmPost w [48, 2, -1, c / 65536, c / 256 % 256, c % 256]) := by
  have a1 : c.tdiv 65536 = c / 65536 := Int.tdiv_eq_ediv_of_nonneg h0
  have a2 : c.tdiv 256 = c / 256 := Int.tdiv_eq_ediv_of_nonneg h0
  have a3 : (c / 256).tmod 256 = c / 256 % 256 := Int.tmod_eq_emod_of_nonneg (by omega)
  have a4 : c.tmod 256 = c % 256 := Int.tmod_eq_emod_of_nonneg h0
  have hP := Par.Box.new w #[.int .i64 39, .int .i64 5, .int .i64 0, .int .i64 2, .int .i64 c, .string ⟨#[]⟩] 48
  have hR := Par.Box.new (w.alloc (.cells #[.int .i64 39, .int .i64 5, .int .i64 0, .int .i64 2, .int .i64 c, .string ⟨#[]⟩] 48)) #[.slice none 0 0] 41
  have hA := Par.Box.new ((w.alloc (.cells #[.int .i64 39, .int .i64 5, .int .i64 0, .int .i64 2, .int .i64 c, .string ⟨#[]⟩] 48)).alloc (.cells #[.slice none 0 0] 41)) #[.int .i64 1, .int .i64 1, .int .i64 22, .int .i64 2, .int .i64 2, .int .i64 22, .int .i64 3, .int .i64 4, .int .i64 23, .int .i64 5, .int .i64 8, .int .i64 25, .int .i64 7, .int .i64 16, .int .i64 27, .int .i64 8, .int .i64 32, .int .i64 28, .int .i64 9, .int .i64 64, .int .i64 29, .int .i64 53, .int .i64 128, .int .i64 55] 118
  rw [World.size_alloc] at hR
  rw [World.size_alloc, World.size_alloc] at hA
  have HP := Lib.hid ((hP.alloc (.cells #[.slice none 0 0] 41)).alloc (.cells #[.int .i64 1, .int .i64 1, .int .i64 22, .int .i64 2, .int .i64 2, .int .i64 22, .int .i64 3, .int .i64 4, .int .i64 23, .int .i64 5, .int .i64 8, .int .i64 25, .int .i64 7, .int .i64 16, .int .i64 27, .int .i64 8, .int .i64 32, .int .i64 28, .int .i64 9, .int .i64 64, .int .i64 29, .int .i64 53, .int .i64 128, .int .i64 55] 118))
  have HR := Lib.hid (hR.alloc (.cells #[.int .i64 1, .int .i64 1, .int .i64 22, .int .i64 2, .int .i64 2, .int .i64 22, .int .i64 3, .int .i64 4, .int .i64 23, .int .i64 5, .int .i64 8, .int .i64 25, .int .i64 7, .int .i64 16, .int .i64 27, .int .i64 8, .int .i64 32, .int .i64 28, .int .i64 9, .int .i64 64, .int .i64 29, .int .i64 53, .int .i64 128, .int .i64 55] 118))
  have HA := Lib.hid hA
  have HB := Lib.hid (Par.up (Par.up (below_box w (.cells #[.int .i64 39, .int .i64 5, .int .i64 0, .int .i64 2, .int .i64 c, .string ⟨#[]⟩] 48)) (below_box _ (.cells #[.slice none 0 0] 41))) (below_box _ (.cells #[.int .i64 1, .int .i64 1, .int .i64 22, .int .i64 2, .int .i64 2, .int .i64 22, .int .i64 3, .int .i64 4, .int .i64 23, .int .i64 5, .int .i64 8, .int .i64 25, .int .i64 7, .int .i64 16, .int .i64 27, .int .i64 8, .int .i64 32, .int .i64 28, .int .i64 9, .int .i64 64, .int .i64 29, .int .i64 53, .int .i64 128, .int .i64 55] 118)))
  clear hP hR hA
  go_enter Tryd.func39, Tryd.ntmps39
  go_upto_region 2 with (go_at_call 65; refine (rattrs_any _).mono ?_; rintro e w2 ⟨rfl, rfl⟩)
  generalize (((w.alloc (.cells #[.int .i64 39, .int .i64 5, .int .i64 0, .int .i64 2, .int .i64 c, .string ⟨#[]⟩] 48)).alloc (.cells #[.slice none 0 0] 41)).alloc (.cells #[.int .i64 1, .int .i64 1, .int .i64 22, .int .i64 2, .int .i64 2, .int .i64 22, .int .i64 3, .int .i64 4, .int .i64 23, .int .i64 5, .int .i64 8, .int .i64 25, .int .i64 7, .int .i64 16, .int .i64 27, .int .i64 8, .int .i64 32, .int .i64 28, .int .i64 9, .int .i64 64, .int .i64 29, .int .i64 53, .int .i64 128, .int .i64 55] 118)) = w3 at HP HR HA HB ⊢
  generalize w.heap.size + 1 + 1 = G2 at HA ⊢
  generalize hG1 : w.heap.size + 1 = G1 at HR ⊢
  have HG := Lib.hid (show w.heap.size ≤ G1 by omega)
  clear hG1
  go_wp2_with fail
  go_loopw [4] (fun i wr => ∃ k : Nat, k ≤ 8 ∧ i = .int .i64 k ∧ Hid (Below w3.heap.size w3 wr)) (fun i _ => 8 - (intOf i).toNat)
  case atStart => exact ⟨0, by omega, rfl, Below.refl _ _⟩
  case round =>
    obtain ⟨k, hk, rfl, hb⟩ := hrel
    have HPr := Lib.hid (HP.out.keep hb.out)
    have HRr := Lib.hid (HR.out.keep hb.out)
    have HBr := Lib.hid (Par.up HB.out hb.out)
    have hszr := hb.out.size
    have y0 := HPr.out.cell 0 _ rfl
    have y1 := HPr.out.cell 1 _ rfl
    have y2 := HPr.out.cell 2 _ rfl
    have y3 := HPr.out.cell 3 _ rfl
    have y4 := HPr.out.cell 4 _ rfl
    have y5 := HPr.out.cell 5 _ rfl
    by_cases hk8 : k < 8
    · have i1 : (k : Int) < 8 := by omega
      go_upto_region 5 with fail
      go_region
      go_upto_region 7 with fail
      go_region
      go_wp2_with fail
      go_roundw
      case rel => exact ⟨k + 1, by omega, by go_num, (hb.out.drew).drew⟩
      case measure => simp [intOf]; omega
    · obtain rfl : k = 8 := by omega
      have r0 := HRr.out.cell 0 _ rfl
      have s0 := HRr.out.free 0 (by show 0 < 1; decide)
      go_upto_region 10 with fail
      have HP4 := Lib.hid (HPr.out.alloc (.cells #[.int .i64 2, .int .i64 c] 46))
      have HR4 := Lib.hid (HRr.out.alloc (.cells #[.int .i64 2, .int .i64 c] 46))
      have HB4 := Lib.hid (Par.up HBr.out (below_box wr (.cells #[.int .i64 2, .int .i64 c] 46)))
      have HC4 := Lib.hid (Par.Box.new wr #[.int .i64 2, .int .i64 c] 46)
      clear y0 y1 y2 y3 y4 y5 r0 s0
      generalize wr.alloc (.cells #[.int .i64 2, .int .i64 c] 46) = w4 at HP4 HR4 HB4 HC4 ⊢
      generalize wr.heap.size = G4 at HC4 ⊢
      have y0 := HP4.out.cell 0 _ rfl
      have y1 := HP4.out.cell 1 _ rfl
      have y2 := HP4.out.cell 2 _ rfl
      have y3 := HP4.out.cell 3 _ rfl
      have y4 := HP4.out.cell 4 _ rfl
      have y5 := HP4.out.cell 5 _ rfl
      have r0 := HR4.out.cell 0 _ rfl
      have s0 := HR4.out.free 0 (by show 0 < 1; decide)
      have r9 := fun o => (HR4.out.alloc o).cell 0 _ rfl
      have s9 := fun o => (HR4.out.alloc o).free 0 (by show 0 < 1; decide)
      have t0 := HC4.out.cell 0 _ rfl
      have t1 := HC4.out.cell 1 _ rfl
      go_wp2_with fail
      obtain ⟨e1, e2⟩ := prm_end (w := w) (W := w4) (g := w4.heap.size) [48, 2, -1, c / 65536, c / 256 % 256, c % 256] rfl (show 6 = _ from rfl) (by decide) HR4.out HB4.out HG.out
      refine bodyPost_ret (ret_cell1 rfl _ _ ⟨G1, 0, none⟩ _ rfl e1) rfl ?_
      exact e2
set_option maxRecDepth 100000 in
set_option maxHeartbeats 8000000 in
/-- one of the first eight -/
theorem prm_c5l (c : Int) (w : World) (h0 : 0 ≤ c) (h1 : c < 8) : Calls Tryd.prog 39 #[.agg #[.int .i64 39, .int .i64 5, .int .i64 0, .int .i64 1, .int .i64 c, .string ⟨#[]⟩]] w (PrmPost w [40 + c]) := by
  have w1 : IntKind.i64.wrap (40 + c) = 40 + c := IntWalk.i64_in _ (by omega)
  have hP := Par.Box.new w #[.int .i64 39, .int .i64 5, .int .i64 0, .int .i64 1, .int .i64 c, .string ⟨#[]⟩] 48
  have hR := Par.Box.new (w.alloc (.cells #[.int .i64 39, .int .i64 5, .int .i64 0, .int .i64 1, .int .i64 c, .string ⟨#[]⟩] 48)) #[.slice none 0 0] 41
  have hA := Par.Box.new ((w.alloc (.cells #[.int .i64 39, .int .i64 5, .int .i64 0, .int .i64 1, .int .i64 c, .string ⟨#[]⟩] 48)).alloc (.cells #[.slice none 0 0] 41)) #[.int .i64 1, .int .i64 1, .int .i64 22, .int .i64 2, .int .i64 2, .int .i64 22, .int .i64 3, .int .i64 4, .int .i64 23, .int .i64 5, .int .i64 8, .int .i64 25, .int .i64 7, .int .i64 16, .int .i64 27, .int .i64 8, .int .i64 32, .int .i64 28, .int .i64 9, .int .i64 64, .int .i64 29, .int .i64 53, .int .i64 128, .int .i64 55] 118
  rw [World.size_alloc] at hR
  rw [World.size_alloc, World.size_alloc] at hA
  have HP := Lib.hid ((hP.alloc (.cells #[.slice none 0 0] 41)).alloc (.cells #[.int .i64 1, .int .i64 1, .int .i64 22, .int .i64 2, .int .i64 2, .int .i64 22, .int .i64 3, .int .i64 4, .int .i64 23, .int .i64 5, .int .i64 8, .int .i64 25, .int .i64 7, .int .i64 16, .int .i64 27, .int .i64 8, .int .i64 32, .int .i64 28, .int .i64 9, .int .i64 64, .int .i64 29, .int .i64 53, .int .i64 128, .int .i64 55] 118))
  have HR := Lib.hid (hR.alloc (.cells #[.int .i64 1, .int .i64 1, .int .i64 22, .int .i64 2, .int .i64 2, .int .i64 22, .int .i64 3, .int .i64 4, .int .i64 23, .int .i64 5, .int .i64 8, .int .i64 25, .int .i64 7, .int .i64 16, .int .i64 27, .int .i64 8, .int .i64 32, .int .i64 28, .int .i64 9, .int .i64 64, .int .i64 29, .int .i64 53, .int .i64 128, .int .i64 55] 118))
  have HA := Lib.hid hA
  have HB := Lib.hid (Par.up (Par.up (below_box w (.cells #[.int .i64 39, .int .i64 5, .int .i64 0, .int .i64 1, .int .i64 c, .string ⟨#[]⟩] 48)) (below_box _ (.cells #[.slice none 0 0] 41))) (below_box _ (.cells #[.int .i64 1, .int .i64 1, .int .i64 22, .int .i64 2, .int .i64 2, .int .i64 22, .int .i64 3, .int .i64 4, .int .i64 23, .int .i64 5, .int .i64 8, .int .i64 25, .int .i64 7, .int .i64 16, .int .i64 27, .int .i64 8, .int .i64 32, .int .i64 28, .int .i64 9, .int .i64 64, .int .i64 29, .int .i64 53, .int .i64 128, .int .i64 55] 118)))
  clear hP hR hA
  go_enter Tryd.func39, Tryd.ntmps39
  go_upto_region 2 with (go_at_call 65; refine (rattrs_any _).mono ?_; rintro e w2 ⟨rfl, rfl⟩)
  generalize (((w.alloc (.cells #[.int .i64 39, .int .i64 5, .int .i64 0, .int .i64 1, .int .i64 c, .string ⟨#[]⟩] 48)).alloc (.cells #[.slice none 0 0] 41)).alloc (.cells #[.int .i64 1, .int .i64 1, .int .i64 22, .int .i64 2, .int .i64 2, .int .i64 22, .int .i64 3, .int .i64 4, .int .i64 23, .int .i64 5, .int .i64 8, .int .i64 25, .int .i64 7, .int .i64 16, .int .i64 27, .int .i64 8, .int .i64 32, .int .i64 28, .int .i64 9, .int .i64 64, .int .i64 29, .int .i64 53, .int .i64 128, .int .i64 55] 118)) = w3 at HP HR HA HB ⊢
  generalize w.heap.size + 1 + 1 = G2 at HA ⊢
  generalize hG1 : w.heap.size + 1 = G1 at HR ⊢
  have HG := Lib.hid (show w.heap.size ≤ G1 by omega)
  clear hG1
  go_wp2_with fail
  go_loopw [4] (fun i wr => ∃ k : Nat, k ≤ 8 ∧ i = .int .i64 k ∧ Hid (Below w3.heap.size w3 wr)) (fun i _ => 8 - (intOf i).toNat)
  case atStart => exact ⟨0, by omega, rfl, Below.refl _ _⟩
  case round =>
    obtain ⟨k, hk, rfl, hb⟩ := hrel
    have HPr := Lib.hid (HP.out.keep hb.out)
    have HRr := Lib.hid (HR.out.keep hb.out)
    have HBr := Lib.hid (Par.up HB.out hb.out)
    have hszr := hb.out.size
    have y0 := HPr.out.cell 0 _ rfl
    have y1 := HPr.out.cell 1 _ rfl
    have y2 := HPr.out.cell 2 _ rfl
    have y3 := HPr.out.cell 3 _ rfl
    have y4 := HPr.out.cell 4 _ rfl
    have y5 := HPr.out.cell 5 _ rfl
    by_cases hk8 : k < 8
    · have i1 : (k : Int) < 8 := by omega
      go_upto_region 5 with fail
      go_region
      go_upto_region 7 with fail
      go_region
      go_wp2_with fail
      go_roundw
      case rel => exact ⟨k + 1, by omega, by go_num, (hb.out.drew).drew⟩
      case measure => simp [intOf]; omega
    · obtain rfl : k = 8 := by omega
      have r0 := HRr.out.cell 0 _ rfl
      have s0 := HRr.out.free 0 (by show 0 < 1; decide)
      go_upto_region 10 with fail
      have HP4 := Lib.hid (HPr.out.alloc (.cells #[.int .i64 1, .int .i64 c] 46))
      have HR4 := Lib.hid (HRr.out.alloc (.cells #[.int .i64 1, .int .i64 c] 46))
      have HB4 := Lib.hid (Par.up HBr.out (below_box wr (.cells #[.int .i64 1, .int .i64 c] 46)))
      have HC4 := Lib.hid (Par.Box.new wr #[.int .i64 1, .int .i64 c] 46)
      clear y0 y1 y2 y3 y4 y5 r0 s0
      generalize wr.alloc (.cells #[.int .i64 1, .int .i64 c] 46) = w4 at HP4 HR4 HB4 HC4 ⊢
      generalize wr.heap.size = G4 at HC4 ⊢
      have y0 := HP4.out.cell 0 _ rfl
      have y1 := HP4.out.cell 1 _ rfl
      have y2 := HP4.out.cell 2 _ rfl
      have y3 := HP4.out.cell 3 _ rfl
      have y4 := HP4.out.cell 4 _ rfl
      have y5 := HP4.out.cell 5 _ rfl
      have r0 := HR4.out.cell 0 _ rfl
      have s0 := HR4.out.free 0 (by show 0 < 1; decide)
      have r9 := fun o => (HR4.out.alloc o).cell 0 _ rfl
      have s9 := fun o => (HR4.out.alloc o).free 0 (by show 0 < 1; decide)
      have t0 := HC4.out.cell 0 _ rfl
      have t1 := HC4.out.cell 1 _ rfl
      go_wp2_with fail
      obtain ⟨e1, e2⟩ := prm_end (w := w) (W := w4) (g := w4.heap.size) [40 + c] rfl (show 1 = _ from rfl) (by decide) HR4.out HB4.out HG.out
      refine bodyPost_ret (ret_cell1 rfl _ _ ⟨G1, 0, none⟩ _ rfl e1) rfl ?_
      exact e2
set_option maxRecDepth 100000 in
set_option maxHeartbeats 8000000 in
/-- one of the next eight -/
theorem prm_c5m (c : Int) (w : World) (h0 : 8 ≤ c) (h1 : c < 16) : Calls Tryd.prog 39 #[.agg #[.int .i64 39, .int .i64 5, .int .i64 0, .int .i64 1, .int .i64 c, .string ⟨#[]⟩]] w (PrmPost w [92 + c]) := by
  have w1 : IntKind.i64.wrap (92 + c) = 92 + c := IntWalk.i64_in _ (by omega)
  have g8 : ¬ c < 8 := by omega
  have hP := Par.Box.new w #[.int .i64 39, .int .i64 5, .int .i64 0, .int .i64 1, .int .i64 c, .string ⟨#[]⟩] 48
  have hR := Par.Box.new (w.alloc (.cells #[.int .i64 39, .int .i64 5, .int .i64 0, .int .i64 1, .int .i64 c, .string ⟨#[]⟩] 48)) #[.slice none 0 0] 41
  have hA := Par.Box.new ((w.alloc (.cells #[.int .i64 39, .int .i64 5, .int .i64 0, .int .i64 1, .int .i64 c, .string ⟨#[]⟩] 48)).alloc (.cells #[.slice none 0 0] 41)) #[.int .i64 1, .int .i64 1, .int .i64 22, .int .i64 2, .int .i64 2, .int .i64 22, .int .i64 3, .int .i64 4, .int .i64 23, .int .i64 5, .int .i64 8, .int .i64 25, .int .i64 7, .int .i64 16, .int .i64 27, .int .i64 8, .int .i64 32, .int .i64 28, .int .i64 9, .int .i64 64, .int .i64 29, .int .i64 53, .int .i64 128, .int .i64 55] 118
  rw [World.size_alloc] at hR
  rw [World.size_alloc, World.size_alloc] at hA
  have HP := Lib.hid ((hP.alloc (.cells #[.slice none 0 0] 41)).alloc (.cells #[.int .i64 1, .int .i64 1, .int .i64 22, .int .i64 2, .int .i64 2, .int .i64 22, .int .i64 3, .int .i64 4, .int .i64 23, .int .i64 5, .int .i64 8, .int .i64 25, .int .i64 7, .int .i64 16, .int .i64 27, .int .i64 8, .int .i64 32, .int .i64 28, .int .i64 9, .int .i64 64, .int .i64 29, .int .i64 53, .int .i64 128, .int .i64 55] 118))
  have HR := Lib.hid (hR.alloc (.cells #[.int .i64 1, .int .i64 1, .int .i64 22, .int .i64 2, .int .i64 2, .int .i64 22, .int .i64 3, .int .i64 4, .int .i64 23, .int .i64 5, .int .i64 8, .int .i64 25, .int .i64 7, .int .i64 16, .int .i64 27, .int .i64 8, .int .i64 32, .int .i64 28, .int .i64 9, .int .i64 64, .int .i64 29, .int .i64 53, .int .i64 128, .int .i64 55] 118))
  have HA := Lib.hid hA
  have HB := Lib.hid (Par.up (Par.up (below_box w (.cells #[.int .i64 39, .int .i64 5, .int .i64 0, .int .i64 1, .int .i64 c, .string ⟨#[]⟩] 48)) (below_box _ (.cells #[.slice none 0 0] 41))) (below_box _ (.cells #[.int .i64 1, .int .i64 1, .int .i64 22, .int .i64 2, .int .i64 2, .int .i64 22, .int .i64 3, .int .i64 4, .int .i64 23, .int .i64 5, .int .i64 8, .int .i64 25, .int .i64 7, .int .i64 16, .int .i64 27, .int .i64 8, .int .i64 32, .int .i64 28, .int .i64 9, .int .i64 64, .int .i64 29, .int .i64 53, .int .i64 128, .int .i64 55] 118)))
  clear hP hR hA
  go_enter Tryd.func39, Tryd.ntmps39
  go_upto_region 2 with (go_at_call 65; refine (rattrs_any _).mono ?_; rintro e w2 ⟨rfl, rfl⟩)
  generalize (((w.alloc (.cells #[.int .i64 39, .int .i64 5, .int .i64 0, .int .i64 1, .int .i64 c, .string ⟨#[]⟩] 48)).alloc (.cells #[.slice none 0 0] 41)).alloc (.cells #[.int .i64 1, .int .i64 1, .int .i64 22, .int .i64 2, .int .i64 2, .int .i64 22, .int .i64 3, .int .i64 4, .int .i64 23, .int .i64 5, .int .i64 8, .int .i64 25, .int .i64 7, .int .i64 16, .int .i64 27, .int .i64 8, .int .i64 32, .int .i64 28, .int .i64 9, .int .i64 64, .int .i64 29, .int .i64 53, .int .i64 128, .int .i64 55] 118)) = w3 at HP HR HA HB ⊢
  generalize w.heap.size + 1 + 1 = G2 at HA ⊢
  generalize hG1 : w.heap.size + 1 = G1 at HR ⊢
  have HG := Lib.hid (show w.heap.size ≤ G1 by omega)
  clear hG1
  go_wp2_with fail
  go_loopw [4] (fun i wr => ∃ k : Nat, k ≤ 8 ∧ i = .int .i64 k ∧ Hid (Below w3.heap.size w3 wr)) (fun i _ => 8 - (intOf i).toNat)
  case atStart => exact ⟨0, by omega, rfl, Below.refl _ _⟩
  case round =>
    obtain ⟨k, hk, rfl, hb⟩ := hrel
    have HPr := Lib.hid (HP.out.keep hb.out)
    have HRr := Lib.hid (HR.out.keep hb.out)
    have HBr := Lib.hid (Par.up HB.out hb.out)
    have hszr := hb.out.size
    have y0 := HPr.out.cell 0 _ rfl
    have y1 := HPr.out.cell 1 _ rfl
    have y2 := HPr.out.cell 2 _ rfl
    have y3 := HPr.out.cell 3 _ rfl
    have y4 := HPr.out.cell 4 _ rfl
    have y5 := HPr.out.cell 5 _ rfl
    by_cases hk8 : k < 8
    · have i1 : (k : Int) < 8 := by omega
      go_upto_region 5 with fail
      go_region
      go_upto_region 7 with fail
      go_region
      go_wp2_with fail
      go_roundw
      case rel => exact ⟨k + 1, by omega, by go_num, (hb.out.drew).drew⟩
      case measure => simp [intOf]; omega
    · obtain rfl : k = 8 := by omega
      have r0 := HRr.out.cell 0 _ rfl
      have s0 := HRr.out.free 0 (by show 0 < 1; decide)
      go_upto_region 10 with fail
      have HP4 := Lib.hid (HPr.out.alloc (.cells #[.int .i64 1, .int .i64 c] 46))
      have HR4 := Lib.hid (HRr.out.alloc (.cells #[.int .i64 1, .int .i64 c] 46))
      have HB4 := Lib.hid (Par.up HBr.out (below_box wr (.cells #[.int .i64 1, .int .i64 c] 46)))
      have HC4 := Lib.hid (Par.Box.new wr #[.int .i64 1, .int .i64 c] 46)
      clear y0 y1 y2 y3 y4 y5 r0 s0
      generalize wr.alloc (.cells #[.int .i64 1, .int .i64 c] 46) = w4 at HP4 HR4 HB4 HC4 ⊢
      generalize wr.heap.size = G4 at HC4 ⊢
      have y0 := HP4.out.cell 0 _ rfl
      have y1 := HP4.out.cell 1 _ rfl
      have y2 := HP4.out.cell 2 _ rfl
      have y3 := HP4.out.cell 3 _ rfl
      have y4 := HP4.out.cell 4 _ rfl
      have y5 := HP4.out.cell 5 _ rfl
      have r0 := HR4.out.cell 0 _ rfl
      have s0 := HR4.out.free 0 (by show 0 < 1; decide)
      have r9 := fun o => (HR4.out.alloc o).cell 0 _ rfl
      have s9 := fun o => (HR4.out.alloc o).free 0 (by show 0 < 1; decide)
      have t0 := HC4.out.cell 0 _ rfl
      have t1 := HC4.out.cell 1 _ rfl
      go_wp2_with fail
      obtain ⟨e1, e2⟩ := prm_end (w := w) (W := w4) (g := w4.heap.size) [92 + c] rfl (show 1 = _ from rfl) (by decide) HR4.out HB4.out HG.out
      refine bodyPost_ret (ret_cell1 rfl _ _ ⟨G1, 0, none⟩ _ rfl e1) rfl ?_
      exact e2
set_option maxRecDepth 100000 in
set_option maxHeartbeats 8000000 in
/-- one of the rest -/
theorem prm_c5h (c : Int) (w : World) (h0 : 16 ≤ c) : Calls Tryd.prog 39 #[.agg #[.int .i64 39, .int .i64 5, .int .i64 0, .int .i64 1, .int .i64 c, .string ⟨#[]⟩]] w (PrmPost w [48, 5, c]) := by
  have g8 : ¬ c < 8 := by omega
  have g16 : ¬ c < 16 := by omega
  have hP := Par.Box.new w #[.int .i64 39, .int .i64 5, .int .i64 0, .int .i64 1, .int .i64 c, .string ⟨#[]⟩] 48
  have hR := Par.Box.new (w.alloc (.cells #[.int .i64 39, .int .i64 5, .int .i64 0, .int .i64 1, .int .i64 c, .string ⟨#[]⟩] 48)) #[.slice none 0 0] 41
  have hA := Par.Box.new ((w.alloc (.cells #[.int .i64 39, .int .i64 5, .int .i64 0, .int .i64 1, .int .i64 c, .string ⟨#[]⟩] 48)).alloc (.cells #[.slice none 0 0] 41)) #[.int .i64 1, .int .i64 1, .int .i64 22, .int .i64 2, .int .i64 2, .int .i64 22, .int .i64 3, .int .i64 4, .int .i64 23, .int .i64 5, .int .i64 8, .int .i64 25, .int .i64 7, .int .i64 16, .int .i64 27, .int .i64 8, .int .i64 32, .int .i64 28, .int .i64 9, .int .i64 64, .int .i64 29, .int .i64 53, .int .i64 128, .int .i64 55] 118
  rw [World.size_alloc] at hR
  rw [World.size_alloc, World.size_alloc] at hA
  have HP := Lib.hid ((hP.alloc (.cells #[.slice none 0 0] 41)).alloc (.cells #[.int .i64 1, .int .i64 1, .int .i64 22, .int .i64 2, .int .i64 2, .int .i64 22, .int .i64 3, .int .i64 4, .int .i64 23, .int .i64 5, .int .i64 8, .int .i64 25, .int .i64 7, .int .i64 16, .int .i64 27, .int .i64 8, .int .i64 32, .int .i64 28, .int .i64 9, .int .i64 64, .int .i64 29, .int .i64 53, .int .i64 128, .int .i64 55] 118))
  have HR := Lib.hid (hR.alloc (.cells #[.int .i64 1, .int .i64 1, .int .i64 22, .int .i64 2, .int .i64 2, .int .i64 22, .int .i64 3, .int .i64 4, .int .i64 23, .int .i64 5, .int .i64 8, .int .i64 25, .int .i64 7, .int .i64 16, .int .i64 27, .int .i64 8, .int .i64 32, .int .i64 28, .int .i64 9, .int .i64 64, .int .i64 29, .int .i64 53, .int .i64 128, .int .i64 55] 118))
  have HA := Lib.hid hA
  have HB := Lib.hid (Par.up (Par.up (below_box w (.cells #[.int .i64 39, .int .i64 5, .int .i64 0, .int .i64 1, .int .i64 c, .string ⟨#[]⟩] 48)) (below_box _ (.cells #[.slice none 0 0] 41))) (below_box _ (.cells #[.int .i64 1, .int .i64 1, .int .i64 22, .int .i64 2, .int .i64 2, .int .i64 22, .int .i64 3, .int .i64 4, .int .i64 23, .int .i64 5, .int .i64 8, .int .i64 25, .int .i64 7, .int .i64 16, .int .i64 27, .int .i64 8, .int .i64 32, .int .i64 28, .int .i64 9, .int .i64 64, .int .i64 29, .int .i64 53, .int .i64 128, .int .i64 55] 118)))
  clear hP hR hA
  go_enter Tryd.func39, Tryd.ntmps39
  go_upto_region 2 with (go_at_call 65; refine (rattrs_any _).mono ?_; rintro e w2 ⟨rfl, rfl⟩)
  generalize (((w.alloc (.cells #[.int .i64 39, .int .i64 5, .int .i64 0, .int .i64 1, .int .i64 c, .string ⟨#[]⟩] 48)).alloc (.cells #[.slice none 0 0] 41)).alloc (.cells #[.int .i64 1, .int .i64 1, .int .i64 22, .int .i64 2, .int .i64 2, .int .i64 22, .int .i64 3, .int .i64 4, .int .i64 23, .int .i64 5, .int .i64 8, .int .i64 25, .int .i64 7, .int .i64 16, .int .i64 27, .int .i64 8, .int .i64 32, .int .i64 28, .int .i64 9, .int .i64 64, .int .i64 29, .int .i64 53, .int .i64 128, .int .i64 55] 118)) = w3 at HP HR HA HB ⊢
  generalize w.heap.size + 1 + 1 = G2 at HA ⊢
  generalize hG1 : w.heap.size + 1 = G1 at HR ⊢
  have HG := Lib.hid (show w.heap.size ≤ G1 by omega)
  clear hG1
  go_wp2_with fail
  go_loopw [4] (fun i wr => ∃ k : Nat, k ≤ 8 ∧ i = .int .i64 k ∧ Hid (Below w3.heap.size w3 wr)) (fun i _ => 8 - (intOf i).toNat)
  case atStart => exact ⟨0, by omega, rfl, Below.refl _ _⟩
  case round =>
    obtain ⟨k, hk, rfl, hb⟩ := hrel
    have HPr := Lib.hid (HP.out.keep hb.out)
    have HRr := Lib.hid (HR.out.keep hb.out)
    have HBr := Lib.hid (Par.up HB.out hb.out)
    have hszr := hb.out.size
    have y0 := HPr.out.cell 0 _ rfl
    have y1 := HPr.out.cell 1 _ rfl
    have y2 := HPr.out.cell 2 _ rfl
    have y3 := HPr.out.cell 3 _ rfl
    have y4 := HPr.out.cell 4 _ rfl
    have y5 := HPr.out.cell 5 _ rfl
    by_cases hk8 : k < 8
    · have i1 : (k : Int) < 8 := by omega
      go_upto_region 5 with fail
      go_region
      go_upto_region 7 with fail
      go_region
      go_wp2_with fail
      go_roundw
      case rel => exact ⟨k + 1, by omega, by go_num, (hb.out.drew).drew⟩
      case measure => simp [intOf]; omega
    · obtain rfl : k = 8 := by omega
      have r0 := HRr.out.cell 0 _ rfl
      have s0 := HRr.out.free 0 (by show 0 < 1; decide)
      go_upto_region 10 with fail
      have HP4 := Lib.hid (HPr.out.alloc (.cells #[.int .i64 1, .int .i64 c] 46))
      have HR4 := Lib.hid (HRr.out.alloc (.cells #[.int .i64 1, .int .i64 c] 46))
      have HB4 := Lib.hid (Par.up HBr.out (below_box wr (.cells #[.int .i64 1, .int .i64 c] 46)))
      have HC4 := Lib.hid (Par.Box.new wr #[.int .i64 1, .int .i64 c] 46)
      clear y0 y1 y2 y3 y4 y5 r0 s0
      generalize wr.alloc (.cells #[.int .i64 1, .int .i64 c] 46) = w4 at HP4 HR4 HB4 HC4 ⊢
      generalize wr.heap.size = G4 at HC4 ⊢
      have y0 := HP4.out.cell 0 _ rfl
      have y1 := HP4.out.cell 1 _ rfl
      have y2 := HP4.out.cell 2 _ rfl
      have y3 := HP4.out.cell 3 _ rfl
      have y4 := HP4.out.cell 4 _ rfl
      have y5 := HP4.out.cell 5 _ rfl
      have r0 := HR4.out.cell 0 _ rfl
      have s0 := HR4.out.free 0 (by show 0 < 1; decide)
      have r9 := fun o => (HR4.out.alloc o).cell 0 _ rfl
      have s9 := fun o => (HR4.out.alloc o).free 0 (by show 0 < 1; decide)
      have t0 := HC4.out.cell 0 _ rfl
      have t1 := HC4.out.cell 1 _ rfl
      go_wp2_with fail
      obtain ⟨e1, e2⟩ := prm_end (w := w) (W := w4) (g := w4.heap.size) [48, 5, c] rfl (show 3 = _ from rfl) (by decide) HR4.out HB4.out HG.out
      refine bodyPost_ret (ret_cell1 rfl _ _ ⟨G1, 0, none⟩ _ rfl e1) rfl ?_
      exact e2
set_option maxRecDepth 100000 in
set_option maxHeartbeats 8000000 in
/-- no color -/
theorem prm_c6n (w : World) : Calls Tryd.prog 39 #[.agg #[.int .i64 39, .int .i64 6, .int .i64 0, .int .i64 0, .int .i64 0, .string ⟨#[]⟩]] w (PrmPost w [59]) := by
  have hP := Par.Box.new w #[.int .i64 39, .int .i64 6, .int .i64 0, .int .i64 0, .int .i64 0, .string ⟨#[]⟩] 48
  have hR := Par.Box.new (w.alloc (.cells #[.int .i64 39, .int .i64 6, .int .i64 0, .int .i64 0, .int .i64 0, .string ⟨#[]⟩] 48)) #[.slice none 0 0] 41
  have hA := Par.Box.new ((w.alloc (.cells #[.int .i64 39, .int .i64 6, .int .i64 0, .int .i64 0, .int .i64 0, .string ⟨#[]⟩] 48)).alloc (.cells #[.slice none 0 0] 41)) #[.int .i64 1, .int .i64 1, .int .i64 22, .int .i64 2, .int .i64 2, .int .i64 22, .int .i64 3, .int .i64 4, .int .i64 23, .int .i64 5, .int .i64 8, .int .i64 25, .int .i64 7, .int .i64 16, .int .i64 27, .int .i64 8, .int .i64 32, .int .i64 28, .int .i64 9, .int .i64 64, .int .i64 29, .int .i64 53, .int .i64 128, .int .i64 55] 118
  rw [World.size_alloc] at hR
  rw [World.size_alloc, World.size_alloc] at hA
  have HP := Lib.hid ((hP.alloc (.cells #[.slice none 0 0] 41)).alloc (.cells #[.int .i64 1, .int .i64 1, .int .i64 22, .int .i64 2, .int .i64 2, .int .i64 22, .int .i64 3, .int .i64 4, .int .i64 23, .int .i64 5, .int .i64 8, .int .i64 25, .int .i64 7, .int .i64 16, .int .i64 27, .int .i64 8, .int .i64 32, .int .i64 28, .int .i64 9, .int .i64 64, .int .i64 29, .int .i64 53, .int .i64 128, .int .i64 55] 118))
  have HR := Lib.hid (hR.alloc (.cells #[.int .i64 1, .int .i64 1, .int .i64 22, .int .i64 2, .int .i64 2, .int .i64 22, .int .i64 3, .int .i64 4, .int .i64 23, .int .i64 5, .int .i64 8, .int .i64 25, .int .i64 7, .int .i64 16, .int .i64 27, .int .i64 8, .int .i64 32, .int .i64 28, .int .i64 9, .int .i64 64, .int .i64 29, .int .i64 53, .int .i64 128, .int .i64 55] 118))
  have HA := Lib.hid hA
  have HB := Lib.hid (Par.up (Par.up (below_box w (.cells #[.int .i64 39, .int .i64 6, .int .i64 0, .int .i64 0, .int .i64 0, .string ⟨#[]⟩] 48)) (below_box _ (.cells #[.slice none 0 0] 41))) (below_box _ (.cells #[.int .i64 1, .int .i64 1, .int .i64 22, .int .i64 2, .int .i64 2, .int .i64 22, .int .i64 3, .int .i64 4, .int .i64 23, .int .i64 5, .int .i64 8, .int .i64 25, .int .i64 7, .int .i64 16, .int .i64 27, .int .i64 8, .int .i64 32, .int .i64 28, .int .i64 9, .int .i64 64, .int .i64 29, .int .i64 53, .int .i64 128, .int .i64 55] 118)))
  clear hP hR hA
  go_enter Tryd.func39, Tryd.ntmps39
  go_upto_region 2 with (go_at_call 65; refine (rattrs_any _).mono ?_; rintro e w2 ⟨rfl, rfl⟩)
  generalize (((w.alloc (.cells #[.int .i64 39, .int .i64 6, .int .i64 0, .int .i64 0, .int .i64 0, .string ⟨#[]⟩] 48)).alloc (.cells #[.slice none 0 0] 41)).alloc (.cells #[.int .i64 1, .int .i64 1, .int .i64 22, .int .i64 2, .int .i64 2, .int .i64 22, .int .i64 3, .int .i64 4, .int .i64 23, .int .i64 5, .int .i64 8, .int .i64 25, .int .i64 7, .int .i64 16, .int .i64 27, .int .i64 8, .int .i64 32, .int .i64 28, .int .i64 9, .int .i64 64, .int .i64 29, .int .i64 53, .int .i64 128, .int .i64 55] 118)) = w3 at HP HR HA HB ⊢
  generalize w.heap.size + 1 + 1 = G2 at HA ⊢
  generalize hG1 : w.heap.size + 1 = G1 at HR ⊢
  have HG := Lib.hid (show w.heap.size ≤ G1 by omega)
  clear hG1
  go_wp2_with fail
  go_loopw [4] (fun i wr => ∃ k : Nat, k ≤ 8 ∧ i = .int .i64 k ∧ Hid (Below w3.heap.size w3 wr)) (fun i _ => 8 - (intOf i).toNat)
  case atStart => exact ⟨0, by omega, rfl, Below.refl _ _⟩
  case round =>
    obtain ⟨k, hk, rfl, hb⟩ := hrel
    have HPr := Lib.hid (HP.out.keep hb.out)
    have HRr := Lib.hid (HR.out.keep hb.out)
    have HBr := Lib.hid (Par.up HB.out hb.out)
    have hszr := hb.out.size
    have y0 := HPr.out.cell 0 _ rfl
    have y1 := HPr.out.cell 1 _ rfl
    have y2 := HPr.out.cell 2 _ rfl
    have y3 := HPr.out.cell 3 _ rfl
    have y4 := HPr.out.cell 4 _ rfl
    have y5 := HPr.out.cell 5 _ rfl
    by_cases hk8 : k < 8
    · have i1 : (k : Int) < 8 := by omega
      go_upto_region 5 with fail
      go_region
      go_upto_region 7 with fail
      go_region
      go_wp2_with fail
      go_roundw
      case rel => exact ⟨k + 1, by omega, by go_num, (hb.out.drew).drew⟩
      case measure => simp [intOf]; omega
    · obtain rfl : k = 8 := by omega
      have r0 := HRr.out.cell 0 _ rfl
      have s0 := HRr.out.free 0 (by show 0 < 1; decide)
      go_upto_region 10 with fail
      have HP4 := Lib.hid (HPr.out.alloc (.cells #[.int .i64 0, .int .i64 0] 46))
      have HR4 := Lib.hid (HRr.out.alloc (.cells #[.int .i64 0, .int .i64 0] 46))
      have HB4 := Lib.hid (Par.up HBr.out (below_box wr (.cells #[.int .i64 0, .int .i64 0] 46)))
      have HC4 := Lib.hid (Par.Box.new wr #[.int .i64 0, .int .i64 0] 46)
      clear y0 y1 y2 y3 y4 y5 r0 s0
      generalize wr.alloc (.cells #[.int .i64 0, .int .i64 0] 46) = w4 at HP4 HR4 HB4 HC4 ⊢
      generalize wr.heap.size = G4 at HC4 ⊢
      have y0 := HP4.out.cell 0 _ rfl
      have y1 := HP4.out.cell 1 _ rfl
      have y2 := HP4.out.cell 2 _ rfl
      have y3 := HP4.out.cell 3 _ rfl
      have y4 := HP4.out.cell 4 _ rfl
      have y5 := HP4.out.cell 5 _ rfl
      have r0 := HR4.out.cell 0 _ rfl
      have s0 := HR4.out.free 0 (by show 0 < 1; decide)
      have r9 := fun o => (HR4.out.alloc o).cell 0 _ rfl
      have s9 := fun o => (HR4.out.alloc o).free 0 (by show 0 < 1; decide)
      have t0 := HC4.out.cell 0 _ rfl
      have t1 := HC4.out.cell 1 _ rfl
      go_wp2_with fail
      obtain ⟨e1, e2⟩ := prm_end (w := w) (W := w4) (g := w4.heap.size) [59] rfl (show 1 = _ from rfl) (by decide) HR4.out HB4.out HG.out
      refine bodyPost_ret (ret_cell1 rfl _ _ ⟨G1, 0, none⟩ _ rfl e1) rfl ?_
      exact e2
set_option maxRecDepth 100000 in
set_option maxHeartbeats 8000000 in
/-- three numbers -/
theorem prm_c6r (c : Int) (w : World) (h0 : 0 ≤ c) (h1 : c ≤ 16777215) : Calls Tryd.prog 39 #[.agg #[.int .i64 39, .int .i64 6, .int .i64 0, .int .i64 2, .int .i64 c, .string ⟨#[]⟩]] w (PrmPost w [58, 2, -1, c / 65536, c / 256 % 256, c % 256]) := by
  have a1 : c.tdiv 65536 = c / 65536 := Int.tdiv_eq_ediv_of_nonneg h0
  have a2 : c.tdiv 256 = c / 256 := Int.tdiv_eq_ediv_of_nonneg h0
  have a3 : (c / 256).tmod 256 = c / 256 % 256 := Int.tmod_eq_emod_of_nonneg (by omega)
  have a4 : c.tmod 256 = c % 256 := Int.tmod_eq_emod_of_nonneg h0
  have hP := Par.Box.new w #[.int .i64 39, .int .i64 6, .int .i64 0, .int .i64 2, .int .i64 c, .string ⟨#[]⟩] 48
  have hR := Par.Box.new (w.alloc (.cells #[.int .i64 39, .int .i64 6, .int .i64 0, .int .i64 2, .int .i64 c, .string ⟨#[]⟩] 48)) #[.slice none 0 0] 41
  have hA := Par.Box.new ((w.alloc (.cells #[.int .i64 39, .int .i64 6, .int .i64 0, .int .i64 2, .int .i64 c, .string ⟨#[]⟩] 48)).alloc (.cells #[.slice none 0 0] 41)) #[.int .i64 1, .int .i64 1, .int .i64 22, .int .i64 2, .int .i64 2, .int .i64 22, .int .i64 3, .int .i64 4, .int .i64 23, .int .i64 5, .int .i64 8, .int .i64 25, .int .i64 7, .int .i64 16, .int .i64 27, .int .i64 8, .int .i64 32, .int .i64 28, .int .i64 9, .int .i64 64, .int .i64 29, .int .i64 53, .int .i64 128, .int .i64 55] 118
  rw [World.size_alloc] at hR
  rw [World.size_alloc, World.size_alloc] at hA
  have HP := Lib.hid ((hP.alloc (.cells #[.slice none 0 0] 41)).alloc (.cells #[.int .i64 1, .int .i64 1, .int .i64 22, .int .i64 2, .int .i64 2, .int .i64 22, .int .i64 3, .int .i64 4, .int .i64 23, .int .i64 5, .int .i64 8, .int .i64 25, .int .i64 7, .int .i64 16, .int .i64 27, .int .i64 8, .int .i64 32, .int .i64 28, .int .i64 9, .int .i64 64, .int .i64 29, .int .i64 53, .int .i64 128, .int .i64 55] 118))
  have HR := Lib.hid (hR.alloc (.cells #[.int .i64 1, .int .i64 1, .int .i64 22, .int .i64 2, .int .i64 2, .int .i64 22, .int .i64 3, .int .i64 4, .int .i64 23, .int .i64 5, .int .i64 8, .int .i64 25, .int .i64 7, .int .i64 16, .int .i64 27, .int .i64 8, .int .i64 32, .int .i64 28, .int .i64 9, .int .i64 64, .int .i64 29, .int .i64 53, .int .i64 128, .int .i64 55] 118))
  have HA := Lib.hid hA
  have HB := Lib.hid (Par.up (Par.up (below_box w (.cells #[.int .i64 39, .int .i64 6, .int .i64 0, .int .i64 2, .int .i64 c, .string ⟨#[]⟩] 48)) (below_box _ (.cells #[.slice none 0 0] 41))) (below_box _ (.cells #[.int .i64 1, .int .i64 1, .int .i64 22, .int .i64 2, .int .i64 2, .int .i64 22, .int .i64 3, .int .i64 4, .int .i64 23, .int .i64 5, .int .i64 8, .int .i64 25, .int .i64 7, .int .i64 16, .int .i64 27, .int .i64 8, .int .i64 32, .int .i64 28, .int .i64 9, .int .i64 64, .int .i64 29, .int .i64 53, .int .i64 128, .int .i64 55] 118)))
  clear hP hR hA
  go_enter Tryd.func39, Tryd.ntmps39
  go_upto_region 2 with (go_at_call 65; refine (rattrs_any _).mono ?_; rintro e w2 ⟨rfl, rfl⟩)
  generalize (((w.alloc (.cells #[.int .i64 39, .int .i64 6, .int .i64 0, .int .i64 2, .int .i64 c, .string ⟨#[]⟩] 48)).alloc (.cells #[.slice none 0 0] 41)).alloc (.cells #[.int .i64 1, .int .i64 1, .int .i64 22, .int .i64 2, .int .i64 2, .int .i64 22, .int .i64 3, .int .i64 4, .int .i64 23, .int .i64 5, .int .i64 8, .int .i64 25, .int .i64 7, .int .i64 16, .int .i64 27, .int .i64 8, .int .i64 32, .int .i64 28, .int .i64 9, .int .i64 64, .int .i64 29, .int .i64 53, .int .i64 128, .int .i64 55] 118)) = w3 at HP HR HA HB ⊢
  generalize w.heap.size + 1 + 1 = G2 at HA ⊢
  generalize hG1 : w.heap.size + 1 = G1 at HR ⊢
  have HG := Lib.hid (show w.heap.size ≤ G1 by omega)
  clear hG1
  go_wp2_with fail
  go_loopw [4] (fun i wr => ∃ k : Nat, k ≤ 8 ∧ i = .int .i64 k ∧ Hid (Below w3.heap.size w3 wr)) (fun i _ => 8 - (intOf i).toNat)
  case atStart => exact ⟨0, by omega, rfl, Below.refl _ _⟩
  case round =>
    obtain ⟨k, hk, rfl, hb⟩ := hrel
    have HPr := Lib.hid (HP.out.keep hb.out)
    have HRr := Lib.hid (HR.out.keep hb.out)
    have HBr := Lib.hid (Par.up HB.out hb.out)
    have hszr := hb.out.size
    have y0 := HPr.out.cell 0 _ rfl
    have y1 := HPr.out.cell 1 _ rfl
    have y2 := HPr.out.cell 2 _ rfl
    have y3 := HPr.out.cell 3 _ rfl
    have y4 := HPr.out.cell 4 _ rfl
    have y5 := HPr.out.cell 5 _ rfl
    by_cases hk8 : k < 8
    · have i1 : (k : Int) < 8 := by omega
      go_upto_region 5 with fail
      go_region
      go_upto_region 7 with fail
      go_region
      go_wp2_with fail
      go_roundw
      case rel => exact ⟨k + 1, by omega, by go_num, (hb.out.drew).drew⟩
      case measure => simp [intOf]; omega
    · obtain rfl : k = 8 := by omega
      have r0 := HRr.out.cell 0 _ rfl
      have s0 := HRr.out.free 0 (by show 0 < 1; decide)
      go_upto_region 10 with fail
      have HP4 := Lib.hid (HPr.out.alloc (.cells #[.int .i64 2, .int .i64 c] 46))
      have HR4 := Lib.hid (HRr.out.alloc (.cells #[.int .i64 2, .int .i64 c] 46))
      have HB4 := Lib.hid (Par.up HBr.out (below_box wr (.cells #[.int .i64 2, .int .i64 c] 46)))
      have HC4 := Lib.hid (Par.Box.new wr #[.int .i64 2, .int .i64 c] 46)
      clear y0 y1 y2 y3 y4 y5 r0 s0
      generalize wr.alloc (.cells #[.int .i64 2, .int .i64 c] 46) = w4 at HP4 HR4 HB4 HC4 ⊢
      generalize wr.heap.size = G4 at HC4 ⊢
      have y0 := HP4.out.cell 0 _ rfl
      have y1 := HP4.out.cell 1 _ rfl
      have y2 := HP4.out.cell 2 _ rfl
      have y3 := HP4.out.cell 3 _ rfl
      have y4 := HP4.out.cell 4 _ rfl
      have y5 := HP4.out.cell 5 _ rfl
      have r0 := HR4.out.cell 0 _ rfl
      have s0 := HR4.out.free 0 (by show 0 < 1; decide)
      have r9 := fun o => (HR4.out.alloc o).cell 0 _ rfl
      have s9 := fun o => (HR4.out.alloc o).free 0 (by show 0 < 1; decide)
      have t0 := HC4.out.cell 0 _ rfl
      have t1 := HC4.out.cell 1 _ rfl
      go_wp2_with fail
      obtain ⟨e1, e2⟩ := prm_end (w := w) (W := w4) (g := w4.heap.size) [58, 2, -1, c / 65536, c / 256 % 256, c % 256] rfl (show 6 = _ from rfl) (by decide) HR4.out HB4.out HG.out
      refine bodyPost_ret (ret_cell1 rfl _ _ ⟨G1, 0, none⟩ _ rfl e1) rfl ?_
      exact e2
set_option maxRecDepth 100000 in
set_option maxHeartbeats 8000000 in
/-- any -/
theorem prm_c6h (c : Int) (w : World) : Calls Tryd.prog 39 #[.agg #[.int .i64 39, .int .i64 6, .int .i64 0, .int .i64 1, .int .i64 c, .string ⟨#[]⟩]] w (PrmPost w [58, 5, c]) := by
  have hP := Par.Box.new w #[.int .i64 39, .int .i64 6, .int .i64 0, .int .i64 1, .int .i64 c, .string ⟨#[]⟩] 48
  have hR := Par.Box.new (w.alloc (.cells #[.int .i64 39, .int .i64 6, .int .i64 0, .int .i64 1, .int .i64 c, .string ⟨#[]⟩] 48)) #[.slice none 0 0] 41
  have hA := Par.Box.new ((w.alloc (.cells #[.int .i64 39, .int .i64 6, .int .i64 0, .int .i64 1, .int .i64 c, .string ⟨#[]⟩] 48)).alloc (.cells #[.slice none 0 0] 41)) #[.int .i64 1, .int .i64 1, .int .i64 22, .int .i64 2, .int .i64 2, .int .i64 22, .int .i64 3, .int .i64 4, .int .i64 23, .int .i64 5, .int .i64 8, .int .i64 25, .int .i64 7, .int .i64 16, .int .i64 27, .int .i64 8, .int .i64 32, .int .i64 28, .int .i64 9, .int .i64 64, .int .i64 29, .int .i64 53, .int .i64 128, .int .i64 55] 118
  rw [World.size_alloc] at hR
  rw [World.size_alloc, World.size_alloc] at hA
  have HP := Lib.hid ((hP.alloc (.cells #[.slice none 0 0] 41)).alloc (.cells #[.int .i64 1, .int .i64 1, .int .i64 22, .int .i64 2, .int .i64 2, .int .i64 22, .int .i64 3, .int .i64 4, .int .i64 23, .int .i64 5, .int .i64 8, .int .i64 25, .int .i64 7, .int .i64 16, .int .i64 27, .int .i64 8, .int .i64 32, .int .i64 28, .int .i64 9, .int .i64 64, .int .i64 29, .int .i64 53, .int .i64 128, .int .i64 55] 118))
  have HR := Lib.hid (hR.alloc (.cells #[.int .i64 1, .int .i64 1, .int .i64 22, .int .i64 2, .int .i64 2, .int .i64 22, .int .i64 3, .int .i64 4, .int .i64 23, .int .i64 5, .int .i64 8, .int .i64 25, .int .i64 7, .int .i64 16, .int .i64 27, .int .i64 8, .int .i64 32, .int .i64 28, .int .i64 9, .int .i64 64, .int .i64 29, .int .i64 53, .int .i64 128, .int .i64 55] 118))
  have HA := Lib.hid hA
  have HB := Lib.hid (Par.up (Par.up (below_box w (.cells #[.int .i64 39, .int .i64 6, .int .i64 0, .int .i64 1, .int .i64 c, .string ⟨#[]⟩] 48)) (below_box _ (.cells #[.slice none 0 0] 41))) (below_box _ (.cells #[.int .i64 1, .int .i64 1, .int .i64 22, .int .i64 2, .int .i64 2, .int .i64 22, .int .i64 3, .int .i64 4, .int .i64 23, .int .i64 5, .int .i64 8, .int .i64 25, .int .i64 7, .int .i64 16, .int .i64 27, .int .i64 8, .int .i64 32, .int .i64 28, .int .i64 9, .int .i64 64, .int .i64 29, .int .i64 53, .int .i64 128, .int .i64 55] 118)))
  clear hP hR hA
  go_enter Tryd.func39, Tryd.ntmps39
  go_upto_region 2 with (go_at_call 65; refine (rattrs_any _).mono ?_; rintro e w2 ⟨rfl, rfl⟩)
  generalize (((w.alloc (.cells #[.int .i64 39, .int .i64 6, .int .i64 0, .int .i64 1, .int .i64 c, .string ⟨#[]⟩] 48)).alloc (.cells #[.slice none 0 0] 41)).alloc (.cells #[.int .i64 1, .int .i64 1, .int .i64 22, .int .i64 2, .int .i64 2, .int .i64 22, .int .i64 3, .int .i64 4, .int .i64 23, .int .i64 5, .int .i64 8, .int .i64 25, .int .i64 7, .int .i64 16, .int .i64 27, .int .i64 8, .int .i64 32, .int .i64 28, .int .i64 9, .int .i64 64, .int .i64 29, .int .i64 53, .int .i64 128, .int .i64 55] 118)) = w3 at HP HR HA HB ⊢
  generalize w.heap.size + 1 + 1 = G2 at HA ⊢
  generalize hG1 : w.heap.size + 1 = G1 at HR ⊢
  have HG := Lib.hid (show w.heap.size ≤ G1 by omega)
  clear hG1
  go_wp2_with fail
  go_loopw [4] (fun i wr => ∃ k : Nat, k ≤ 8 ∧ i = .int .i64 k ∧ Hid (Below w3.heap.size w3 wr)) (fun i _ => 8 - (intOf i).toNat)
  case atStart => exact ⟨0, by omega, rfl, Below.refl _ _⟩
  case round =>
    obtain ⟨k, hk, rfl, hb⟩ := hrel
    have HPr := Lib.hid (HP.out.keep hb.out)
    have HRr := Lib.hid (HR.out.keep hb.out)
    have HBr := Lib.hid (Par.up HB.out hb.out)
    have hszr := hb.out.size
    have y0 := HPr.out.cell 0 _ rfl
    have y1 := HPr.out.cell 1 _ rfl
    have y2 := HPr.out.cell 2 _ rfl
    have y3 := HPr.out.cell 3 _ rfl
    have y4 := HPr.out.cell 4 _ rfl
    have y5 := HPr.out.cell 5 _ rfl
    by_cases hk8 : k < 8
    · have i1 : (k : Int) < 8 := by omega
      go_upto_region 5 with fail
      go_region
      go_upto_region 7 with fail
      go_region
      go_wp2_with fail
      go_roundw
      case rel => exact ⟨k + 1, by omega, by go_num, (hb.out.drew).drew⟩
      case measure => simp [intOf]; omega
    · obtain rfl : k = 8 := by omega
      have r0 := HRr.out.cell 0 _ rfl
      have s0 := HRr.out.free 0 (by show 0 < 1; decide)
      go_upto_region 10 with fail
      have HP4 := Lib.hid (HPr.out.alloc (.cells #[.int .i64 1, .int .i64 c] 46))
      have HR4 := Lib.hid (HRr.out.alloc (.cells #[.int .i64 1, .int .i64 c] 46))
      have HB4 := Lib.hid (Par.up HBr.out (below_box wr (.cells #[.int .i64 1, .int .i64 c] 46)))
      have HC4 := Lib.hid (Par.Box.new wr #[.int .i64 1, .int .i64 c] 46)
      clear y0 y1 y2 y3 y4 y5 r0 s0
      generalize wr.alloc (.cells #[.int .i64 1, .int .i64 c] 46) = w4 at HP4 HR4 HB4 HC4 ⊢
      generalize wr.heap.size = G4 at HC4 ⊢
      have y0 := HP4.out.cell 0 _ rfl
      have y1 := HP4.out.cell 1 _ rfl
      have y2 := HP4.out.cell 2 _ rfl
      have y3 := HP4.out.cell 3 _ rfl
      have y4 := HP4.out.cell 4 _ rfl
      have y5 := HP4.out.cell 5 _ rfl
      have r0 := HR4.out.cell 0 _ rfl
      have s0 := HR4.out.free 0 (by show 0 < 1; decide)
      have r9 := fun o => (HR4.out.alloc o).cell 0 _ rfl
      have s9 := fun o => (HR4.out.alloc o).free 0 (by show 0 < 1; decide)
      have t0 := HC4.out.cell 0 _ rfl
      have t1 := HC4.out.cell 1 _ rfl
      go_wp2_with fail
      obtain ⟨e1, e2⟩ := prm_end (w := w) (W := w4) (g := w4.heap.size) [58, 5, c] rfl (show 3 = _ from rfl) (by decide) HR4.out HB4.out HG.out
      refine bodyPost_ret (ret_cell1 rfl _ _ ⟨G1, 0, none⟩ _ rfl e1) rfl ?_
      exact e2
set_option maxRecDepth 100000 in
set_option maxHeartbeats 8000000 in
/-- an attribute set -/
theorem prm_set (m : Int) (w : World) (hm : Sty.attr m = true) : Calls Tryd.prog 39 #[.agg #[.int .i64 39, .int .i64 1, .int .i64 m, .int .i64 0, .int .i64 0, .string ⟨#[]⟩]] w (PrmPost w [setV m]) := by
  have HM := Lib.hid hm
  clear hm
  have hP := Par.Box.new w #[.int .i64 39, .int .i64 1, .int .i64 m, .int .i64 0, .int .i64 0, .string ⟨#[]⟩] 48
  have hR := Par.Box.new (w.alloc (.cells #[.int .i64 39, .int .i64 1, .int .i64 m, .int .i64 0, .int .i64 0, .string ⟨#[]⟩] 48)) #[.slice none 0 0] 41
  have hA := Par.Box.new ((w.alloc (.cells #[.int .i64 39, .int .i64 1, .int .i64 m, .int .i64 0, .int .i64 0, .string ⟨#[]⟩] 48)).alloc (.cells #[.slice none 0 0] 41)) #[.int .i64 1, .int .i64 1, .int .i64 22, .int .i64 2, .int .i64 2, .int .i64 22, .int .i64 3, .int .i64 4, .int .i64 23, .int .i64 5, .int .i64 8, .int .i64 25, .int .i64 7, .int .i64 16, .int .i64 27, .int .i64 8, .int .i64 32, .int .i64 28, .int .i64 9, .int .i64 64, .int .i64 29, .int .i64 53, .int .i64 128, .int .i64 55] 118
  rw [World.size_alloc] at hR
  rw [World.size_alloc, World.size_alloc] at hA
  have HP := Lib.hid ((hP.alloc (.cells #[.slice none 0 0] 41)).alloc (.cells #[.int .i64 1, .int .i64 1, .int .i64 22, .int .i64 2, .int .i64 2, .int .i64 22, .int .i64 3, .int .i64 4, .int .i64 23, .int .i64 5, .int .i64 8, .int .i64 25, .int .i64 7, .int .i64 16, .int .i64 27, .int .i64 8, .int .i64 32, .int .i64 28, .int .i64 9, .int .i64 64, .int .i64 29, .int .i64 53, .int .i64 128, .int .i64 55] 118))
  have HR := Lib.hid (hR.alloc (.cells #[.int .i64 1, .int .i64 1, .int .i64 22, .int .i64 2, .int .i64 2, .int .i64 22, .int .i64 3, .int .i64 4, .int .i64 23, .int .i64 5, .int .i64 8, .int .i64 25, .int .i64 7, .int .i64 16, .int .i64 27, .int .i64 8, .int .i64 32, .int .i64 28, .int .i64 9, .int .i64 64, .int .i64 29, .int .i64 53, .int .i64 128, .int .i64 55] 118))
  have HA := Lib.hid hA
  have HB := Lib.hid (Par.up (Par.up (below_box w (.cells #[.int .i64 39, .int .i64 1, .int .i64 m, .int .i64 0, .int .i64 0, .string ⟨#[]⟩] 48)) (below_box _ (.cells #[.slice none 0 0] 41))) (below_box _ (.cells #[.int .i64 1, .int .i64 1, .int .i64 22, .int .i64 2, .int .i64 2, .int .i64 22, .int .i64 3, .int .i64 4, .int .i64 23, .int .i64 5, .int .i64 8, .int .i64 25, .int .i64 7, .int .i64 16, .int .i64 27, .int .i64 8, .int .i64 32, .int .i64 28, .int .i64 9, .int .i64 64, .int .i64 29, .int .i64 53, .int .i64 128, .int .i64 55] 118)))
  clear hP hR hA
  go_enter Tryd.func39, Tryd.ntmps39
  go_upto_region 2 with (go_at_call 65; refine (rattrs_any _).mono ?_; rintro e w2 ⟨rfl, rfl⟩)
  generalize (((w.alloc (.cells #[.int .i64 39, .int .i64 1, .int .i64 m, .int .i64 0, .int .i64 0, .string ⟨#[]⟩] 48)).alloc (.cells #[.slice none 0 0] 41)).alloc (.cells #[.int .i64 1, .int .i64 1, .int .i64 22, .int .i64 2, .int .i64 2, .int .i64 22, .int .i64 3, .int .i64 4, .int .i64 23, .int .i64 5, .int .i64 8, .int .i64 25, .int .i64 7, .int .i64 16, .int .i64 27, .int .i64 8, .int .i64 32, .int .i64 28, .int .i64 9, .int .i64 64, .int .i64 29, .int .i64 53, .int .i64 128, .int .i64 55] 118)) = w3 at HP HR HA HB ⊢
  generalize w.heap.size + 1 + 1 = G2 at HA ⊢
  generalize hG1 : w.heap.size + 1 = G1 at HR ⊢
  have HG := Lib.hid (show w.heap.size ≤ G1 by omega)
  clear hG1
  go_wp2_with fail
  go_loopw [4] (fun i wr => ∃ k : Nat, k ≤ 8 ∧ i = .int .i64 k ∧ Hid (Below w3.heap.size w3 wr) ∧ ∀ j : Nat, j < k → m ≠ attsL.getD j 0) (fun i _ => 8 - (intOf i).toNat)
  case atStart => exact ⟨0, by omega, rfl, Below.refl _ _, fun j hj => absurd hj (Nat.not_lt_zero _)⟩
  case round =>
    obtain ⟨k, hk, rfl, hb, hq⟩ := hrel
    have HPr := Lib.hid (HP.out.keep hb.out)
    have HRr := Lib.hid (HR.out.keep hb.out)
    have HAr := Lib.hid (HA.out.keep hb.out)
    have HBr := Lib.hid (Par.up HB.out hb.out)
    have hszr := hb.out.size
    have y0 := HPr.out.cell 0 _ rfl
    have y1 := HPr.out.cell 1 _ rfl
    have y2 := HPr.out.cell 2 _ rfl
    have y3 := HPr.out.cell 3 _ rfl
    have y4 := HPr.out.cell 4 _ rfl
    have y5 := HPr.out.cell 5 _ rfl
    have a0 := HAr.out.cell 0 _ rfl
    have a1 := HAr.out.cell 1 _ rfl
    have a2 := HAr.out.cell 2 _ rfl
    have a3 := HAr.out.cell 3 _ rfl
    have a4 := HAr.out.cell 4 _ rfl
    have a5 := HAr.out.cell 5 _ rfl
    have a6 := HAr.out.cell 6 _ rfl
    have a7 := HAr.out.cell 7 _ rfl
    have a8 := HAr.out.cell 8 _ rfl
    have a9 := HAr.out.cell 9 _ rfl
    have a10 := HAr.out.cell 10 _ rfl
    have a11 := HAr.out.cell 11 _ rfl
    have a12 := HAr.out.cell 12 _ rfl
    have a13 := HAr.out.cell 13 _ rfl
    have a14 := HAr.out.cell 14 _ rfl
    have a15 := HAr.out.cell 15 _ rfl
    have a16 := HAr.out.cell 16 _ rfl
    have a17 := HAr.out.cell 17 _ rfl
    have a18 := HAr.out.cell 18 _ rfl
    have a19 := HAr.out.cell 19 _ rfl
    have a20 := HAr.out.cell 20 _ rfl
    have a21 := HAr.out.cell 21 _ rfl
    have a22 := HAr.out.cell 22 _ rfl
    have a23 := HAr.out.cell 23 _ rfl
    have HP' := Lib.hid hq
    clear hq
    rcases (show k = 0 ∨ k = 1 ∨ k = 2 ∨ k = 3 ∨ k = 4 ∨ k = 5 ∨ k = 6 ∨ k = 7 ∨ k = 8 by omega) with rfl | rfl | rfl | rfl | rfl | rfl | rfl | rfl | rfl
    · by_cases h : m = 1
      · subst h
        go_upto_region 5 with fail
        go_region
        go_upto_region 6 with fail
        have HR4 := Lib.hid (HRr.out.keep (Below.refl _ _).drew)
        have HA4 := Lib.hid (HAr.out.keep (Below.refl _ _).drew)
        have HB4 := Lib.hid (Par.up HBr.out (Below.refl _ _).drew)
        clear y0 y1 y2 y3 y4 y5 a0 a1 a2 a3 a4 a5 a6 a7 a8 a9 a10 a11 a12 a13 a14 a15 a16 a17 a18 a19 a20 a21 a22 a23
        generalize wr.drew = w4 at HR4 HA4 HB4 ⊢
        have r0 := HR4.out.cell 0 _ rfl
        have s0 := HR4.out.free 0 (by show 0 < 1; decide)
        have r9 := fun o => (HR4.out.alloc o).cell 0 _ rfl
        have s9 := fun o => (HR4.out.alloc o).free 0 (by show 0 < 1; decide)
        have a0 := HA4.out.cell 0 _ rfl
        have a1 := HA4.out.cell 1 _ rfl
        have a2 := HA4.out.cell 2 _ rfl
        have a3 := HA4.out.cell 3 _ rfl
        have a4 := HA4.out.cell 4 _ rfl
        have a5 := HA4.out.cell 5 _ rfl
        have a6 := HA4.out.cell 6 _ rfl
        have a7 := HA4.out.cell 7 _ rfl
        have a8 := HA4.out.cell 8 _ rfl
        have a9 := HA4.out.cell 9 _ rfl
        have a10 := HA4.out.cell 10 _ rfl
        have a11 := HA4.out.cell 11 _ rfl
        have a12 := HA4.out.cell 12 _ rfl
        have a13 := HA4.out.cell 13 _ rfl
        have a14 := HA4.out.cell 14 _ rfl
        have a15 := HA4.out.cell 15 _ rfl
        have a16 := HA4.out.cell 16 _ rfl
        have a17 := HA4.out.cell 17 _ rfl
        have a18 := HA4.out.cell 18 _ rfl
        have a19 := HA4.out.cell 19 _ rfl
        have a20 := HA4.out.cell 20 _ rfl
        have a21 := HA4.out.cell 21 _ rfl
        have a22 := HA4.out.cell 22 _ rfl
        have a23 := HA4.out.cell 23 _ rfl
        go_wp2_with fail
        obtain ⟨e1, e2⟩ := prm_end (w := w) (W := w4) (g := w4.heap.size) [1] rfl (show 1 = _ from rfl) (by decide) HR4.out HB4.out HG.out
        refine bodyPost_ret (ret_cell1 rfl _ _ ⟨G1, 0, none⟩ _ rfl e1) rfl ?_
        exact e2
      · have b : (m == 1) = false := by simp [h]
        have HN := Lib.hid (show m ≠ attsL.getD 0 0 from h)
        clear h
        go_upto_region 5 with fail
        go_region
        go_upto_region 7 with fail
        go_region
        go_wp2_with fail
        go_roundw
        case rel => exact ⟨1, by omega, by go_num, (hb.out.drew).drew, fun j hj => by
          by_cases e : j = 0
          · subst e; exact HN.out
          · exact HP'.out j (by omega)⟩
        case measure => simp [intOf]
    · by_cases h : m = 2
      · subst h
        go_upto_region 5 with fail
        go_region
        go_upto_region 6 with fail
        have HR4 := Lib.hid (HRr.out.keep (Below.refl _ _).drew)
        have HA4 := Lib.hid (HAr.out.keep (Below.refl _ _).drew)
        have HB4 := Lib.hid (Par.up HBr.out (Below.refl _ _).drew)
        clear y0 y1 y2 y3 y4 y5 a0 a1 a2 a3 a4 a5 a6 a7 a8 a9 a10 a11 a12 a13 a14 a15 a16 a17 a18 a19 a20 a21 a22 a23
        generalize wr.drew = w4 at HR4 HA4 HB4 ⊢
        have r0 := HR4.out.cell 0 _ rfl
        have s0 := HR4.out.free 0 (by show 0 < 1; decide)
        have r9 := fun o => (HR4.out.alloc o).cell 0 _ rfl
        have s9 := fun o => (HR4.out.alloc o).free 0 (by show 0 < 1; decide)
        have a0 := HA4.out.cell 0 _ rfl
        have a1 := HA4.out.cell 1 _ rfl
        have a2 := HA4.out.cell 2 _ rfl
        have a3 := HA4.out.cell 3 _ rfl
        have a4 := HA4.out.cell 4 _ rfl
        have a5 := HA4.out.cell 5 _ rfl
        have a6 := HA4.out.cell 6 _ rfl
        have a7 := HA4.out.cell 7 _ rfl
        have a8 := HA4.out.cell 8 _ rfl
        have a9 := HA4.out.cell 9 _ rfl
        have a10 := HA4.out.cell 10 _ rfl
        have a11 := HA4.out.cell 11 _ rfl
        have a12 := HA4.out.cell 12 _ rfl
        have a13 := HA4.out.cell 13 _ rfl
        have a14 := HA4.out.cell 14 _ rfl
        have a15 := HA4.out.cell 15 _ rfl
        have a16 := HA4.out.cell 16 _ rfl
        have a17 := HA4.out.cell 17 _ rfl
        have a18 := HA4.out.cell 18 _ rfl
        have a19 := HA4.out.cell 19 _ rfl
        have a20 := HA4.out.cell 20 _ rfl
        have a21 := HA4.out.cell 21 _ rfl
        have a22 := HA4.out.cell 22 _ rfl
        have a23 := HA4.out.cell 23 _ rfl
        go_wp2_with fail
        obtain ⟨e1, e2⟩ := prm_end (w := w) (W := w4) (g := w4.heap.size) [2] rfl (show 1 = _ from rfl) (by decide) HR4.out HB4.out HG.out
        refine bodyPost_ret (ret_cell1 rfl _ _ ⟨G1, 0, none⟩ _ rfl e1) rfl ?_
        exact e2
      · have b : (m == 2) = false := by simp [h]
        have HN := Lib.hid (show m ≠ attsL.getD 1 0 from h)
        clear h
        go_upto_region 5 with fail
        go_region
        go_upto_region 7 with fail
        go_region
        go_wp2_with fail
        go_roundw
        case rel => exact ⟨2, by omega, by go_num, (hb.out.drew).drew, fun j hj => by
          by_cases e : j = 1
          · subst e; exact HN.out
          · exact HP'.out j (by omega)⟩
        case measure => simp [intOf]
    · by_cases h : m = 4
      · subst h
        go_upto_region 5 with fail
        go_region
        go_upto_region 6 with fail
        have HR4 := Lib.hid (HRr.out.keep (Below.refl _ _).drew)
        have HA4 := Lib.hid (HAr.out.keep (Below.refl _ _).drew)
        have HB4 := Lib.hid (Par.up HBr.out (Below.refl _ _).drew)
        clear y0 y1 y2 y3 y4 y5 a0 a1 a2 a3 a4 a5 a6 a7 a8 a9 a10 a11 a12 a13 a14 a15 a16 a17 a18 a19 a20 a21 a22 a23
        generalize wr.drew = w4 at HR4 HA4 HB4 ⊢
        have r0 := HR4.out.cell 0 _ rfl
        have s0 := HR4.out.free 0 (by show 0 < 1; decide)
        have r9 := fun o => (HR4.out.alloc o).cell 0 _ rfl
        have s9 := fun o => (HR4.out.alloc o).free 0 (by show 0 < 1; decide)
        have a0 := HA4.out.cell 0 _ rfl
        have a1 := HA4.out.cell 1 _ rfl
        have a2 := HA4.out.cell 2 _ rfl
        have a3 := HA4.out.cell 3 _ rfl
        have a4 := HA4.out.cell 4 _ rfl
        have a5 := HA4.out.cell 5 _ rfl
        have a6 := HA4.out.cell 6 _ rfl
        have a7 := HA4.out.cell 7 _ rfl
        have a8 := HA4.out.cell 8 _ rfl
        have a9 := HA4.out.cell 9 _ rfl
        have a10 := HA4.out.cell 10 _ rfl
        have a11 := HA4.out.cell 11 _ rfl
        have a12 := HA4.out.cell 12 _ rfl
        have a13 := HA4.out.cell 13 _ rfl
        have a14 := HA4.out.cell 14 _ rfl
        have a15 := HA4.out.cell 15 _ rfl
        have a16 := HA4.out.cell 16 _ rfl
        have a17 := HA4.out.cell 17 _ rfl
        have a18 := HA4.out.cell 18 _ rfl
        have a19 := HA4.out.cell 19 _ rfl
        have a20 := HA4.out.cell 20 _ rfl
        have a21 := HA4.out.cell 21 _ rfl
        have a22 := HA4.out.cell 22 _ rfl
        have a23 := HA4.out.cell 23 _ rfl
        go_wp2_with fail
        obtain ⟨e1, e2⟩ := prm_end (w := w) (W := w4) (g := w4.heap.size) [3] rfl (show 1 = _ from rfl) (by decide) HR4.out HB4.out HG.out
        refine bodyPost_ret (ret_cell1 rfl _ _ ⟨G1, 0, none⟩ _ rfl e1) rfl ?_
        exact e2
      · have b : (m == 4) = false := by simp [h]
        have HN := Lib.hid (show m ≠ attsL.getD 2 0 from h)
        clear h
        go_upto_region 5 with fail
        go_region
        go_upto_region 7 with fail
        go_region
        go_wp2_with fail
        go_roundw
        case rel => exact ⟨3, by omega, by go_num, (hb.out.drew).drew, fun j hj => by
          by_cases e : j = 2
          · subst e; exact HN.out
          · exact HP'.out j (by omega)⟩
        case measure => simp [intOf]
    · by_cases h : m = 8
      · subst h
        go_upto_region 5 with fail
        go_region
        go_upto_region 6 with fail
        have HR4 := Lib.hid (HRr.out.keep (Below.refl _ _).drew)
        have HA4 := Lib.hid (HAr.out.keep (Below.refl _ _).drew)
        have HB4 := Lib.hid (Par.up HBr.out (Below.refl _ _).drew)
        clear y0 y1 y2 y3 y4 y5 a0 a1 a2 a3 a4 a5 a6 a7 a8 a9 a10 a11 a12 a13 a14 a15 a16 a17 a18 a19 a20 a21 a22 a23
        generalize wr.drew = w4 at HR4 HA4 HB4 ⊢
        have r0 := HR4.out.cell 0 _ rfl
        have s0 := HR4.out.free 0 (by show 0 < 1; decide)
        have r9 := fun o => (HR4.out.alloc o).cell 0 _ rfl
        have s9 := fun o => (HR4.out.alloc o).free 0 (by show 0 < 1; decide)
        have a0 := HA4.out.cell 0 _ rfl
        have a1 := HA4.out.cell 1 _ rfl
        have a2 := HA4.out.cell 2 _ rfl
        have a3 := HA4.out.cell 3 _ rfl
        have a4 := HA4.out.cell 4 _ rfl
        have a5 := HA4.out.cell 5 _ rfl
        have a6 := HA4.out.cell 6 _ rfl
        have a7 := HA4.out.cell 7 _ rfl
        have a8 := HA4.out.cell 8 _ rfl
        have a9 := HA4.out.cell 9 _ rfl
        have a10 := HA4.out.cell 10 _ rfl
        have a11 := HA4.out.cell 11 _ rfl
        have a12 := HA4.out.cell 12 _ rfl
        have a13 := HA4.out.cell 13 _ rfl
        have a14 := HA4.out.cell 14 _ rfl
        have a15 := HA4.out.cell 15 _ rfl
        have a16 := HA4.out.cell 16 _ rfl
        have a17 := HA4.out.cell 17 _ rfl
        have a18 := HA4.out.cell 18 _ rfl
        have a19 := HA4.out.cell 19 _ rfl
        have a20 := HA4.out.cell 20 _ rfl
        have a21 := HA4.out.cell 21 _ rfl
        have a22 := HA4.out.cell 22 _ rfl
        have a23 := HA4.out.cell 23 _ rfl
        go_wp2_with fail
        obtain ⟨e1, e2⟩ := prm_end (w := w) (W := w4) (g := w4.heap.size) [5] rfl (show 1 = _ from rfl) (by decide) HR4.out HB4.out HG.out
        refine bodyPost_ret (ret_cell1 rfl _ _ ⟨G1, 0, none⟩ _ rfl e1) rfl ?_
        exact e2
      · have b : (m == 8) = false := by simp [h]
        have HN := Lib.hid (show m ≠ attsL.getD 3 0 from h)
        clear h
        go_upto_region 5 with fail
        go_region
        go_upto_region 7 with fail
        go_region
        go_wp2_with fail
        go_roundw
        case rel => exact ⟨4, by omega, by go_num, (hb.out.drew).drew, fun j hj => by
          by_cases e : j = 3
          · subst e; exact HN.out
          · exact HP'.out j (by omega)⟩
        case measure => simp [intOf]
    · by_cases h : m = 16
      · subst h
        go_upto_region 5 with fail
        go_region
        go_upto_region 6 with fail
        have HR4 := Lib.hid (HRr.out.keep (Below.refl _ _).drew)
        have HA4 := Lib.hid (HAr.out.keep (Below.refl _ _).drew)
        have HB4 := Lib.hid (Par.up HBr.out (Below.refl _ _).drew)
        clear y0 y1 y2 y3 y4 y5 a0 a1 a2 a3 a4 a5 a6 a7 a8 a9 a10 a11 a12 a13 a14 a15 a16 a17 a18 a19 a20 a21 a22 a23
        generalize wr.drew = w4 at HR4 HA4 HB4 ⊢
        have r0 := HR4.out.cell 0 _ rfl
        have s0 := HR4.out.free 0 (by show 0 < 1; decide)
        have r9 := fun o => (HR4.out.alloc o).cell 0 _ rfl
        have s9 := fun o => (HR4.out.alloc o).free 0 (by show 0 < 1; decide)
        have a0 := HA4.out.cell 0 _ rfl
        have a1 := HA4.out.cell 1 _ rfl
        have a2 := HA4.out.cell 2 _ rfl
        have a3 := HA4.out.cell 3 _ rfl
        have a4 := HA4.out.cell 4 _ rfl
        have a5 := HA4.out.cell 5 _ rfl
        have a6 := HA4.out.cell 6 _ rfl
        have a7 := HA4.out.cell 7 _ rfl
        have a8 := HA4.out.cell 8 _ rfl
        have a9 := HA4.out.cell 9 _ rfl
        have a10 := HA4.out.cell 10 _ rfl
        have a11 := HA4.out.cell 11 _ rfl
        have a12 := HA4.out.cell 12 _ rfl
        have a13 := HA4.out.cell 13 _ rfl
        have a14 := HA4.out.cell 14 _ rfl
        have a15 := HA4.out.cell 15 _ rfl
        have a16 := HA4.out.cell 16 _ rfl
        have a17 := HA4.out.cell 17 _ rfl
        have a18 := HA4.out.cell 18 _ rfl
        have a19 := HA4.out.cell 19 _ rfl
        have a20 := HA4.out.cell 20 _ rfl
        have a21 := HA4.out.cell 21 _ rfl
        have a22 := HA4.out.cell 22 _ rfl
        have a23 := HA4.out.cell 23 _ rfl
        go_wp2_with fail
        obtain ⟨e1, e2⟩ := prm_end (w := w) (W := w4) (g := w4.heap.size) [7] rfl (show 1 = _ from rfl) (by decide) HR4.out HB4.out HG.out
        refine bodyPost_ret (ret_cell1 rfl _ _ ⟨G1, 0, none⟩ _ rfl e1) rfl ?_
        exact e2
      · have b : (m == 16) = false := by simp [h]
        have HN := Lib.hid (show m ≠ attsL.getD 4 0 from h)
        clear h
        go_upto_region 5 with fail
        go_region
        go_upto_region 7 with fail
        go_region
        go_wp2_with fail
        go_roundw
        case rel => exact ⟨5, by omega, by go_num, (hb.out.drew).drew, fun j hj => by
          by_cases e : j = 4
          · subst e; exact HN.out
          · exact HP'.out j (by omega)⟩
        case measure => simp [intOf]
    · by_cases h : m = 32
      · subst h
        go_upto_region 5 with fail
        go_region
        go_upto_region 6 with fail
        have HR4 := Lib.hid (HRr.out.keep (Below.refl _ _).drew)
        have HA4 := Lib.hid (HAr.out.keep (Below.refl _ _).drew)
        have HB4 := Lib.hid (Par.up HBr.out (Below.refl _ _).drew)
        clear y0 y1 y2 y3 y4 y5 a0 a1 a2 a3 a4 a5 a6 a7 a8 a9 a10 a11 a12 a13 a14 a15 a16 a17 a18 a19 a20 a21 a22 a23
        generalize wr.drew = w4 at HR4 HA4 HB4 ⊢
        have r0 := HR4.out.cell 0 _ rfl
        have s0 := HR4.out.free 0 (by show 0 < 1; decide)
        have r9 := fun o => (HR4.out.alloc o).cell 0 _ rfl
        have s9 := fun o => (HR4.out.alloc o).free 0 (by show 0 < 1; decide)
        have a0 := HA4.out.cell 0 _ rfl
        have a1 := HA4.out.cell 1 _ rfl
        have a2 := HA4.out.cell 2 _ rfl
        have a3 := HA4.out.cell 3 _ rfl
        have a4 := HA4.out.cell 4 _ rfl
        have a5 := HA4.out.cell 5 _ rfl
        have a6 := HA4.out.cell 6 _ rfl
        have a7 := HA4.out.cell 7 _ rfl
        have a8 := HA4.out.cell 8 _ rfl
        have a9 := HA4.out.cell 9 _ rfl
        have a10 := HA4.out.cell 10 _ rfl
        have a11 := HA4.out.cell 11 _ rfl
        have a12 := HA4.out.cell 12 _ rfl
        have a13 := HA4.out.cell 13 _ rfl
        have a14 := HA4.out.cell 14 _ rfl
        have a15 := HA4.out.cell 15 _ rfl
        have a16 := HA4.out.cell 16 _ rfl
        have a17 := HA4.out.cell 17 _ rfl
        have a18 := HA4.out.cell 18 _ rfl
        have a19 := HA4.out.cell 19 _ rfl
        have a20 := HA4.out.cell 20 _ rfl
        have a21 := HA4.out.cell 21 _ rfl
        have a22 := HA4.out.cell 22 _ rfl
        have a23 := HA4.out.cell 23 _ rfl
        go_wp2_with fail
        obtain ⟨e1, e2⟩ := prm_end (w := w) (W := w4) (g := w4.heap.size) [8] rfl (show 1 = _ from rfl) (by decide) HR4.out HB4.out HG.out
        refine bodyPost_ret (ret_cell1 rfl _ _ ⟨G1, 0, none⟩ _ rfl e1) rfl ?_
        exact e2
      · have b : (m == 32) = false := by simp [h]
        have HN := Lib.hid (show m ≠ attsL.getD 5 0 from h)
        clear h
        go_upto_region 5 with fail
        go_region
        go_upto_region 7 with fail
        go_region
        go_wp2_with fail
        go_roundw
        case rel => exact ⟨6, by omega, by go_num, (hb.out.drew).drew, fun j hj => by
          by_cases e : j = 5
          · subst e; exact HN.out
          · exact HP'.out j (by omega)⟩
        case measure => simp [intOf]
    · by_cases h : m = 64
      · subst h
        go_upto_region 5 with fail
        go_region
        go_upto_region 6 with fail
        have HR4 := Lib.hid (HRr.out.keep (Below.refl _ _).drew)
        have HA4 := Lib.hid (HAr.out.keep (Below.refl _ _).drew)
        have HB4 := Lib.hid (Par.up HBr.out (Below.refl _ _).drew)
        clear y0 y1 y2 y3 y4 y5 a0 a1 a2 a3 a4 a5 a6 a7 a8 a9 a10 a11 a12 a13 a14 a15 a16 a17 a18 a19 a20 a21 a22 a23
        generalize wr.drew = w4 at HR4 HA4 HB4 ⊢
        have r0 := HR4.out.cell 0 _ rfl
        have s0 := HR4.out.free 0 (by show 0 < 1; decide)
        have r9 := fun o => (HR4.out.alloc o).cell 0 _ rfl
        have s9 := fun o => (HR4.out.alloc o).free 0 (by show 0 < 1; decide)
        have a0 := HA4.out.cell 0 _ rfl
        have a1 := HA4.out.cell 1 _ rfl
        have a2 := HA4.out.cell 2 _ rfl
        have a3 := HA4.out.cell 3 _ rfl
        have a4 := HA4.out.cell 4 _ rfl
        have a5 := HA4.out.cell 5 _ rfl
        have a6 := HA4.out.cell 6 _ rfl
        have a7 := HA4.out.cell 7 _ rfl
        have a8 := HA4.out.cell 8 _ rfl
        have a9 := HA4.out.cell 9 _ rfl
        have a10 := HA4.out.cell 10 _ rfl
        have a11 := HA4.out.cell 11 _ rfl
        have a12 := HA4.out.cell 12 _ rfl
        have a13 := HA4.out.cell 13 _ rfl
        have a14 := HA4.out.cell 14 _ rfl
        have a15 := HA4.out.cell 15 _ rfl
        have a16 := HA4.out.cell 16 _ rfl
        have a17 := HA4.out.cell 17 _ rfl
        have a18 := HA4.out.cell 18 _ rfl
        have a19 := HA4.out.cell 19 _ rfl
        have a20 := HA4.out.cell 20 _ rfl
        have a21 := HA4.out.cell 21 _ rfl
        have a22 := HA4.out.cell 22 _ rfl
        have a23 := HA4.out.cell 23 _ rfl
        go_wp2_with fail
        obtain ⟨e1, e2⟩ := prm_end (w := w) (W := w4) (g := w4.heap.size) [9] rfl (show 1 = _ from rfl) (by decide) HR4.out HB4.out HG.out
        refine bodyPost_ret (ret_cell1 rfl _ _ ⟨G1, 0, none⟩ _ rfl e1) rfl ?_
        exact e2
      · have b : (m == 64) = false := by simp [h]
        have HN := Lib.hid (show m ≠ attsL.getD 6 0 from h)
        clear h
        go_upto_region 5 with fail
        go_region
        go_upto_region 7 with fail
        go_region
        go_wp2_with fail
        go_roundw
        case rel => exact ⟨7, by omega, by go_num, (hb.out.drew).drew, fun j hj => by
          by_cases e : j = 6
          · subst e; exact HN.out
          · exact HP'.out j (by omega)⟩
        case measure => simp [intOf]
    · by_cases h : m = 128
      · subst h
        go_upto_region 5 with fail
        go_region
        go_upto_region 6 with fail
        have HR4 := Lib.hid (HRr.out.keep (Below.refl _ _).drew)
        have HA4 := Lib.hid (HAr.out.keep (Below.refl _ _).drew)
        have HB4 := Lib.hid (Par.up HBr.out (Below.refl _ _).drew)
        clear y0 y1 y2 y3 y4 y5 a0 a1 a2 a3 a4 a5 a6 a7 a8 a9 a10 a11 a12 a13 a14 a15 a16 a17 a18 a19 a20 a21 a22 a23
        generalize wr.drew = w4 at HR4 HA4 HB4 ⊢
        have r0 := HR4.out.cell 0 _ rfl
        have s0 := HR4.out.free 0 (by show 0 < 1; decide)
        have r9 := fun o => (HR4.out.alloc o).cell 0 _ rfl
        have s9 := fun o => (HR4.out.alloc o).free 0 (by show 0 < 1; decide)
        have a0 := HA4.out.cell 0 _ rfl
        have a1 := HA4.out.cell 1 _ rfl
        have a2 := HA4.out.cell 2 _ rfl
        have a3 := HA4.out.cell 3 _ rfl
        have a4 := HA4.out.cell 4 _ rfl
        have a5 := HA4.out.cell 5 _ rfl
        have a6 := HA4.out.cell 6 _ rfl
        have a7 := HA4.out.cell 7 _ rfl
        have a8 := HA4.out.cell 8 _ rfl
        have a9 := HA4.out.cell 9 _ rfl
        have a10 := HA4.out.cell 10 _ rfl
        have a11 := HA4.out.cell 11 _ rfl
        have a12 := HA4.out.cell 12 _ rfl
        have a13 := HA4.out.cell 13 _ rfl
        have a14 := HA4.out.cell 14 _ rfl
        have a15 := HA4.out.cell 15 _ rfl
        have a16 := HA4.out.cell 16 _ rfl
        have a17 := HA4.out.cell 17 _ rfl
        have a18 := HA4.out.cell 18 _ rfl
        have a19 := HA4.out.cell 19 _ rfl
        have a20 := HA4.out.cell 20 _ rfl
        have a21 := HA4.out.cell 21 _ rfl
        have a22 := HA4.out.cell 22 _ rfl
        have a23 := HA4.out.cell 23 _ rfl
        go_wp2_with fail
        obtain ⟨e1, e2⟩ := prm_end (w := w) (W := w4) (g := w4.heap.size) [53] rfl (show 1 = _ from rfl) (by decide) HR4.out HB4.out HG.out
        refine bodyPost_ret (ret_cell1 rfl _ _ ⟨G1, 0, none⟩ _ rfl e1) rfl ?_
        exact e2
      · have b : (m == 128) = false := by simp [h]
        have HN := Lib.hid (show m ≠ attsL.getD 7 0 from h)
        clear h
        go_upto_region 5 with fail
        go_region
        go_upto_region 7 with fail
        go_region
        go_wp2_with fail
        go_roundw
        case rel => exact ⟨8, by omega, by go_num, (hb.out.drew).drew, fun j hj => by
          by_cases e : j = 7
          · subst e; exact HN.out
          · exact HP'.out j (by omega)⟩
        case measure => simp [intOf]
    · exfalso
      have h := HP'.out
      rcases attr_cases m HM.out with rfl | rfl | rfl | rfl | rfl | rfl | rfl | rfl
      · exact h 0 (by omega) rfl
      · exact h 1 (by omega) rfl
      · exact h 2 (by omega) rfl
      · exact h 3 (by omega) rfl
      · exact h 4 (by omega) rfl
      · exact h 5 (by omega) rfl
      · exact h 6 (by omega) rfl
      · exact h 7 (by omega) rfl
set_option maxRecDepth 100000 in
set_option maxHeartbeats 8000000 in
/-- an attribute cleared -/
theorem prm_clr (m : Int) (w : World) (hm : Sty.attr m = true) (h1 : m ≠ 1) (h2 : m ≠ 2) : Calls Tryd.prog 39 #[.agg #[.int .i64 39, .int .i64 2, .int .i64 m, .int .i64 0, .int .i64 0, .string ⟨#[]⟩]] w (PrmPost w [clrV m]) := by
  have b3 : (m == 3) = false := by
    rcases attr_cases m hm with rfl | rfl | rfl | rfl | rfl | rfl | rfl | rfl <;> rfl
  have HM := Lib.hid hm
  have H1 := Lib.hid h1
  have H2 := Lib.hid h2
  clear hm h1 h2
  have hP := Par.Box.new w #[.int .i64 39, .int .i64 2, .int .i64 m, .int .i64 0, .int .i64 0, .string ⟨#[]⟩] 48
  have hR := Par.Box.new (w.alloc (.cells #[.int .i64 39, .int .i64 2, .int .i64 m, .int .i64 0, .int .i64 0, .string ⟨#[]⟩] 48)) #[.slice none 0 0] 41
  have hA := Par.Box.new ((w.alloc (.cells #[.int .i64 39, .int .i64 2, .int .i64 m, .int .i64 0, .int .i64 0, .string ⟨#[]⟩] 48)).alloc (.cells #[.slice none 0 0] 41)) #[.int .i64 1, .int .i64 1, .int .i64 22, .int .i64 2, .int .i64 2, .int .i64 22, .int .i64 3, .int .i64 4, .int .i64 23, .int .i64 5, .int .i64 8, .int .i64 25, .int .i64 7, .int .i64 16, .int .i64 27, .int .i64 8, .int .i64 32, .int .i64 28, .int .i64 9, .int .i64 64, .int .i64 29, .int .i64 53, .int .i64 128, .int .i64 55] 118
  rw [World.size_alloc] at hR
  rw [World.size_alloc, World.size_alloc] at hA
  have HP := Lib.hid ((hP.alloc (.cells #[.slice none 0 0] 41)).alloc (.cells #[.int .i64 1, .int .i64 1, .int .i64 22, .int .i64 2, .int .i64 2, .int .i64 22, .int .i64 3, .int .i64 4, .int .i64 23, .int .i64 5, .int .i64 8, .int .i64 25, .int .i64 7, .int .i64 16, .int .i64 27, .int .i64 8, .int .i64 32, .int .i64 28, .int .i64 9, .int .i64 64, .int .i64 29, .int .i64 53, .int .i64 128, .int .i64 55] 118))
  have HR := Lib.hid (hR.alloc (.cells #[.int .i64 1, .int .i64 1, .int .i64 22, .int .i64 2, .int .i64 2, .int .i64 22, .int .i64 3, .int .i64 4, .int .i64 23, .int .i64 5, .int .i64 8, .int .i64 25, .int .i64 7, .int .i64 16, .int .i64 27, .int .i64 8, .int .i64 32, .int .i64 28, .int .i64 9, .int .i64 64, .int .i64 29, .int .i64 53, .int .i64 128, .int .i64 55] 118))
  have HA := Lib.hid hA
  have HB := Lib.hid (Par.up (Par.up (below_box w (.cells #[.int .i64 39, .int .i64 2, .int .i64 m, .int .i64 0, .int .i64 0, .string ⟨#[]⟩] 48)) (below_box _ (.cells #[.slice none 0 0] 41))) (below_box _ (.cells #[.int .i64 1, .int .i64 1, .int .i64 22, .int .i64 2, .int .i64 2, .int .i64 22, .int .i64 3, .int .i64 4, .int .i64 23, .int .i64 5, .int .i64 8, .int .i64 25, .int .i64 7, .int .i64 16, .int .i64 27, .int .i64 8, .int .i64 32, .int .i64 28, .int .i64 9, .int .i64 64, .int .i64 29, .int .i64 53, .int .i64 128, .int .i64 55] 118)))
  clear hP hR hA
  go_enter Tryd.func39, Tryd.ntmps39
  go_upto_region 2 with (go_at_call 65; refine (rattrs_any _).mono ?_; rintro e w2 ⟨rfl, rfl⟩)
  generalize (((w.alloc (.cells #[.int .i64 39, .int .i64 2, .int .i64 m, .int .i64 0, .int .i64 0, .string ⟨#[]⟩] 48)).alloc (.cells #[.slice none 0 0] 41)).alloc (.cells #[.int .i64 1, .int .i64 1, .int .i64 22, .int .i64 2, .int .i64 2, .int .i64 22, .int .i64 3, .int .i64 4, .int .i64 23, .int .i64 5, .int .i64 8, .int .i64 25, .int .i64 7, .int .i64 16, .int .i64 27, .int .i64 8, .int .i64 32, .int .i64 28, .int .i64 9, .int .i64 64, .int .i64 29, .int .i64 53, .int .i64 128, .int .i64 55] 118)) = w3 at HP HR HA HB ⊢
  generalize w.heap.size + 1 + 1 = G2 at HA ⊢
  generalize hG1 : w.heap.size + 1 = G1 at HR ⊢
  have HG := Lib.hid (show w.heap.size ≤ G1 by omega)
  clear hG1
  go_wp2_with fail
  go_loopw [4] (fun i wr => ∃ k : Nat, k ≤ 8 ∧ i = .int .i64 k ∧ Hid (Below w3.heap.size w3 wr) ∧ ∀ j : Nat, j < k → m ≠ attsL.getD j 0) (fun i _ => 8 - (intOf i).toNat)
  case atStart => exact ⟨0, by omega, rfl, Below.refl _ _, fun j hj => absurd hj (Nat.not_lt_zero _)⟩
  case round =>
    obtain ⟨k, hk, rfl, hb, hq⟩ := hrel
    have HPr := Lib.hid (HP.out.keep hb.out)
    have HRr := Lib.hid (HR.out.keep hb.out)
    have HAr := Lib.hid (HA.out.keep hb.out)
    have HBr := Lib.hid (Par.up HB.out hb.out)
    have hszr := hb.out.size
    have y0 := HPr.out.cell 0 _ rfl
    have y1 := HPr.out.cell 1 _ rfl
    have y2 := HPr.out.cell 2 _ rfl
    have y3 := HPr.out.cell 3 _ rfl
    have y4 := HPr.out.cell 4 _ rfl
    have y5 := HPr.out.cell 5 _ rfl
    have a0 := HAr.out.cell 0 _ rfl
    have a1 := HAr.out.cell 1 _ rfl
    have a2 := HAr.out.cell 2 _ rfl
    have a3 := HAr.out.cell 3 _ rfl
    have a4 := HAr.out.cell 4 _ rfl
    have a5 := HAr.out.cell 5 _ rfl
    have a6 := HAr.out.cell 6 _ rfl
    have a7 := HAr.out.cell 7 _ rfl
    have a8 := HAr.out.cell 8 _ rfl
    have a9 := HAr.out.cell 9 _ rfl
    have a10 := HAr.out.cell 10 _ rfl
    have a11 := HAr.out.cell 11 _ rfl
    have a12 := HAr.out.cell 12 _ rfl
    have a13 := HAr.out.cell 13 _ rfl
    have a14 := HAr.out.cell 14 _ rfl
    have a15 := HAr.out.cell 15 _ rfl
    have a16 := HAr.out.cell 16 _ rfl
    have a17 := HAr.out.cell 17 _ rfl
    have a18 := HAr.out.cell 18 _ rfl
    have a19 := HAr.out.cell 19 _ rfl
    have a20 := HAr.out.cell 20 _ rfl
    have a21 := HAr.out.cell 21 _ rfl
    have a22 := HAr.out.cell 22 _ rfl
    have a23 := HAr.out.cell 23 _ rfl
    have HP' := Lib.hid hq
    clear hq
    rcases (show k = 0 ∨ k = 1 ∨ k = 2 ∨ k = 3 ∨ k = 4 ∨ k = 5 ∨ k = 6 ∨ k = 7 ∨ k = 8 by omega) with rfl | rfl | rfl | rfl | rfl | rfl | rfl | rfl | rfl
    · have b : (m == 1) = false := by have := H1.out; simp [this]
      have HN := Lib.hid (show m ≠ attsL.getD 0 0 from H1.out)
      go_upto_region 5 with fail
      go_region
      go_upto_region 7 with fail
      go_region
      go_wp2_with fail
      go_roundw
      case rel => exact ⟨1, by omega, by go_num, (hb.out.drew).drew, fun j hj => by
        by_cases e : j = 0
        · subst e; exact HN.out
        · exact HP'.out j (by omega)⟩
      case measure => simp [intOf]
    · have b : (m == 2) = false := by have := H2.out; simp [this]
      have HN := Lib.hid (show m ≠ attsL.getD 1 0 from H2.out)
      go_upto_region 5 with fail
      go_region
      go_upto_region 7 with fail
      go_region
      go_wp2_with fail
      go_roundw
      case rel => exact ⟨2, by omega, by go_num, (hb.out.drew).drew, fun j hj => by
        by_cases e : j = 1
        · subst e; exact HN.out
        · exact HP'.out j (by omega)⟩
      case measure => simp [intOf]
    · by_cases h : m = 4
      · subst h
        go_upto_region 5 with fail
        go_region
        go_upto_region 7 with fail
        go_region
        go_upto_region 8 with fail
        have HR4 := Lib.hid ((HRr.out.keep (Below.refl _ _).drew).keep (Below.refl _ _).drew)
        have HA4 := Lib.hid ((HAr.out.keep (Below.refl _ _).drew).keep (Below.refl _ _).drew)
        have HB4 := Lib.hid (Par.up (Par.up HBr.out (Below.refl _ _).drew) (Below.refl _ _).drew)
        clear y0 y1 y2 y3 y4 y5 a0 a1 a2 a3 a4 a5 a6 a7 a8 a9 a10 a11 a12 a13 a14 a15 a16 a17 a18 a19 a20 a21 a22 a23
        generalize wr.drew.drew = w4 at HR4 HA4 HB4 ⊢
        have r0 := HR4.out.cell 0 _ rfl
        have s0 := HR4.out.free 0 (by show 0 < 1; decide)
        have r9 := fun o => (HR4.out.alloc o).cell 0 _ rfl
        have s9 := fun o => (HR4.out.alloc o).free 0 (by show 0 < 1; decide)
        have a0 := HA4.out.cell 0 _ rfl
        have a1 := HA4.out.cell 1 _ rfl
        have a2 := HA4.out.cell 2 _ rfl
        have a3 := HA4.out.cell 3 _ rfl
        have a4 := HA4.out.cell 4 _ rfl
        have a5 := HA4.out.cell 5 _ rfl
        have a6 := HA4.out.cell 6 _ rfl
        have a7 := HA4.out.cell 7 _ rfl
        have a8 := HA4.out.cell 8 _ rfl
        have a9 := HA4.out.cell 9 _ rfl
        have a10 := HA4.out.cell 10 _ rfl
        have a11 := HA4.out.cell 11 _ rfl
        have a12 := HA4.out.cell 12 _ rfl
        have a13 := HA4.out.cell 13 _ rfl
        have a14 := HA4.out.cell 14 _ rfl
        have a15 := HA4.out.cell 15 _ rfl
        have a16 := HA4.out.cell 16 _ rfl
        have a17 := HA4.out.cell 17 _ rfl
        have a18 := HA4.out.cell 18 _ rfl
        have a19 := HA4.out.cell 19 _ rfl
        have a20 := HA4.out.cell 20 _ rfl
        have a21 := HA4.out.cell 21 _ rfl
        have a22 := HA4.out.cell 22 _ rfl
        have a23 := HA4.out.cell 23 _ rfl
        go_wp2_with fail
        obtain ⟨e1, e2⟩ := prm_end (w := w) (W := w4) (g := w4.heap.size) [23] rfl (show 1 = _ from rfl) (by decide) HR4.out HB4.out HG.out
        refine bodyPost_ret (ret_cell1 rfl _ _ ⟨G1, 0, none⟩ _ rfl e1) rfl ?_
        exact e2
      · have b : (m == 4) = false := by simp [h]
        have HN := Lib.hid (show m ≠ attsL.getD 2 0 from h)
        clear h
        go_upto_region 5 with fail
        go_region
        go_upto_region 7 with fail
        go_region
        go_wp2_with fail
        go_roundw
        case rel => exact ⟨3, by omega, by go_num, (hb.out.drew).drew, fun j hj => by
          by_cases e : j = 2
          · subst e; exact HN.out
          · exact HP'.out j (by omega)⟩
        case measure => simp [intOf]
    · by_cases h : m = 8
      · subst h
        go_upto_region 5 with fail
        go_region
        go_upto_region 7 with fail
        go_region
        go_upto_region 8 with fail
        have HR4 := Lib.hid ((HRr.out.keep (Below.refl _ _).drew).keep (Below.refl _ _).drew)
        have HA4 := Lib.hid ((HAr.out.keep (Below.refl _ _).drew).keep (Below.refl _ _).drew)
        have HB4 := Lib.hid (Par.up (Par.up HBr.out (Below.refl _ _).drew) (Below.refl _ _).drew)
        clear y0 y1 y2 y3 y4 y5 a0 a1 a2 a3 a4 a5 a6 a7 a8 a9 a10 a11 a12 a13 a14 a15 a16 a17 a18 a19 a20 a21 a22 a23
        generalize wr.drew.drew = w4 at HR4 HA4 HB4 ⊢
        have r0 := HR4.out.cell 0 _ rfl
        have s0 := HR4.out.free 0 (by show 0 < 1; decide)
        have r9 := fun o => (HR4.out.alloc o).cell 0 _ rfl
        have s9 := fun o => (HR4.out.alloc o).free 0 (by show 0 < 1; decide)
        have a0 := HA4.out.cell 0 _ rfl
        have a1 := HA4.out.cell 1 _ rfl
        have a2 := HA4.out.cell 2 _ rfl
        have a3 := HA4.out.cell 3 _ rfl
        have a4 := HA4.out.cell 4 _ rfl
        have a5 := HA4.out.cell 5 _ rfl
        have a6 := HA4.out.cell 6 _ rfl
        have a7 := HA4.out.cell 7 _ rfl
        have a8 := HA4.out.cell 8 _ rfl
        have a9 := HA4.out.cell 9 _ rfl
        have a10 := HA4.out.cell 10 _ rfl
        have a11 := HA4.out.cell 11 _ rfl
        have a12 := HA4.out.cell 12 _ rfl
        have a13 := HA4.out.cell 13 _ rfl
        have a14 := HA4.out.cell 14 _ rfl
        have a15 := HA4.out.cell 15 _ rfl
        have a16 := HA4.out.cell 16 _ rfl
        have a17 := HA4.out.cell 17 _ rfl
        have a18 := HA4.out.cell 18 _ rfl
        have a19 := HA4.out.cell 19 _ rfl
        have a20 := HA4.out.cell 20 _ rfl
        have a21 := HA4.out.cell 21 _ rfl
        have a22 := HA4.out.cell 22 _ rfl
        have a23 := HA4.out.cell 23 _ rfl
        go_wp2_with fail
        obtain ⟨e1, e2⟩ := prm_end (w := w) (W := w4) (g := w4.heap.size) [25] rfl (show 1 = _ from rfl) (by decide) HR4.out HB4.out HG.out
        refine bodyPost_ret (ret_cell1 rfl _ _ ⟨G1, 0, none⟩ _ rfl e1) rfl ?_
        exact e2
      · have b : (m == 8) = false := by simp [h]
        have HN := Lib.hid (show m ≠ attsL.getD 3 0 from h)
        clear h
        go_upto_region 5 with fail
        go_region
        go_upto_region 7 with fail
        go_region
        go_wp2_with fail
        go_roundw
        case rel => exact ⟨4, by omega, by go_num, (hb.out.drew).drew, fun j hj => by
          by_cases e : j = 3
          · subst e; exact HN.out
          · exact HP'.out j (by omega)⟩
        case measure => simp [intOf]
    · by_cases h : m = 16
      · subst h
        go_upto_region 5 with fail
        go_region
        go_upto_region 7 with fail
        go_region
        go_upto_region 8 with fail
        have HR4 := Lib.hid ((HRr.out.keep (Below.refl _ _).drew).keep (Below.refl _ _).drew)
        have HA4 := Lib.hid ((HAr.out.keep (Below.refl _ _).drew).keep (Below.refl _ _).drew)
        have HB4 := Lib.hid (Par.up (Par.up HBr.out (Below.refl _ _).drew) (Below.refl _ _).drew)
        clear y0 y1 y2 y3 y4 y5 a0 a1 a2 a3 a4 a5 a6 a7 a8 a9 a10 a11 a12 a13 a14 a15 a16 a17 a18 a19 a20 a21 a22 a23
        generalize wr.drew.drew = w4 at HR4 HA4 HB4 ⊢
        have r0 := HR4.out.cell 0 _ rfl
        have s0 := HR4.out.free 0 (by show 0 < 1; decide)
        have r9 := fun o => (HR4.out.alloc o).cell 0 _ rfl
        have s9 := fun o => (HR4.out.alloc o).free 0 (by show 0 < 1; decide)
        have a0 := HA4.out.cell 0 _ rfl
        have a1 := HA4.out.cell 1 _ rfl
        have a2 := HA4.out.cell 2 _ rfl
        have a3 := HA4.out.cell 3 _ rfl
        have a4 := HA4.out.cell 4 _ rfl
        have a5 := HA4.out.cell 5 _ rfl
        have a6 := HA4.out.cell 6 _ rfl
        have a7 := HA4.out.cell 7 _ rfl
        have a8 := HA4.out.cell 8 _ rfl
        have a9 := HA4.out.cell 9 _ rfl
        have a10 := HA4.out.cell 10 _ rfl
        have a11 := HA4.out.cell 11 _ rfl
        have a12 := HA4.out.cell 12 _ rfl
        have a13 := HA4.out.cell 13 _ rfl
        have a14 := HA4.out.cell 14 _ rfl
        have a15 := HA4.out.cell 15 _ rfl
        have a16 := HA4.out.cell 16 _ rfl
        have a17 := HA4.out.cell 17 _ rfl
        have a18 := HA4.out.cell 18 _ rfl
        have a19 := HA4.out.cell 19 _ rfl
        have a20 := HA4.out.cell 20 _ rfl
        have a21 := HA4.out.cell 21 _ rfl
        have a22 := HA4.out.cell 22 _ rfl
        have a23 := HA4.out.cell 23 _ rfl
        go_wp2_with fail
        obtain ⟨e1, e2⟩ := prm_end (w := w) (W := w4) (g := w4.heap.size) [27] rfl (show 1 = _ from rfl) (by decide) HR4.out HB4.out HG.out
        refine bodyPost_ret (ret_cell1 rfl _ _ ⟨G1, 0, none⟩ _ rfl e1) rfl ?_
        exact e2
      · have b : (m == 16) = false := by simp [h]
        have HN := Lib.hid (show m ≠ attsL.getD 4 0 from h)
        clear h
        go_upto_region 5 with fail
        go_region
        go_upto_region 7 with fail
        go_region
        go_wp2_with fail
        go_roundw
        case rel => exact ⟨5, by omega, by go_num, (hb.out.drew).drew, fun j hj => by
          by_cases e : j = 4
          · subst e; exact HN.out
          · exact HP'.out j (by omega)⟩
        case measure => simp [intOf]
    · by_cases h : m = 32
      · subst h
        go_upto_region 5 with fail
        go_region
        go_upto_region 7 with fail
        go_region
        go_upto_region 8 with fail
        have HR4 := Lib.hid ((HRr.out.keep (Below.refl _ _).drew).keep (Below.refl _ _).drew)
        have HA4 := Lib.hid ((HAr.out.keep (Below.refl _ _).drew).keep (Below.refl _ _).drew)
        have HB4 := Lib.hid (Par.up (Par.up HBr.out (Below.refl _ _).drew) (Below.refl _ _).drew)
        clear y0 y1 y2 y3 y4 y5 a0 a1 a2 a3 a4 a5 a6 a7 a8 a9 a10 a11 a12 a13 a14 a15 a16 a17 a18 a19 a20 a21 a22 a23
        generalize wr.drew.drew = w4 at HR4 HA4 HB4 ⊢
        have r0 := HR4.out.cell 0 _ rfl
        have s0 := HR4.out.free 0 (by show 0 < 1; decide)
        have r9 := fun o => (HR4.out.alloc o).cell 0 _ rfl
        have s9 := fun o => (HR4.out.alloc o).free 0 (by show 0 < 1; decide)
        have a0 := HA4.out.cell 0 _ rfl
        have a1 := HA4.out.cell 1 _ rfl
        have a2 := HA4.out.cell 2 _ rfl
        have a3 := HA4.out.cell 3 _ rfl
        have a4 := HA4.out.cell 4 _ rfl
        have a5 := HA4.out.cell 5 _ rfl
        have a6 := HA4.out.cell 6 _ rfl
        have a7 := HA4.out.cell 7 _ rfl
        have a8 := HA4.out.cell 8 _ rfl
        have a9 := HA4.out.cell 9 _ rfl
        have a10 := HA4.out.cell 10 _ rfl
        have a11 := HA4.out.cell 11 _ rfl
        have a12 := HA4.out.cell 12 _ rfl
        have a13 := HA4.out.cell 13 _ rfl
        have a14 := HA4.out.cell 14 _ rfl
        have a15 := HA4.out.cell 15 _ rfl
        have a16 := HA4.out.cell 16 _ rfl
        have a17 := HA4.out.cell 17 _ rfl
        have a18 := HA4.out.cell 18 _ rfl
        have a19 := HA4.out.cell 19 _ rfl
        have a20 := HA4.out.cell 20 _ rfl
        have a21 := HA4.out.cell 21 _ rfl
        have a22 := HA4.out.cell 22 _ rfl
        have a23 := HA4.out.cell 23 _ rfl
        go_wp2_with fail
        obtain ⟨e1, e2⟩ := prm_end (w := w) (W := w4) (g := w4.heap.size) [28] rfl (show 1 = _ from rfl) (by decide) HR4.out HB4.out HG.out
        refine bodyPost_ret (ret_cell1 rfl _ _ ⟨G1, 0, none⟩ _ rfl e1) rfl ?_
        exact e2
      · have b : (m == 32) = false := by simp [h]
        have HN := Lib.hid (show m ≠ attsL.getD 5 0 from h)
        clear h
        go_upto_region 5 with fail
        go_region
        go_upto_region 7 with fail
        go_region
        go_wp2_with fail
        go_roundw
        case rel => exact ⟨6, by omega, by go_num, (hb.out.drew).drew, fun j hj => by
          by_cases e : j = 5
          · subst e; exact HN.out
          · exact HP'.out j (by omega)⟩
        case measure => simp [intOf]
    · by_cases h : m = 64
      · subst h
        go_upto_region 5 with fail
        go_region
        go_upto_region 7 with fail
        go_region
        go_upto_region 8 with fail
        have HR4 := Lib.hid ((HRr.out.keep (Below.refl _ _).drew).keep (Below.refl _ _).drew)
        have HA4 := Lib.hid ((HAr.out.keep (Below.refl _ _).drew).keep (Below.refl _ _).drew)
        have HB4 := Lib.hid (Par.up (Par.up HBr.out (Below.refl _ _).drew) (Below.refl _ _).drew)
        clear y0 y1 y2 y3 y4 y5 a0 a1 a2 a3 a4 a5 a6 a7 a8 a9 a10 a11 a12 a13 a14 a15 a16 a17 a18 a19 a20 a21 a22 a23
        generalize wr.drew.drew = w4 at HR4 HA4 HB4 ⊢
        have r0 := HR4.out.cell 0 _ rfl
        have s0 := HR4.out.free 0 (by show 0 < 1; decide)
        have r9 := fun o => (HR4.out.alloc o).cell 0 _ rfl
        have s9 := fun o => (HR4.out.alloc o).free 0 (by show 0 < 1; decide)
        have a0 := HA4.out.cell 0 _ rfl
        have a1 := HA4.out.cell 1 _ rfl
        have a2 := HA4.out.cell 2 _ rfl
        have a3 := HA4.out.cell 3 _ rfl
        have a4 := HA4.out.cell 4 _ rfl
        have a5 := HA4.out.cell 5 _ rfl
        have a6 := HA4.out.cell 6 _ rfl
        have a7 := HA4.out.cell 7 _ rfl
        have a8 := HA4.out.cell 8 _ rfl
        have a9 := HA4.out.cell 9 _ rfl
        have a10 := HA4.out.cell 10 _ rfl
        have a11 := HA4.out.cell 11 _ rfl
        have a12 := HA4.out.cell 12 _ rfl
        have a13 := HA4.out.cell 13 _ rfl
        have a14 := HA4.out.cell 14 _ rfl
        have a15 := HA4.out.cell 15 _ rfl
        have a16 := HA4.out.cell 16 _ rfl
        have a17 := HA4.out.cell 17 _ rfl
        have a18 := HA4.out.cell 18 _ rfl
        have a19 := HA4.out.cell 19 _ rfl
        have a20 := HA4.out.cell 20 _ rfl
        have a21 := HA4.out.cell 21 _ rfl
        have a22 := HA4.out.cell 22 _ rfl
        have a23 := HA4.out.cell 23 _ rfl
        go_wp2_with fail
        obtain ⟨e1, e2⟩ := prm_end (w := w) (W := w4) (g := w4.heap.size) [29] rfl (show 1 = _ from rfl) (by decide) HR4.out HB4.out HG.out
        refine bodyPost_ret (ret_cell1 rfl _ _ ⟨G1, 0, none⟩ _ rfl e1) rfl ?_
        exact e2
      · have b : (m == 64) = false := by simp [h]
        have HN := Lib.hid (show m ≠ attsL.getD 6 0 from h)
        clear h
        go_upto_region 5 with fail
        go_region
        go_upto_region 7 with fail
        go_region
        go_wp2_with fail
        go_roundw
        case rel => exact ⟨7, by omega, by go_num, (hb.out.drew).drew, fun j hj => by
          by_cases e : j = 6
          · subst e; exact HN.out
          · exact HP'.out j (by omega)⟩
        case measure => simp [intOf]
    · by_cases h : m = 128
      · subst h
        go_upto_region 5 with fail
        go_region
        go_upto_region 7 with fail
        go_region
        go_upto_region 8 with fail
        have HR4 := Lib.hid ((HRr.out.keep (Below.refl _ _).drew).keep (Below.refl _ _).drew)
        have HA4 := Lib.hid ((HAr.out.keep (Below.refl _ _).drew).keep (Below.refl _ _).drew)
        have HB4 := Lib.hid (Par.up (Par.up HBr.out (Below.refl _ _).drew) (Below.refl _ _).drew)
        clear y0 y1 y2 y3 y4 y5 a0 a1 a2 a3 a4 a5 a6 a7 a8 a9 a10 a11 a12 a13 a14 a15 a16 a17 a18 a19 a20 a21 a22 a23
        generalize wr.drew.drew = w4 at HR4 HA4 HB4 ⊢
        have r0 := HR4.out.cell 0 _ rfl
        have s0 := HR4.out.free 0 (by show 0 < 1; decide)
        have r9 := fun o => (HR4.out.alloc o).cell 0 _ rfl
        have s9 := fun o => (HR4.out.alloc o).free 0 (by show 0 < 1; decide)
        have a0 := HA4.out.cell 0 _ rfl
        have a1 := HA4.out.cell 1 _ rfl
        have a2 := HA4.out.cell 2 _ rfl
        have a3 := HA4.out.cell 3 _ rfl
        have a4 := HA4.out.cell 4 _ rfl
        have a5 := HA4.out.cell 5 _ rfl
        have a6 := HA4.out.cell 6 _ rfl
        have a7 := HA4.out.cell 7 _ rfl
        have a8 := HA4.out.cell 8 _ rfl
        have a9 := HA4.out.cell 9 _ rfl
        have a10 := HA4.out.cell 10 _ rfl
        have a11 := HA4.out.cell 11 _ rfl
        have a12 := HA4.out.cell 12 _ rfl
        have a13 := HA4.out.cell 13 _ rfl
        have a14 := HA4.out.cell 14 _ rfl
        have a15 := HA4.out.cell 15 _ rfl
        have a16 := HA4.out.cell 16 _ rfl
        have a17 := HA4.out.cell 17 _ rfl
        have a18 := HA4.out.cell 18 _ rfl
        have a19 := HA4.out.cell 19 _ rfl
        have a20 := HA4.out.cell 20 _ rfl
        have a21 := HA4.out.cell 21 _ rfl
        have a22 := HA4.out.cell 22 _ rfl
        have a23 := HA4.out.cell 23 _ rfl
        go_wp2_with fail
        obtain ⟨e1, e2⟩ := prm_end (w := w) (W := w4) (g := w4.heap.size) [55] rfl (show 1 = _ from rfl) (by decide) HR4.out HB4.out HG.out
        refine bodyPost_ret (ret_cell1 rfl _ _ ⟨G1, 0, none⟩ _ rfl e1) rfl ?_
        exact e2
      · have b : (m == 128) = false := by simp [h]
        have HN := Lib.hid (show m ≠ attsL.getD 7 0 from h)
        clear h
        go_upto_region 5 with fail
        go_region
        go_upto_region 7 with fail
        go_region
        go_wp2_with fail
        go_roundw
        case rel => exact ⟨8, by omega, by go_num, (hb.out.drew).drew, fun j hj => by
          by_cases e : j = 7
          · subst e; exact HN.out
          · exact HP'.out j (by omega)⟩
        case measure => simp [intOf]
    · exfalso
      have h := HP'.out
      rcases attr_cases m HM.out with rfl | rfl | rfl | rfl | rfl | rfl | rfl | rfl
      · exact h 0 (by omega) rfl
      · exact h 1 (by omega) rfl
      · exact h 2 (by omega) rfl
      · exact h 3 (by omega) rfl
      · exact h 4 (by omega) rfl
      · exact h 5 (by omega) rfl
      · exact h 6 (by omega) rfl
      · exact h 7 (by omega) rfl
set_option maxRecDepth 100000 in
set_option maxHeartbeats 8000000 in
/-- bold and dim cleared -/
theorem prm_clr3 (w : World) : Calls Tryd.prog 39 #[.agg #[.int .i64 39, .int .i64 2, .int .i64 3, .int .i64 0, .int .i64 0, .string ⟨#[]⟩]] w (PrmPost w [22]) := by
  have hP := Par.Box.new w #[.int .i64 39, .int .i64 2, .int .i64 3, .int .i64 0, .int .i64 0, .string ⟨#[]⟩] 48
  have hR := Par.Box.new (w.alloc (.cells #[.int .i64 39, .int .i64 2, .int .i64 3, .int .i64 0, .int .i64 0, .string ⟨#[]⟩] 48)) #[.slice none 0 0] 41
  have hA := Par.Box.new ((w.alloc (.cells #[.int .i64 39, .int .i64 2, .int .i64 3, .int .i64 0, .int .i64 0, .string ⟨#[]⟩] 48)).alloc (.cells #[.slice none 0 0] 41)) #[.int .i64 1, .int .i64 1, .int .i64 22, .int .i64 2, .int .i64 2, .int .i64 22, .int .i64 3, .int .i64 4, .int .i64 23, .int .i64 5, .int .i64 8, .int .i64 25, .int .i64 7, .int .i64 16, .int .i64 27, .int .i64 8, .int .i64 32, .int .i64 28, .int .i64 9, .int .i64 64, .int .i64 29, .int .i64 53, .int .i64 128, .int .i64 55] 118
  rw [World.size_alloc] at hR
  rw [World.size_alloc, World.size_alloc] at hA
  have HP := Lib.hid ((hP.alloc (.cells #[.slice none 0 0] 41)).alloc (.cells #[.int .i64 1, .int .i64 1, .int .i64 22, .int .i64 2, .int .i64 2, .int .i64 22, .int .i64 3, .int .i64 4, .int .i64 23, .int .i64 5, .int .i64 8, .int .i64 25, .int .i64 7, .int .i64 16, .int .i64 27, .int .i64 8, .int .i64 32, .int .i64 28, .int .i64 9, .int .i64 64, .int .i64 29, .int .i64 53, .int .i64 128, .int .i64 55] 118))
  have HR := Lib.hid (hR.alloc (.cells #[.int .i64 1, .int .i64 1, .int .i64 22, .int .i64 2, .int .i64 2, .int .i64 22, .int .i64 3, .int .i64 4, .int .i64 23, .int .i64 5, .int .i64 8, .int .i64 25, .int .i64 7, .int .i64 16, .int .i64 27, .int .i64 8, .int .i64 32, .int .i64 28, .int .i64 9, .int .i64 64, .int .i64 29, .int .i64 53, .int .i64 128, .int .i64 55] 118))
  have HA := Lib.hid hA
  have HB := Lib.hid (Par.up (Par.up (below_box w (.cells #[.int .i64 39, .int .i64 2, .int .i64 3, .int .i64 0, .int .i64 0, .string ⟨#[]⟩] 48)) (below_box _ (.cells #[.slice none 0 0] 41))) (below_box _ (.cells #[.int .i64 1, .int .i64 1, .int .i64 22, .int .i64 2, .int .i64 2, .int .i64 22, .int .i64 3, .int .i64 4, .int .i64 23, .int .i64 5, .int .i64 8, .int .i64 25, .int .i64 7, .int .i64 16, .int .i64 27, .int .i64 8, .int .i64 32, .int .i64 28, .int .i64 9, .int .i64 64, .int .i64 29, .int .i64 53, .int .i64 128, .int .i64 55] 118)))
  clear hP hR hA
  go_enter Tryd.func39, Tryd.ntmps39
  go_upto_region 2 with (go_at_call 65; refine (rattrs_any _).mono ?_; rintro e w2 ⟨rfl, rfl⟩)
  generalize (((w.alloc (.cells #[.int .i64 39, .int .i64 2, .int .i64 3, .int .i64 0, .int .i64 0, .string ⟨#[]⟩] 48)).alloc (.cells #[.slice none 0 0] 41)).alloc (.cells #[.int .i64 1, .int .i64 1, .int .i64 22, .int .i64 2, .int .i64 2, .int .i64 22, .int .i64 3, .int .i64 4, .int .i64 23, .int .i64 5, .int .i64 8, .int .i64 25, .int .i64 7, .int .i64 16, .int .i64 27, .int .i64 8, .int .i64 32, .int .i64 28, .int .i64 9, .int .i64 64, .int .i64 29, .int .i64 53, .int .i64 128, .int .i64 55] 118)) = w3 at HP HR HA HB ⊢
  generalize w.heap.size + 1 + 1 = G2 at HA ⊢
  generalize hG1 : w.heap.size + 1 = G1 at HR ⊢
  have HG := Lib.hid (show w.heap.size ≤ G1 by omega)
  clear hG1
  go_wp2_with fail
  go_loopw [4] (fun i wr => ∃ k : Nat, k ≤ 8 ∧ i = .int .i64 k ∧ Hid (Below w3.heap.size w3 wr) ∧ k = 0) (fun i _ => 8 - (intOf i).toNat)
  case atStart => exact ⟨0, by omega, rfl, Below.refl _ _, rfl⟩
  case round =>
    obtain ⟨k, hk, rfl, hb, hq⟩ := hrel
    have HPr := Lib.hid (HP.out.keep hb.out)
    have HRr := Lib.hid (HR.out.keep hb.out)
    have HAr := Lib.hid (HA.out.keep hb.out)
    have HBr := Lib.hid (Par.up HB.out hb.out)
    have hszr := hb.out.size
    have y0 := HPr.out.cell 0 _ rfl
    have y1 := HPr.out.cell 1 _ rfl
    have y2 := HPr.out.cell 2 _ rfl
    have y3 := HPr.out.cell 3 _ rfl
    have y4 := HPr.out.cell 4 _ rfl
    have y5 := HPr.out.cell 5 _ rfl
    have a0 := HAr.out.cell 0 _ rfl
    have a1 := HAr.out.cell 1 _ rfl
    have a2 := HAr.out.cell 2 _ rfl
    have a3 := HAr.out.cell 3 _ rfl
    have a4 := HAr.out.cell 4 _ rfl
    have a5 := HAr.out.cell 5 _ rfl
    have a6 := HAr.out.cell 6 _ rfl
    have a7 := HAr.out.cell 7 _ rfl
    have a8 := HAr.out.cell 8 _ rfl
    have a9 := HAr.out.cell 9 _ rfl
    have a10 := HAr.out.cell 10 _ rfl
    have a11 := HAr.out.cell 11 _ rfl
    have a12 := HAr.out.cell 12 _ rfl
    have a13 := HAr.out.cell 13 _ rfl
    have a14 := HAr.out.cell 14 _ rfl
    have a15 := HAr.out.cell 15 _ rfl
    have a16 := HAr.out.cell 16 _ rfl
    have a17 := HAr.out.cell 17 _ rfl
    have a18 := HAr.out.cell 18 _ rfl
    have a19 := HAr.out.cell 19 _ rfl
    have a20 := HAr.out.cell 20 _ rfl
    have a21 := HAr.out.cell 21 _ rfl
    have a22 := HAr.out.cell 22 _ rfl
    have a23 := HAr.out.cell 23 _ rfl
    subst hq
    go_upto_region 5 with fail
    go_region
    go_upto_region 7 with fail
    go_region
    go_upto_region 8 with fail
    have HR4 := Lib.hid ((HRr.out.keep (Below.refl _ _).drew).keep (Below.refl _ _).drew)
    have HA4 := Lib.hid ((HAr.out.keep (Below.refl _ _).drew).keep (Below.refl _ _).drew)
    have HB4 := Lib.hid (Par.up (Par.up HBr.out (Below.refl _ _).drew) (Below.refl _ _).drew)
    clear y0 y1 y2 y3 y4 y5 a0 a1 a2 a3 a4 a5 a6 a7 a8 a9 a10 a11 a12 a13 a14 a15 a16 a17 a18 a19 a20 a21 a22 a23
    generalize wr.drew.drew = w4 at HR4 HA4 HB4 ⊢
    have r0 := HR4.out.cell 0 _ rfl
    have s0 := HR4.out.free 0 (by show 0 < 1; decide)
    have r9 := fun o => (HR4.out.alloc o).cell 0 _ rfl
    have s9 := fun o => (HR4.out.alloc o).free 0 (by show 0 < 1; decide)
    have a0 := HA4.out.cell 0 _ rfl
    have a1 := HA4.out.cell 1 _ rfl
    have a2 := HA4.out.cell 2 _ rfl
    have a3 := HA4.out.cell 3 _ rfl
    have a4 := HA4.out.cell 4 _ rfl
    have a5 := HA4.out.cell 5 _ rfl
    have a6 := HA4.out.cell 6 _ rfl
    have a7 := HA4.out.cell 7 _ rfl
    have a8 := HA4.out.cell 8 _ rfl
    have a9 := HA4.out.cell 9 _ rfl
    have a10 := HA4.out.cell 10 _ rfl
    have a11 := HA4.out.cell 11 _ rfl
    have a12 := HA4.out.cell 12 _ rfl
    have a13 := HA4.out.cell 13 _ rfl
    have a14 := HA4.out.cell 14 _ rfl
    have a15 := HA4.out.cell 15 _ rfl
    have a16 := HA4.out.cell 16 _ rfl
    have a17 := HA4.out.cell 17 _ rfl
    have a18 := HA4.out.cell 18 _ rfl
    have a19 := HA4.out.cell 19 _ rfl
    have a20 := HA4.out.cell 20 _ rfl
    have a21 := HA4.out.cell 21 _ rfl
    have a22 := HA4.out.cell 22 _ rfl
    have a23 := HA4.out.cell 23 _ rfl
    go_wp2_with fail
    obtain ⟨e1, e2⟩ := prm_end (w := w) (W := w4) (g := w4.heap.size) [22] rfl (show 1 = _ from rfl) (by decide) HR4.out HB4.out HG.out
    refine bodyPost_ret (ret_cell1 rfl _ _ ⟨G1, 0, none⟩ _ rfl e1) rfl ?_
    exact e2
end Go.Proofs.YteepfecplabinaaDoor.Sgr

namespace Go.Proofs.YteepfecplabinaaDoor.Sgr
open Go.RowKit Utf

theorem prm_idx (n c : Int) (hn : n = 4 ∨ n = 5 ∨ n = 6) : prmV (cq n 1 c) = if n ≠ 6 ∧ c < 8 then [38 + 10 * (n - 4) - 8 + c] else if n ≠ 6 ∧ c < 16 then [38 + 10 * (n - 4) + 44 + c] else [38 + 10 * (n - 4), 5, c] := by
  rcases hn with rfl | rfl | rfl <;> rfl
/-- the parameter of a valid pen -/
theorem rparam_any (q : Q4) (w : World) (h : okQ q = true) : Calls Tryd.prog 39 #[qV q] w (PrmPost w (prmV q)) := by
  rcases fit_cases q h with rfl | ⟨m, hm, rfl⟩ | ⟨m, hm, rfl⟩ | ⟨m, h0, h5, rfl⟩ | ⟨n, hn, rfl | ⟨c, h0, h1, rfl⟩ | ⟨c, h0, h1, rfl⟩⟩
  · exact prm_z w
  · exact prm_set m w hm
  · rcases hm with rfl | ⟨hm, h1, h2⟩
    · exact prm_clr3 w
    · exact prm_clr m w hm h1 h2
  · by_cases e1 : m = 1
    · subst e1; exact prm_u1 w
    · by_cases e0 : m = 0
      · subst e0; exact prm_u0 w
      · have e : prmV (pq 3 m) = [4, m] := by show (if m = 1 then [4] else if m = 0 then [24] else [4, m]) = _; rw [if_neg e1, if_neg e0]
        rw [e]; exact prm_um m w e0 e1
  · rcases hn with rfl | rfl | rfl
    · exact prm_c4n w
    · exact prm_c5n w
    · exact prm_c6n w
  · rcases hn with rfl | rfl | rfl
    · by_cases h8 : c < 8
      · rw [prm_idx _ c (by decide), if_pos ⟨by decide, h8⟩]; exact prm_c4l c w h0 h8
      · by_cases h16 : c < 16
        · rw [prm_idx _ c (by decide), if_neg (fun h => h8 h.2), if_pos ⟨by decide, h16⟩]; exact prm_c4m c w (by omega) h16
        · rw [prm_idx _ c (by decide), if_neg (fun h => h8 h.2), if_neg (fun h => h16 h.2)]; exact prm_c4h c w (by omega)
    · by_cases h8 : c < 8
      · rw [prm_idx _ c (by decide), if_pos ⟨by decide, h8⟩]; exact prm_c5l c w h0 h8
      · by_cases h16 : c < 16
        · rw [prm_idx _ c (by decide), if_neg (fun h => h8 h.2), if_pos ⟨by decide, h16⟩]; exact prm_c5m c w (by omega) h16
        · rw [prm_idx _ c (by decide), if_neg (fun h => h8 h.2), if_neg (fun h => h16 h.2)]; exact prm_c5h c w (by omega)
    · rw [prm_idx _ c (by decide), if_neg (fun h => absurd rfl h.1), if_neg (fun h => absurd rfl h.1)]; exact prm_c6h c w
  · rcases hn with rfl | rfl | rfl
    · exact prm_c4r c w h0 h1
    · exact prm_c5r c w h0 h1
    · exact prm_c6r c w h0 h1
/-- the first that is not valid -/
theorem any_at (ps : List Sty.P6) (k : Nat) (p : Sty.P6) (h : ps[k]? = some p) (hb : badP p = true) : ps.any badP = true := List.any_eq_true.2 ⟨p, List.mem_of_getElem? h, hb⟩
theorem err_bad (p : Sty.P6) : Sty.errP p = if badP p then 141 else 0 := by unfold Sty.errP badP; cases Sty.okP p <;> rfl
set_option maxRecDepth 100000 in
set_option maxHeartbeats 4000000 in
theorem rparams_any (A : Option Addr) (n c : Nat) (ps : List Sty.P6) (w : World) (hn : n = ps.length) (hr : Sty.RdP w A ps) (hl : n ≤ 100000) :
    Calls Tryd.prog 19 #[.slice A n c] w (ParsPost w ps) := by
  obtain ⟨t1, hi1, hy0, hy1, hy2⟩ := info_parts Par.infoP
  have HR := Lib.hid hr; clear hr
  have Hn := Lib.hid hn; clear hn
  go_enter Tryd.func19, Tryd.ntmps19
  go_wp2_with fail
  go_loopw [5, 4] (fun iv ov wr => ∃ i : Nat, i ≤ n ∧ iv = .int .i64 i ∧ Hid (Par.OwnL wr w.heap.size ov (prmP (ps.take i)) ∧ Below w.heap.size w wr ∧ (ps.take i).any badP = false)) (fun iv _ _ => n - (intOf iv).toNat)
  case atStart => exact ⟨0, Nat.zero_le _, rfl, Par.OwnL.nil _ _, Below.refl _ _, rfl⟩
  case round =>
    obtain ⟨i, hi, rfl, hid⟩ := hrel
    by_cases hlt : i < n
    · obtain ⟨p, hp⟩ := Par.get_some ps i (by rw [← Hn.out]; exact hlt)
      obtain ⟨b, o, rfl, hbl, hrg⟩ := HR.out i p hp
      have e1 := fun W => Sty.ix_run b o n c i hlt W
      have hrg' : wr.rangeAt b (o + i * 6) (Sty.cP p) := fun j v hv => (hid.out.2.1.cell (p := ⟨b, o + i * 6 + j, none⟩) hbl).trans (hrg j v hv)
      have y0 : wr.cell? ⟨b, o + i * 6, none⟩ = some (.int .i64 p.k) := hrg' 0 _ rfl
      have y1 : wr.cell? ⟨b, o + i * 6 + 1, none⟩ = some (.int .i64 p.n) := hrg' 1 _ rfl
      have y2 : wr.cell? ⟨b, o + i * 6 + 2, none⟩ = some (.int .i64 p.m) := hrg' 2 _ rfl
      have y3 : wr.cell? ⟨b, o + i * 6 + 3, none⟩ = some (.int .i64 p.c0) := hrg' 3 _ rfl
      have y4 : wr.cell? ⟨b, o + i * 6 + 4, none⟩ = some (.int .i64 p.c1) := hrg' 4 _ rfl
      have y5 : wr.cell? ⟨b, o + i * 6 + 5, none⟩ = some (.string p.t) := hrg' 5 _ rfl
      have hlt' : (i : Int) < (n : Int) := by omega
      have HK := Lib.hid (Sty.rcheckPen_any p.k p.n p.m p.c0 p.c1 p.t wr)
      unfold Sty.penV at HK
      obtain ⟨AO, co, hsh⟩ : ∃ AO co, u4 = .slice AO i co := by
        obtain ⟨us, hu1, -, -⟩ := hid.out.1
        obtain ⟨AO, co, hsh, _, _⟩ := own_slice hu1
        have hlo : (prmP (ps.take i)).length = i := by unfold prmP; rw [List.length_map, List.length_take, ← Hn.out]; omega
        rw [hlo] at hsh
        exact ⟨AO, co, hsh⟩
      subst hsh
      have hw := hid.out.2.1.size
      cases hbp : badP p with
      | true =>
        have HE := Lib.hid (show parsV ps = ([], 141) by unfold parsV; rw [any_at ps i p hp hbp]; rfl)
        rw [show (⟨p.k, p.n, p.m, p.c0, p.c1, p.t⟩ : Sty.P6) = p from rfl, err_bad, hbp, show (if true = true then (141 : Int) else 0) = 141 from rfl] at HK
        clear hrg hrg' hp hbp hbl
        go_wp2_with (go_at_call 38; refine HK.out.mono ?_; rintro e w1 ⟨rfl, hb1⟩)
        go_ret2
        unfold ParsPost
        rw [HE.out]
        exact ⟨_, rfl, Par.OwnL.nil _ _, Par.up hid.out.2.1 hb1⟩
      | false =>
        obtain ⟨hpq, hq⟩ := pP_of p (by simpa [badP] using hbp)
        rw [show (⟨p.k, p.n, p.m, p.c0, p.c1, p.t⟩ : Sty.P6) = p from rfl, err_bad, hbp, show (if false = true then (141 : Int) else 0) = 0 from rfl] at HK
        have HS := Lib.hid (prmP_snoc ps i p hp)
        have HB2 := Lib.hid (show (ps.take (i + 1)).any badP = false by rw [List.take_add_one, hp]; simp [hid.out.2.2, hbp])
        rw [hpq] at y0 y1 y2 y3 y4 y5 HK
        obtain ⟨q, hqq⟩ : ∃ q, q = qP p := ⟨_, rfl⟩
        rw [← hqq] at y0 y1 y2 y3 y4 y5 hq HS HK
        have z0 : wr.cell? ⟨b, o + i * 6, none⟩ = some (.int .i64 39) := y0
        have z1 : wr.cell? ⟨b, o + i * 6 + 1, none⟩ = some (.int .i64 q.n) := y1
        have z2 : wr.cell? ⟨b, o + i * 6 + 2, none⟩ = some (.int .i64 q.m) := y2
        have z3 : wr.cell? ⟨b, o + i * 6 + 3, none⟩ = some (.int .i64 q.c0) := y3
        have z4 : wr.cell? ⟨b, o + i * 6 + 4, none⟩ = some (.int .i64 q.c1) := y4
        have z5 : wr.cell? ⟨b, o + i * 6 + 5, none⟩ = some (.string ⟨#[]⟩) := y5
        have HQ := Lib.hid (fun W => rparam_any q W hq)
        unfold qV at HQ
        obtain ⟨us, hu1, hu2, hu3⟩ := hid.out.1
        have hlo : (prmP (ps.take i)).length = i := by unfold prmP; rw [List.length_map, List.length_take, ← Hn.out]; omega
        rw [hlo] at hu1
        have U1 := Lib.hid (show (wr.ownsRow w.heap.size 41 1 (.slice AO i co) i us ∧ us.length = (prmP (ps.take i)).length ∧ ∀ (j : Nat) (x : Value) (p : List Int), us[j]? = some x → (prmP (ps.take i))[j]? = some p → wr.ownsRow w.heap.size 3 1 x p.length (cI p)) from ⟨hu1, hu2, hu3⟩)
        have Hbe := Lib.hid hid.out.2.1
        have hbl2 : b < wr.heap.size := Nat.lt_of_lt_of_le hbl hw
        clear hu1 hu2 hu3 hlo hid hrg hrg' hp hbp y0 y1 y2 y3 y4 y5 hpq hqq
        go_upto_region 7 with (go_at_call 38; refine HK.out.mono ?_; rintro e w1 ⟨rfl, hb1⟩; have HB1 := Lib.hid hb1; clear hb1)
        have x0 := (HB1.out.cell (p := ⟨b, o + i * 6, none⟩) hbl2).trans z0
        have x1 := (HB1.out.cell (p := ⟨b, o + i * 6 + 1, none⟩) hbl2).trans z1
        have x2 := (HB1.out.cell (p := ⟨b, o + i * 6 + 2, none⟩) hbl2).trans z2
        have x3 := (HB1.out.cell (p := ⟨b, o + i * 6 + 3, none⟩) hbl2).trans z3
        have x4 := (HB1.out.cell (p := ⟨b, o + i * 6 + 4, none⟩) hbl2).trans z4
        have x5 := (HB1.out.cell (p := ⟨b, o + i * 6 + 5, none⟩) hbl2).trans z5
        clear z0 z1 z2 z3 z4 z5
        go_upto_region 4 with (first
          | (go_at_call 39; refine (HQ.out _).mono ?_; rintro e w3 ⟨v2, rfl, hv2, hb2⟩; obtain ⟨A2, c2, hsh2, _, _⟩ := own_slice hv2; subst hsh2; have HV2 := Lib.hid hv2; have HB3 := Lib.hid hb2; clear hv2 hb2)
          | (at_builtin; refine wpList_app _ rfl _ _ 22 rfl w.heap.size 41 t1 _ 24 Tryd.underlying22 hi1 hy0 hy1 hy2 rfl _ i us rfl (own_below (own_below (own_below U1.out.1 HB1.out) HB3.out) (below_box _ _)) (some ⟨w3.heap.size, 0, none⟩) 1 1 [.slice A2 (prmV q).length c2] rfl rfl (Rd.one _ _ _) (by intro u hu; simp at hu; subst hu; rfl) (by omega) (by decide) (by rw [World.size_alloc]; have := Hbe.out.size; have := HB1.out.size; have := HB3.out.size; omega) ?_; intro v' w' hown hgrow hat; refine Hid.out ?_))
        refine Lib.hid ?_
        have hg : (w3.alloc (.cells #[.slice A2 (prmV q).length c2] 41)).grownBy w' (Value.slice AO i co).ownBlock := hgrow
        have hbw : Below w.heap.size w w3 := Par.up (Par.up Hbe.out HB1.out) HB3.out
        have hsz1 := (Par.up Hbe.out HB1.out).size
        have k3 : ∀ {e : TypeId} {v : Value} {m : Nat} {xs : List Value}, wr.ownsRow w.heap.size e 1 v m xs → (w3.alloc (.cells #[.slice A2 (prmV q).length c2] 41)).ownsRow w.heap.size e 1 v m xs := fun h => own_below (own_below (own_below h HB1.out) HB3.out) (below_box _ _)
        have hol : Par.OwnL w' w.heap.size v' (prmP (ps.take i) ++ [prmV q]) :=
          Par.OwnL.snoc (k3 U1.out.1) U1.out.2.1 (fun j y r hy hr => k3 (U1.out.2.2 j y r hy hr)) (Par.own_mono (own_below HV2.out (below_box _ _)) hsz1) hown hg
        rw [← HS.out] at hol
        have hbe : Below w.heap.size w w' := (Par.up hbw (below_box _ _)).grown hg (by rw [World.size_alloc]; have := hbw.size; omega) (fun r hr => (U1.out.1.lt r hr).1)
        obtain ⟨A', c', hsh', _, _⟩ := own_slice hown
        subst hsh'
        have G := Lib.hid (And.intro hol (And.intro hbe HB2.out))
        clear hol hbe hg hgrow hat hown hbw k3
        go_wp2
        go_roundw
        case rel => exact ⟨i + 1, by omega, by go_num, G.out⟩
        case measure => simp [intOf]; omega
    · have hid2 := hid.out
      rw [List.take_of_length_le (by rw [← Hn.out]; omega)] at hid2
      have hlt' : ¬ (i : Int) < (n : Int) := by omega
      have HD := Lib.hid hid2
      clear hid2 hid
      by_cases h16 : 16 < n
      · have HE := Lib.hid (show parsV ps = ([], 3) by unfold parsV; rw [HD.out.2.2, if_neg (by decide), if_pos (by rw [← Hn.out]; exact h16)])
        have d1 : (16 : Int) < (n : Int) := by omega
        go_wp2_with fail
        go_ret2
        unfold ParsPost
        rw [HE.out]
        exact ⟨_, rfl, Par.OwnL.nil _ _, HD.out.2.1⟩
      · have HE := Lib.hid (show parsV ps = (prmP ps, 0) by unfold parsV; rw [HD.out.2.2, if_neg (by decide), if_neg (by rw [← Hn.out]; exact h16)])
        have d1 : ¬ (16 : Int) < (n : Int) := by omega
        go_wp2_with fail
        go_ret2
        unfold ParsPost
        rw [HE.out]
        exact ⟨_, rfl, HD.out.1, HD.out.2.1⟩
end Go.Proofs.YteepfecplabinaaDoor.Sgr
