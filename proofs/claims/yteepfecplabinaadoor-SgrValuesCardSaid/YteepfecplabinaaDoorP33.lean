/-
  SgrY SgrZ SgrAa SgrAb
-/
import Derived.Test.YteepfecplabinaaDoorP10
import Derived.Test.YteepfecplabinaaDoorP23
import Derived.Test.YteepfecplabinaaDoorP28
import Derived.Test.YteepfecplabinaaDoorP32
namespace Go.Proofs.YteepfecplabinaaDoor.Sgr
open Go.RowKit Utf

theorem in_of {z : Int} (h : inB z = true) : 0 ≤ z ∧ z ≤ 255 := by simpa [inB] using h
theorem cells_far (k n m c0 c1 : Int) (t : ByteArray) (b B : Nat) (hne : ¬ B = b) (w : World) (j : Nat) : ((((((w.setCell ⟨B, 0, none⟩ (.int .i64 k)).setCell ⟨B, 1, none⟩ (.int .i64 n)).setCell ⟨B, 2, none⟩ (.int .i64 m)).setCell ⟨B, 3, none⟩ (.int .i64 c0)).setCell ⟨B, 4, none⟩ (.int .i64 c1)).setCell ⟨B, 5, none⟩ (.string t)).cell? ⟨b, j, none⟩ = w.cell? ⟨b, j, none⟩ := by
  iterate 6 rw [World.cell?_setCell_other _ _ _ _ (by intro e; injection e; contradiction)]
set_option maxRecDepth 100000 in
set_option maxHeartbeats 4000000 in
/-- no length of a color -/
theorem ralone_xn (ad : Addr) (n c : Nat) (v k : Int) (w : World) (hlt : ad.block < w.heap.size) (hc0 : w.cell? ad = some (.int .i64 v)) (h4 : v ≠ 4) (hk : whV (max 0 v) = k) (h0 : 0 ≤ k) (hn : 2 ≤ n) (hn3 : n ≠ 3) (hn5 : n ≠ 5) (hn6 : n ≠ 6) :
    Calls Tryd.prog 58 #[.agg #[.slice (some ad) n c]] w (OptPost w none) := by
  obtain ⟨u, hu⟩ : ∃ u, u = max 0 v := ⟨_, rfl⟩
  have hm : max 0 v = u := hu.symm
  have b4 : (u == 4) = false := by simp; omega
  rw [hm] at hk
  have HW := Lib.hid (fun W => show Calls Tryd.prog 54 #[.int .i64 u] W fun e w' => e = .returned (.int .i64 k) ∧ W = w' from by have := rwhich_any u W; rw [hk] at this; exact this)
  have c0 : ((w.alloc (.cells #[.slice (some ad) n c] 41)).alloc (.cells #[.int .i64 0, .int .i64 0, .int .i64 0, .int .i64 0, .int .i64 0, .string ⟨#[]⟩] 48)).cell? ad = some (.int .i64 v) := (((below_box w _).alloc (by simp) _).cell (p := ad) hlt).trans hc0
  have hX := Sty.Box.new (w.alloc (.cells #[.slice (some ad) n c] 41)) #[.int .i64 0, .int .i64 0, .int .i64 0, .int .i64 0, .int .i64 0, .string ⟨#[]⟩] 48
  rw [World.size_alloc] at hX
  have HX := Lib.hid (show Sty.Box ((w.alloc (.cells #[.slice (some ad) n c] 41)).alloc (.cells #[.int .i64 0, .int .i64 0, .int .i64 0, .int .i64 0, .int .i64 0, .string ⟨#[]⟩] 48)) (w.heap.size + 1) (Sty.cP zP) from hX)
  have HB := Lib.hid (show Below w.heap.size w ((w.alloc (.cells #[.slice (some ad) n c] 41)).alloc (.cells #[.int .i64 0, .int .i64 0, .int .i64 0, .int .i64 0, .int .i64 0, .string ⟨#[]⟩] 48)) from (below_box w _).alloc (by simp) _)
  clear hu hX hk h4
  have n1 : ((n : Int) == 1) = false := by simp; omega
  have n3 : ((n : Int) == 3) = false := by simp; omega
  have n5 : ((n : Int) == 5) = false := by simp; omega
  have n6 : ((n : Int) == 6) = false := by simp; omega
  have m1 : ¬ n = 1 := by omega
  have q0 : (0 : Int) < (n : Int) := by omega
  have q1 : 0 < n := by omega
  clear hn hc0
  go_enter Tryd.func58, Tryd.ntmps58
  go_upto_region 10 with (go_at_call 54; refine (HW.out _).mono ?_; rintro e w2 ⟨rfl, rfl⟩)
  have x0 := HX.out.cell 0 _ rfl
  have f0 := HX.out.free 0 (by show 0 < 6; decide)
  have x1 := HX.out.cell 1 _ rfl
  have f1 := HX.out.free 1 (by show 1 < 6; decide)
  have x2 := HX.out.cell 2 _ rfl
  have f2 := HX.out.free 2 (by show 2 < 6; decide)
  have x3 := HX.out.cell 3 _ rfl
  have f3 := HX.out.free 3 (by show 3 < 6; decide)
  have x4 := HX.out.cell 4 _ rfl
  have f4 := HX.out.free 4 (by show 4 < 6; decide)
  have x5 := HX.out.cell 5 _ rfl
  have f5 := HX.out.free 5 (by show 5 < 6; decide)
  go_region
  go_wp2_with fail
  go_region
  go_wp2_with fail
  have HX2 := Lib.hid ((HX.out.keep ((Below.refl _ _).drew)).keep ((Below.refl _ _).drew))
  have HB2 := Lib.hid (Par.up (Par.up HB.out ((Below.refl _ _).drew)) ((Below.refl _ _).drew))
  refine bodyPost_ret (ret_cell2 rfl _ _ ⟨w.heap.size + 1, 0, none⟩ _ rfl (load_p zP HX2.out)) rfl ?_
  exact ⟨rfl, HB2.out⟩
set_option maxRecDepth 100000 in
set_option maxHeartbeats 4000000 in
/-- 3 parts, the second is not 5 -/
theorem ralone_x3 (ad : Addr) ( c : Nat) (v a k : Int) (w : World) (hlt : ad.block < w.heap.size) (hc0 : w.cell? ad = some (.int .i64 v)) (hc1 : w.cell? ⟨ad.block, ad.off + 1, none⟩ = some (.int .i64 a)) (h4 : v ≠ 4) (hk : whV (max 0 v) = k) (h0 : 0 ≤ k) (ha : a ≠ 5) :
    Calls Tryd.prog 58 #[.agg #[.slice (some ad) 3 c]] w (OptPost w none) := by
  obtain ⟨u, hu⟩ : ∃ u, u = max 0 v := ⟨_, rfl⟩
  have hm : max 0 v = u := hu.symm
  have b4 : (u == 4) = false := by simp; omega
  rw [hm] at hk
  have HW := Lib.hid (fun W => show Calls Tryd.prog 54 #[.int .i64 u] W fun e w' => e = .returned (.int .i64 k) ∧ W = w' from by have := rwhich_any u W; rw [hk] at this; exact this)
  have c0 : ((w.alloc (.cells #[.slice (some ad) 3 c] 41)).alloc (.cells #[.int .i64 0, .int .i64 0, .int .i64 0, .int .i64 0, .int .i64 0, .string ⟨#[]⟩] 48)).cell? ad = some (.int .i64 v) := (((below_box w _).alloc (by simp) _).cell (p := ad) hlt).trans hc0
  have c1 : ((w.alloc (.cells #[.slice (some ad) 3 c] 41)).alloc (.cells #[.int .i64 0, .int .i64 0, .int .i64 0, .int .i64 0, .int .i64 0, .string ⟨#[]⟩] 48)).cell? ⟨ad.block, ad.off + 1, none⟩ = some (.int .i64 a) := (((below_box w _).alloc (by simp) _).cell (p := ⟨ad.block, ad.off + 1, none⟩) hlt).trans hc1
  have hX := Sty.Box.new (w.alloc (.cells #[.slice (some ad) 3 c] 41)) #[.int .i64 0, .int .i64 0, .int .i64 0, .int .i64 0, .int .i64 0, .string ⟨#[]⟩] 48
  rw [World.size_alloc] at hX
  have HX := Lib.hid (show Sty.Box ((w.alloc (.cells #[.slice (some ad) 3 c] 41)).alloc (.cells #[.int .i64 0, .int .i64 0, .int .i64 0, .int .i64 0, .int .i64 0, .string ⟨#[]⟩] 48)) (w.heap.size + 1) (Sty.cP zP) from hX)
  have HB := Lib.hid (show Below w.heap.size w ((w.alloc (.cells #[.slice (some ad) 3 c] 41)).alloc (.cells #[.int .i64 0, .int .i64 0, .int .i64 0, .int .i64 0, .int .i64 0, .string ⟨#[]⟩] 48)) from (below_box w _).alloc (by simp) _)
  clear hu hX hk h4
  have ba : (a == 5) = false := by simp [ha]
  clear ha hc0 hc1
  go_enter Tryd.func58, Tryd.ntmps58
  go_upto_region 10 with (go_at_call 54; refine (HW.out _).mono ?_; rintro e w2 ⟨rfl, rfl⟩)
  have x0 := HX.out.cell 0 _ rfl
  have f0 := HX.out.free 0 (by show 0 < 6; decide)
  have x1 := HX.out.cell 1 _ rfl
  have f1 := HX.out.free 1 (by show 1 < 6; decide)
  have x2 := HX.out.cell 2 _ rfl
  have f2 := HX.out.free 2 (by show 2 < 6; decide)
  have x3 := HX.out.cell 3 _ rfl
  have f3 := HX.out.free 3 (by show 3 < 6; decide)
  have x4 := HX.out.cell 4 _ rfl
  have f4 := HX.out.free 4 (by show 4 < 6; decide)
  have x5 := HX.out.cell 5 _ rfl
  have f5 := HX.out.free 5 (by show 5 < 6; decide)
  go_region
  go_wp2_with fail
  go_region
  go_wp2_with fail
  have HX2 := Lib.hid ((HX.out.keep ((Below.refl _ _).drew)).keep ((Below.refl _ _).drew))
  have HB2 := Lib.hid (Par.up (Par.up HB.out ((Below.refl _ _).drew)) ((Below.refl _ _).drew))
  refine bodyPost_ret (ret_cell2 rfl _ _ ⟨w.heap.size + 1, 0, none⟩ _ rfl (load_p zP HX2.out)) rfl ?_
  exact ⟨rfl, HB2.out⟩
set_option maxRecDepth 100000 in
set_option maxHeartbeats 4000000 in
/-- 5 parts, the second is not 2 -/
theorem ralone_x5 (ad : Addr) ( c : Nat) (v a k : Int) (w : World) (hlt : ad.block < w.heap.size) (hc0 : w.cell? ad = some (.int .i64 v)) (hc1 : w.cell? ⟨ad.block, ad.off + 1, none⟩ = some (.int .i64 a)) (h4 : v ≠ 4) (hk : whV (max 0 v) = k) (h0 : 0 ≤ k) (ha : a ≠ 2) :
    Calls Tryd.prog 58 #[.agg #[.slice (some ad) 5 c]] w (OptPost w none) := by
  obtain ⟨u, hu⟩ : ∃ u, u = max 0 v := ⟨_, rfl⟩
  have hm : max 0 v = u := hu.symm
  have b4 : (u == 4) = false := by simp; omega
  rw [hm] at hk
  have HW := Lib.hid (fun W => show Calls Tryd.prog 54 #[.int .i64 u] W fun e w' => e = .returned (.int .i64 k) ∧ W = w' from by have := rwhich_any u W; rw [hk] at this; exact this)
  have c0 : ((w.alloc (.cells #[.slice (some ad) 5 c] 41)).alloc (.cells #[.int .i64 0, .int .i64 0, .int .i64 0, .int .i64 0, .int .i64 0, .string ⟨#[]⟩] 48)).cell? ad = some (.int .i64 v) := (((below_box w _).alloc (by simp) _).cell (p := ad) hlt).trans hc0
  have c1 : ((w.alloc (.cells #[.slice (some ad) 5 c] 41)).alloc (.cells #[.int .i64 0, .int .i64 0, .int .i64 0, .int .i64 0, .int .i64 0, .string ⟨#[]⟩] 48)).cell? ⟨ad.block, ad.off + 1, none⟩ = some (.int .i64 a) := (((below_box w _).alloc (by simp) _).cell (p := ⟨ad.block, ad.off + 1, none⟩) hlt).trans hc1
  have hX := Sty.Box.new (w.alloc (.cells #[.slice (some ad) 5 c] 41)) #[.int .i64 0, .int .i64 0, .int .i64 0, .int .i64 0, .int .i64 0, .string ⟨#[]⟩] 48
  rw [World.size_alloc] at hX
  have HX := Lib.hid (show Sty.Box ((w.alloc (.cells #[.slice (some ad) 5 c] 41)).alloc (.cells #[.int .i64 0, .int .i64 0, .int .i64 0, .int .i64 0, .int .i64 0, .string ⟨#[]⟩] 48)) (w.heap.size + 1) (Sty.cP zP) from hX)
  have HB := Lib.hid (show Below w.heap.size w ((w.alloc (.cells #[.slice (some ad) 5 c] 41)).alloc (.cells #[.int .i64 0, .int .i64 0, .int .i64 0, .int .i64 0, .int .i64 0, .string ⟨#[]⟩] 48)) from (below_box w _).alloc (by simp) _)
  clear hu hX hk h4
  have ba : (a == 2) = false := by simp [ha]
  clear ha hc0 hc1
  go_enter Tryd.func58, Tryd.ntmps58
  go_upto_region 10 with (go_at_call 54; refine (HW.out _).mono ?_; rintro e w2 ⟨rfl, rfl⟩)
  have x0 := HX.out.cell 0 _ rfl
  have f0 := HX.out.free 0 (by show 0 < 6; decide)
  have x1 := HX.out.cell 1 _ rfl
  have f1 := HX.out.free 1 (by show 1 < 6; decide)
  have x2 := HX.out.cell 2 _ rfl
  have f2 := HX.out.free 2 (by show 2 < 6; decide)
  have x3 := HX.out.cell 3 _ rfl
  have f3 := HX.out.free 3 (by show 3 < 6; decide)
  have x4 := HX.out.cell 4 _ rfl
  have f4 := HX.out.free 4 (by show 4 < 6; decide)
  have x5 := HX.out.cell 5 _ rfl
  have f5 := HX.out.free 5 (by show 5 < 6; decide)
  go_region
  go_wp2_with fail
  go_region
  go_wp2_with fail
  have HX2 := Lib.hid ((HX.out.keep ((Below.refl _ _).drew)).keep ((Below.refl _ _).drew))
  have HB2 := Lib.hid (Par.up (Par.up HB.out ((Below.refl _ _).drew)) ((Below.refl _ _).drew))
  refine bodyPost_ret (ret_cell2 rfl _ _ ⟨w.heap.size + 1, 0, none⟩ _ rfl (load_p zP HX2.out)) rfl ?_
  exact ⟨rfl, HB2.out⟩
set_option maxRecDepth 100000 in
set_option maxHeartbeats 4000000 in
/-- 6 parts, the second is not 2 -/
theorem ralone_x6 (ad : Addr) ( c : Nat) (v a k : Int) (w : World) (hlt : ad.block < w.heap.size) (hc0 : w.cell? ad = some (.int .i64 v)) (hc1 : w.cell? ⟨ad.block, ad.off + 1, none⟩ = some (.int .i64 a)) (h4 : v ≠ 4) (hk : whV (max 0 v) = k) (h0 : 0 ≤ k) (ha : a ≠ 2) :
    Calls Tryd.prog 58 #[.agg #[.slice (some ad) 6 c]] w (OptPost w none) := by
  obtain ⟨u, hu⟩ : ∃ u, u = max 0 v := ⟨_, rfl⟩
  have hm : max 0 v = u := hu.symm
  have b4 : (u == 4) = false := by simp; omega
  rw [hm] at hk
  have HW := Lib.hid (fun W => show Calls Tryd.prog 54 #[.int .i64 u] W fun e w' => e = .returned (.int .i64 k) ∧ W = w' from by have := rwhich_any u W; rw [hk] at this; exact this)
  have c0 : ((w.alloc (.cells #[.slice (some ad) 6 c] 41)).alloc (.cells #[.int .i64 0, .int .i64 0, .int .i64 0, .int .i64 0, .int .i64 0, .string ⟨#[]⟩] 48)).cell? ad = some (.int .i64 v) := (((below_box w _).alloc (by simp) _).cell (p := ad) hlt).trans hc0
  have c1 : ((w.alloc (.cells #[.slice (some ad) 6 c] 41)).alloc (.cells #[.int .i64 0, .int .i64 0, .int .i64 0, .int .i64 0, .int .i64 0, .string ⟨#[]⟩] 48)).cell? ⟨ad.block, ad.off + 1, none⟩ = some (.int .i64 a) := (((below_box w _).alloc (by simp) _).cell (p := ⟨ad.block, ad.off + 1, none⟩) hlt).trans hc1
  have hX := Sty.Box.new (w.alloc (.cells #[.slice (some ad) 6 c] 41)) #[.int .i64 0, .int .i64 0, .int .i64 0, .int .i64 0, .int .i64 0, .string ⟨#[]⟩] 48
  rw [World.size_alloc] at hX
  have HX := Lib.hid (show Sty.Box ((w.alloc (.cells #[.slice (some ad) 6 c] 41)).alloc (.cells #[.int .i64 0, .int .i64 0, .int .i64 0, .int .i64 0, .int .i64 0, .string ⟨#[]⟩] 48)) (w.heap.size + 1) (Sty.cP zP) from hX)
  have HB := Lib.hid (show Below w.heap.size w ((w.alloc (.cells #[.slice (some ad) 6 c] 41)).alloc (.cells #[.int .i64 0, .int .i64 0, .int .i64 0, .int .i64 0, .int .i64 0, .string ⟨#[]⟩] 48)) from (below_box w _).alloc (by simp) _)
  clear hu hX hk h4
  have ba : (a == 2) = false := by simp [ha]
  clear ha hc0 hc1
  go_enter Tryd.func58, Tryd.ntmps58
  go_upto_region 10 with (go_at_call 54; refine (HW.out _).mono ?_; rintro e w2 ⟨rfl, rfl⟩)
  have x0 := HX.out.cell 0 _ rfl
  have f0 := HX.out.free 0 (by show 0 < 6; decide)
  have x1 := HX.out.cell 1 _ rfl
  have f1 := HX.out.free 1 (by show 1 < 6; decide)
  have x2 := HX.out.cell 2 _ rfl
  have f2 := HX.out.free 2 (by show 2 < 6; decide)
  have x3 := HX.out.cell 3 _ rfl
  have f3 := HX.out.free 3 (by show 3 < 6; decide)
  have x4 := HX.out.cell 4 _ rfl
  have f4 := HX.out.free 4 (by show 4 < 6; decide)
  have x5 := HX.out.cell 5 _ rfl
  have f5 := HX.out.free 5 (by show 5 < 6; decide)
  go_region
  go_wp2_with fail
  go_region
  go_wp2_with fail
  have HX2 := Lib.hid ((HX.out.keep ((Below.refl _ _).drew)).keep ((Below.refl _ _).drew))
  have HB2 := Lib.hid (Par.up (Par.up HB.out ((Below.refl _ _).drew)) ((Below.refl _ _).drew))
  refine bodyPost_ret (ret_cell2 rfl _ _ ⟨w.heap.size + 1, 0, none⟩ _ rfl (load_p zP HX2.out)) rfl ?_
  exact ⟨rfl, HB2.out⟩
set_option maxRecDepth 100000 in
set_option maxHeartbeats 4000000 in
/-- an index -/
theorem ralone_3y (ad : Addr) ( c : Nat) (v p k : Int) (w : World) (hlt : ad.block < w.heap.size) (hc0 : w.cell? ad = some (.int .i64 v)) (hc1 : w.cell? ⟨ad.block, ad.off + 1, none⟩ = some (.int .i64 5)) (hc2 : w.cell? ⟨ad.block, ad.off + 2, none⟩ = some (.int .i64 p)) (h4 : v ≠ 4) (hk : whV (max 0 v) = k) (h0 : 0 ≤ k) (hp : inB p = true) :
    Calls Tryd.prog 58 #[.agg #[.slice (some ad) 3 c]] w (OptPost w (some (cq k 1 p))) := by
  obtain ⟨u, hu⟩ : ∃ u, u = max 0 v := ⟨_, rfl⟩
  have hm : max 0 v = u := hu.symm
  have b4 : (u == 4) = false := by simp; omega
  rw [hm] at hk
  have HW := Lib.hid (fun W => show Calls Tryd.prog 54 #[.int .i64 u] W fun e w' => e = .returned (.int .i64 k) ∧ W = w' from by have := rwhich_any u W; rw [hk] at this; exact this)
  have c0 : ((w.alloc (.cells #[.slice (some ad) 3 c] 41)).alloc (.cells #[.int .i64 0, .int .i64 0, .int .i64 0, .int .i64 0, .int .i64 0, .string ⟨#[]⟩] 48)).cell? ad = some (.int .i64 v) := (((below_box w _).alloc (by simp) _).cell (p := ad) hlt).trans hc0
  have c1 : ((w.alloc (.cells #[.slice (some ad) 3 c] 41)).alloc (.cells #[.int .i64 0, .int .i64 0, .int .i64 0, .int .i64 0, .int .i64 0, .string ⟨#[]⟩] 48)).cell? ⟨ad.block, ad.off + 1, none⟩ = some (.int .i64 5) := (((below_box w _).alloc (by simp) _).cell (p := ⟨ad.block, ad.off + 1, none⟩) hlt).trans hc1
  have c2 : ((w.alloc (.cells #[.slice (some ad) 3 c] 41)).alloc (.cells #[.int .i64 0, .int .i64 0, .int .i64 0, .int .i64 0, .int .i64 0, .string ⟨#[]⟩] 48)).cell? ⟨ad.block, ad.off + 2, none⟩ = some (.int .i64 p) := (((below_box w _).alloc (by simp) _).cell (p := ⟨ad.block, ad.off + 2, none⟩) hlt).trans hc2
  have hX := Sty.Box.new (w.alloc (.cells #[.slice (some ad) 3 c] 41)) #[.int .i64 0, .int .i64 0, .int .i64 0, .int .i64 0, .int .i64 0, .string ⟨#[]⟩] 48
  rw [World.size_alloc] at hX
  have HX := Lib.hid (show Sty.Box ((w.alloc (.cells #[.slice (some ad) 3 c] 41)).alloc (.cells #[.int .i64 0, .int .i64 0, .int .i64 0, .int .i64 0, .int .i64 0, .string ⟨#[]⟩] 48)) (w.heap.size + 1) (Sty.cP zP) from hX)
  have HB := Lib.hid (show Below w.heap.size w ((w.alloc (.cells #[.slice (some ad) 3 c] 41)).alloc (.cells #[.int .i64 0, .int .i64 0, .int .i64 0, .int .i64 0, .int .i64 0, .string ⟨#[]⟩] 48)) from (below_box w _).alloc (by simp) _)
  clear hu hX hk h4
  have hs : ((w.alloc (.cells #[.slice (some ad) 3 c] 41)).alloc (.cells #[.int .i64 0, .int .i64 0, .int .i64 0, .int .i64 0, .int .i64 0, .string ⟨#[]⟩] 48)).heap.size = w.heap.size + 1 + 1 := by rw [World.size_alloc, World.size_alloc]
  have HI := Lib.hid (show Calls Tryd.prog 55 #[.slice (some ⟨w.heap.size + 1 + 1, 0, none⟩) 1 1] (((w.alloc (.cells #[.slice (some ad) 3 c] 41)).alloc (.cells #[.int .i64 0, .int .i64 0, .int .i64 0, .int .i64 0, .int .i64 0, .string ⟨#[]⟩] 48)).alloc (.cells #[.int .i64 p] 3)) fun e w' => e = .returned (.bool true) ∧ (((w.alloc (.cells #[.slice (some ad) 3 c] 41)).alloc (.cells #[.int .i64 0, .int .i64 0, .int .i64 0, .int .i64 0, .int .i64 0, .string ⟨#[]⟩] 48)).alloc (.cells #[.int .i64 p] 3)) = w' from by
    have h := rwithin_any (some ⟨w.heap.size + 1 + 1, 0, none⟩) 1 1 [p] (((w.alloc (.cells #[.slice (some ad) 3 c] 41)).alloc (.cells #[.int .i64 0, .int .i64 0, .int .i64 0, .int .i64 0, .int .i64 0, .string ⟨#[]⟩] 48)).alloc (.cells #[.int .i64 p] 3)) rfl (by have := Rd.one ((w.alloc (.cells #[.slice (some ad) 3 c] 41)).alloc (.cells #[.int .i64 0, .int .i64 0, .int .i64 0, .int .i64 0, .int .i64 0, .string ⟨#[]⟩] 48)) (.int .i64 p) 3; rw [hs] at this; exact this) (by decide)
    rw [show [p].all inB = true by simp [hp]] at h
    exact h)
  have d2 : (((w.alloc (.cells #[.slice (some ad) 3 c] 41)).alloc (.cells #[.int .i64 0, .int .i64 0, .int .i64 0, .int .i64 0, .int .i64 0, .string ⟨#[]⟩] 48)).alloc (.cells #[.int .i64 p] 3)).cell? ⟨ad.block, ad.off + 2, none⟩ = some (.int .i64 p) := ((below_box ((w.alloc (.cells #[.slice (some ad) 3 c] 41)).alloc (.cells #[.int .i64 0, .int .i64 0, .int .i64 0, .int .i64 0, .int .i64 0, .string ⟨#[]⟩] 48)) _).cell (p := ⟨ad.block, ad.off + 2, none⟩) (by rw [hs]; show ad.block < _; omega)).trans c2
  have HX3 := Lib.hid (HX.out.keep (below_box ((w.alloc (.cells #[.slice (some ad) 3 c] 41)).alloc (.cells #[.int .i64 0, .int .i64 0, .int .i64 0, .int .i64 0, .int .i64 0, .string ⟨#[]⟩] 48)) (.cells #[.int .i64 p] 3)))
  have HB3 := Lib.hid (Par.up HB.out (below_box ((w.alloc (.cells #[.slice (some ad) 3 c] 41)).alloc (.cells #[.int .i64 0, .int .i64 0, .int .i64 0, .int .i64 0, .int .i64 0, .string ⟨#[]⟩] 48)) (.cells #[.int .i64 p] 3)))
  have HC := Lib.hid (fun W => rcolored_any k 1 p W)
  unfold qV cq at HC
  clear hp hc0 hc1 hc2 hs hlt
  go_enter Tryd.func58, Tryd.ntmps58
  go_wp2_with (first
    | (go_at_call 54; refine (HW.out _).mono ?_; rintro e w2 ⟨rfl, rfl⟩)
    | (go_at_call 55; refine HI.out.mono ?_; rintro e w3 ⟨rfl, rfl⟩)
    | (go_at_call 56; refine (HC.out _).mono ?_; rintro e w4 ⟨rfl, hb⟩; have HX2 := Lib.hid (HX3.out.keep hb); have HB2 := Lib.hid (Par.up HB3.out hb); have x0 := HX2.out.cell 0 _ rfl; have f0 := HX2.out.free 0 (by show 0 < 6; decide); have x1 := HX2.out.cell 1 _ rfl; have f1 := HX2.out.free 1 (by show 1 < 6; decide); have x2 := HX2.out.cell 2 _ rfl; have f2 := HX2.out.free 2 (by show 2 < 6; decide); have x3 := HX2.out.cell 3 _ rfl; have f3 := HX2.out.free 3 (by show 3 < 6; decide); have x4 := HX2.out.cell 4 _ rfl; have f4 := HX2.out.free 4 (by show 4 < 6; decide); have x5 := HX2.out.cell 5 _ rfl; have f5 := HX2.out.free 5 (by show 5 < 6; decide); clear hb))
  refine bodyPost_ret (ret_cell2 rfl _ _ ⟨w.heap.size + 1, 0, none⟩ _ rfl (put_c6 _ _ _ _ _ _ HX2.out)) rfl ?_
  exact ⟨rfl, below_c6 _ _ _ _ _ _ _ HB2.out (Nat.le_succ _)⟩
set_option maxRecDepth 100000 in
set_option maxHeartbeats 4000000 in
/-- an index -/
theorem ralone_3w (ad : Addr) ( c : Nat) (v p k : Int) (w : World) (hlt : ad.block < w.heap.size) (hc0 : w.cell? ad = some (.int .i64 v)) (hc1 : w.cell? ⟨ad.block, ad.off + 1, none⟩ = some (.int .i64 5)) (hc2 : w.cell? ⟨ad.block, ad.off + 2, none⟩ = some (.int .i64 p)) (h4 : v ≠ 4) (hk : whV (max 0 v) = k) (h0 : 0 ≤ k) (hp : inB p = false) :
    Calls Tryd.prog 58 #[.agg #[.slice (some ad) 3 c]] w (OptPost w none) := by
  obtain ⟨u, hu⟩ : ∃ u, u = max 0 v := ⟨_, rfl⟩
  have hm : max 0 v = u := hu.symm
  have b4 : (u == 4) = false := by simp; omega
  rw [hm] at hk
  have HW := Lib.hid (fun W => show Calls Tryd.prog 54 #[.int .i64 u] W fun e w' => e = .returned (.int .i64 k) ∧ W = w' from by have := rwhich_any u W; rw [hk] at this; exact this)
  have c0 : ((w.alloc (.cells #[.slice (some ad) 3 c] 41)).alloc (.cells #[.int .i64 0, .int .i64 0, .int .i64 0, .int .i64 0, .int .i64 0, .string ⟨#[]⟩] 48)).cell? ad = some (.int .i64 v) := (((below_box w _).alloc (by simp) _).cell (p := ad) hlt).trans hc0
  have c1 : ((w.alloc (.cells #[.slice (some ad) 3 c] 41)).alloc (.cells #[.int .i64 0, .int .i64 0, .int .i64 0, .int .i64 0, .int .i64 0, .string ⟨#[]⟩] 48)).cell? ⟨ad.block, ad.off + 1, none⟩ = some (.int .i64 5) := (((below_box w _).alloc (by simp) _).cell (p := ⟨ad.block, ad.off + 1, none⟩) hlt).trans hc1
  have c2 : ((w.alloc (.cells #[.slice (some ad) 3 c] 41)).alloc (.cells #[.int .i64 0, .int .i64 0, .int .i64 0, .int .i64 0, .int .i64 0, .string ⟨#[]⟩] 48)).cell? ⟨ad.block, ad.off + 2, none⟩ = some (.int .i64 p) := (((below_box w _).alloc (by simp) _).cell (p := ⟨ad.block, ad.off + 2, none⟩) hlt).trans hc2
  have hX := Sty.Box.new (w.alloc (.cells #[.slice (some ad) 3 c] 41)) #[.int .i64 0, .int .i64 0, .int .i64 0, .int .i64 0, .int .i64 0, .string ⟨#[]⟩] 48
  rw [World.size_alloc] at hX
  have HX := Lib.hid (show Sty.Box ((w.alloc (.cells #[.slice (some ad) 3 c] 41)).alloc (.cells #[.int .i64 0, .int .i64 0, .int .i64 0, .int .i64 0, .int .i64 0, .string ⟨#[]⟩] 48)) (w.heap.size + 1) (Sty.cP zP) from hX)
  have HB := Lib.hid (show Below w.heap.size w ((w.alloc (.cells #[.slice (some ad) 3 c] 41)).alloc (.cells #[.int .i64 0, .int .i64 0, .int .i64 0, .int .i64 0, .int .i64 0, .string ⟨#[]⟩] 48)) from (below_box w _).alloc (by simp) _)
  clear hu hX hk h4
  have hs : ((w.alloc (.cells #[.slice (some ad) 3 c] 41)).alloc (.cells #[.int .i64 0, .int .i64 0, .int .i64 0, .int .i64 0, .int .i64 0, .string ⟨#[]⟩] 48)).heap.size = w.heap.size + 1 + 1 := by rw [World.size_alloc, World.size_alloc]
  have HI := Lib.hid (show Calls Tryd.prog 55 #[.slice (some ⟨w.heap.size + 1 + 1, 0, none⟩) 1 1] (((w.alloc (.cells #[.slice (some ad) 3 c] 41)).alloc (.cells #[.int .i64 0, .int .i64 0, .int .i64 0, .int .i64 0, .int .i64 0, .string ⟨#[]⟩] 48)).alloc (.cells #[.int .i64 p] 3)) fun e w' => e = .returned (.bool false) ∧ (((w.alloc (.cells #[.slice (some ad) 3 c] 41)).alloc (.cells #[.int .i64 0, .int .i64 0, .int .i64 0, .int .i64 0, .int .i64 0, .string ⟨#[]⟩] 48)).alloc (.cells #[.int .i64 p] 3)) = w' from by
    have h := rwithin_any (some ⟨w.heap.size + 1 + 1, 0, none⟩) 1 1 [p] (((w.alloc (.cells #[.slice (some ad) 3 c] 41)).alloc (.cells #[.int .i64 0, .int .i64 0, .int .i64 0, .int .i64 0, .int .i64 0, .string ⟨#[]⟩] 48)).alloc (.cells #[.int .i64 p] 3)) rfl (by have := Rd.one ((w.alloc (.cells #[.slice (some ad) 3 c] 41)).alloc (.cells #[.int .i64 0, .int .i64 0, .int .i64 0, .int .i64 0, .int .i64 0, .string ⟨#[]⟩] 48)) (.int .i64 p) 3; rw [hs] at this; exact this) (by decide)
    rw [show [p].all inB = false by simp [hp]] at h
    exact h)
  have d2 : (((w.alloc (.cells #[.slice (some ad) 3 c] 41)).alloc (.cells #[.int .i64 0, .int .i64 0, .int .i64 0, .int .i64 0, .int .i64 0, .string ⟨#[]⟩] 48)).alloc (.cells #[.int .i64 p] 3)).cell? ⟨ad.block, ad.off + 2, none⟩ = some (.int .i64 p) := ((below_box ((w.alloc (.cells #[.slice (some ad) 3 c] 41)).alloc (.cells #[.int .i64 0, .int .i64 0, .int .i64 0, .int .i64 0, .int .i64 0, .string ⟨#[]⟩] 48)) _).cell (p := ⟨ad.block, ad.off + 2, none⟩) (by rw [hs]; show ad.block < _; omega)).trans c2
  have HX3 := Lib.hid (HX.out.keep (below_box ((w.alloc (.cells #[.slice (some ad) 3 c] 41)).alloc (.cells #[.int .i64 0, .int .i64 0, .int .i64 0, .int .i64 0, .int .i64 0, .string ⟨#[]⟩] 48)) (.cells #[.int .i64 p] 3)))
  have HB3 := Lib.hid (Par.up HB.out (below_box ((w.alloc (.cells #[.slice (some ad) 3 c] 41)).alloc (.cells #[.int .i64 0, .int .i64 0, .int .i64 0, .int .i64 0, .int .i64 0, .string ⟨#[]⟩] 48)) (.cells #[.int .i64 p] 3)))
  have HC := Lib.hid (fun W => rcolored_any k 1 p W)
  unfold qV cq at HC
  clear hp hc0 hc1 hc2 hs hlt
  go_enter Tryd.func58, Tryd.ntmps58
  go_upto_region 10 with (first | (go_at_call 54; refine (HW.out _).mono ?_; rintro e w2 ⟨rfl, rfl⟩) | (go_at_call 55; refine HI.out.mono ?_; rintro e w3 ⟨rfl, rfl⟩))
  have x0 := HX3.out.cell 0 _ rfl
  have f0 := HX3.out.free 0 (by show 0 < 6; decide)
  have x1 := HX3.out.cell 1 _ rfl
  have f1 := HX3.out.free 1 (by show 1 < 6; decide)
  have x2 := HX3.out.cell 2 _ rfl
  have f2 := HX3.out.free 2 (by show 2 < 6; decide)
  have x3 := HX3.out.cell 3 _ rfl
  have f3 := HX3.out.free 3 (by show 3 < 6; decide)
  have x4 := HX3.out.cell 4 _ rfl
  have f4 := HX3.out.free 4 (by show 4 < 6; decide)
  have x5 := HX3.out.cell 5 _ rfl
  have f5 := HX3.out.free 5 (by show 5 < 6; decide)
  go_region
  go_wp2_with fail
  go_region
  go_wp2_with fail
  have HX2 := Lib.hid ((HX3.out.keep ((Below.refl _ _).drew)).keep ((Below.refl _ _).drew))
  have HB2 := Lib.hid (Par.up (Par.up HB3.out ((Below.refl _ _).drew)) ((Below.refl _ _).drew))
  refine bodyPost_ret (ret_cell2 rfl _ _ ⟨w.heap.size + 1, 0, none⟩ _ rfl (load_p zP HX2.out)) rfl ?_
  exact ⟨rfl, HB2.out⟩
set_option maxRecDepth 100000 in
set_option maxHeartbeats 4000000 in
/-- three numbers -/
theorem ralone_5y (ad : Addr) ( c : Nat) (v p q r k : Int) (w : World) (hlt : ad.block < w.heap.size) (hc0 : w.cell? ad = some (.int .i64 v)) (hc1 : w.cell? ⟨ad.block, ad.off + 1, none⟩ = some (.int .i64 2)) (hc2 : w.cell? ⟨ad.block, ad.off + 2, none⟩ = some (.int .i64 p)) (hc3 : w.cell? ⟨ad.block, ad.off + 3, none⟩ = some (.int .i64 q)) (hc4 : w.cell? ⟨ad.block, ad.off + 4, none⟩ = some (.int .i64 r)) (h4 : v ≠ 4) (hk : whV (max 0 v) = k) (h0 : 0 ≤ k) (hp : (inB p && inB q && inB r) = true) :
    Calls Tryd.prog 58 #[.agg #[.slice (some ad) 5 c]] w (OptPost w (some (rgbQ k p q r))) := by
  obtain ⟨u, hu⟩ : ∃ u, u = max 0 v := ⟨_, rfl⟩
  have hm : max 0 v = u := hu.symm
  have b4 : (u == 4) = false := by simp; omega
  rw [hm] at hk
  have HW := Lib.hid (fun W => show Calls Tryd.prog 54 #[.int .i64 u] W fun e w' => e = .returned (.int .i64 k) ∧ W = w' from by have := rwhich_any u W; rw [hk] at this; exact this)
  have c0 : ((w.alloc (.cells #[.slice (some ad) 5 c] 41)).alloc (.cells #[.int .i64 0, .int .i64 0, .int .i64 0, .int .i64 0, .int .i64 0, .string ⟨#[]⟩] 48)).cell? ad = some (.int .i64 v) := (((below_box w _).alloc (by simp) _).cell (p := ad) hlt).trans hc0
  have c1 : ((w.alloc (.cells #[.slice (some ad) 5 c] 41)).alloc (.cells #[.int .i64 0, .int .i64 0, .int .i64 0, .int .i64 0, .int .i64 0, .string ⟨#[]⟩] 48)).cell? ⟨ad.block, ad.off + 1, none⟩ = some (.int .i64 2) := (((below_box w _).alloc (by simp) _).cell (p := ⟨ad.block, ad.off + 1, none⟩) hlt).trans hc1
  have c2 : ((w.alloc (.cells #[.slice (some ad) 5 c] 41)).alloc (.cells #[.int .i64 0, .int .i64 0, .int .i64 0, .int .i64 0, .int .i64 0, .string ⟨#[]⟩] 48)).cell? ⟨ad.block, ad.off + 2, none⟩ = some (.int .i64 p) := (((below_box w _).alloc (by simp) _).cell (p := ⟨ad.block, ad.off + 2, none⟩) hlt).trans hc2
  have c3 : ((w.alloc (.cells #[.slice (some ad) 5 c] 41)).alloc (.cells #[.int .i64 0, .int .i64 0, .int .i64 0, .int .i64 0, .int .i64 0, .string ⟨#[]⟩] 48)).cell? ⟨ad.block, ad.off + 3, none⟩ = some (.int .i64 q) := (((below_box w _).alloc (by simp) _).cell (p := ⟨ad.block, ad.off + 3, none⟩) hlt).trans hc3
  have c4 : ((w.alloc (.cells #[.slice (some ad) 5 c] 41)).alloc (.cells #[.int .i64 0, .int .i64 0, .int .i64 0, .int .i64 0, .int .i64 0, .string ⟨#[]⟩] 48)).cell? ⟨ad.block, ad.off + 4, none⟩ = some (.int .i64 r) := (((below_box w _).alloc (by simp) _).cell (p := ⟨ad.block, ad.off + 4, none⟩) hlt).trans hc4
  have hX := Sty.Box.new (w.alloc (.cells #[.slice (some ad) 5 c] 41)) #[.int .i64 0, .int .i64 0, .int .i64 0, .int .i64 0, .int .i64 0, .string ⟨#[]⟩] 48
  rw [World.size_alloc] at hX
  have HX := Lib.hid (show Sty.Box ((w.alloc (.cells #[.slice (some ad) 5 c] 41)).alloc (.cells #[.int .i64 0, .int .i64 0, .int .i64 0, .int .i64 0, .int .i64 0, .string ⟨#[]⟩] 48)) (w.heap.size + 1) (Sty.cP zP) from hX)
  have HB := Lib.hid (show Below w.heap.size w ((w.alloc (.cells #[.slice (some ad) 5 c] 41)).alloc (.cells #[.int .i64 0, .int .i64 0, .int .i64 0, .int .i64 0, .int .i64 0, .string ⟨#[]⟩] 48)) from (below_box w _).alloc (by simp) _)
  clear hu hX hk h4
  have hs : ((w.alloc (.cells #[.slice (some ad) 5 c] 41)).alloc (.cells #[.int .i64 0, .int .i64 0, .int .i64 0, .int .i64 0, .int .i64 0, .string ⟨#[]⟩] 48)).heap.size = w.heap.size + 1 + 1 := by rw [World.size_alloc, World.size_alloc]
  have hl2 : ad.block < ((w.alloc (.cells #[.slice (some ad) 5 c] 41)).alloc (.cells #[.int .i64 0, .int .i64 0, .int .i64 0, .int .i64 0, .int .i64 0, .string ⟨#[]⟩] 48)).heap.size := by rw [hs]; omega
  have hne : ¬ w.heap.size + 1 = ad.block := by omega
  have hpqr : inB p = true ∧ inB q = true ∧ inB r = true → (0 ≤ p ∧ p ≤ 255) ∧ (0 ≤ q ∧ q ≤ 255) ∧ (0 ≤ r ∧ r ≤ 255) := fun h => ⟨in_of h.1, in_of h.2.1, in_of h.2.2⟩
  have HP := Lib.hid hp
  have HPQ := Lib.hid hpqr
  clear hc0 hc1 hc2 hc3 hc4 hpqr hp
  go_enter Tryd.func58, Tryd.ntmps58
  go_upto_region 10 with (go_at_call 54; refine (HW.out _).mono ?_; rintro e w2 ⟨rfl, rfl⟩)
  generalize ((w.alloc (.cells #[.slice (some ad) 5 c] 41)).alloc (.cells #[.int .i64 0, .int .i64 0, .int .i64 0, .int .i64 0, .int .i64 0, .string ⟨#[]⟩] 48)) = w5 at c1 c2 c3 c4 HX HB hs hl2 ⊢
  have HI := Lib.hid (show Calls Tryd.prog 55 #[.slice (some ⟨w5.heap.size, 0, none⟩) 3 3] (w5.alloc (.cells #[.int .i64 p, .int .i64 q, .int .i64 r] 3)).drew fun e w' => e = .returned (.bool true) ∧ (w5.alloc (.cells #[.int .i64 p, .int .i64 q, .int .i64 r] 3)).drew = w' from by
    have h := rwithin_any (some ⟨w5.heap.size, 0, none⟩) 3 3 [p, q, r] (w5.alloc (.cells #[.int .i64 p, .int .i64 q, .int .i64 r] 3)).drew rfl (Par.Rd.lit w5.drew [.int .i64 p, .int .i64 q, .int .i64 r] 3) (by decide)
    rw [show [p, q, r].all inB = true by have := HP.out; simp only [List.all_cons, List.all_nil, Bool.and_true, ← Bool.and_assoc, this]] at h
    exact h)
  have G3 : w5.drew.cell? ⟨ad.block, ad.off + 1, none⟩ = some (.int .i64 2) ∧ w5.drew.cell? ⟨ad.block, ad.off + 2, none⟩ = some (.int .i64 p) ∧ w5.drew.cell? ⟨ad.block, ad.off + 3, none⟩ = some (.int .i64 q) ∧ w5.drew.cell? ⟨ad.block, ad.off + 4, none⟩ = some (.int .i64 r) := ⟨(World.cell?_drew _ _).trans c1, (World.cell?_drew _ _).trans c2, (World.cell?_drew _ _).trans c3, (World.cell?_drew _ _).trans c4⟩
  have hb5 : Below w5.drew.heap.size w5.drew (w5.alloc (.cells #[.int .i64 p, .int .i64 q, .int .i64 r] 3)).drew := below_box w5.drew (.cells #[.int .i64 p, .int .i64 q, .int .i64 r] 3)
  have GS : (w5.alloc (.cells #[.int .i64 p, .int .i64 q, .int .i64 r] 3)).drew.cell? ⟨ad.block, ad.off + 1, none⟩ = some (.int .i64 2) ∧ (w5.alloc (.cells #[.int .i64 p, .int .i64 q, .int .i64 r] 3)).drew.cell? ⟨ad.block, ad.off + 2, none⟩ = some (.int .i64 p) ∧ (w5.alloc (.cells #[.int .i64 p, .int .i64 q, .int .i64 r] 3)).drew.cell? ⟨ad.block, ad.off + 3, none⟩ = some (.int .i64 q) ∧ (w5.alloc (.cells #[.int .i64 p, .int .i64 q, .int .i64 r] 3)).drew.cell? ⟨ad.block, ad.off + 4, none⟩ = some (.int .i64 r) := ⟨(hb5.cell (p := ⟨ad.block, ad.off + 1, none⟩) hl2).trans G3.1, (hb5.cell (p := ⟨ad.block, ad.off + 2, none⟩) hl2).trans G3.2.1, (hb5.cell (p := ⟨ad.block, ad.off + 3, none⟩) hl2).trans G3.2.2.1, (hb5.cell (p := ⟨ad.block, ad.off + 4, none⟩) hl2).trans G3.2.2.2⟩
  have HX6 := Lib.hid (HX.out.drew.keep hb5)
  have HB6 := Lib.hid (Par.up HB.out.drew hb5)
  clear hb5 hs c1 c2 c3 c4
  go_region_held3 (fun W => W.cell? ⟨ad.block, ad.off + 1, none⟩ = some (.int .i64 2) ∧ W.cell? ⟨ad.block, ad.off + 2, none⟩ = some (.int .i64 p) ∧ W.cell? ⟨ad.block, ad.off + 3, none⟩ = some (.int .i64 q) ∧ W.cell? ⟨ad.block, ad.off + 4, none⟩ = some (.int .i64 r)) (first | (with_reducible exact G3) | (with_reducible exact GS)) ((go_at_call 55; refine HI.out.mono ?_; rintro e w3 ⟨rfl, rfl⟩))
  have HG := Lib.hid (fun W => rgb_any k p q r (HPQ.out (by have := HP.out; simp only [Bool.and_eq_true] at this; exact ⟨this.1.1, this.1.2, this.2⟩)).1 (HPQ.out (by have := HP.out; simp only [Bool.and_eq_true] at this; exact ⟨this.1.1, this.1.2, this.2⟩)).2.1 (HPQ.out (by have := HP.out; simp only [Bool.and_eq_true] at this; exact ⟨this.1.1, this.1.2, this.2⟩)).2.2 W)
  unfold qV rgbQ cq at HG
  go_upto_region 11 with fail
  obtain ⟨z, hz⟩ : ∃ z, z = p * 65536 + q * 256 + r := ⟨_, rfl⟩
  rw [← hz] at HG
  have HZ := Lib.hid hz
  clear hz
  have hl6 : ad.block < (w5.alloc (.cells #[.int .i64 p, .int .i64 q, .int .i64 r] 3)).drew.heap.size := by show ad.block < (w5.alloc (.cells #[.int .i64 p, .int .i64 q, .int .i64 r] 3)).heap.size; rw [World.size_alloc]; exact Nat.lt_succ_of_lt hl2
  generalize (w5.alloc (.cells #[.int .i64 p, .int .i64 q, .int .i64 r] 3)).drew = w6 at GS HX6 HB6 hl6 ⊢
  clear G3 HI
  have G4 : w6.drew.cell? ⟨ad.block, ad.off + 1, none⟩ = some (.int .i64 2) ∧ w6.drew.cell? ⟨ad.block, ad.off + 2, none⟩ = some (.int .i64 p) ∧ w6.drew.cell? ⟨ad.block, ad.off + 3, none⟩ = some (.int .i64 q) ∧ w6.drew.cell? ⟨ad.block, ad.off + 4, none⟩ = some (.int .i64 r) := ⟨(World.cell?_drew _ _).trans GS.1, (World.cell?_drew _ _).trans GS.2.1, (World.cell?_drew _ _).trans GS.2.2.1, (World.cell?_drew _ _).trans GS.2.2.2⟩
  have HF := Lib.hid (cells_far 39 k 0 2 z ⟨#[]⟩ ad.block (w.heap.size + 1) hne)
  go_region_held3 (fun W => W.cell? ⟨ad.block, ad.off + 1, none⟩ = some (.int .i64 2) ∧ W.cell? ⟨ad.block, ad.off + 2, none⟩ = some (.int .i64 p) ∧ W.cell? ⟨ad.block, ad.off + 3, none⟩ = some (.int .i64 q) ∧ W.cell? ⟨ad.block, ad.off + 4, none⟩ = some (.int .i64 r)) (first | (with_reducible exact G4) | (with_reducible exact G5) | (with_reducible exact G6)) ((go_at_call 57; refine (HG.out _).mono ?_; rintro e w7 ⟨rfl, hb7⟩; have HX7 := Lib.hid (HX6.out.drew.keep hb7); have HB7 := Lib.hid (Par.up HB6.out.drew hb7); have G5 : w7.cell? ⟨ad.block, ad.off + 1, none⟩ = some (.int .i64 2) ∧ w7.cell? ⟨ad.block, ad.off + 2, none⟩ = some (.int .i64 p) ∧ w7.cell? ⟨ad.block, ad.off + 3, none⟩ = some (.int .i64 q) ∧ w7.cell? ⟨ad.block, ad.off + 4, none⟩ = some (.int .i64 r) := ⟨(hb7.cell (p := ⟨ad.block, ad.off + 1, none⟩) hl6).trans G4.1, (hb7.cell (p := ⟨ad.block, ad.off + 2, none⟩) hl6).trans G4.2.1, (hb7.cell (p := ⟨ad.block, ad.off + 3, none⟩) hl6).trans G4.2.2.1, (hb7.cell (p := ⟨ad.block, ad.off + 4, none⟩) hl6).trans G4.2.2.2⟩; have G6 := And.intro ((HF.out w7 (ad.off + 1)).trans G5.1) (And.intro ((HF.out w7 (ad.off + 2)).trans G5.2.1) (And.intro ((HF.out w7 (ad.off + 3)).trans G5.2.2.1) ((HF.out w7 (ad.off + 4)).trans G5.2.2.2))); have x0 := HX7.out.cell 0 _ rfl; have f0 := HX7.out.free 0 (by show 0 < 6; decide); have x1 := HX7.out.cell 1 _ rfl; have f1 := HX7.out.free 1 (by show 1 < 6; decide); have x2 := HX7.out.cell 2 _ rfl; have f2 := HX7.out.free 2 (by show 2 < 6; decide); have x3 := HX7.out.cell 3 _ rfl; have f3 := HX7.out.free 3 (by show 3 < 6; decide); have x4 := HX7.out.cell 4 _ rfl; have f4 := HX7.out.free 4 (by show 4 < 6; decide); have x5 := HX7.out.cell 5 _ rfl; have f5 := HX7.out.free 5 (by show 5 < 6; decide)))
  go_wp2_with fail
  refine bodyPost_ret (ret_cell2 rfl _ _ ⟨w.heap.size + 1, 0, none⟩ _ rfl (put_c6 _ _ _ _ _ _ HX7.out)) rfl ?_
  refine ⟨?_, below_c6 _ _ _ _ _ _ _ HB7.out (Nat.le_succ _)⟩
  show _ = Ending.returned (.tuple #[.agg #[.int .i64 39, .int .i64 k, .int .i64 0, .int .i64 2, .int .i64 (p * 65536 + q * 256 + r), .string ⟨#[]⟩], .bool true])
  rw [← HZ.out]
  rfl
set_option maxRecDepth 100000 in
set_option maxHeartbeats 4000000 in
/-- three numbers -/
theorem ralone_5w (ad : Addr) ( c : Nat) (v p q r k : Int) (w : World) (hlt : ad.block < w.heap.size) (hc0 : w.cell? ad = some (.int .i64 v)) (hc1 : w.cell? ⟨ad.block, ad.off + 1, none⟩ = some (.int .i64 2)) (hc2 : w.cell? ⟨ad.block, ad.off + 2, none⟩ = some (.int .i64 p)) (hc3 : w.cell? ⟨ad.block, ad.off + 3, none⟩ = some (.int .i64 q)) (hc4 : w.cell? ⟨ad.block, ad.off + 4, none⟩ = some (.int .i64 r)) (h4 : v ≠ 4) (hk : whV (max 0 v) = k) (h0 : 0 ≤ k) (hp : (inB p && inB q && inB r) = false) :
    Calls Tryd.prog 58 #[.agg #[.slice (some ad) 5 c]] w (OptPost w none) := by
  obtain ⟨u, hu⟩ : ∃ u, u = max 0 v := ⟨_, rfl⟩
  have hm : max 0 v = u := hu.symm
  have b4 : (u == 4) = false := by simp; omega
  rw [hm] at hk
  have HW := Lib.hid (fun W => show Calls Tryd.prog 54 #[.int .i64 u] W fun e w' => e = .returned (.int .i64 k) ∧ W = w' from by have := rwhich_any u W; rw [hk] at this; exact this)
  have c0 : ((w.alloc (.cells #[.slice (some ad) 5 c] 41)).alloc (.cells #[.int .i64 0, .int .i64 0, .int .i64 0, .int .i64 0, .int .i64 0, .string ⟨#[]⟩] 48)).cell? ad = some (.int .i64 v) := (((below_box w _).alloc (by simp) _).cell (p := ad) hlt).trans hc0
  have c1 : ((w.alloc (.cells #[.slice (some ad) 5 c] 41)).alloc (.cells #[.int .i64 0, .int .i64 0, .int .i64 0, .int .i64 0, .int .i64 0, .string ⟨#[]⟩] 48)).cell? ⟨ad.block, ad.off + 1, none⟩ = some (.int .i64 2) := (((below_box w _).alloc (by simp) _).cell (p := ⟨ad.block, ad.off + 1, none⟩) hlt).trans hc1
  have c2 : ((w.alloc (.cells #[.slice (some ad) 5 c] 41)).alloc (.cells #[.int .i64 0, .int .i64 0, .int .i64 0, .int .i64 0, .int .i64 0, .string ⟨#[]⟩] 48)).cell? ⟨ad.block, ad.off + 2, none⟩ = some (.int .i64 p) := (((below_box w _).alloc (by simp) _).cell (p := ⟨ad.block, ad.off + 2, none⟩) hlt).trans hc2
  have c3 : ((w.alloc (.cells #[.slice (some ad) 5 c] 41)).alloc (.cells #[.int .i64 0, .int .i64 0, .int .i64 0, .int .i64 0, .int .i64 0, .string ⟨#[]⟩] 48)).cell? ⟨ad.block, ad.off + 3, none⟩ = some (.int .i64 q) := (((below_box w _).alloc (by simp) _).cell (p := ⟨ad.block, ad.off + 3, none⟩) hlt).trans hc3
  have c4 : ((w.alloc (.cells #[.slice (some ad) 5 c] 41)).alloc (.cells #[.int .i64 0, .int .i64 0, .int .i64 0, .int .i64 0, .int .i64 0, .string ⟨#[]⟩] 48)).cell? ⟨ad.block, ad.off + 4, none⟩ = some (.int .i64 r) := (((below_box w _).alloc (by simp) _).cell (p := ⟨ad.block, ad.off + 4, none⟩) hlt).trans hc4
  have hX := Sty.Box.new (w.alloc (.cells #[.slice (some ad) 5 c] 41)) #[.int .i64 0, .int .i64 0, .int .i64 0, .int .i64 0, .int .i64 0, .string ⟨#[]⟩] 48
  rw [World.size_alloc] at hX
  have HX := Lib.hid (show Sty.Box ((w.alloc (.cells #[.slice (some ad) 5 c] 41)).alloc (.cells #[.int .i64 0, .int .i64 0, .int .i64 0, .int .i64 0, .int .i64 0, .string ⟨#[]⟩] 48)) (w.heap.size + 1) (Sty.cP zP) from hX)
  have HB := Lib.hid (show Below w.heap.size w ((w.alloc (.cells #[.slice (some ad) 5 c] 41)).alloc (.cells #[.int .i64 0, .int .i64 0, .int .i64 0, .int .i64 0, .int .i64 0, .string ⟨#[]⟩] 48)) from (below_box w _).alloc (by simp) _)
  clear hu hX hk h4
  have hs : ((w.alloc (.cells #[.slice (some ad) 5 c] 41)).alloc (.cells #[.int .i64 0, .int .i64 0, .int .i64 0, .int .i64 0, .int .i64 0, .string ⟨#[]⟩] 48)).heap.size = w.heap.size + 1 + 1 := by rw [World.size_alloc, World.size_alloc]
  have hl2 : ad.block < ((w.alloc (.cells #[.slice (some ad) 5 c] 41)).alloc (.cells #[.int .i64 0, .int .i64 0, .int .i64 0, .int .i64 0, .int .i64 0, .string ⟨#[]⟩] 48)).heap.size := by rw [hs]; omega
  have hne : ¬ w.heap.size + 1 = ad.block := by omega
  have hpqr : inB p = true ∧ inB q = true ∧ inB r = true → (0 ≤ p ∧ p ≤ 255) ∧ (0 ≤ q ∧ q ≤ 255) ∧ (0 ≤ r ∧ r ≤ 255) := fun h => ⟨in_of h.1, in_of h.2.1, in_of h.2.2⟩
  have HP := Lib.hid hp
  have HPQ := Lib.hid hpqr
  clear hc0 hc1 hc2 hc3 hc4 hpqr hp
  go_enter Tryd.func58, Tryd.ntmps58
  go_upto_region 10 with (go_at_call 54; refine (HW.out _).mono ?_; rintro e w2 ⟨rfl, rfl⟩)
  generalize ((w.alloc (.cells #[.slice (some ad) 5 c] 41)).alloc (.cells #[.int .i64 0, .int .i64 0, .int .i64 0, .int .i64 0, .int .i64 0, .string ⟨#[]⟩] 48)) = w5 at c1 c2 c3 c4 HX HB hs hl2 ⊢
  have HI := Lib.hid (show Calls Tryd.prog 55 #[.slice (some ⟨w5.heap.size, 0, none⟩) 3 3] (w5.alloc (.cells #[.int .i64 p, .int .i64 q, .int .i64 r] 3)).drew fun e w' => e = .returned (.bool false) ∧ (w5.alloc (.cells #[.int .i64 p, .int .i64 q, .int .i64 r] 3)).drew = w' from by
    have h := rwithin_any (some ⟨w5.heap.size, 0, none⟩) 3 3 [p, q, r] (w5.alloc (.cells #[.int .i64 p, .int .i64 q, .int .i64 r] 3)).drew rfl (Par.Rd.lit w5.drew [.int .i64 p, .int .i64 q, .int .i64 r] 3) (by decide)
    rw [show [p, q, r].all inB = false by have := HP.out; simp only [List.all_cons, List.all_nil, Bool.and_true, ← Bool.and_assoc, this]] at h
    exact h)
  have G3 : w5.drew.cell? ⟨ad.block, ad.off + 1, none⟩ = some (.int .i64 2) ∧ w5.drew.cell? ⟨ad.block, ad.off + 2, none⟩ = some (.int .i64 p) ∧ w5.drew.cell? ⟨ad.block, ad.off + 3, none⟩ = some (.int .i64 q) ∧ w5.drew.cell? ⟨ad.block, ad.off + 4, none⟩ = some (.int .i64 r) := ⟨(World.cell?_drew _ _).trans c1, (World.cell?_drew _ _).trans c2, (World.cell?_drew _ _).trans c3, (World.cell?_drew _ _).trans c4⟩
  have hb5 : Below w5.drew.heap.size w5.drew (w5.alloc (.cells #[.int .i64 p, .int .i64 q, .int .i64 r] 3)).drew := below_box w5.drew (.cells #[.int .i64 p, .int .i64 q, .int .i64 r] 3)
  have GS : (w5.alloc (.cells #[.int .i64 p, .int .i64 q, .int .i64 r] 3)).drew.cell? ⟨ad.block, ad.off + 1, none⟩ = some (.int .i64 2) ∧ (w5.alloc (.cells #[.int .i64 p, .int .i64 q, .int .i64 r] 3)).drew.cell? ⟨ad.block, ad.off + 2, none⟩ = some (.int .i64 p) ∧ (w5.alloc (.cells #[.int .i64 p, .int .i64 q, .int .i64 r] 3)).drew.cell? ⟨ad.block, ad.off + 3, none⟩ = some (.int .i64 q) ∧ (w5.alloc (.cells #[.int .i64 p, .int .i64 q, .int .i64 r] 3)).drew.cell? ⟨ad.block, ad.off + 4, none⟩ = some (.int .i64 r) := ⟨(hb5.cell (p := ⟨ad.block, ad.off + 1, none⟩) hl2).trans G3.1, (hb5.cell (p := ⟨ad.block, ad.off + 2, none⟩) hl2).trans G3.2.1, (hb5.cell (p := ⟨ad.block, ad.off + 3, none⟩) hl2).trans G3.2.2.1, (hb5.cell (p := ⟨ad.block, ad.off + 4, none⟩) hl2).trans G3.2.2.2⟩
  have HX6 := Lib.hid (HX.out.drew.keep hb5)
  have HB6 := Lib.hid (Par.up HB.out.drew hb5)
  clear hb5 hs c1 c2 c3 c4
  go_region_held3 (fun W => W.cell? ⟨ad.block, ad.off + 1, none⟩ = some (.int .i64 2) ∧ W.cell? ⟨ad.block, ad.off + 2, none⟩ = some (.int .i64 p) ∧ W.cell? ⟨ad.block, ad.off + 3, none⟩ = some (.int .i64 q) ∧ W.cell? ⟨ad.block, ad.off + 4, none⟩ = some (.int .i64 r)) (first | (with_reducible exact G3) | (with_reducible exact GS)) ((go_at_call 55; refine HI.out.mono ?_; rintro e w3 ⟨rfl, rfl⟩))
  go_upto_region 12 with fail
  clear GS G3 HI HP HPQ hne hl2 c0
  generalize (w5.alloc (.cells #[.int .i64 p, .int .i64 q, .int .i64 r] 3)).drew = w6 at HX6 HB6 ⊢
  have x0 := HX6.out.cell 0 _ rfl
  have f0 := HX6.out.free 0 (by show 0 < 6; decide)
  have x1 := HX6.out.cell 1 _ rfl
  have f1 := HX6.out.free 1 (by show 1 < 6; decide)
  have x2 := HX6.out.cell 2 _ rfl
  have f2 := HX6.out.free 2 (by show 2 < 6; decide)
  have x3 := HX6.out.cell 3 _ rfl
  have f3 := HX6.out.free 3 (by show 3 < 6; decide)
  have x4 := HX6.out.cell 4 _ rfl
  have f4 := HX6.out.free 4 (by show 4 < 6; decide)
  have x5 := HX6.out.cell 5 _ rfl
  have f5 := HX6.out.free 5 (by show 5 < 6; decide)
  go_region
  go_wp2_with fail
  refine bodyPost_ret (ret_cell2 rfl _ _ ⟨w.heap.size + 1, 0, none⟩ _ rfl (load_c6 (Sty.put6 w6 (w.heap.size + 1) ⟨0, 0, 0, 0, 0, ⟨#[]⟩⟩ zP HX6.out).drew)) rfl ?_
  exact ⟨rfl, (below_c6 _ 0 0 0 0 0 ⟨#[]⟩ HB6.out (Nat.le_succ _)).drew⟩
set_option maxRecDepth 100000 in
set_option maxHeartbeats 4000000 in
/-- three numbers -/
theorem ralone_6y (ad : Addr) ( c : Nat) (v p q r k : Int) (w : World) (hlt : ad.block < w.heap.size) (hc0 : w.cell? ad = some (.int .i64 v)) (hc1 : w.cell? ⟨ad.block, ad.off + 1, none⟩ = some (.int .i64 2)) (hc3 : w.cell? ⟨ad.block, ad.off + 3, none⟩ = some (.int .i64 p)) (hc4 : w.cell? ⟨ad.block, ad.off + 4, none⟩ = some (.int .i64 q)) (hc5 : w.cell? ⟨ad.block, ad.off + 5, none⟩ = some (.int .i64 r)) (h4 : v ≠ 4) (hk : whV (max 0 v) = k) (h0 : 0 ≤ k) (hp : (inB p && inB q && inB r) = true) :
    Calls Tryd.prog 58 #[.agg #[.slice (some ad) 6 c]] w (OptPost w (some (rgbQ k p q r))) := by
  obtain ⟨u, hu⟩ : ∃ u, u = max 0 v := ⟨_, rfl⟩
  have hm : max 0 v = u := hu.symm
  have b4 : (u == 4) = false := by simp; omega
  rw [hm] at hk
  have HW := Lib.hid (fun W => show Calls Tryd.prog 54 #[.int .i64 u] W fun e w' => e = .returned (.int .i64 k) ∧ W = w' from by have := rwhich_any u W; rw [hk] at this; exact this)
  have c0 : ((w.alloc (.cells #[.slice (some ad) 6 c] 41)).alloc (.cells #[.int .i64 0, .int .i64 0, .int .i64 0, .int .i64 0, .int .i64 0, .string ⟨#[]⟩] 48)).cell? ad = some (.int .i64 v) := (((below_box w _).alloc (by simp) _).cell (p := ad) hlt).trans hc0
  have c1 : ((w.alloc (.cells #[.slice (some ad) 6 c] 41)).alloc (.cells #[.int .i64 0, .int .i64 0, .int .i64 0, .int .i64 0, .int .i64 0, .string ⟨#[]⟩] 48)).cell? ⟨ad.block, ad.off + 1, none⟩ = some (.int .i64 2) := (((below_box w _).alloc (by simp) _).cell (p := ⟨ad.block, ad.off + 1, none⟩) hlt).trans hc1
  have c3 : ((w.alloc (.cells #[.slice (some ad) 6 c] 41)).alloc (.cells #[.int .i64 0, .int .i64 0, .int .i64 0, .int .i64 0, .int .i64 0, .string ⟨#[]⟩] 48)).cell? ⟨ad.block, ad.off + 3, none⟩ = some (.int .i64 p) := (((below_box w _).alloc (by simp) _).cell (p := ⟨ad.block, ad.off + 3, none⟩) hlt).trans hc3
  have c4 : ((w.alloc (.cells #[.slice (some ad) 6 c] 41)).alloc (.cells #[.int .i64 0, .int .i64 0, .int .i64 0, .int .i64 0, .int .i64 0, .string ⟨#[]⟩] 48)).cell? ⟨ad.block, ad.off + 4, none⟩ = some (.int .i64 q) := (((below_box w _).alloc (by simp) _).cell (p := ⟨ad.block, ad.off + 4, none⟩) hlt).trans hc4
  have c5 : ((w.alloc (.cells #[.slice (some ad) 6 c] 41)).alloc (.cells #[.int .i64 0, .int .i64 0, .int .i64 0, .int .i64 0, .int .i64 0, .string ⟨#[]⟩] 48)).cell? ⟨ad.block, ad.off + 5, none⟩ = some (.int .i64 r) := (((below_box w _).alloc (by simp) _).cell (p := ⟨ad.block, ad.off + 5, none⟩) hlt).trans hc5
  have hX := Sty.Box.new (w.alloc (.cells #[.slice (some ad) 6 c] 41)) #[.int .i64 0, .int .i64 0, .int .i64 0, .int .i64 0, .int .i64 0, .string ⟨#[]⟩] 48
  rw [World.size_alloc] at hX
  have HX := Lib.hid (show Sty.Box ((w.alloc (.cells #[.slice (some ad) 6 c] 41)).alloc (.cells #[.int .i64 0, .int .i64 0, .int .i64 0, .int .i64 0, .int .i64 0, .string ⟨#[]⟩] 48)) (w.heap.size + 1) (Sty.cP zP) from hX)
  have HB := Lib.hid (show Below w.heap.size w ((w.alloc (.cells #[.slice (some ad) 6 c] 41)).alloc (.cells #[.int .i64 0, .int .i64 0, .int .i64 0, .int .i64 0, .int .i64 0, .string ⟨#[]⟩] 48)) from (below_box w _).alloc (by simp) _)
  clear hu hX hk h4
  have hs : ((w.alloc (.cells #[.slice (some ad) 6 c] 41)).alloc (.cells #[.int .i64 0, .int .i64 0, .int .i64 0, .int .i64 0, .int .i64 0, .string ⟨#[]⟩] 48)).heap.size = w.heap.size + 1 + 1 := by rw [World.size_alloc, World.size_alloc]
  have hl2 : ad.block < ((w.alloc (.cells #[.slice (some ad) 6 c] 41)).alloc (.cells #[.int .i64 0, .int .i64 0, .int .i64 0, .int .i64 0, .int .i64 0, .string ⟨#[]⟩] 48)).heap.size := by rw [hs]; omega
  have hne : ¬ w.heap.size + 1 = ad.block := by omega
  have hpqr : inB p = true ∧ inB q = true ∧ inB r = true → (0 ≤ p ∧ p ≤ 255) ∧ (0 ≤ q ∧ q ≤ 255) ∧ (0 ≤ r ∧ r ≤ 255) := fun h => ⟨in_of h.1, in_of h.2.1, in_of h.2.2⟩
  have HP := Lib.hid hp
  have HPQ := Lib.hid hpqr
  clear hc0 hc1 hc3 hc4 hc5 hpqr hp
  go_enter Tryd.func58, Tryd.ntmps58
  go_upto_region 10 with (go_at_call 54; refine (HW.out _).mono ?_; rintro e w2 ⟨rfl, rfl⟩)
  go_region
  go_upto_region 12 with fail
  have HX := Lib.hid HX.out.drew
  have HB := Lib.hid HB.out.drew
  replace hs : ((w.alloc (.cells #[.slice (some ad) 6 c] 41)).alloc (.cells #[.int .i64 0, .int .i64 0, .int .i64 0, .int .i64 0, .int .i64 0, .string ⟨#[]⟩] 48)).drew.heap.size = w.heap.size + 1 + 1 := hs
  replace hl2 : ad.block < ((w.alloc (.cells #[.slice (some ad) 6 c] 41)).alloc (.cells #[.int .i64 0, .int .i64 0, .int .i64 0, .int .i64 0, .int .i64 0, .string ⟨#[]⟩] 48)).drew.heap.size := hl2
  replace c1 := (World.cell?_drew _ _).trans c1
  replace c3 := (World.cell?_drew _ _).trans c3
  replace c4 := (World.cell?_drew _ _).trans c4
  replace c5 := (World.cell?_drew _ _).trans c5
  generalize ((w.alloc (.cells #[.slice (some ad) 6 c] 41)).alloc (.cells #[.int .i64 0, .int .i64 0, .int .i64 0, .int .i64 0, .int .i64 0, .string ⟨#[]⟩] 48)).drew = w5 at c1 c3 c4 c5 HX HB hs hl2 ⊢
  have HI := Lib.hid (show Calls Tryd.prog 55 #[.slice (some ⟨w5.heap.size, 0, none⟩) 3 3] (w5.alloc (.cells #[.int .i64 p, .int .i64 q, .int .i64 r] 3)).drew fun e w' => e = .returned (.bool true) ∧ (w5.alloc (.cells #[.int .i64 p, .int .i64 q, .int .i64 r] 3)).drew = w' from by
    have h := rwithin_any (some ⟨w5.heap.size, 0, none⟩) 3 3 [p, q, r] (w5.alloc (.cells #[.int .i64 p, .int .i64 q, .int .i64 r] 3)).drew rfl (Par.Rd.lit w5.drew [.int .i64 p, .int .i64 q, .int .i64 r] 3) (by decide)
    rw [show [p, q, r].all inB = true by have := HP.out; simp only [List.all_cons, List.all_nil, Bool.and_true, ← Bool.and_assoc, this]] at h
    exact h)
  have G3 : w5.drew.cell? ⟨ad.block, ad.off + 1, none⟩ = some (.int .i64 2) ∧ w5.drew.cell? ⟨ad.block, ad.off + 3, none⟩ = some (.int .i64 p) ∧ w5.drew.cell? ⟨ad.block, ad.off + 4, none⟩ = some (.int .i64 q) ∧ w5.drew.cell? ⟨ad.block, ad.off + 5, none⟩ = some (.int .i64 r) := ⟨(World.cell?_drew _ _).trans c1, (World.cell?_drew _ _).trans c3, (World.cell?_drew _ _).trans c4, (World.cell?_drew _ _).trans c5⟩
  have hb5 : Below w5.drew.heap.size w5.drew (w5.alloc (.cells #[.int .i64 p, .int .i64 q, .int .i64 r] 3)).drew := below_box w5.drew (.cells #[.int .i64 p, .int .i64 q, .int .i64 r] 3)
  have GS : (w5.alloc (.cells #[.int .i64 p, .int .i64 q, .int .i64 r] 3)).drew.cell? ⟨ad.block, ad.off + 1, none⟩ = some (.int .i64 2) ∧ (w5.alloc (.cells #[.int .i64 p, .int .i64 q, .int .i64 r] 3)).drew.cell? ⟨ad.block, ad.off + 3, none⟩ = some (.int .i64 p) ∧ (w5.alloc (.cells #[.int .i64 p, .int .i64 q, .int .i64 r] 3)).drew.cell? ⟨ad.block, ad.off + 4, none⟩ = some (.int .i64 q) ∧ (w5.alloc (.cells #[.int .i64 p, .int .i64 q, .int .i64 r] 3)).drew.cell? ⟨ad.block, ad.off + 5, none⟩ = some (.int .i64 r) := ⟨(hb5.cell (p := ⟨ad.block, ad.off + 1, none⟩) hl2).trans G3.1, (hb5.cell (p := ⟨ad.block, ad.off + 3, none⟩) hl2).trans G3.2.1, (hb5.cell (p := ⟨ad.block, ad.off + 4, none⟩) hl2).trans G3.2.2.1, (hb5.cell (p := ⟨ad.block, ad.off + 5, none⟩) hl2).trans G3.2.2.2⟩
  have HX6 := Lib.hid (HX.out.drew.keep hb5)
  have HB6 := Lib.hid (Par.up HB.out.drew hb5)
  clear hb5 hs c1 c3 c4 c5
  go_region_held3 (fun W => W.cell? ⟨ad.block, ad.off + 1, none⟩ = some (.int .i64 2) ∧ W.cell? ⟨ad.block, ad.off + 3, none⟩ = some (.int .i64 p) ∧ W.cell? ⟨ad.block, ad.off + 4, none⟩ = some (.int .i64 q) ∧ W.cell? ⟨ad.block, ad.off + 5, none⟩ = some (.int .i64 r)) (first | (with_reducible exact G3) | (with_reducible exact GS)) ((go_at_call 55; refine HI.out.mono ?_; rintro e w3 ⟨rfl, rfl⟩))
  have HG := Lib.hid (fun W => rgb_any k p q r (HPQ.out (by have := HP.out; simp only [Bool.and_eq_true] at this; exact ⟨this.1.1, this.1.2, this.2⟩)).1 (HPQ.out (by have := HP.out; simp only [Bool.and_eq_true] at this; exact ⟨this.1.1, this.1.2, this.2⟩)).2.1 (HPQ.out (by have := HP.out; simp only [Bool.and_eq_true] at this; exact ⟨this.1.1, this.1.2, this.2⟩)).2.2 W)
  unfold qV rgbQ cq at HG
  go_upto_region 13 with fail
  obtain ⟨z, hz⟩ : ∃ z, z = p * 65536 + q * 256 + r := ⟨_, rfl⟩
  rw [← hz] at HG
  have HZ := Lib.hid hz
  clear hz
  have hl6 : ad.block < (w5.alloc (.cells #[.int .i64 p, .int .i64 q, .int .i64 r] 3)).drew.heap.size := by show ad.block < (w5.alloc (.cells #[.int .i64 p, .int .i64 q, .int .i64 r] 3)).heap.size; rw [World.size_alloc]; exact Nat.lt_succ_of_lt hl2
  generalize (w5.alloc (.cells #[.int .i64 p, .int .i64 q, .int .i64 r] 3)).drew = w6 at GS HX6 HB6 hl6 ⊢
  clear G3 HI
  have G4 : w6.drew.cell? ⟨ad.block, ad.off + 1, none⟩ = some (.int .i64 2) ∧ w6.drew.cell? ⟨ad.block, ad.off + 3, none⟩ = some (.int .i64 p) ∧ w6.drew.cell? ⟨ad.block, ad.off + 4, none⟩ = some (.int .i64 q) ∧ w6.drew.cell? ⟨ad.block, ad.off + 5, none⟩ = some (.int .i64 r) := ⟨(World.cell?_drew _ _).trans GS.1, (World.cell?_drew _ _).trans GS.2.1, (World.cell?_drew _ _).trans GS.2.2.1, (World.cell?_drew _ _).trans GS.2.2.2⟩
  have HF := Lib.hid (cells_far 39 k 0 2 z ⟨#[]⟩ ad.block (w.heap.size + 1) hne)
  go_region_held3 (fun W => W.cell? ⟨ad.block, ad.off + 1, none⟩ = some (.int .i64 2) ∧ W.cell? ⟨ad.block, ad.off + 3, none⟩ = some (.int .i64 p) ∧ W.cell? ⟨ad.block, ad.off + 4, none⟩ = some (.int .i64 q) ∧ W.cell? ⟨ad.block, ad.off + 5, none⟩ = some (.int .i64 r)) (first | (with_reducible exact G4) | (with_reducible exact G5) | (with_reducible exact G6)) ((go_at_call 57; refine (HG.out _).mono ?_; rintro e w7 ⟨rfl, hb7⟩; have HX7 := Lib.hid (HX6.out.drew.keep hb7); have HB7 := Lib.hid (Par.up HB6.out.drew hb7); have G5 : w7.cell? ⟨ad.block, ad.off + 1, none⟩ = some (.int .i64 2) ∧ w7.cell? ⟨ad.block, ad.off + 3, none⟩ = some (.int .i64 p) ∧ w7.cell? ⟨ad.block, ad.off + 4, none⟩ = some (.int .i64 q) ∧ w7.cell? ⟨ad.block, ad.off + 5, none⟩ = some (.int .i64 r) := ⟨(hb7.cell (p := ⟨ad.block, ad.off + 1, none⟩) hl6).trans G4.1, (hb7.cell (p := ⟨ad.block, ad.off + 3, none⟩) hl6).trans G4.2.1, (hb7.cell (p := ⟨ad.block, ad.off + 4, none⟩) hl6).trans G4.2.2.1, (hb7.cell (p := ⟨ad.block, ad.off + 5, none⟩) hl6).trans G4.2.2.2⟩; have G6 := And.intro ((HF.out w7 (ad.off + 1)).trans G5.1) (And.intro ((HF.out w7 (ad.off + 3)).trans G5.2.1) (And.intro ((HF.out w7 (ad.off + 4)).trans G5.2.2.1) ((HF.out w7 (ad.off + 5)).trans G5.2.2.2))); have x0 := HX7.out.cell 0 _ rfl; have f0 := HX7.out.free 0 (by show 0 < 6; decide); have x1 := HX7.out.cell 1 _ rfl; have f1 := HX7.out.free 1 (by show 1 < 6; decide); have x2 := HX7.out.cell 2 _ rfl; have f2 := HX7.out.free 2 (by show 2 < 6; decide); have x3 := HX7.out.cell 3 _ rfl; have f3 := HX7.out.free 3 (by show 3 < 6; decide); have x4 := HX7.out.cell 4 _ rfl; have f4 := HX7.out.free 4 (by show 4 < 6; decide); have x5 := HX7.out.cell 5 _ rfl; have f5 := HX7.out.free 5 (by show 5 < 6; decide)))
  go_wp2_with fail
  refine bodyPost_ret (ret_cell2 rfl _ _ ⟨w.heap.size + 1, 0, none⟩ _ rfl (put_c6 _ _ _ _ _ _ HX7.out)) rfl ?_
  refine ⟨?_, below_c6 _ _ _ _ _ _ _ HB7.out (Nat.le_succ _)⟩
  show _ = Ending.returned (.tuple #[.agg #[.int .i64 39, .int .i64 k, .int .i64 0, .int .i64 2, .int .i64 (p * 65536 + q * 256 + r), .string ⟨#[]⟩], .bool true])
  rw [← HZ.out]
  rfl
set_option maxRecDepth 100000 in
set_option maxHeartbeats 4000000 in
/-- three numbers -/
theorem ralone_6w (ad : Addr) ( c : Nat) (v p q r k : Int) (w : World) (hlt : ad.block < w.heap.size) (hc0 : w.cell? ad = some (.int .i64 v)) (hc1 : w.cell? ⟨ad.block, ad.off + 1, none⟩ = some (.int .i64 2)) (hc3 : w.cell? ⟨ad.block, ad.off + 3, none⟩ = some (.int .i64 p)) (hc4 : w.cell? ⟨ad.block, ad.off + 4, none⟩ = some (.int .i64 q)) (hc5 : w.cell? ⟨ad.block, ad.off + 5, none⟩ = some (.int .i64 r)) (h4 : v ≠ 4) (hk : whV (max 0 v) = k) (h0 : 0 ≤ k) (hp : (inB p && inB q && inB r) = false) :
    Calls Tryd.prog 58 #[.agg #[.slice (some ad) 6 c]] w (OptPost w none) := by
  obtain ⟨u, hu⟩ : ∃ u, u = max 0 v := ⟨_, rfl⟩
  have hm : max 0 v = u := hu.symm
  have b4 : (u == 4) = false := by simp; omega
  rw [hm] at hk
  have HW := Lib.hid (fun W => show Calls Tryd.prog 54 #[.int .i64 u] W fun e w' => e = .returned (.int .i64 k) ∧ W = w' from by have := rwhich_any u W; rw [hk] at this; exact this)
  have c0 : ((w.alloc (.cells #[.slice (some ad) 6 c] 41)).alloc (.cells #[.int .i64 0, .int .i64 0, .int .i64 0, .int .i64 0, .int .i64 0, .string ⟨#[]⟩] 48)).cell? ad = some (.int .i64 v) := (((below_box w _).alloc (by simp) _).cell (p := ad) hlt).trans hc0
  have c1 : ((w.alloc (.cells #[.slice (some ad) 6 c] 41)).alloc (.cells #[.int .i64 0, .int .i64 0, .int .i64 0, .int .i64 0, .int .i64 0, .string ⟨#[]⟩] 48)).cell? ⟨ad.block, ad.off + 1, none⟩ = some (.int .i64 2) := (((below_box w _).alloc (by simp) _).cell (p := ⟨ad.block, ad.off + 1, none⟩) hlt).trans hc1
  have c3 : ((w.alloc (.cells #[.slice (some ad) 6 c] 41)).alloc (.cells #[.int .i64 0, .int .i64 0, .int .i64 0, .int .i64 0, .int .i64 0, .string ⟨#[]⟩] 48)).cell? ⟨ad.block, ad.off + 3, none⟩ = some (.int .i64 p) := (((below_box w _).alloc (by simp) _).cell (p := ⟨ad.block, ad.off + 3, none⟩) hlt).trans hc3
  have c4 : ((w.alloc (.cells #[.slice (some ad) 6 c] 41)).alloc (.cells #[.int .i64 0, .int .i64 0, .int .i64 0, .int .i64 0, .int .i64 0, .string ⟨#[]⟩] 48)).cell? ⟨ad.block, ad.off + 4, none⟩ = some (.int .i64 q) := (((below_box w _).alloc (by simp) _).cell (p := ⟨ad.block, ad.off + 4, none⟩) hlt).trans hc4
  have c5 : ((w.alloc (.cells #[.slice (some ad) 6 c] 41)).alloc (.cells #[.int .i64 0, .int .i64 0, .int .i64 0, .int .i64 0, .int .i64 0, .string ⟨#[]⟩] 48)).cell? ⟨ad.block, ad.off + 5, none⟩ = some (.int .i64 r) := (((below_box w _).alloc (by simp) _).cell (p := ⟨ad.block, ad.off + 5, none⟩) hlt).trans hc5
  have hX := Sty.Box.new (w.alloc (.cells #[.slice (some ad) 6 c] 41)) #[.int .i64 0, .int .i64 0, .int .i64 0, .int .i64 0, .int .i64 0, .string ⟨#[]⟩] 48
  rw [World.size_alloc] at hX
  have HX := Lib.hid (show Sty.Box ((w.alloc (.cells #[.slice (some ad) 6 c] 41)).alloc (.cells #[.int .i64 0, .int .i64 0, .int .i64 0, .int .i64 0, .int .i64 0, .string ⟨#[]⟩] 48)) (w.heap.size + 1) (Sty.cP zP) from hX)
  have HB := Lib.hid (show Below w.heap.size w ((w.alloc (.cells #[.slice (some ad) 6 c] 41)).alloc (.cells #[.int .i64 0, .int .i64 0, .int .i64 0, .int .i64 0, .int .i64 0, .string ⟨#[]⟩] 48)) from (below_box w _).alloc (by simp) _)
  clear hu hX hk h4
  have hs : ((w.alloc (.cells #[.slice (some ad) 6 c] 41)).alloc (.cells #[.int .i64 0, .int .i64 0, .int .i64 0, .int .i64 0, .int .i64 0, .string ⟨#[]⟩] 48)).heap.size = w.heap.size + 1 + 1 := by rw [World.size_alloc, World.size_alloc]
  have hl2 : ad.block < ((w.alloc (.cells #[.slice (some ad) 6 c] 41)).alloc (.cells #[.int .i64 0, .int .i64 0, .int .i64 0, .int .i64 0, .int .i64 0, .string ⟨#[]⟩] 48)).heap.size := by rw [hs]; omega
  have hne : ¬ w.heap.size + 1 = ad.block := by omega
  have hpqr : inB p = true ∧ inB q = true ∧ inB r = true → (0 ≤ p ∧ p ≤ 255) ∧ (0 ≤ q ∧ q ≤ 255) ∧ (0 ≤ r ∧ r ≤ 255) := fun h => ⟨in_of h.1, in_of h.2.1, in_of h.2.2⟩
  have HP := Lib.hid hp
  have HPQ := Lib.hid hpqr
  clear hc0 hc1 hc3 hc4 hc5 hpqr hp
  go_enter Tryd.func58, Tryd.ntmps58
  go_upto_region 10 with (go_at_call 54; refine (HW.out _).mono ?_; rintro e w2 ⟨rfl, rfl⟩)
  go_region
  go_upto_region 12 with fail
  have HX := Lib.hid HX.out.drew
  have HB := Lib.hid HB.out.drew
  replace hs : ((w.alloc (.cells #[.slice (some ad) 6 c] 41)).alloc (.cells #[.int .i64 0, .int .i64 0, .int .i64 0, .int .i64 0, .int .i64 0, .string ⟨#[]⟩] 48)).drew.heap.size = w.heap.size + 1 + 1 := hs
  replace hl2 : ad.block < ((w.alloc (.cells #[.slice (some ad) 6 c] 41)).alloc (.cells #[.int .i64 0, .int .i64 0, .int .i64 0, .int .i64 0, .int .i64 0, .string ⟨#[]⟩] 48)).drew.heap.size := hl2
  replace c1 := (World.cell?_drew _ _).trans c1
  replace c3 := (World.cell?_drew _ _).trans c3
  replace c4 := (World.cell?_drew _ _).trans c4
  replace c5 := (World.cell?_drew _ _).trans c5
  generalize ((w.alloc (.cells #[.slice (some ad) 6 c] 41)).alloc (.cells #[.int .i64 0, .int .i64 0, .int .i64 0, .int .i64 0, .int .i64 0, .string ⟨#[]⟩] 48)).drew = w5 at c1 c3 c4 c5 HX HB hs hl2 ⊢
  have HI := Lib.hid (show Calls Tryd.prog 55 #[.slice (some ⟨w5.heap.size, 0, none⟩) 3 3] (w5.alloc (.cells #[.int .i64 p, .int .i64 q, .int .i64 r] 3)).drew fun e w' => e = .returned (.bool false) ∧ (w5.alloc (.cells #[.int .i64 p, .int .i64 q, .int .i64 r] 3)).drew = w' from by
    have h := rwithin_any (some ⟨w5.heap.size, 0, none⟩) 3 3 [p, q, r] (w5.alloc (.cells #[.int .i64 p, .int .i64 q, .int .i64 r] 3)).drew rfl (Par.Rd.lit w5.drew [.int .i64 p, .int .i64 q, .int .i64 r] 3) (by decide)
    rw [show [p, q, r].all inB = false by have := HP.out; simp only [List.all_cons, List.all_nil, Bool.and_true, ← Bool.and_assoc, this]] at h
    exact h)
  have G3 : w5.drew.cell? ⟨ad.block, ad.off + 1, none⟩ = some (.int .i64 2) ∧ w5.drew.cell? ⟨ad.block, ad.off + 3, none⟩ = some (.int .i64 p) ∧ w5.drew.cell? ⟨ad.block, ad.off + 4, none⟩ = some (.int .i64 q) ∧ w5.drew.cell? ⟨ad.block, ad.off + 5, none⟩ = some (.int .i64 r) := ⟨(World.cell?_drew _ _).trans c1, (World.cell?_drew _ _).trans c3, (World.cell?_drew _ _).trans c4, (World.cell?_drew _ _).trans c5⟩
  have hb5 : Below w5.drew.heap.size w5.drew (w5.alloc (.cells #[.int .i64 p, .int .i64 q, .int .i64 r] 3)).drew := below_box w5.drew (.cells #[.int .i64 p, .int .i64 q, .int .i64 r] 3)
  have GS : (w5.alloc (.cells #[.int .i64 p, .int .i64 q, .int .i64 r] 3)).drew.cell? ⟨ad.block, ad.off + 1, none⟩ = some (.int .i64 2) ∧ (w5.alloc (.cells #[.int .i64 p, .int .i64 q, .int .i64 r] 3)).drew.cell? ⟨ad.block, ad.off + 3, none⟩ = some (.int .i64 p) ∧ (w5.alloc (.cells #[.int .i64 p, .int .i64 q, .int .i64 r] 3)).drew.cell? ⟨ad.block, ad.off + 4, none⟩ = some (.int .i64 q) ∧ (w5.alloc (.cells #[.int .i64 p, .int .i64 q, .int .i64 r] 3)).drew.cell? ⟨ad.block, ad.off + 5, none⟩ = some (.int .i64 r) := ⟨(hb5.cell (p := ⟨ad.block, ad.off + 1, none⟩) hl2).trans G3.1, (hb5.cell (p := ⟨ad.block, ad.off + 3, none⟩) hl2).trans G3.2.1, (hb5.cell (p := ⟨ad.block, ad.off + 4, none⟩) hl2).trans G3.2.2.1, (hb5.cell (p := ⟨ad.block, ad.off + 5, none⟩) hl2).trans G3.2.2.2⟩
  have HX6 := Lib.hid (HX.out.drew.keep hb5)
  have HB6 := Lib.hid (Par.up HB.out.drew hb5)
  clear hb5 hs c1 c3 c4 c5
  go_region_held3 (fun W => W.cell? ⟨ad.block, ad.off + 1, none⟩ = some (.int .i64 2) ∧ W.cell? ⟨ad.block, ad.off + 3, none⟩ = some (.int .i64 p) ∧ W.cell? ⟨ad.block, ad.off + 4, none⟩ = some (.int .i64 q) ∧ W.cell? ⟨ad.block, ad.off + 5, none⟩ = some (.int .i64 r)) (first | (with_reducible exact G3) | (with_reducible exact GS)) ((go_at_call 55; refine HI.out.mono ?_; rintro e w3 ⟨rfl, rfl⟩))
  clear GS G3 HI HP HPQ hne hl2 c0
  generalize (w5.alloc (.cells #[.int .i64 p, .int .i64 q, .int .i64 r] 3)).drew = w6 at HX6 HB6 ⊢
  have x0 := HX6.out.cell 0 _ rfl
  have f0 := HX6.out.free 0 (by show 0 < 6; decide)
  have x1 := HX6.out.cell 1 _ rfl
  have f1 := HX6.out.free 1 (by show 1 < 6; decide)
  have x2 := HX6.out.cell 2 _ rfl
  have f2 := HX6.out.free 2 (by show 2 < 6; decide)
  have x3 := HX6.out.cell 3 _ rfl
  have f3 := HX6.out.free 3 (by show 3 < 6; decide)
  have x4 := HX6.out.cell 4 _ rfl
  have f4 := HX6.out.free 4 (by show 4 < 6; decide)
  have x5 := HX6.out.cell 5 _ rfl
  have f5 := HX6.out.free 5 (by show 5 < 6; decide)
  go_wp2_with fail
  have HX2 := Lib.hid HX6.out
  have HB2 := Lib.hid HB6.out
  refine bodyPost_ret (ret_cell2 rfl _ _ ⟨w.heap.size + 1, 0, none⟩ _ rfl (put_c6 0 0 0 0 0 ⟨#[]⟩ HX2.out)) rfl ?_
  exact ⟨rfl, below_c6 _ 0 0 0 0 0 ⟨#[]⟩ HB2.out (Nat.le_succ _)⟩
end Go.Proofs.YteepfecplabinaaDoor.Sgr

namespace Go.Proofs.YteepfecplabinaaDoor.Sgr
open Go.RowKit Utf

theorem whV_max (v : Int) : whV (max 0 v) = whV v := by
  by_cases h : 0 ≤ v
  · rw [show max 0 v = v by omega]
  · rw [show max 0 v = 0 by omega]
    unfold whV
    rw [if_neg (by decide), if_neg (by decide), if_neg (by decide), if_neg (by omega), if_neg (by omega), if_neg (by omega)]
theorem whV_no {v : Int} (h : ¬ 0 ≤ whV v) : whV v = -1 := by
  unfold whV at h ⊢
  split
  · rename_i e; rw [if_pos e] at h; exact absurd (by decide) h
  · rename_i e; rw [if_neg e] at h
    split
    · rename_i e2; rw [if_pos e2] at h; exact absurd (by decide) h
    · rename_i e2; rw [if_neg e2] at h
      split
      · rename_i e3; rw [if_pos e3] at h; exact absurd (by decide) h
      · rfl
theorem whV_four : ¬ 0 ≤ whV 4 := by decide
theorem cells_of {w : World} {v : Value} {p : List Int} (h : Par.RI w v p) (n : Nat) (hn : p.length = n) (h1 : 1 ≤ n) : ∃ ad c, v = .slice (some ad) n c ∧ ad.block < w.heap.size ∧ ∀ j x, p[j]? = some x → w.cell? (ad.add j) = some (.int .i64 x) := by
  obtain ⟨A, c, he, -, -, -, hr⟩ := h
  obtain ⟨x, hx⟩ : ∃ x, p[0]? = some x := ⟨_, List.getElem?_eq_getElem (by omega)⟩
  obtain ⟨ad, rfl, hlt, hc⟩ := Par.RI.at hr hx
  refine ⟨ad, c, by rw [he, hn], hlt, fun j y hy => ?_⟩
  obtain ⟨ad', he', -, hc'⟩ := Par.RI.at hr hy
  cases he'
  exact hc'
/-- the pen that a single parameter denotes -/
theorem ralone_any (v : Value) (p : List Int) (w : World) (h : Par.RI w v p) (h1 : 1 ≤ p.length) (h6 : p.length ≤ 6) (hz : ∀ z ∈ p, -1 ≤ z ∧ z ≤ 9999) : Calls Tryd.prog 58 #[.agg #[v]] w (OptPost w (aloV p)) := by
  obtain ⟨ad, c, rfl, hlt, hc⟩ := cells_of h p.length rfl h1
  have hj : ∀ j x, p[j + 1]? = some x → w.cell? ⟨ad.block, ad.off + (j + 1), none⟩ = some (.int .i64 x) := fun j x hx => by
    have := hc (j + 1) x hx; rw [add_pos ad (j + 1) (by omega)] at this; exact this
  have h0 : ∀ x, p[0]? = some x → w.cell? ad = some (.int .i64 x) := fun x hx => by
    have := hc 0 x hx; rw [add_nil] at this; exact this
  clear hc h
  match p, h1, h6 with
  | [x], _, _ => exact ralone_1 ad c x w hlt (h0 x rfl) (hz x (by simp))
  | [x, a], _, _ =>
    have c0 := h0 x rfl
    have c1 := hj 0 a rfl
    show Calls _ _ _ w (OptPost w (if x = 4 ∧ 0 ≤ a ∧ a ≤ 5 then some (pq 3 a) else none))
    by_cases h4 : x = 4
    · subst h4
      by_cases ha : 0 ≤ a
      · by_cases hb : a ≤ 5
        · rw [if_pos ⟨rfl, ha, hb⟩]; exact ralone_4y ad c a w hlt c0 c1 ha hb
        · rw [if_neg (by rintro ⟨-, -, h⟩; exact hb h)]; exact ralone_4p ad c a w hlt c0 c1 (by omega)
      · rw [if_neg (by rintro ⟨-, h, -⟩; exact ha h)]; exact ralone_4m ad c a w hlt c0 c1 (by omega)
    · rw [if_neg (by rintro ⟨h, -, -⟩; exact h4 h)]
      by_cases hk : 0 ≤ whV (max 0 x)
      · exact ralone_xn ad 2 c x _ w hlt c0 h4 rfl hk (by decide) (by decide) (by decide) (by decide)
      · exact ralone_no ad 2 c x w hlt c0 (by decide) h4 (whV_no hk)
  | [x, a, y], _, _ =>
    have c0 := h0 x rfl
    have c1 := hj 0 a rfl
    have c2 := hj 1 y rfl
    show Calls _ _ _ w (OptPost w (if 0 ≤ whV x ∧ a = 5 ∧ inB y then some (cq (whV x) 1 y) else none))
    by_cases h4 : x = 4
    · subst h4
      rw [if_neg (by rintro ⟨h, -⟩; exact whV_four h)]
      exact ralone_4n ad 3 c w hlt c0 (by decide)
    by_cases hk : 0 ≤ whV x
    · have hm := whV_max x
      by_cases ha : a = 5
      · subst ha
        cases hb : inB y with
        | true => rw [if_pos ⟨hk, rfl, rfl⟩]; exact ralone_3y ad c x y _ w hlt c0 c1 c2 h4 hm hk hb
        | false => rw [if_neg (by rintro ⟨-, -, h⟩; cases h)]; exact ralone_3w ad c x y _ w hlt c0 c1 c2 h4 hm hk hb
      · rw [if_neg (by rintro ⟨-, h, -⟩; exact ha h)]
        exact ralone_x3 ad c x a _ w hlt c0 c1 h4 hm hk ha
    · rw [if_neg (by rintro ⟨h, -⟩; exact hk h)]
      exact ralone_no ad 3 c x w hlt c0 (by decide) h4 (whV_no (by rw [whV_max]; exact hk))
  | [x, a, y, z], _, _ =>
    have c0 := h0 x rfl
    show Calls _ _ _ w (OptPost w none)
    by_cases h4 : x = 4
    · subst h4
      exact ralone_4n ad 4 c w hlt c0 (by decide)
    by_cases hk : 0 ≤ whV (max 0 x)
    · exact ralone_xn ad 4 c x _ w hlt c0 h4 rfl hk (by decide) (by decide) (by decide) (by decide)
    · exact ralone_no ad 4 c x w hlt c0 (by decide) h4 (whV_no hk)
  | [x, a, r, g, b], _, _ =>
    have c0 := h0 x rfl
    have c1 := hj 0 a rfl
    have c2 := hj 1 r rfl
    have c3 := hj 2 g rfl
    have c4 := hj 3 b rfl
    show Calls _ _ _ w (OptPost w (if 0 ≤ whV x ∧ a = 2 ∧ inB r ∧ inB g ∧ inB b then some (rgbQ (whV x) r g b) else none))
    by_cases h4 : x = 4
    · subst h4
      rw [if_neg (by rintro ⟨h, -⟩; exact whV_four h)]
      exact ralone_4n ad 5 c w hlt c0 (by decide)
    by_cases hk : 0 ≤ whV x
    · have hm := whV_max x
      by_cases ha : a = 2
      · subst ha
        cases hb : (inB r && inB g && inB b) with
        | true =>
          rw [if_pos (by simp only [Bool.and_eq_true] at hb; exact ⟨hk, rfl, hb.1.1, hb.1.2, hb.2⟩)]
          exact ralone_5y ad c x r g b _ w hlt c0 c1 c2 c3 c4 h4 hm hk hb
        | false =>
          rw [if_neg (by rintro ⟨-, -, h1, h2, h3⟩; rw [h1, h2, h3] at hb; cases hb)]
          exact ralone_5w ad c x r g b _ w hlt c0 c1 c2 c3 c4 h4 hm hk hb
      · rw [if_neg (by rintro ⟨-, h, -⟩; exact ha h)]
        exact ralone_x5 ad c x a _ w hlt c0 c1 h4 hm hk ha
    · rw [if_neg (by rintro ⟨h, -⟩; exact hk h)]
      exact ralone_no ad 5 c x w hlt c0 (by decide) h4 (whV_no (by rw [whV_max]; exact hk))
  | [x, a, t, r, g, b], _, _ =>
    have c0 := h0 x rfl
    have c1 := hj 0 a rfl
    have c2 := hj 2 r rfl
    have c3 := hj 3 g rfl
    have c4 := hj 4 b rfl
    show Calls _ _ _ w (OptPost w (if 0 ≤ whV x ∧ a = 2 ∧ inB r ∧ inB g ∧ inB b then some (rgbQ (whV x) r g b) else none))
    by_cases h4 : x = 4
    · subst h4
      rw [if_neg (by rintro ⟨h, -⟩; exact whV_four h)]
      exact ralone_4n ad 6 c w hlt c0 (by decide)
    by_cases hk : 0 ≤ whV x
    · have hm := whV_max x
      by_cases ha : a = 2
      · subst ha
        cases hb : (inB r && inB g && inB b) with
        | true =>
          rw [if_pos (by simp only [Bool.and_eq_true] at hb; exact ⟨hk, rfl, hb.1.1, hb.1.2, hb.2⟩)]
          exact ralone_6y ad c x r g b _ w hlt c0 c1 c2 c3 c4 h4 hm hk hb
        | false =>
          rw [if_neg (by rintro ⟨-, -, h1, h2, h3⟩; rw [h1, h2, h3] at hb; cases hb)]
          exact ralone_6w ad c x r g b _ w hlt c0 c1 c2 c3 c4 h4 hm hk hb
      · rw [if_neg (by rintro ⟨-, h, -⟩; exact ha h)]
        exact ralone_x6 ad c x a _ w hlt c0 c1 h4 hm hk ha
    · rw [if_neg (by rintro ⟨h, -⟩; exact hk h)]
      exact ralone_no ad 6 c x w hlt c0 (by decide) h4 (whV_no (by rw [whV_max]; exact hk))
  | _ :: _ :: _ :: _ :: _ :: _ :: _ :: _, _, h6 => exact absurd h6 (by simp)
end Go.Proofs.YteepfecplabinaaDoor.Sgr

namespace Go.Proofs.YteepfecplabinaaDoor.Sgr
open Go.RowKit Utf

theorem vals_le : ∀ l : List (List Int), (valsV l).length ≤ l.length
  | [] => Nat.le_refl _
  | [] :: l => Nat.zero_le _
  | [v] :: l => by show (max 0 v :: valsV l).length ≤ _; have := vals_le l; simp only [List.length_cons]; omega
  | (_ :: _ :: _) :: l => Nat.zero_le _
theorem vals_at : ∀ (l : List (List Int)) (k : Nat) (z : Int), (valsV l)[k]? = some z → ∃ x, l[k]? = some [x] ∧ z = max 0 x
  | [], k, z, h => by simp [valsV] at h
  | [] :: l, k, z, h => by simp [valsV] at h
  | [v] :: l, 0, z, h => by
    have h2 : (max 0 v :: valsV l)[0]? = some z := h
    rw [List.getElem?_cons_zero] at h2
    injection h2 with h2
    exact ⟨v, rfl, h2.symm⟩
  | [v] :: l, k + 1, z, h => by
    have h2 : (max 0 v :: valsV l)[k + 1]? = some z := h
    rw [List.getElem?_cons_succ] at h2
    obtain ⟨x, h3, h4⟩ := vals_at l k z h2
    exact ⟨x, by rw [List.getElem?_cons_succ]; exact h3, h4⟩
  | (_ :: _ :: _) :: l, k, z, h => by simp [valsV] at h
theorem vals_end : ∀ (l : List (List Int)), (valsV l).length < l.length → ∃ p, l[(valsV l).length]? = some p ∧ p.length ≠ 1
  | [], h => absurd h (Nat.lt_irrefl _)
  | [] :: l, _ => ⟨[], rfl, by decide⟩
  | [v] :: l, h => by
    have h2 : (max 0 v :: valsV l).length < ([v] :: l).length := h
    simp only [List.length_cons] at h2
    obtain ⟨p, h3, h4⟩ := vals_end l (by omega)
    exact ⟨p, by show ([v] :: l)[(valsV l).length + 1]? = some p; rw [List.getElem?_cons_succ]; exact h3, h4⟩
  | (a :: b :: t) :: l, _ => ⟨a :: b :: t, rfl, by simp⟩
theorem vals_pos (l : List (List Int)) (hp : ∀ p ∈ l, ∀ z ∈ p, z ≤ 9999) : ∀ z ∈ valsV l, 0 ≤ z ∧ z ≤ 9999 := fun z hz => by
  obtain ⟨k, hk⟩ := List.getElem?_of_mem hz
  obtain ⟨x, h1, h2⟩ := vals_at l k z hk
  have := hp [x] (List.mem_of_getElem? h1) x (by simp)
  omega
/-- what front hands back -/
def FrPost (w : World) (r : Option Q4 × Nat) (e : Ending) (w' : World) : Prop := e = .returned (.tuple #[oV r.1, .bool r.1.isSome, .int .i64 r.2]) ∧ Below w.heap.size w w'
/-- parameters as front takes them -/
structure FrL (w : World) (v : Value) (l : List (List Int)) : Prop where
  rl : Par.RL w v l
  one : 1 ≤ l.length
  le : l.length ≤ 16
  six : ∀ p ∈ l, 1 ≤ p.length ∧ p.length ≤ 6
  lo : ∀ p ∈ l, ∀ z ∈ p, -1 ≤ z ∧ z ≤ 9999
theorem own_cell {w : World} {B n c k : Nat} {A : Option Addr} {zs : List Int} (h : w.ownsRow B 3 1 (.slice A n c) n (cI zs)) {z : Int} (hz : zs[k]? = some z) : ∃ ad, A = some ad ∧ ad.block < w.heap.size ∧ w.cell? (ad.add k) = some (.int .i64 z) := by
  obtain ⟨A', c', he, -, hr⟩ := own_slice h
  cases he
  exact Par.RI.at hr hz
theorem own_lo {W : World} {B n : Nat} {e : TypeId} {size : Nat} {v : Value} {xs : List Value} (h : W.ownsRow B e size v n xs) : ∀ q, v.ownBlock = some q → B ≤ q := fun q hq => by
  rcases h.2 with ⟨rfl, _⟩ | ⟨g, cap, cur, rfl, hg, _⟩
  · cases hq
  · cases hq; exact hg
theorem ret_cell3 {P : Program} {fn : Func} {p q u : Tmp} {ty : TypeId} (h : fn.results = #[.cell p ty, .tmp q, .tmp u]) (tmps : Array Value) (w : World) (a : Addr) (v : Value) (ha : tmps.getD p undef = .pointer (some a)) (hl : (loadVar ty a).run P w = .ok v w) :
    (results fn tmps).run P w = .ok (.tuple #[v, tmps.getD q undef, tmps.getD u undef]) w := by
  have ha' : tmps[p]?.getD undef = .pointer (some a) := by simpa using ha
  simp only [results, h]
  simp [ha', asAddr, hl]
set_option maxRecDepth 100000 in
set_option maxHeartbeats 8000000 in
/-- less than two numbers -/
theorem rfront_h1 (v : Value) (l : List (List Int)) (w : World) (h : FrL w v l)  (hv : (valsV l).length < 2) : Calls Tryd.prog 33 #[v] w (FrPost w (frV l)) := by
  have hbs : ∀ z ∈ valsV l, 0 ≤ z ∧ z ≤ 9999 := vals_pos l (fun p hp z hz => (h.lo p hp z hz).2)
  obtain ⟨A, c, rfl⟩ := h.rl.form
  obtain ⟨n, hn⟩ : ∃ n, n = l.length := ⟨_, rfl⟩
  have hn1 : 1 ≤ n := by rw [hn]; exact h.one
  have hn16 : n ≤ 16 := by rw [hn]; exact h.le
  obtain ⟨m, hm⟩ : ∃ m, m = (valsV l).length := ⟨_, rfl⟩
  have hmn : m ≤ n := by rw [hm, hn]; exact vals_le l
  rw [← hn]
  have HR := Lib.hid (show Par.RL w (.slice A n c) l by rw [hn]; exact h.rl)
  have HN := Lib.hid hn
  have HM := Lib.hid hm
  have HL := Lib.hid h
  have HV := Lib.hid hbs
  clear hn hm h hbs
  obtain ⟨t0, hi0, hz0, hz1, hz2⟩ := info_parts Par.infoI
  have S0 := Lib.hid (And.intro hi0 (And.intro hz0 (And.intro hz1 hz2)))
  clear hi0 hz0 hz1 hz2
  have HX0 := Lib.hid (show Sty.Box (w.alloc (.cells #[.int .i64 0, .int .i64 0, .int .i64 0, .int .i64 0, .int .i64 0, .string ⟨#[]⟩] 48)) w.heap.size (Sty.cP zP) from Sty.Box.new w _ _)
  have HB0 := Lib.hid (below_box w (.cells #[.int .i64 0, .int .i64 0, .int .i64 0, .int .i64 0, .int .i64 0, .string ⟨#[]⟩] 48))
  go_enter Tryd.func33, Tryd.ntmps33
  go_upto_region 1 with fail
  generalize w.alloc (.cells #[.int .i64 0, .int .i64 0, .int .i64 0, .int .i64 0, .int .i64 0, .string ⟨#[]⟩] 48) = w0 at HX0 HB0 ⊢
  have hsz0 : w.heap.size < w0.heap.size := HX0.out.1
  go_wp2_with fail
  go_loopw [5, 6] (fun vv iv wr => ∃ k : Nat, k ≤ m ∧ iv = .int .i64 k ∧ Hid (wr.ownsRow w0.heap.size 3 1 vv k (cI ((valsV l).take k)) ∧ Below w0.heap.size w0 wr)) (fun _ iv _ => m - (intOf iv).toNat)
  case atStart => exact ⟨0, Nat.zero_le _, rfl, World.ownsRow_nil _ _ _ _, Below.refl _ _⟩
  case round =>
    obtain ⟨k, hk, rfl, hid⟩ := hrel
    obtain ⟨AV, cv, hsh, _, _⟩ := own_slice hid.out.1
    subst hsh
    have hszr := hid.out.2.size
    by_cases hkm : k < m
    · obtain ⟨z, hz⟩ : ∃ z, (valsV l)[k]? = some z := ⟨_, List.getElem?_eq_getElem (by have := HM.out; omega)⟩
      obtain ⟨x, hx, hzx⟩ := vals_at l k z hz
      obtain ⟨ad, u, rfl, hlt, hc, hri⟩ := item_i HR.out hx
      obtain ⟨au, cu, hu, hult, huc⟩ := cells_of hri 1 rfl (Nat.le_refl _)
      subst hu
      have hb := Par.up HB0.out hid.out.2
      have d0 := (hb.cell (p := ad.add k) (by rw [Par.add_block]; exact hlt)).trans hc
      have huc0 := huc 0 x rfl
      rw [add_nil] at huc0
      have d1 := (hb.cell (p := au) hult).trans huc0
      have i1 : (k : Int) < (n : Int) := by omega
      have i2 : (0 : Int) ≤ (k : Int) := by omega
      have HZ := Lib.hid hz
      have hmx : max 0 x = z := hzx.symm
      have HO := Lib.hid hid.out.1
      have HB := Lib.hid hid.out.2
      obtain ⟨hi0, hz0, hz1, hz2⟩ := S0.out
      clear hz hzx hc hri huc huc0 hult hlt hid hb
      go_wp2_with (at_builtin; refine wpList_app _ rfl _ _ 39 rfl w0.heap.size 3 t0 _ 8 Tryd.underlying39 hi0 hz0 hz1 hz2 rfl _ k (cI ((valsV l).take k)) rfl (own_below HO.out (below_box _ _)) (some ⟨wr.heap.size, 0, none⟩) 1 1 [.int .i64 z] rfl rfl (Rd.one _ _ _) (by intro u hu; simp at hu; subst hu; rfl) (by omega) (by decide) (by rw [World.size_alloc]; omega) ?_; intro v' w' hown hgrow hat; refine Hid.out ?_)
      refine Lib.hid ?_
      obtain ⟨A2, c2, hsh2, _, _⟩ := own_slice hown
      subst hsh2
      have G := Lib.hid (show w'.ownsRow w0.heap.size 3 1 (.slice A2 (k + 1) c2) (k + 1) (cI ((valsV l).take (k + 1))) ∧ Below w0.heap.size w0 w' from
        ⟨by rw [List.take_add_one, HZ.out]; show World.ownsRow _ _ _ _ _ _ (cI ((valsV l).take k ++ [z])); rw [cI_append]; exact hown, (HB.out.alloc hszr _).grown hgrow (by rw [World.size_alloc]; omega) (fun q hq => own_lo HO.out q hq)⟩)
      clear hown hgrow hat hi0 hz0 hz1 hz2
      go_wp2
      go_roundw
      case rel => exact ⟨k + 1, by omega, by go_num, G.out⟩
      case measure => simp [intOf]; omega
    · obtain rfl : k = m := by omega
      have HO := Lib.hid (show wr.ownsRow w0.heap.size 3 1 (.slice AV k cv) k (cI (valsV l)) by have := hid.out.1; rw [HM.out, List.take_length] at this; rw [HM.out]; exact this)
      have HBr := Lib.hid (Par.up HB0.out hid.out.2)
      have HX := Lib.hid (HX0.out.keep hid.out.2)
      clear hid
      obtain ⟨pp, hpp⟩ : ∃ pp, l[0]? = some pp := ⟨_, List.getElem?_eq_getElem (by have := HN.out; omega)⟩
      obtain ⟨ai, ui, hAi, hlti, hci, hrii⟩ := item_i HR.out hpp
      subst hAi
      rw [add_nil] at hci
      obtain ⟨au0, cu0, hu0, -, -⟩ := cells_of hrii pp.length rfl (HL.out.six pp (List.mem_of_getElem? hpp)).1
      subst hu0
      have e0 := (HBr.out.cell (p := ai) hlti).trans hci
      have j0 : (0 : Int) < (n : Int) := by omega
      have j1 : 0 < n := by omega
      have HF := Lib.hid (show frV l = (aloV pp, 1) from by
        have e1 : l.headD [] = pp := by
          cases l with
          | nil => cases hpp
          | cons a t => rw [List.getElem?_cons_zero] at hpp; injection hpp
        rw [← e1]
        unfold frV
        rcases hq : valsV l with _ | ⟨a, _ | ⟨b, t⟩⟩
        · rfl
        · rfl
        · rw [hq] at hv; simp only [List.length_cons] at hv; omega)
      obtain ⟨zk, zn, zm, z0, z1, zt, hov⟩ := oV_form (aloV pp)
      obtain ⟨zb, hzb⟩ : ∃ zb, zb = (aloV pp).isSome := ⟨_, rfl⟩
      have HA := Lib.hid (fun W (hb : Below w.heap.size w W) => show Calls Tryd.prog 58 #[.agg #[.slice (some au0) pp.length cu0]] W fun e w' => e = .returned (.tuple #[.agg #[.int .i64 zk, .int .i64 zn, .int .i64 zm, .int .i64 z0, .int .i64 z1, .string zt], .bool zb]) ∧ Below W.heap.size W w' from by
        have h := ralone_any (.slice (some au0) pp.length cu0) pp W (hrii.keep hb) (HL.out.six pp (List.mem_of_getElem? hpp)).1 (HL.out.six pp (List.mem_of_getElem? hpp)).2 (HL.out.lo pp (List.mem_of_getElem? hpp))
        unfold OptPost at h
        rw [hov, ← hzb] at h
        exact h)
      have HE := Lib.hid (And.intro hov hzb)
      generalize pp.length = pn0 at HA e0
      clear hpp hrii hci hlti hov hzb
      have g2 : ¬ (2 : Int) ≤ (k : Int) := by have := HM.out; omega
      rcases Nat.lt_or_ge k n with hkn | hkn
      · obtain ⟨p, hp, hp1⟩ := vals_end l (by rw [← HM.out, ← HN.out]; exact hkn)
        rw [← HM.out] at hp
        obtain ⟨ad, u, hA, hlt, hc, hri⟩ := item_i HR.out hp
        obtain ⟨au, cu, hu, -, -⟩ := cells_of hri p.length rfl (HL.out.six p (List.mem_of_getElem? hp)).1
        subst hu
        have hae : ad = ai := by injection hA with h; exact h.symm
        rw [hae] at hlt hc
        have d0 := (HBr.out.cell (p := ai.add k) (by rw [Par.add_block]; exact hlt)).trans hc
        clear hae hA
        have i1 : (k : Int) < (n : Int) := by omega
        have i2 : (0 : Int) ≤ (k : Int) := by omega
        have i3 : ((p.length : Int) == 1) = false := by simp; omega
        generalize p.length = pn at d0 i3
        clear hp hp1 hc hri hlt
        go_upto_region 17 with (go_at_call 58; refine (HA.out _ (HBr.out)).mono ?_; rintro e w3 ⟨rfl, hb3⟩; have HX3 := Lib.hid (HX.out.keep hb3); have HB3 := Lib.hid (Par.up (HBr.out) hb3))
        have HX4 := Lib.hid (HX3.out.alloc (.cells #[.int .i64 zk, .int .i64 zn, .int .i64 zm, .int .i64 z0, .int .i64 z1, .string zt] 48))
        have HB4 := Lib.hid (Par.up HB3.out (below_box w3 (.cells #[.int .i64 zk, .int .i64 zn, .int .i64 zm, .int .i64 z0, .int .i64 z1, .string zt] 48)))
        have HY := Lib.hid (Sty.Box.new w3 #[.int .i64 zk, .int .i64 zn, .int .i64 zm, .int .i64 z0, .int .i64 z1, .string zt] 48)
        generalize w3.alloc (.cells #[.int .i64 zk, .int .i64 zn, .int .i64 zm, .int .i64 z0, .int .i64 z1, .string zt] 48) = w4 at HX4 HB4 HY ⊢
        have x0 := HX4.out.cell 0 _ rfl
        have f0 := HX4.out.free 0 (by show 0 < 6; decide)
        have y0 := HY.out.cell 0 _ rfl
        have x1 := HX4.out.cell 1 _ rfl
        have f1 := HX4.out.free 1 (by show 1 < 6; decide)
        have y1 := HY.out.cell 1 _ rfl
        have x2 := HX4.out.cell 2 _ rfl
        have f2 := HX4.out.free 2 (by show 2 < 6; decide)
        have y2 := HY.out.cell 2 _ rfl
        have x3 := HX4.out.cell 3 _ rfl
        have f3 := HX4.out.free 3 (by show 3 < 6; decide)
        have y3 := HY.out.cell 3 _ rfl
        have x4 := HX4.out.cell 4 _ rfl
        have f4 := HX4.out.free 4 (by show 4 < 6; decide)
        have y4 := HY.out.cell 4 _ rfl
        have x5 := HX4.out.cell 5 _ rfl
        have f5 := HX4.out.free 5 (by show 5 < 6; decide)
        have y5 := HY.out.cell 5 _ rfl
        go_wp2_with fail
        refine bodyPost_ret (ret_cell3 rfl _ _ ⟨w.heap.size, 0, none⟩ _ rfl (put_c6 _ _ _ _ _ _ HX4.out)) rfl ?_
        rw [HF.out]
        unfold FrPost
        rw [HE.out.1, ← HE.out.2]
        exact ⟨rfl, below_c6 _ _ _ _ _ _ _ HB4.out (Nat.le_refl _)⟩
      · have i1 : ¬ (k : Int) < (n : Int) := by omega
        go_upto_region 17 with (go_at_call 58; refine (HA.out _ (HBr.out)).mono ?_; rintro e w3 ⟨rfl, hb3⟩; have HX3 := Lib.hid (HX.out.keep hb3); have HB3 := Lib.hid (Par.up (HBr.out) hb3))
        have HX4 := Lib.hid (HX3.out.alloc (.cells #[.int .i64 zk, .int .i64 zn, .int .i64 zm, .int .i64 z0, .int .i64 z1, .string zt] 48))
        have HB4 := Lib.hid (Par.up HB3.out (below_box w3 (.cells #[.int .i64 zk, .int .i64 zn, .int .i64 zm, .int .i64 z0, .int .i64 z1, .string zt] 48)))
        have HY := Lib.hid (Sty.Box.new w3 #[.int .i64 zk, .int .i64 zn, .int .i64 zm, .int .i64 z0, .int .i64 z1, .string zt] 48)
        generalize w3.alloc (.cells #[.int .i64 zk, .int .i64 zn, .int .i64 zm, .int .i64 z0, .int .i64 z1, .string zt] 48) = w4 at HX4 HB4 HY ⊢
        have x0 := HX4.out.cell 0 _ rfl
        have f0 := HX4.out.free 0 (by show 0 < 6; decide)
        have y0 := HY.out.cell 0 _ rfl
        have x1 := HX4.out.cell 1 _ rfl
        have f1 := HX4.out.free 1 (by show 1 < 6; decide)
        have y1 := HY.out.cell 1 _ rfl
        have x2 := HX4.out.cell 2 _ rfl
        have f2 := HX4.out.free 2 (by show 2 < 6; decide)
        have y2 := HY.out.cell 2 _ rfl
        have x3 := HX4.out.cell 3 _ rfl
        have f3 := HX4.out.free 3 (by show 3 < 6; decide)
        have y3 := HY.out.cell 3 _ rfl
        have x4 := HX4.out.cell 4 _ rfl
        have f4 := HX4.out.free 4 (by show 4 < 6; decide)
        have y4 := HY.out.cell 4 _ rfl
        have x5 := HX4.out.cell 5 _ rfl
        have f5 := HX4.out.free 5 (by show 5 < 6; decide)
        have y5 := HY.out.cell 5 _ rfl
        go_wp2_with fail
        refine bodyPost_ret (ret_cell3 rfl _ _ ⟨w.heap.size, 0, none⟩ _ rfl (put_c6 _ _ _ _ _ _ HX4.out)) rfl ?_
        rw [HF.out]
        unfold FrPost
        rw [HE.out.1, ← HE.out.2]
        exact ⟨rfl, below_c6 _ _ _ _ _ _ _ HB4.out (Nat.le_refl _)⟩
set_option maxRecDepth 100000 in
set_option maxHeartbeats 8000000 in
/-- the first is no color -/
theorem rfront_h2 (v : Value) (l : List (List Int)) (w : World) (h : FrL w v l) (v0 v1 : Int) (vt : List Int)  (hv : valsV l = v0 :: v1 :: vt) (hw : whV v0 = -1) : Calls Tryd.prog 33 #[v] w (FrPost w (frV l)) := by
  have hbs : ∀ z ∈ valsV l, 0 ≤ z ∧ z ≤ 9999 := vals_pos l (fun p hp z hz => (h.lo p hp z hz).2)
  obtain ⟨A, c, rfl⟩ := h.rl.form
  obtain ⟨n, hn⟩ : ∃ n, n = l.length := ⟨_, rfl⟩
  have hn1 : 1 ≤ n := by rw [hn]; exact h.one
  have hn16 : n ≤ 16 := by rw [hn]; exact h.le
  obtain ⟨m, hm⟩ : ∃ m, m = (valsV l).length := ⟨_, rfl⟩
  have hmn : m ≤ n := by rw [hm, hn]; exact vals_le l
  rw [← hn]
  have HR := Lib.hid (show Par.RL w (.slice A n c) l by rw [hn]; exact h.rl)
  have HN := Lib.hid hn
  have HM := Lib.hid hm
  have HL := Lib.hid h
  have HV := Lib.hid hbs
  clear hn hm h hbs
  obtain ⟨t0, hi0, hz0, hz1, hz2⟩ := info_parts Par.infoI
  have S0 := Lib.hid (And.intro hi0 (And.intro hz0 (And.intro hz1 hz2)))
  clear hi0 hz0 hz1 hz2
  have HX0 := Lib.hid (show Sty.Box (w.alloc (.cells #[.int .i64 0, .int .i64 0, .int .i64 0, .int .i64 0, .int .i64 0, .string ⟨#[]⟩] 48)) w.heap.size (Sty.cP zP) from Sty.Box.new w _ _)
  have HB0 := Lib.hid (below_box w (.cells #[.int .i64 0, .int .i64 0, .int .i64 0, .int .i64 0, .int .i64 0, .string ⟨#[]⟩] 48))
  go_enter Tryd.func33, Tryd.ntmps33
  go_upto_region 1 with fail
  generalize w.alloc (.cells #[.int .i64 0, .int .i64 0, .int .i64 0, .int .i64 0, .int .i64 0, .string ⟨#[]⟩] 48) = w0 at HX0 HB0 ⊢
  have hsz0 : w.heap.size < w0.heap.size := HX0.out.1
  go_wp2_with fail
  go_loopw [5, 6] (fun vv iv wr => ∃ k : Nat, k ≤ m ∧ iv = .int .i64 k ∧ Hid (wr.ownsRow w0.heap.size 3 1 vv k (cI ((valsV l).take k)) ∧ Below w0.heap.size w0 wr)) (fun _ iv _ => m - (intOf iv).toNat)
  case atStart => exact ⟨0, Nat.zero_le _, rfl, World.ownsRow_nil _ _ _ _, Below.refl _ _⟩
  case round =>
    obtain ⟨k, hk, rfl, hid⟩ := hrel
    obtain ⟨AV, cv, hsh, _, _⟩ := own_slice hid.out.1
    subst hsh
    have hszr := hid.out.2.size
    by_cases hkm : k < m
    · obtain ⟨z, hz⟩ : ∃ z, (valsV l)[k]? = some z := ⟨_, List.getElem?_eq_getElem (by have := HM.out; omega)⟩
      obtain ⟨x, hx, hzx⟩ := vals_at l k z hz
      obtain ⟨ad, u, rfl, hlt, hc, hri⟩ := item_i HR.out hx
      obtain ⟨au, cu, hu, hult, huc⟩ := cells_of hri 1 rfl (Nat.le_refl _)
      subst hu
      have hb := Par.up HB0.out hid.out.2
      have d0 := (hb.cell (p := ad.add k) (by rw [Par.add_block]; exact hlt)).trans hc
      have huc0 := huc 0 x rfl
      rw [add_nil] at huc0
      have d1 := (hb.cell (p := au) hult).trans huc0
      have i1 : (k : Int) < (n : Int) := by omega
      have i2 : (0 : Int) ≤ (k : Int) := by omega
      have HZ := Lib.hid hz
      have hmx : max 0 x = z := hzx.symm
      have HO := Lib.hid hid.out.1
      have HB := Lib.hid hid.out.2
      obtain ⟨hi0, hz0, hz1, hz2⟩ := S0.out
      clear hz hzx hc hri huc huc0 hult hlt hid hb
      go_wp2_with (at_builtin; refine wpList_app _ rfl _ _ 39 rfl w0.heap.size 3 t0 _ 8 Tryd.underlying39 hi0 hz0 hz1 hz2 rfl _ k (cI ((valsV l).take k)) rfl (own_below HO.out (below_box _ _)) (some ⟨wr.heap.size, 0, none⟩) 1 1 [.int .i64 z] rfl rfl (Rd.one _ _ _) (by intro u hu; simp at hu; subst hu; rfl) (by omega) (by decide) (by rw [World.size_alloc]; omega) ?_; intro v' w' hown hgrow hat; refine Hid.out ?_)
      refine Lib.hid ?_
      obtain ⟨A2, c2, hsh2, _, _⟩ := own_slice hown
      subst hsh2
      have G := Lib.hid (show w'.ownsRow w0.heap.size 3 1 (.slice A2 (k + 1) c2) (k + 1) (cI ((valsV l).take (k + 1))) ∧ Below w0.heap.size w0 w' from
        ⟨by rw [List.take_add_one, HZ.out]; show World.ownsRow _ _ _ _ _ _ (cI ((valsV l).take k ++ [z])); rw [cI_append]; exact hown, (HB.out.alloc hszr _).grown hgrow (by rw [World.size_alloc]; omega) (fun q hq => own_lo HO.out q hq)⟩)
      clear hown hgrow hat hi0 hz0 hz1 hz2
      go_wp2
      go_roundw
      case rel => exact ⟨k + 1, by omega, by go_num, G.out⟩
      case measure => simp [intOf]; omega
    · obtain rfl : k = m := by omega
      have HO := Lib.hid (show wr.ownsRow w0.heap.size 3 1 (.slice AV k cv) k (cI (valsV l)) by have := hid.out.1; rw [HM.out, List.take_length] at this; rw [HM.out]; exact this)
      have HBr := Lib.hid (Par.up HB0.out hid.out.2)
      have HX := Lib.hid (HX0.out.keep hid.out.2)
      clear hid
      have hk2 : 2 ≤ k := by rw [HM.out, hv]; simp
      have g2 : (2 : Int) ≤ (k : Int) := by omega
      obtain ⟨aw, hA0, hlt0, hc0⟩ := own_cell HO.out (k := 0) (z := v0) (by rw [hv]; rfl)
      subst hA0
      rw [add_nil] at hc0
      have q0 : (0 : Int) < (k : Int) := by omega
      have p0 : 0 < k := by omega
      have HW := Lib.hid (fun W => show Calls Tryd.prog 54 #[.int .i64 v0] W fun e w' => e = .returned (.int .i64 (-1)) ∧ W = w' from by have := rwhich_any v0 W; rw [hw] at this; exact this)
      obtain ⟨pp, hpp⟩ : ∃ pp, l[0]? = some pp := ⟨_, List.getElem?_eq_getElem (by have := HN.out; omega)⟩
      obtain ⟨ai, ui, hAi, hlti, hci, hrii⟩ := item_i HR.out hpp
      subst hAi
      rw [add_nil] at hci
      obtain ⟨au0, cu0, hu0, -, -⟩ := cells_of hrii pp.length rfl (HL.out.six pp (List.mem_of_getElem? hpp)).1
      subst hu0
      have e0 := (HBr.out.cell (p := ai) hlti).trans hci
      have j0 : (0 : Int) < (n : Int) := by omega
      have j1 : 0 < n := by omega
      have HF := Lib.hid (show frV l = (aloV pp, 1) from by
        have e1 : l.headD [] = pp := by
          cases l with
          | nil => cases hpp
          | cons a t => rw [List.getElem?_cons_zero] at hpp; injection hpp
        rw [← e1]
        unfold frV
        rw [hv]
        split
        · rename_i h; injection h with h1 h2; subst h1; rw [hw, if_neg (by decide)]
        · rename_i h; injection h with h1 h2; subst h1; rw [hw, if_neg (by decide)]
        · rfl)
      obtain ⟨zk, zn, zm, z0, z1, zt, hov⟩ := oV_form (aloV pp)
      obtain ⟨zb, hzb⟩ : ∃ zb, zb = (aloV pp).isSome := ⟨_, rfl⟩
      have HA := Lib.hid (fun W (hb : Below w.heap.size w W) => show Calls Tryd.prog 58 #[.agg #[.slice (some au0) pp.length cu0]] W fun e w' => e = .returned (.tuple #[.agg #[.int .i64 zk, .int .i64 zn, .int .i64 zm, .int .i64 z0, .int .i64 z1, .string zt], .bool zb]) ∧ Below W.heap.size W w' from by
        have h := ralone_any (.slice (some au0) pp.length cu0) pp W (hrii.keep hb) (HL.out.six pp (List.mem_of_getElem? hpp)).1 (HL.out.six pp (List.mem_of_getElem? hpp)).2 (HL.out.lo pp (List.mem_of_getElem? hpp))
        unfold OptPost at h
        rw [hov, ← hzb] at h
        exact h)
      have HE := Lib.hid (And.intro hov hzb)
      generalize pp.length = pn0 at HA e0
      clear hpp hrii hci hlti hov hzb
      rcases Nat.lt_or_ge k n with hkn | hkn
      · obtain ⟨p, hp, hp1⟩ := vals_end l (by rw [← HM.out, ← HN.out]; exact hkn)
        rw [← HM.out] at hp
        obtain ⟨ad, u, hA, hlt, hc, hri⟩ := item_i HR.out hp
        obtain ⟨au, cu, hu, -, -⟩ := cells_of hri p.length rfl (HL.out.six p (List.mem_of_getElem? hp)).1
        subst hu
        have hae : ad = ai := by injection hA with h; exact h.symm
        rw [hae] at hlt hc
        have d0 := (HBr.out.cell (p := ai.add k) (by rw [Par.add_block]; exact hlt)).trans hc
        clear hae hA
        have i1 : (k : Int) < (n : Int) := by omega
        have i2 : (0 : Int) ≤ (k : Int) := by omega
        have i3 : ((p.length : Int) == 1) = false := by simp; omega
        generalize p.length = pn at d0 i3
        clear hp hp1 hc hri hlt
        go_upto_region 17 with (first | (go_at_call 54; refine (HW.out _).mono ?_; rintro e w2 ⟨rfl, rfl⟩) | (go_at_call 58; refine (HA.out _ (HBr.out)).mono ?_; rintro e w3 ⟨rfl, hb3⟩; have HX3 := Lib.hid (HX.out.keep hb3); have HB3 := Lib.hid (Par.up (HBr.out) hb3)))
        have HX4 := Lib.hid (HX3.out.alloc (.cells #[.int .i64 zk, .int .i64 zn, .int .i64 zm, .int .i64 z0, .int .i64 z1, .string zt] 48))
        have HB4 := Lib.hid (Par.up HB3.out (below_box w3 (.cells #[.int .i64 zk, .int .i64 zn, .int .i64 zm, .int .i64 z0, .int .i64 z1, .string zt] 48)))
        have HY := Lib.hid (Sty.Box.new w3 #[.int .i64 zk, .int .i64 zn, .int .i64 zm, .int .i64 z0, .int .i64 z1, .string zt] 48)
        generalize w3.alloc (.cells #[.int .i64 zk, .int .i64 zn, .int .i64 zm, .int .i64 z0, .int .i64 z1, .string zt] 48) = w4 at HX4 HB4 HY ⊢
        have x0 := HX4.out.cell 0 _ rfl
        have f0 := HX4.out.free 0 (by show 0 < 6; decide)
        have y0 := HY.out.cell 0 _ rfl
        have x1 := HX4.out.cell 1 _ rfl
        have f1 := HX4.out.free 1 (by show 1 < 6; decide)
        have y1 := HY.out.cell 1 _ rfl
        have x2 := HX4.out.cell 2 _ rfl
        have f2 := HX4.out.free 2 (by show 2 < 6; decide)
        have y2 := HY.out.cell 2 _ rfl
        have x3 := HX4.out.cell 3 _ rfl
        have f3 := HX4.out.free 3 (by show 3 < 6; decide)
        have y3 := HY.out.cell 3 _ rfl
        have x4 := HX4.out.cell 4 _ rfl
        have f4 := HX4.out.free 4 (by show 4 < 6; decide)
        have y4 := HY.out.cell 4 _ rfl
        have x5 := HX4.out.cell 5 _ rfl
        have f5 := HX4.out.free 5 (by show 5 < 6; decide)
        have y5 := HY.out.cell 5 _ rfl
        go_wp2_with fail
        refine bodyPost_ret (ret_cell3 rfl _ _ ⟨w.heap.size, 0, none⟩ _ rfl (put_c6 _ _ _ _ _ _ HX4.out)) rfl ?_
        rw [HF.out]
        unfold FrPost
        rw [HE.out.1, ← HE.out.2]
        exact ⟨rfl, below_c6 _ _ _ _ _ _ _ HB4.out (Nat.le_refl _)⟩
      · have i1 : ¬ (k : Int) < (n : Int) := by omega
        go_upto_region 17 with (first | (go_at_call 54; refine (HW.out _).mono ?_; rintro e w2 ⟨rfl, rfl⟩) | (go_at_call 58; refine (HA.out _ (HBr.out)).mono ?_; rintro e w3 ⟨rfl, hb3⟩; have HX3 := Lib.hid (HX.out.keep hb3); have HB3 := Lib.hid (Par.up (HBr.out) hb3)))
        have HX4 := Lib.hid (HX3.out.alloc (.cells #[.int .i64 zk, .int .i64 zn, .int .i64 zm, .int .i64 z0, .int .i64 z1, .string zt] 48))
        have HB4 := Lib.hid (Par.up HB3.out (below_box w3 (.cells #[.int .i64 zk, .int .i64 zn, .int .i64 zm, .int .i64 z0, .int .i64 z1, .string zt] 48)))
        have HY := Lib.hid (Sty.Box.new w3 #[.int .i64 zk, .int .i64 zn, .int .i64 zm, .int .i64 z0, .int .i64 z1, .string zt] 48)
        generalize w3.alloc (.cells #[.int .i64 zk, .int .i64 zn, .int .i64 zm, .int .i64 z0, .int .i64 z1, .string zt] 48) = w4 at HX4 HB4 HY ⊢
        have x0 := HX4.out.cell 0 _ rfl
        have f0 := HX4.out.free 0 (by show 0 < 6; decide)
        have y0 := HY.out.cell 0 _ rfl
        have x1 := HX4.out.cell 1 _ rfl
        have f1 := HX4.out.free 1 (by show 1 < 6; decide)
        have y1 := HY.out.cell 1 _ rfl
        have x2 := HX4.out.cell 2 _ rfl
        have f2 := HX4.out.free 2 (by show 2 < 6; decide)
        have y2 := HY.out.cell 2 _ rfl
        have x3 := HX4.out.cell 3 _ rfl
        have f3 := HX4.out.free 3 (by show 3 < 6; decide)
        have y3 := HY.out.cell 3 _ rfl
        have x4 := HX4.out.cell 4 _ rfl
        have f4 := HX4.out.free 4 (by show 4 < 6; decide)
        have y4 := HY.out.cell 4 _ rfl
        have x5 := HX4.out.cell 5 _ rfl
        have f5 := HX4.out.free 5 (by show 5 < 6; decide)
        have y5 := HY.out.cell 5 _ rfl
        go_wp2_with fail
        refine bodyPost_ret (ret_cell3 rfl _ _ ⟨w.heap.size, 0, none⟩ _ rfl (put_c6 _ _ _ _ _ _ HX4.out)) rfl ?_
        rw [HF.out]
        unfold FrPost
        rw [HE.out.1, ← HE.out.2]
        exact ⟨rfl, below_c6 _ _ _ _ _ _ _ HB4.out (Nat.le_refl _)⟩
set_option maxRecDepth 100000 in
set_option maxHeartbeats 8000000 in
/-- neither 5 nor 2 follows -/
theorem rfront_g (v : Value) (l : List (List Int)) (w : World) (h : FrL w v l) (v0 v1 kk : Int) (vt : List Int)  (hv : valsV l = v0 :: v1 :: vt) (hw : whV v0 = kk) (hk0 : 0 ≤ kk) (h5 : v1 ≠ 5) (h2' : v1 ≠ 2) : Calls Tryd.prog 33 #[v] w (FrPost w (frV l)) := by
  have hbs : ∀ z ∈ valsV l, 0 ≤ z ∧ z ≤ 9999 := vals_pos l (fun p hp z hz => (h.lo p hp z hz).2)
  obtain ⟨A, c, rfl⟩ := h.rl.form
  obtain ⟨n, hn⟩ : ∃ n, n = l.length := ⟨_, rfl⟩
  have hn1 : 1 ≤ n := by rw [hn]; exact h.one
  have hn16 : n ≤ 16 := by rw [hn]; exact h.le
  obtain ⟨m, hm⟩ : ∃ m, m = (valsV l).length := ⟨_, rfl⟩
  have hmn : m ≤ n := by rw [hm, hn]; exact vals_le l
  rw [← hn]
  have HR := Lib.hid (show Par.RL w (.slice A n c) l by rw [hn]; exact h.rl)
  have HN := Lib.hid hn
  have HM := Lib.hid hm
  have HL := Lib.hid h
  have HV := Lib.hid hbs
  clear hn hm h hbs
  obtain ⟨t0, hi0, hz0, hz1, hz2⟩ := info_parts Par.infoI
  have S0 := Lib.hid (And.intro hi0 (And.intro hz0 (And.intro hz1 hz2)))
  clear hi0 hz0 hz1 hz2
  have HX0 := Lib.hid (show Sty.Box (w.alloc (.cells #[.int .i64 0, .int .i64 0, .int .i64 0, .int .i64 0, .int .i64 0, .string ⟨#[]⟩] 48)) w.heap.size (Sty.cP zP) from Sty.Box.new w _ _)
  have HB0 := Lib.hid (below_box w (.cells #[.int .i64 0, .int .i64 0, .int .i64 0, .int .i64 0, .int .i64 0, .string ⟨#[]⟩] 48))
  go_enter Tryd.func33, Tryd.ntmps33
  go_upto_region 1 with fail
  generalize w.alloc (.cells #[.int .i64 0, .int .i64 0, .int .i64 0, .int .i64 0, .int .i64 0, .string ⟨#[]⟩] 48) = w0 at HX0 HB0 ⊢
  have hsz0 : w.heap.size < w0.heap.size := HX0.out.1
  go_wp2_with fail
  go_loopw [5, 6] (fun vv iv wr => ∃ k : Nat, k ≤ m ∧ iv = .int .i64 k ∧ Hid (wr.ownsRow w0.heap.size 3 1 vv k (cI ((valsV l).take k)) ∧ Below w0.heap.size w0 wr)) (fun _ iv _ => m - (intOf iv).toNat)
  case atStart => exact ⟨0, Nat.zero_le _, rfl, World.ownsRow_nil _ _ _ _, Below.refl _ _⟩
  case round =>
    obtain ⟨k, hk, rfl, hid⟩ := hrel
    obtain ⟨AV, cv, hsh, _, _⟩ := own_slice hid.out.1
    subst hsh
    have hszr := hid.out.2.size
    by_cases hkm : k < m
    · obtain ⟨z, hz⟩ : ∃ z, (valsV l)[k]? = some z := ⟨_, List.getElem?_eq_getElem (by have := HM.out; omega)⟩
      obtain ⟨x, hx, hzx⟩ := vals_at l k z hz
      obtain ⟨ad, u, rfl, hlt, hc, hri⟩ := item_i HR.out hx
      obtain ⟨au, cu, hu, hult, huc⟩ := cells_of hri 1 rfl (Nat.le_refl _)
      subst hu
      have hb := Par.up HB0.out hid.out.2
      have d0 := (hb.cell (p := ad.add k) (by rw [Par.add_block]; exact hlt)).trans hc
      have huc0 := huc 0 x rfl
      rw [add_nil] at huc0
      have d1 := (hb.cell (p := au) hult).trans huc0
      have i1 : (k : Int) < (n : Int) := by omega
      have i2 : (0 : Int) ≤ (k : Int) := by omega
      have HZ := Lib.hid hz
      have hmx : max 0 x = z := hzx.symm
      have HO := Lib.hid hid.out.1
      have HB := Lib.hid hid.out.2
      obtain ⟨hi0, hz0, hz1, hz2⟩ := S0.out
      clear hz hzx hc hri huc huc0 hult hlt hid hb
      go_wp2_with (at_builtin; refine wpList_app _ rfl _ _ 39 rfl w0.heap.size 3 t0 _ 8 Tryd.underlying39 hi0 hz0 hz1 hz2 rfl _ k (cI ((valsV l).take k)) rfl (own_below HO.out (below_box _ _)) (some ⟨wr.heap.size, 0, none⟩) 1 1 [.int .i64 z] rfl rfl (Rd.one _ _ _) (by intro u hu; simp at hu; subst hu; rfl) (by omega) (by decide) (by rw [World.size_alloc]; omega) ?_; intro v' w' hown hgrow hat; refine Hid.out ?_)
      refine Lib.hid ?_
      obtain ⟨A2, c2, hsh2, _, _⟩ := own_slice hown
      subst hsh2
      have G := Lib.hid (show w'.ownsRow w0.heap.size 3 1 (.slice A2 (k + 1) c2) (k + 1) (cI ((valsV l).take (k + 1))) ∧ Below w0.heap.size w0 w' from
        ⟨by rw [List.take_add_one, HZ.out]; show World.ownsRow _ _ _ _ _ _ (cI ((valsV l).take k ++ [z])); rw [cI_append]; exact hown, (HB.out.alloc hszr _).grown hgrow (by rw [World.size_alloc]; omega) (fun q hq => own_lo HO.out q hq)⟩)
      clear hown hgrow hat hi0 hz0 hz1 hz2
      go_wp2
      go_roundw
      case rel => exact ⟨k + 1, by omega, by go_num, G.out⟩
      case measure => simp [intOf]; omega
    · obtain rfl : k = m := by omega
      have HO := Lib.hid (show wr.ownsRow w0.heap.size 3 1 (.slice AV k cv) k (cI (valsV l)) by have := hid.out.1; rw [HM.out, List.take_length] at this; rw [HM.out]; exact this)
      have HBr := Lib.hid (Par.up HB0.out hid.out.2)
      have HX := Lib.hid (HX0.out.keep hid.out.2)
      clear hid
      have hk2 : 2 ≤ k := by rw [HM.out, hv]; simp
      have g2 : (2 : Int) ≤ (k : Int) := by omega
      obtain ⟨aw, hA0, hlt0, hc0⟩ := own_cell HO.out (k := 0) (z := v0) (by rw [hv]; rfl)
      subst hA0
      rw [add_nil] at hc0
      obtain ⟨aw1, hA1, hlt1, hc1⟩ := own_cell HO.out (k := 1) (z := v1) (by rw [hv]; rfl)
      cases hA1
      rw [add_pos aw 1 (by decide)] at hc1
      have q1 : (1 : Int) < (k : Int) := by omega
      have p1 : 1 < k := by omega
      have q0 : (0 : Int) < (k : Int) := by omega
      have p0 : 0 < k := by omega
      have HW := Lib.hid (fun W => show Calls Tryd.prog 54 #[.int .i64 v0] W fun e w' => e = .returned (.int .i64 kk) ∧ W = w' from by have := rwhich_any v0 W; rw [hw] at this; exact this)
      have b5 : (v1 == 5) = false := by simp [h5]
      have b2 : (v1 == 2) = false := by simp [h2']
      obtain ⟨pp, hpp⟩ : ∃ pp, l[0]? = some pp := ⟨_, List.getElem?_eq_getElem (by have := HN.out; omega)⟩
      obtain ⟨ai, ui, hAi, hlti, hci, hrii⟩ := item_i HR.out hpp
      subst hAi
      rw [add_nil] at hci
      obtain ⟨au0, cu0, hu0, -, -⟩ := cells_of hrii pp.length rfl (HL.out.six pp (List.mem_of_getElem? hpp)).1
      subst hu0
      have e0 := (HBr.out.cell (p := ai) hlti).trans hci
      have j0 : (0 : Int) < (n : Int) := by omega
      have j1 : 0 < n := by omega
      have HF := Lib.hid (show frV l = (aloV pp, 1) from by
        have e1 : l.headD [] = pp := by
          cases l with
          | nil => cases hpp
          | cons a t => rw [List.getElem?_cons_zero] at hpp; injection hpp
        rw [← e1]
        unfold frV
        rw [hv]
        split
        · rename_i h; injection h with h1 h2; injection h2 with h2 h3; exact absurd h2 h5
        · rename_i h; injection h with h1 h2; injection h2 with h2 h3; exact absurd h2 h2'
        · rfl)
      obtain ⟨zk, zn, zm, z0, z1, zt, hov⟩ := oV_form (aloV pp)
      obtain ⟨zb, hzb⟩ : ∃ zb, zb = (aloV pp).isSome := ⟨_, rfl⟩
      have HA := Lib.hid (fun W (hb : Below w.heap.size w W) => show Calls Tryd.prog 58 #[.agg #[.slice (some au0) pp.length cu0]] W fun e w' => e = .returned (.tuple #[.agg #[.int .i64 zk, .int .i64 zn, .int .i64 zm, .int .i64 z0, .int .i64 z1, .string zt], .bool zb]) ∧ Below W.heap.size W w' from by
        have h := ralone_any (.slice (some au0) pp.length cu0) pp W (hrii.keep hb) (HL.out.six pp (List.mem_of_getElem? hpp)).1 (HL.out.six pp (List.mem_of_getElem? hpp)).2 (HL.out.lo pp (List.mem_of_getElem? hpp))
        unfold OptPost at h
        rw [hov, ← hzb] at h
        exact h)
      have HE := Lib.hid (And.intro hov hzb)
      generalize pp.length = pn0 at HA e0
      clear hpp hrii hci hlti hov hzb
      rcases Nat.lt_or_ge k n with hkn | hkn
      · obtain ⟨p, hp, hp1⟩ := vals_end l (by rw [← HM.out, ← HN.out]; exact hkn)
        rw [← HM.out] at hp
        obtain ⟨ad, u, hA, hlt, hc, hri⟩ := item_i HR.out hp
        obtain ⟨au, cu, hu, -, -⟩ := cells_of hri p.length rfl (HL.out.six p (List.mem_of_getElem? hp)).1
        subst hu
        have hae : ad = ai := by injection hA with h; exact h.symm
        rw [hae] at hlt hc
        have d0 := (HBr.out.cell (p := ai.add k) (by rw [Par.add_block]; exact hlt)).trans hc
        clear hae hA
        have i1 : (k : Int) < (n : Int) := by omega
        have i2 : (0 : Int) ≤ (k : Int) := by omega
        have i3 : ((p.length : Int) == 1) = false := by simp; omega
        generalize p.length = pn at d0 i3
        clear hp hp1 hc hri hlt
        go_upto_region 10 with (go_at_call 54; refine (HW.out _).mono ?_; rintro e w2 ⟨rfl, rfl⟩)
        go_region
        go_upto_region 17 with (go_at_call 58; refine (HA.out _ ((HBr.out.drew))).mono ?_; rintro e w3 ⟨rfl, hb3⟩; have HX3 := Lib.hid ((HX.out.drew).keep hb3); have HB3 := Lib.hid (Par.up ((HBr.out.drew)) hb3))
        have HX4 := Lib.hid (HX3.out.alloc (.cells #[.int .i64 zk, .int .i64 zn, .int .i64 zm, .int .i64 z0, .int .i64 z1, .string zt] 48))
        have HB4 := Lib.hid (Par.up HB3.out (below_box w3 (.cells #[.int .i64 zk, .int .i64 zn, .int .i64 zm, .int .i64 z0, .int .i64 z1, .string zt] 48)))
        have HY := Lib.hid (Sty.Box.new w3 #[.int .i64 zk, .int .i64 zn, .int .i64 zm, .int .i64 z0, .int .i64 z1, .string zt] 48)
        generalize w3.alloc (.cells #[.int .i64 zk, .int .i64 zn, .int .i64 zm, .int .i64 z0, .int .i64 z1, .string zt] 48) = w4 at HX4 HB4 HY ⊢
        have x0 := HX4.out.cell 0 _ rfl
        have f0 := HX4.out.free 0 (by show 0 < 6; decide)
        have y0 := HY.out.cell 0 _ rfl
        have x1 := HX4.out.cell 1 _ rfl
        have f1 := HX4.out.free 1 (by show 1 < 6; decide)
        have y1 := HY.out.cell 1 _ rfl
        have x2 := HX4.out.cell 2 _ rfl
        have f2 := HX4.out.free 2 (by show 2 < 6; decide)
        have y2 := HY.out.cell 2 _ rfl
        have x3 := HX4.out.cell 3 _ rfl
        have f3 := HX4.out.free 3 (by show 3 < 6; decide)
        have y3 := HY.out.cell 3 _ rfl
        have x4 := HX4.out.cell 4 _ rfl
        have f4 := HX4.out.free 4 (by show 4 < 6; decide)
        have y4 := HY.out.cell 4 _ rfl
        have x5 := HX4.out.cell 5 _ rfl
        have f5 := HX4.out.free 5 (by show 5 < 6; decide)
        have y5 := HY.out.cell 5 _ rfl
        go_wp2_with fail
        refine bodyPost_ret (ret_cell3 rfl _ _ ⟨w.heap.size, 0, none⟩ _ rfl (put_c6 _ _ _ _ _ _ HX4.out)) rfl ?_
        rw [HF.out]
        unfold FrPost
        rw [HE.out.1, ← HE.out.2]
        exact ⟨rfl, below_c6 _ _ _ _ _ _ _ HB4.out (Nat.le_refl _)⟩
      · have i1 : ¬ (k : Int) < (n : Int) := by omega
        go_upto_region 10 with (go_at_call 54; refine (HW.out _).mono ?_; rintro e w2 ⟨rfl, rfl⟩)
        go_region
        go_upto_region 17 with (go_at_call 58; refine (HA.out _ ((HBr.out.drew))).mono ?_; rintro e w3 ⟨rfl, hb3⟩; have HX3 := Lib.hid ((HX.out.drew).keep hb3); have HB3 := Lib.hid (Par.up ((HBr.out.drew)) hb3))
        have HX4 := Lib.hid (HX3.out.alloc (.cells #[.int .i64 zk, .int .i64 zn, .int .i64 zm, .int .i64 z0, .int .i64 z1, .string zt] 48))
        have HB4 := Lib.hid (Par.up HB3.out (below_box w3 (.cells #[.int .i64 zk, .int .i64 zn, .int .i64 zm, .int .i64 z0, .int .i64 z1, .string zt] 48)))
        have HY := Lib.hid (Sty.Box.new w3 #[.int .i64 zk, .int .i64 zn, .int .i64 zm, .int .i64 z0, .int .i64 z1, .string zt] 48)
        generalize w3.alloc (.cells #[.int .i64 zk, .int .i64 zn, .int .i64 zm, .int .i64 z0, .int .i64 z1, .string zt] 48) = w4 at HX4 HB4 HY ⊢
        have x0 := HX4.out.cell 0 _ rfl
        have f0 := HX4.out.free 0 (by show 0 < 6; decide)
        have y0 := HY.out.cell 0 _ rfl
        have x1 := HX4.out.cell 1 _ rfl
        have f1 := HX4.out.free 1 (by show 1 < 6; decide)
        have y1 := HY.out.cell 1 _ rfl
        have x2 := HX4.out.cell 2 _ rfl
        have f2 := HX4.out.free 2 (by show 2 < 6; decide)
        have y2 := HY.out.cell 2 _ rfl
        have x3 := HX4.out.cell 3 _ rfl
        have f3 := HX4.out.free 3 (by show 3 < 6; decide)
        have y3 := HY.out.cell 3 _ rfl
        have x4 := HX4.out.cell 4 _ rfl
        have f4 := HX4.out.free 4 (by show 4 < 6; decide)
        have y4 := HY.out.cell 4 _ rfl
        have x5 := HX4.out.cell 5 _ rfl
        have f5 := HX4.out.free 5 (by show 5 < 6; decide)
        have y5 := HY.out.cell 5 _ rfl
        go_wp2_with fail
        refine bodyPost_ret (ret_cell3 rfl _ _ ⟨w.heap.size, 0, none⟩ _ rfl (put_c6 _ _ _ _ _ _ HX4.out)) rfl ?_
        rw [HF.out]
        unfold FrPost
        rw [HE.out.1, ← HE.out.2]
        exact ⟨rfl, below_c6 _ _ _ _ _ _ _ HB4.out (Nat.le_refl _)⟩
set_option maxRecDepth 100000 in
set_option maxHeartbeats 8000000 in
/-- an index, one -/
theorem rfront_a (v : Value) (l : List (List Int)) (w : World) (h : FrL w v l) (v0 v2 kk : Int) (vt : List Int)  (hv : valsV l = v0 :: 5 :: v2 :: vt) (hw : whV v0 = kk) (hk0 : 0 ≤ kk) (hp : inB v2 = true) : Calls Tryd.prog 33 #[v] w (FrPost w (some (cq kk 1 v2), 3)) := by
  have hbs : ∀ z ∈ valsV l, 0 ≤ z ∧ z ≤ 9999 := vals_pos l (fun p hp z hz => (h.lo p hp z hz).2)
  obtain ⟨A, c, rfl⟩ := h.rl.form
  obtain ⟨n, hn⟩ : ∃ n, n = l.length := ⟨_, rfl⟩
  have hn1 : 1 ≤ n := by rw [hn]; exact h.one
  have hn16 : n ≤ 16 := by rw [hn]; exact h.le
  obtain ⟨m, hm⟩ : ∃ m, m = (valsV l).length := ⟨_, rfl⟩
  have hmn : m ≤ n := by rw [hm, hn]; exact vals_le l
  rw [← hn]
  have HR := Lib.hid (show Par.RL w (.slice A n c) l by rw [hn]; exact h.rl)
  have HN := Lib.hid hn
  have HM := Lib.hid hm
  have HL := Lib.hid h
  have HV := Lib.hid hbs
  clear hn hm h hbs
  obtain ⟨t0, hi0, hz0, hz1, hz2⟩ := info_parts Par.infoI
  have S0 := Lib.hid (And.intro hi0 (And.intro hz0 (And.intro hz1 hz2)))
  clear hi0 hz0 hz1 hz2
  have HX0 := Lib.hid (show Sty.Box (w.alloc (.cells #[.int .i64 0, .int .i64 0, .int .i64 0, .int .i64 0, .int .i64 0, .string ⟨#[]⟩] 48)) w.heap.size (Sty.cP zP) from Sty.Box.new w _ _)
  have HB0 := Lib.hid (below_box w (.cells #[.int .i64 0, .int .i64 0, .int .i64 0, .int .i64 0, .int .i64 0, .string ⟨#[]⟩] 48))
  go_enter Tryd.func33, Tryd.ntmps33
  go_upto_region 1 with fail
  generalize w.alloc (.cells #[.int .i64 0, .int .i64 0, .int .i64 0, .int .i64 0, .int .i64 0, .string ⟨#[]⟩] 48) = w0 at HX0 HB0 ⊢
  have hsz0 : w.heap.size < w0.heap.size := HX0.out.1
  go_wp2_with fail
  go_loopw [5, 6] (fun vv iv wr => ∃ k : Nat, k ≤ m ∧ iv = .int .i64 k ∧ Hid (wr.ownsRow w0.heap.size 3 1 vv k (cI ((valsV l).take k)) ∧ Below w0.heap.size w0 wr)) (fun _ iv _ => m - (intOf iv).toNat)
  case atStart => exact ⟨0, Nat.zero_le _, rfl, World.ownsRow_nil _ _ _ _, Below.refl _ _⟩
  case round =>
    obtain ⟨k, hk, rfl, hid⟩ := hrel
    obtain ⟨AV, cv, hsh, _, _⟩ := own_slice hid.out.1
    subst hsh
    have hszr := hid.out.2.size
    by_cases hkm : k < m
    · obtain ⟨z, hz⟩ : ∃ z, (valsV l)[k]? = some z := ⟨_, List.getElem?_eq_getElem (by have := HM.out; omega)⟩
      obtain ⟨x, hx, hzx⟩ := vals_at l k z hz
      obtain ⟨ad, u, rfl, hlt, hc, hri⟩ := item_i HR.out hx
      obtain ⟨au, cu, hu, hult, huc⟩ := cells_of hri 1 rfl (Nat.le_refl _)
      subst hu
      have hb := Par.up HB0.out hid.out.2
      have d0 := (hb.cell (p := ad.add k) (by rw [Par.add_block]; exact hlt)).trans hc
      have huc0 := huc 0 x rfl
      rw [add_nil] at huc0
      have d1 := (hb.cell (p := au) hult).trans huc0
      have i1 : (k : Int) < (n : Int) := by omega
      have i2 : (0 : Int) ≤ (k : Int) := by omega
      have HZ := Lib.hid hz
      have hmx : max 0 x = z := hzx.symm
      have HO := Lib.hid hid.out.1
      have HB := Lib.hid hid.out.2
      obtain ⟨hi0, hz0, hz1, hz2⟩ := S0.out
      clear hz hzx hc hri huc huc0 hult hlt hid hb
      go_wp2_with (at_builtin; refine wpList_app _ rfl _ _ 39 rfl w0.heap.size 3 t0 _ 8 Tryd.underlying39 hi0 hz0 hz1 hz2 rfl _ k (cI ((valsV l).take k)) rfl (own_below HO.out (below_box _ _)) (some ⟨wr.heap.size, 0, none⟩) 1 1 [.int .i64 z] rfl rfl (Rd.one _ _ _) (by intro u hu; simp at hu; subst hu; rfl) (by omega) (by decide) (by rw [World.size_alloc]; omega) ?_; intro v' w' hown hgrow hat; refine Hid.out ?_)
      refine Lib.hid ?_
      obtain ⟨A2, c2, hsh2, _, _⟩ := own_slice hown
      subst hsh2
      have G := Lib.hid (show w'.ownsRow w0.heap.size 3 1 (.slice A2 (k + 1) c2) (k + 1) (cI ((valsV l).take (k + 1))) ∧ Below w0.heap.size w0 w' from
        ⟨by rw [List.take_add_one, HZ.out]; show World.ownsRow _ _ _ _ _ _ (cI ((valsV l).take k ++ [z])); rw [cI_append]; exact hown, (HB.out.alloc hszr _).grown hgrow (by rw [World.size_alloc]; omega) (fun q hq => own_lo HO.out q hq)⟩)
      clear hown hgrow hat hi0 hz0 hz1 hz2
      go_wp2
      go_roundw
      case rel => exact ⟨k + 1, by omega, by go_num, G.out⟩
      case measure => simp [intOf]; omega
    · obtain rfl : k = m := by omega
      have HO := Lib.hid (show wr.ownsRow w0.heap.size 3 1 (.slice AV k cv) k (cI (valsV l)) by have := hid.out.1; rw [HM.out, List.take_length] at this; rw [HM.out]; exact this)
      have HBr := Lib.hid (Par.up HB0.out hid.out.2)
      have HX := Lib.hid (HX0.out.keep hid.out.2)
      clear hid
      have hk2 : 2 ≤ k := by rw [HM.out, hv]; simp
      have g2 : (2 : Int) ≤ (k : Int) := by omega
      have hk3 : 3 ≤ k := by rw [HM.out, hv]; simp
      have g3 : (3 : Int) ≤ (k : Int) := by omega
      obtain ⟨aw, hA0, hlt0, hc0⟩ := own_cell HO.out (k := 0) (z := v0) (by rw [hv]; rfl)
      subst hA0
      rw [add_nil] at hc0
      obtain ⟨aw1, hA1, hlt1, hc1⟩ := own_cell HO.out (k := 1) (z := 5) (by rw [hv]; rfl)
      cases hA1
      rw [add_pos aw 1 (by decide)] at hc1
      have q1 : (1 : Int) < (k : Int) := by omega
      have p1 : 1 < k := by omega
      obtain ⟨aw2, hA2, hlt2, hc2⟩ := own_cell HO.out (k := 2) (z := v2) (by rw [hv]; rfl)
      cases hA2
      rw [add_pos aw 2 (by decide)] at hc2
      have q2 : (2 : Int) < (k : Int) := by omega
      have p2 : 2 < k := by omega
      have q0 : (0 : Int) < (k : Int) := by omega
      have p0 : 0 < k := by omega
      have HW := Lib.hid (fun W => show Calls Tryd.prog 54 #[.int .i64 v0] W fun e w' => e = .returned (.int .i64 kk) ∧ W = w' from by have := rwhich_any v0 W; rw [hw] at this; exact this)
      have HI := Lib.hid (show Calls Tryd.prog 55 #[.slice (some ⟨wr.heap.size, 0, none⟩) 1 1] (wr.alloc (.cells #[.int .i64 v2] 3)) fun e w' => e = .returned (.bool true) ∧ (wr.alloc (.cells #[.int .i64 v2] 3)) = w' from by
        have h := rwithin_any (some ⟨wr.heap.size, 0, none⟩) 1 1 [v2] (wr.alloc (.cells #[.int .i64 v2] 3)) rfl (Par.Rd.lit wr [.int .i64 v2] 3) (by decide)
        rw [show [v2].all inB = true by simp [hp]] at h
        exact h)
      have HC := Lib.hid (fun W => rcolored_any kk 1 v2 W)
      unfold qV cq at HC
      rcases Nat.lt_or_ge k n with hkn | hkn
      · obtain ⟨p, hp, hp1⟩ := vals_end l (by rw [← HM.out, ← HN.out]; exact hkn)
        rw [← HM.out] at hp
        obtain ⟨ad, u, hA, hlt, hc, hri⟩ := item_i HR.out hp
        obtain ⟨au, cu, hu, -, -⟩ := cells_of hri p.length rfl (HL.out.six p (List.mem_of_getElem? hp)).1
        subst hu
        subst hA
        have d0 := (HBr.out.cell (p := ad.add k) (by rw [Par.add_block]; exact hlt)).trans hc
        have i1 : (k : Int) < (n : Int) := by omega
        have i2 : (0 : Int) ≤ (k : Int) := by omega
        have i3 : ((p.length : Int) == 1) = false := by simp; omega
        generalize p.length = pn at d0 i3
        clear hp hp1 hc hri hlt
        go_upto_region 9 with (first | (go_at_call 54; refine (HW.out _).mono ?_; rintro e w2 ⟨rfl, rfl⟩) | (go_at_call 55; refine HI.out.mono ?_; rintro e w3 ⟨rfl, rfl⟩))
        have HX6 := Lib.hid (HX.out.keep (below_box wr (.cells #[.int .i64 v2] 3)))
        have HB6 := Lib.hid (Par.up HBr.out (below_box wr (.cells #[.int .i64 v2] 3)))
        have e1 := ((below_box wr (.cells #[.int .i64 v2] 3)).cell (p := ⟨aw.block, aw.off + 1, none⟩) hlt0).trans hc1
        have e2 := ((below_box wr (.cells #[.int .i64 v2] 3)).cell (p := ⟨aw.block, aw.off + 2, none⟩) hlt0).trans hc2
        clear hc0 hc1 hc2
        generalize (wr.alloc (.cells #[.int .i64 v2] 3)) = w6 at HX6 HB6 e1 e2 ⊢
        go_wp2_with (go_at_call 56; refine (HC.out _).mono ?_; rintro e w7 ⟨rfl, hb⟩; have HX7 := Lib.hid (HX6.out.keep hb); have HB7 := Lib.hid (Par.up HB6.out hb); have x0 := HX7.out.cell 0 _ rfl; have f0 := HX7.out.free 0 (by show 0 < 6; decide); have x1 := HX7.out.cell 1 _ rfl; have f1 := HX7.out.free 1 (by show 1 < 6; decide); have x2 := HX7.out.cell 2 _ rfl; have f2 := HX7.out.free 2 (by show 2 < 6; decide); have x3 := HX7.out.cell 3 _ rfl; have f3 := HX7.out.free 3 (by show 3 < 6; decide); have x4 := HX7.out.cell 4 _ rfl; have f4 := HX7.out.free 4 (by show 4 < 6; decide); have x5 := HX7.out.cell 5 _ rfl; have f5 := HX7.out.free 5 (by show 5 < 6; decide); clear hb)
        refine bodyPost_ret (ret_cell3 rfl _ _ ⟨w.heap.size, 0, none⟩ _ rfl (put_c6 _ _ _ _ _ _ HX7.out)) rfl ?_
        exact ⟨rfl, below_c6 _ _ _ _ _ _ _ HB7.out (Nat.le_refl _)⟩
      · have i1 : ¬ (k : Int) < (n : Int) := by omega
        go_upto_region 9 with (first | (go_at_call 54; refine (HW.out _).mono ?_; rintro e w2 ⟨rfl, rfl⟩) | (go_at_call 55; refine HI.out.mono ?_; rintro e w3 ⟨rfl, rfl⟩))
        have HX6 := Lib.hid (HX.out.keep (below_box wr (.cells #[.int .i64 v2] 3)))
        have HB6 := Lib.hid (Par.up HBr.out (below_box wr (.cells #[.int .i64 v2] 3)))
        have e1 := ((below_box wr (.cells #[.int .i64 v2] 3)).cell (p := ⟨aw.block, aw.off + 1, none⟩) hlt0).trans hc1
        have e2 := ((below_box wr (.cells #[.int .i64 v2] 3)).cell (p := ⟨aw.block, aw.off + 2, none⟩) hlt0).trans hc2
        clear hc0 hc1 hc2
        generalize (wr.alloc (.cells #[.int .i64 v2] 3)) = w6 at HX6 HB6 e1 e2 ⊢
        go_wp2_with (go_at_call 56; refine (HC.out _).mono ?_; rintro e w7 ⟨rfl, hb⟩; have HX7 := Lib.hid (HX6.out.keep hb); have HB7 := Lib.hid (Par.up HB6.out hb); have x0 := HX7.out.cell 0 _ rfl; have f0 := HX7.out.free 0 (by show 0 < 6; decide); have x1 := HX7.out.cell 1 _ rfl; have f1 := HX7.out.free 1 (by show 1 < 6; decide); have x2 := HX7.out.cell 2 _ rfl; have f2 := HX7.out.free 2 (by show 2 < 6; decide); have x3 := HX7.out.cell 3 _ rfl; have f3 := HX7.out.free 3 (by show 3 < 6; decide); have x4 := HX7.out.cell 4 _ rfl; have f4 := HX7.out.free 4 (by show 4 < 6; decide); have x5 := HX7.out.cell 5 _ rfl; have f5 := HX7.out.free 5 (by show 5 < 6; decide); clear hb)
        refine bodyPost_ret (ret_cell3 rfl _ _ ⟨w.heap.size, 0, none⟩ _ rfl (put_c6 _ _ _ _ _ _ HX7.out)) rfl ?_
        exact ⟨rfl, below_c6 _ _ _ _ _ _ _ HB7.out (Nat.le_refl _)⟩
set_option maxRecDepth 100000 in
set_option maxHeartbeats 8000000 in
/-- an index, none -/
theorem rfront_b (v : Value) (l : List (List Int)) (w : World) (h : FrL w v l) (v0 v2 kk : Int) (vt : List Int)  (hv : valsV l = v0 :: 5 :: v2 :: vt) (hw : whV v0 = kk) (hk0 : 0 ≤ kk) (hp : inB v2 = false) : Calls Tryd.prog 33 #[v] w (FrPost w (none, min 3 l.length)) := by
  have hbs : ∀ z ∈ valsV l, 0 ≤ z ∧ z ≤ 9999 := vals_pos l (fun p hp z hz => (h.lo p hp z hz).2)
  obtain ⟨A, c, rfl⟩ := h.rl.form
  obtain ⟨n, hn⟩ : ∃ n, n = l.length := ⟨_, rfl⟩
  have hn1 : 1 ≤ n := by rw [hn]; exact h.one
  have hn16 : n ≤ 16 := by rw [hn]; exact h.le
  obtain ⟨m, hm⟩ : ∃ m, m = (valsV l).length := ⟨_, rfl⟩
  have hmn : m ≤ n := by rw [hm, hn]; exact vals_le l
  rw [← hn]
  have HR := Lib.hid (show Par.RL w (.slice A n c) l by rw [hn]; exact h.rl)
  have HN := Lib.hid hn
  have HM := Lib.hid hm
  have HL := Lib.hid h
  have HV := Lib.hid hbs
  clear hn hm h hbs
  obtain ⟨t0, hi0, hz0, hz1, hz2⟩ := info_parts Par.infoI
  have S0 := Lib.hid (And.intro hi0 (And.intro hz0 (And.intro hz1 hz2)))
  clear hi0 hz0 hz1 hz2
  have HX0 := Lib.hid (show Sty.Box (w.alloc (.cells #[.int .i64 0, .int .i64 0, .int .i64 0, .int .i64 0, .int .i64 0, .string ⟨#[]⟩] 48)) w.heap.size (Sty.cP zP) from Sty.Box.new w _ _)
  have HB0 := Lib.hid (below_box w (.cells #[.int .i64 0, .int .i64 0, .int .i64 0, .int .i64 0, .int .i64 0, .string ⟨#[]⟩] 48))
  go_enter Tryd.func33, Tryd.ntmps33
  go_upto_region 1 with fail
  generalize w.alloc (.cells #[.int .i64 0, .int .i64 0, .int .i64 0, .int .i64 0, .int .i64 0, .string ⟨#[]⟩] 48) = w0 at HX0 HB0 ⊢
  have hsz0 : w.heap.size < w0.heap.size := HX0.out.1
  go_wp2_with fail
  go_loopw [5, 6] (fun vv iv wr => ∃ k : Nat, k ≤ m ∧ iv = .int .i64 k ∧ Hid (wr.ownsRow w0.heap.size 3 1 vv k (cI ((valsV l).take k)) ∧ Below w0.heap.size w0 wr)) (fun _ iv _ => m - (intOf iv).toNat)
  case atStart => exact ⟨0, Nat.zero_le _, rfl, World.ownsRow_nil _ _ _ _, Below.refl _ _⟩
  case round =>
    obtain ⟨k, hk, rfl, hid⟩ := hrel
    obtain ⟨AV, cv, hsh, _, _⟩ := own_slice hid.out.1
    subst hsh
    have hszr := hid.out.2.size
    by_cases hkm : k < m
    · obtain ⟨z, hz⟩ : ∃ z, (valsV l)[k]? = some z := ⟨_, List.getElem?_eq_getElem (by have := HM.out; omega)⟩
      obtain ⟨x, hx, hzx⟩ := vals_at l k z hz
      obtain ⟨ad, u, rfl, hlt, hc, hri⟩ := item_i HR.out hx
      obtain ⟨au, cu, hu, hult, huc⟩ := cells_of hri 1 rfl (Nat.le_refl _)
      subst hu
      have hb := Par.up HB0.out hid.out.2
      have d0 := (hb.cell (p := ad.add k) (by rw [Par.add_block]; exact hlt)).trans hc
      have huc0 := huc 0 x rfl
      rw [add_nil] at huc0
      have d1 := (hb.cell (p := au) hult).trans huc0
      have i1 : (k : Int) < (n : Int) := by omega
      have i2 : (0 : Int) ≤ (k : Int) := by omega
      have HZ := Lib.hid hz
      have hmx : max 0 x = z := hzx.symm
      have HO := Lib.hid hid.out.1
      have HB := Lib.hid hid.out.2
      obtain ⟨hi0, hz0, hz1, hz2⟩ := S0.out
      clear hz hzx hc hri huc huc0 hult hlt hid hb
      go_wp2_with (at_builtin; refine wpList_app _ rfl _ _ 39 rfl w0.heap.size 3 t0 _ 8 Tryd.underlying39 hi0 hz0 hz1 hz2 rfl _ k (cI ((valsV l).take k)) rfl (own_below HO.out (below_box _ _)) (some ⟨wr.heap.size, 0, none⟩) 1 1 [.int .i64 z] rfl rfl (Rd.one _ _ _) (by intro u hu; simp at hu; subst hu; rfl) (by omega) (by decide) (by rw [World.size_alloc]; omega) ?_; intro v' w' hown hgrow hat; refine Hid.out ?_)
      refine Lib.hid ?_
      obtain ⟨A2, c2, hsh2, _, _⟩ := own_slice hown
      subst hsh2
      have G := Lib.hid (show w'.ownsRow w0.heap.size 3 1 (.slice A2 (k + 1) c2) (k + 1) (cI ((valsV l).take (k + 1))) ∧ Below w0.heap.size w0 w' from
        ⟨by rw [List.take_add_one, HZ.out]; show World.ownsRow _ _ _ _ _ _ (cI ((valsV l).take k ++ [z])); rw [cI_append]; exact hown, (HB.out.alloc hszr _).grown hgrow (by rw [World.size_alloc]; omega) (fun q hq => own_lo HO.out q hq)⟩)
      clear hown hgrow hat hi0 hz0 hz1 hz2
      go_wp2
      go_roundw
      case rel => exact ⟨k + 1, by omega, by go_num, G.out⟩
      case measure => simp [intOf]; omega
    · obtain rfl : k = m := by omega
      have HO := Lib.hid (show wr.ownsRow w0.heap.size 3 1 (.slice AV k cv) k (cI (valsV l)) by have := hid.out.1; rw [HM.out, List.take_length] at this; rw [HM.out]; exact this)
      have HBr := Lib.hid (Par.up HB0.out hid.out.2)
      have HX := Lib.hid (HX0.out.keep hid.out.2)
      clear hid
      have hk2 : 2 ≤ k := by rw [HM.out, hv]; simp
      have g2 : (2 : Int) ≤ (k : Int) := by omega
      have hk3 : 3 ≤ k := by rw [HM.out, hv]; simp
      have g3 : (3 : Int) ≤ (k : Int) := by omega
      obtain ⟨aw, hA0, hlt0, hc0⟩ := own_cell HO.out (k := 0) (z := v0) (by rw [hv]; rfl)
      subst hA0
      rw [add_nil] at hc0
      obtain ⟨aw1, hA1, hlt1, hc1⟩ := own_cell HO.out (k := 1) (z := 5) (by rw [hv]; rfl)
      cases hA1
      rw [add_pos aw 1 (by decide)] at hc1
      have q1 : (1 : Int) < (k : Int) := by omega
      have p1 : 1 < k := by omega
      obtain ⟨aw2, hA2, hlt2, hc2⟩ := own_cell HO.out (k := 2) (z := v2) (by rw [hv]; rfl)
      cases hA2
      rw [add_pos aw 2 (by decide)] at hc2
      have q2 : (2 : Int) < (k : Int) := by omega
      have p2 : 2 < k := by omega
      have q0 : (0 : Int) < (k : Int) := by omega
      have p0 : 0 < k := by omega
      have HW := Lib.hid (fun W => show Calls Tryd.prog 54 #[.int .i64 v0] W fun e w' => e = .returned (.int .i64 kk) ∧ W = w' from by have := rwhich_any v0 W; rw [hw] at this; exact this)
      have HI := Lib.hid (show Calls Tryd.prog 55 #[.slice (some ⟨wr.heap.size, 0, none⟩) 1 1] (wr.alloc (.cells #[.int .i64 v2] 3)) fun e w' => e = .returned (.bool false) ∧ (wr.alloc (.cells #[.int .i64 v2] 3)) = w' from by
        have h := rwithin_any (some ⟨wr.heap.size, 0, none⟩) 1 1 [v2] (wr.alloc (.cells #[.int .i64 v2] 3)) rfl (Par.Rd.lit wr [.int .i64 v2] 3) (by decide)
        rw [show [v2].all inB = false by simp [hp]] at h
        exact h)
      rcases Nat.lt_or_ge k n with hkn | hkn
      · obtain ⟨p, hp, hp1⟩ := vals_end l (by rw [← HM.out, ← HN.out]; exact hkn)
        rw [← HM.out] at hp
        obtain ⟨ad, u, hA, hlt, hc, hri⟩ := item_i HR.out hp
        obtain ⟨au, cu, hu, -, -⟩ := cells_of hri p.length rfl (HL.out.six p (List.mem_of_getElem? hp)).1
        subst hu
        subst hA
        have d0 := (HBr.out.cell (p := ad.add k) (by rw [Par.add_block]; exact hlt)).trans hc
        have i1 : (k : Int) < (n : Int) := by omega
        have i2 : (0 : Int) ≤ (k : Int) := by omega
        have i3 : ((p.length : Int) == 1) = false := by simp; omega
        generalize p.length = pn at d0 i3
        clear hp hp1 hc hri hlt
        go_upto_region 10 with (first | (go_at_call 54; refine (HW.out _).mono ?_; rintro e w2 ⟨rfl, rfl⟩) | (go_at_call 55; refine HI.out.mono ?_; rintro e w3 ⟨rfl, rfl⟩))
        have HX6 := Lib.hid (HX.out.keep (below_box wr (.cells #[.int .i64 v2] 3)))
        have HB6 := Lib.hid (Par.up HBr.out (below_box wr (.cells #[.int .i64 v2] 3)))
        have e1 := ((below_box wr (.cells #[.int .i64 v2] 3)).cell (p := ⟨aw.block, aw.off + 1, none⟩) hlt0).trans hc1
        have e2 := ((below_box wr (.cells #[.int .i64 v2] 3)).cell (p := ⟨aw.block, aw.off + 2, none⟩) hlt0).trans hc2
        clear hc0 hc1 hc2 HI
        generalize (wr.alloc (.cells #[.int .i64 v2] 3)) = w6 at HX6 HB6 e1 e2 ⊢
        have x0 := HX6.out.cell 0 _ rfl
        have f0 := HX6.out.free 0 (by show 0 < 6; decide)
        have x1 := HX6.out.cell 1 _ rfl
        have f1 := HX6.out.free 1 (by show 1 < 6; decide)
        have x2 := HX6.out.cell 2 _ rfl
        have f2 := HX6.out.free 2 (by show 2 < 6; decide)
        have x3 := HX6.out.cell 3 _ rfl
        have f3 := HX6.out.free 3 (by show 3 < 6; decide)
        have x4 := HX6.out.cell 4 _ rfl
        have f4 := HX6.out.free 4 (by show 4 < 6; decide)
        have x5 := HX6.out.cell 5 _ rfl
        have f5 := HX6.out.free 5 (by show 5 < 6; decide)
        go_region
        go_wp2_with fail
        refine bodyPost_ret (ret_cell3 rfl _ _ ⟨w.heap.size, 0, none⟩ _ rfl (load_c6 (Sty.put6 w6 w.heap.size ⟨0, 0, 0, 0, 0, ⟨#[]⟩⟩ zP HX6.out).drew)) rfl ?_
        refine ⟨?_, (below_c6 _ 0 0 0 0 0 ⟨#[]⟩ HB6.out (Nat.le_refl _)).drew⟩
        show _ = Ending.returned (.tuple #[zA, .bool false, .int .i64 ((min 3 n : Nat) : Int)])
        rw [show ((min 3 n : Nat) : Int) = min 3 (n : Int) by omega]
        rfl
      · have i1 : ¬ (k : Int) < (n : Int) := by omega
        go_upto_region 10 with (first | (go_at_call 54; refine (HW.out _).mono ?_; rintro e w2 ⟨rfl, rfl⟩) | (go_at_call 55; refine HI.out.mono ?_; rintro e w3 ⟨rfl, rfl⟩))
        have HX6 := Lib.hid (HX.out.keep (below_box wr (.cells #[.int .i64 v2] 3)))
        have HB6 := Lib.hid (Par.up HBr.out (below_box wr (.cells #[.int .i64 v2] 3)))
        have e1 := ((below_box wr (.cells #[.int .i64 v2] 3)).cell (p := ⟨aw.block, aw.off + 1, none⟩) hlt0).trans hc1
        have e2 := ((below_box wr (.cells #[.int .i64 v2] 3)).cell (p := ⟨aw.block, aw.off + 2, none⟩) hlt0).trans hc2
        clear hc0 hc1 hc2 HI
        generalize (wr.alloc (.cells #[.int .i64 v2] 3)) = w6 at HX6 HB6 e1 e2 ⊢
        have x0 := HX6.out.cell 0 _ rfl
        have f0 := HX6.out.free 0 (by show 0 < 6; decide)
        have x1 := HX6.out.cell 1 _ rfl
        have f1 := HX6.out.free 1 (by show 1 < 6; decide)
        have x2 := HX6.out.cell 2 _ rfl
        have f2 := HX6.out.free 2 (by show 2 < 6; decide)
        have x3 := HX6.out.cell 3 _ rfl
        have f3 := HX6.out.free 3 (by show 3 < 6; decide)
        have x4 := HX6.out.cell 4 _ rfl
        have f4 := HX6.out.free 4 (by show 4 < 6; decide)
        have x5 := HX6.out.cell 5 _ rfl
        have f5 := HX6.out.free 5 (by show 5 < 6; decide)
        go_region
        go_wp2_with fail
        refine bodyPost_ret (ret_cell3 rfl _ _ ⟨w.heap.size, 0, none⟩ _ rfl (load_c6 (Sty.put6 w6 w.heap.size ⟨0, 0, 0, 0, 0, ⟨#[]⟩⟩ zP HX6.out).drew)) rfl ?_
        refine ⟨?_, (below_c6 _ 0 0 0 0 0 ⟨#[]⟩ HB6.out (Nat.le_refl _)).drew⟩
        show _ = Ending.returned (.tuple #[zA, .bool false, .int .i64 ((min 3 n : Nat) : Int)])
        rw [show ((min 3 n : Nat) : Int) = min 3 (n : Int) by omega]
        rfl
set_option maxRecDepth 100000 in
set_option maxHeartbeats 8000000 in
/-- 5 and no more -/
theorem rfront_c (v : Value) (l : List (List Int)) (w : World) (h : FrL w v l) (v0 kk : Int)  (hv : valsV l = [v0, 5]) (hw : whV v0 = kk) (hk0 : 0 ≤ kk) : Calls Tryd.prog 33 #[v] w (FrPost w (none, min 3 l.length)) := by
  have hbs : ∀ z ∈ valsV l, 0 ≤ z ∧ z ≤ 9999 := vals_pos l (fun p hp z hz => (h.lo p hp z hz).2)
  obtain ⟨A, c, rfl⟩ := h.rl.form
  obtain ⟨n, hn⟩ : ∃ n, n = l.length := ⟨_, rfl⟩
  have hn1 : 1 ≤ n := by rw [hn]; exact h.one
  have hn16 : n ≤ 16 := by rw [hn]; exact h.le
  obtain ⟨m, hm⟩ : ∃ m, m = (valsV l).length := ⟨_, rfl⟩
  have hmn : m ≤ n := by rw [hm, hn]; exact vals_le l
  rw [← hn]
  have HR := Lib.hid (show Par.RL w (.slice A n c) l by rw [hn]; exact h.rl)
  have HN := Lib.hid hn
  have HM := Lib.hid hm
  have HL := Lib.hid h
  have HV := Lib.hid hbs
  clear hn hm h hbs
  obtain ⟨t0, hi0, hz0, hz1, hz2⟩ := info_parts Par.infoI
  have S0 := Lib.hid (And.intro hi0 (And.intro hz0 (And.intro hz1 hz2)))
  clear hi0 hz0 hz1 hz2
  have HX0 := Lib.hid (show Sty.Box (w.alloc (.cells #[.int .i64 0, .int .i64 0, .int .i64 0, .int .i64 0, .int .i64 0, .string ⟨#[]⟩] 48)) w.heap.size (Sty.cP zP) from Sty.Box.new w _ _)
  have HB0 := Lib.hid (below_box w (.cells #[.int .i64 0, .int .i64 0, .int .i64 0, .int .i64 0, .int .i64 0, .string ⟨#[]⟩] 48))
  go_enter Tryd.func33, Tryd.ntmps33
  go_upto_region 1 with fail
  generalize w.alloc (.cells #[.int .i64 0, .int .i64 0, .int .i64 0, .int .i64 0, .int .i64 0, .string ⟨#[]⟩] 48) = w0 at HX0 HB0 ⊢
  have hsz0 : w.heap.size < w0.heap.size := HX0.out.1
  go_wp2_with fail
  go_loopw [5, 6] (fun vv iv wr => ∃ k : Nat, k ≤ m ∧ iv = .int .i64 k ∧ Hid (wr.ownsRow w0.heap.size 3 1 vv k (cI ((valsV l).take k)) ∧ Below w0.heap.size w0 wr)) (fun _ iv _ => m - (intOf iv).toNat)
  case atStart => exact ⟨0, Nat.zero_le _, rfl, World.ownsRow_nil _ _ _ _, Below.refl _ _⟩
  case round =>
    obtain ⟨k, hk, rfl, hid⟩ := hrel
    obtain ⟨AV, cv, hsh, _, _⟩ := own_slice hid.out.1
    subst hsh
    have hszr := hid.out.2.size
    by_cases hkm : k < m
    · obtain ⟨z, hz⟩ : ∃ z, (valsV l)[k]? = some z := ⟨_, List.getElem?_eq_getElem (by have := HM.out; omega)⟩
      obtain ⟨x, hx, hzx⟩ := vals_at l k z hz
      obtain ⟨ad, u, rfl, hlt, hc, hri⟩ := item_i HR.out hx
      obtain ⟨au, cu, hu, hult, huc⟩ := cells_of hri 1 rfl (Nat.le_refl _)
      subst hu
      have hb := Par.up HB0.out hid.out.2
      have d0 := (hb.cell (p := ad.add k) (by rw [Par.add_block]; exact hlt)).trans hc
      have huc0 := huc 0 x rfl
      rw [add_nil] at huc0
      have d1 := (hb.cell (p := au) hult).trans huc0
      have i1 : (k : Int) < (n : Int) := by omega
      have i2 : (0 : Int) ≤ (k : Int) := by omega
      have HZ := Lib.hid hz
      have hmx : max 0 x = z := hzx.symm
      have HO := Lib.hid hid.out.1
      have HB := Lib.hid hid.out.2
      obtain ⟨hi0, hz0, hz1, hz2⟩ := S0.out
      clear hz hzx hc hri huc huc0 hult hlt hid hb
      go_wp2_with (at_builtin; refine wpList_app _ rfl _ _ 39 rfl w0.heap.size 3 t0 _ 8 Tryd.underlying39 hi0 hz0 hz1 hz2 rfl _ k (cI ((valsV l).take k)) rfl (own_below HO.out (below_box _ _)) (some ⟨wr.heap.size, 0, none⟩) 1 1 [.int .i64 z] rfl rfl (Rd.one _ _ _) (by intro u hu; simp at hu; subst hu; rfl) (by omega) (by decide) (by rw [World.size_alloc]; omega) ?_; intro v' w' hown hgrow hat; refine Hid.out ?_)
      refine Lib.hid ?_
      obtain ⟨A2, c2, hsh2, _, _⟩ := own_slice hown
      subst hsh2
      have G := Lib.hid (show w'.ownsRow w0.heap.size 3 1 (.slice A2 (k + 1) c2) (k + 1) (cI ((valsV l).take (k + 1))) ∧ Below w0.heap.size w0 w' from
        ⟨by rw [List.take_add_one, HZ.out]; show World.ownsRow _ _ _ _ _ _ (cI ((valsV l).take k ++ [z])); rw [cI_append]; exact hown, (HB.out.alloc hszr _).grown hgrow (by rw [World.size_alloc]; omega) (fun q hq => own_lo HO.out q hq)⟩)
      clear hown hgrow hat hi0 hz0 hz1 hz2
      go_wp2
      go_roundw
      case rel => exact ⟨k + 1, by omega, by go_num, G.out⟩
      case measure => simp [intOf]; omega
    · obtain rfl : k = m := by omega
      have HO := Lib.hid (show wr.ownsRow w0.heap.size 3 1 (.slice AV k cv) k (cI (valsV l)) by have := hid.out.1; rw [HM.out, List.take_length] at this; rw [HM.out]; exact this)
      have HBr := Lib.hid (Par.up HB0.out hid.out.2)
      have HX := Lib.hid (HX0.out.keep hid.out.2)
      clear hid
      have hk2 : 2 ≤ k := by rw [HM.out, hv]; simp
      have g2 : (2 : Int) ≤ (k : Int) := by omega
      have g3 : ¬ (3 : Int) ≤ (k : Int) := by have := HM.out; rw [hv] at this; simp at this; omega
      obtain ⟨aw, hA0, hlt0, hc0⟩ := own_cell HO.out (k := 0) (z := v0) (by rw [hv]; rfl)
      subst hA0
      rw [add_nil] at hc0
      obtain ⟨aw1, hA1, hlt1, hc1⟩ := own_cell HO.out (k := 1) (z := 5) (by rw [hv]; rfl)
      cases hA1
      rw [add_pos aw 1 (by decide)] at hc1
      have q1 : (1 : Int) < (k : Int) := by omega
      have p1 : 1 < k := by omega
      have q0 : (0 : Int) < (k : Int) := by omega
      have p0 : 0 < k := by omega
      have HW := Lib.hid (fun W => show Calls Tryd.prog 54 #[.int .i64 v0] W fun e w' => e = .returned (.int .i64 kk) ∧ W = w' from by have := rwhich_any v0 W; rw [hw] at this; exact this)
      rcases Nat.lt_or_ge k n with hkn | hkn
      · obtain ⟨p, hp, hp1⟩ := vals_end l (by rw [← HM.out, ← HN.out]; exact hkn)
        rw [← HM.out] at hp
        obtain ⟨ad, u, hA, hlt, hc, hri⟩ := item_i HR.out hp
        obtain ⟨au, cu, hu, -, -⟩ := cells_of hri p.length rfl (HL.out.six p (List.mem_of_getElem? hp)).1
        subst hu
        subst hA
        have d0 := (HBr.out.cell (p := ad.add k) (by rw [Par.add_block]; exact hlt)).trans hc
        have i1 : (k : Int) < (n : Int) := by omega
        have i2 : (0 : Int) ≤ (k : Int) := by omega
        have i3 : ((p.length : Int) == 1) = false := by simp; omega
        generalize p.length = pn at d0 i3
        clear hp hp1 hc hri hlt
        go_upto_region 10 with (go_at_call 54; refine (HW.out _).mono ?_; rintro e w2 ⟨rfl, rfl⟩)
        have HX6 := HX
        have HB6 := HBr
        have x0 := HX6.out.cell 0 _ rfl
        have f0 := HX6.out.free 0 (by show 0 < 6; decide)
        have x1 := HX6.out.cell 1 _ rfl
        have f1 := HX6.out.free 1 (by show 1 < 6; decide)
        have x2 := HX6.out.cell 2 _ rfl
        have f2 := HX6.out.free 2 (by show 2 < 6; decide)
        have x3 := HX6.out.cell 3 _ rfl
        have f3 := HX6.out.free 3 (by show 3 < 6; decide)
        have x4 := HX6.out.cell 4 _ rfl
        have f4 := HX6.out.free 4 (by show 4 < 6; decide)
        have x5 := HX6.out.cell 5 _ rfl
        have f5 := HX6.out.free 5 (by show 5 < 6; decide)
        go_region
        go_wp2_with fail
        refine bodyPost_ret (ret_cell3 rfl _ _ ⟨w.heap.size, 0, none⟩ _ rfl (load_c6 (Sty.put6 wr w.heap.size ⟨0, 0, 0, 0, 0, ⟨#[]⟩⟩ zP HX6.out).drew)) rfl ?_
        refine ⟨?_, (below_c6 _ 0 0 0 0 0 ⟨#[]⟩ HB6.out (Nat.le_refl _)).drew⟩
        show _ = Ending.returned (.tuple #[zA, .bool false, .int .i64 ((min 3 n : Nat) : Int)])
        rw [show ((min 3 n : Nat) : Int) = min 3 (n : Int) by omega]
        rfl
      · have i1 : ¬ (k : Int) < (n : Int) := by omega
        go_upto_region 10 with (go_at_call 54; refine (HW.out _).mono ?_; rintro e w2 ⟨rfl, rfl⟩)
        have HX6 := HX
        have HB6 := HBr
        have x0 := HX6.out.cell 0 _ rfl
        have f0 := HX6.out.free 0 (by show 0 < 6; decide)
        have x1 := HX6.out.cell 1 _ rfl
        have f1 := HX6.out.free 1 (by show 1 < 6; decide)
        have x2 := HX6.out.cell 2 _ rfl
        have f2 := HX6.out.free 2 (by show 2 < 6; decide)
        have x3 := HX6.out.cell 3 _ rfl
        have f3 := HX6.out.free 3 (by show 3 < 6; decide)
        have x4 := HX6.out.cell 4 _ rfl
        have f4 := HX6.out.free 4 (by show 4 < 6; decide)
        have x5 := HX6.out.cell 5 _ rfl
        have f5 := HX6.out.free 5 (by show 5 < 6; decide)
        go_region
        go_wp2_with fail
        refine bodyPost_ret (ret_cell3 rfl _ _ ⟨w.heap.size, 0, none⟩ _ rfl (load_c6 (Sty.put6 wr w.heap.size ⟨0, 0, 0, 0, 0, ⟨#[]⟩⟩ zP HX6.out).drew)) rfl ?_
        refine ⟨?_, (below_c6 _ 0 0 0 0 0 ⟨#[]⟩ HB6.out (Nat.le_refl _)).drew⟩
        show _ = Ending.returned (.tuple #[zA, .bool false, .int .i64 ((min 3 n : Nat) : Int)])
        rw [show ((min 3 n : Nat) : Int) = min 3 (n : Int) by omega]
        rfl
set_option maxRecDepth 100000 in
set_option maxHeartbeats 8000000 in
/-- three numbers, a color -/
theorem rfront_d (v : Value) (l : List (List Int)) (w : World) (h : FrL w v l) (v0 cr cg cb kk : Int) (vt : List Int)  (hv : valsV l = v0 :: 2 :: cr :: cg :: cb :: vt) (hw : whV v0 = kk) (hk0 : 0 ≤ kk) (hp : (inB cr && inB cg && inB cb) = true) : Calls Tryd.prog 33 #[v] w (FrPost w (some (rgbQ kk cr cg cb), 5)) := by
  have hbs : ∀ z ∈ valsV l, 0 ≤ z ∧ z ≤ 9999 := vals_pos l (fun p hp z hz => (h.lo p hp z hz).2)
  obtain ⟨A, c, rfl⟩ := h.rl.form
  obtain ⟨n, hn⟩ : ∃ n, n = l.length := ⟨_, rfl⟩
  have hn1 : 1 ≤ n := by rw [hn]; exact h.one
  have hn16 : n ≤ 16 := by rw [hn]; exact h.le
  obtain ⟨m, hm⟩ : ∃ m, m = (valsV l).length := ⟨_, rfl⟩
  have hmn : m ≤ n := by rw [hm, hn]; exact vals_le l
  rw [← hn]
  have HR := Lib.hid (show Par.RL w (.slice A n c) l by rw [hn]; exact h.rl)
  have HN := Lib.hid hn
  have HM := Lib.hid hm
  have HL := Lib.hid h
  have HV := Lib.hid hbs
  clear hn hm h hbs
  obtain ⟨t0, hi0, hz0, hz1, hz2⟩ := info_parts Par.infoI
  have S0 := Lib.hid (And.intro hi0 (And.intro hz0 (And.intro hz1 hz2)))
  clear hi0 hz0 hz1 hz2
  have HX0 := Lib.hid (show Sty.Box (w.alloc (.cells #[.int .i64 0, .int .i64 0, .int .i64 0, .int .i64 0, .int .i64 0, .string ⟨#[]⟩] 48)) w.heap.size (Sty.cP zP) from Sty.Box.new w _ _)
  have HB0 := Lib.hid (below_box w (.cells #[.int .i64 0, .int .i64 0, .int .i64 0, .int .i64 0, .int .i64 0, .string ⟨#[]⟩] 48))
  go_enter Tryd.func33, Tryd.ntmps33
  go_upto_region 1 with fail
  generalize w.alloc (.cells #[.int .i64 0, .int .i64 0, .int .i64 0, .int .i64 0, .int .i64 0, .string ⟨#[]⟩] 48) = w0 at HX0 HB0 ⊢
  have hsz0 : w.heap.size < w0.heap.size := HX0.out.1
  go_wp2_with fail
  go_loopw [5, 6] (fun vv iv wr => ∃ k : Nat, k ≤ m ∧ iv = .int .i64 k ∧ Hid (wr.ownsRow w0.heap.size 3 1 vv k (cI ((valsV l).take k)) ∧ Below w0.heap.size w0 wr)) (fun _ iv _ => m - (intOf iv).toNat)
  case atStart => exact ⟨0, Nat.zero_le _, rfl, World.ownsRow_nil _ _ _ _, Below.refl _ _⟩
  case round =>
    obtain ⟨k, hk, rfl, hid⟩ := hrel
    obtain ⟨AV, cv, hsh, _, _⟩ := own_slice hid.out.1
    subst hsh
    have hszr := hid.out.2.size
    by_cases hkm : k < m
    · obtain ⟨z, hz⟩ : ∃ z, (valsV l)[k]? = some z := ⟨_, List.getElem?_eq_getElem (by have := HM.out; omega)⟩
      obtain ⟨x, hx, hzx⟩ := vals_at l k z hz
      obtain ⟨ad, u, rfl, hlt, hc, hri⟩ := item_i HR.out hx
      obtain ⟨au, cu, hu, hult, huc⟩ := cells_of hri 1 rfl (Nat.le_refl _)
      subst hu
      have hb := Par.up HB0.out hid.out.2
      have d0 := (hb.cell (p := ad.add k) (by rw [Par.add_block]; exact hlt)).trans hc
      have huc0 := huc 0 x rfl
      rw [add_nil] at huc0
      have d1 := (hb.cell (p := au) hult).trans huc0
      have i1 : (k : Int) < (n : Int) := by omega
      have i2 : (0 : Int) ≤ (k : Int) := by omega
      have HZ := Lib.hid hz
      have hmx : max 0 x = z := hzx.symm
      have HO := Lib.hid hid.out.1
      have HB := Lib.hid hid.out.2
      obtain ⟨hi0, hz0, hz1, hz2⟩ := S0.out
      clear hz hzx hc hri huc huc0 hult hlt hid hb
      go_wp2_with (at_builtin; refine wpList_app _ rfl _ _ 39 rfl w0.heap.size 3 t0 _ 8 Tryd.underlying39 hi0 hz0 hz1 hz2 rfl _ k (cI ((valsV l).take k)) rfl (own_below HO.out (below_box _ _)) (some ⟨wr.heap.size, 0, none⟩) 1 1 [.int .i64 z] rfl rfl (Rd.one _ _ _) (by intro u hu; simp at hu; subst hu; rfl) (by omega) (by decide) (by rw [World.size_alloc]; omega) ?_; intro v' w' hown hgrow hat; refine Hid.out ?_)
      refine Lib.hid ?_
      obtain ⟨A2, c2, hsh2, _, _⟩ := own_slice hown
      subst hsh2
      have G := Lib.hid (show w'.ownsRow w0.heap.size 3 1 (.slice A2 (k + 1) c2) (k + 1) (cI ((valsV l).take (k + 1))) ∧ Below w0.heap.size w0 w' from
        ⟨by rw [List.take_add_one, HZ.out]; show World.ownsRow _ _ _ _ _ _ (cI ((valsV l).take k ++ [z])); rw [cI_append]; exact hown, (HB.out.alloc hszr _).grown hgrow (by rw [World.size_alloc]; omega) (fun q hq => own_lo HO.out q hq)⟩)
      clear hown hgrow hat hi0 hz0 hz1 hz2
      go_wp2
      go_roundw
      case rel => exact ⟨k + 1, by omega, by go_num, G.out⟩
      case measure => simp [intOf]; omega
    · obtain rfl : k = m := by omega
      have HO := Lib.hid (show wr.ownsRow w0.heap.size 3 1 (.slice AV k cv) k (cI (valsV l)) by have := hid.out.1; rw [HM.out, List.take_length] at this; rw [HM.out]; exact this)
      have HBr := Lib.hid (Par.up HB0.out hid.out.2)
      have HX := Lib.hid (HX0.out.keep hid.out.2)
      clear hid
      have hk2 : 2 ≤ k := by rw [HM.out, hv]; simp
      have g2 : (2 : Int) ≤ (k : Int) := by omega
      have hk5 : 5 ≤ k := by rw [HM.out, hv]; simp
      have g5 : (5 : Int) ≤ (k : Int) := by omega
      obtain ⟨aw, hA0, hlt0, hc0⟩ := own_cell HO.out (k := 0) (z := v0) (by rw [hv]; rfl)
      subst hA0
      rw [add_nil] at hc0
      obtain ⟨aw1, hA1, hlt1, hc1⟩ := own_cell HO.out (k := 1) (z := 2) (by rw [hv]; rfl)
      cases hA1
      rw [add_pos aw 1 (by decide)] at hc1
      have q1 : (1 : Int) < (k : Int) := by omega
      have p1 : 1 < k := by omega
      obtain ⟨aw2, hA2, hlt2, hc2⟩ := own_cell HO.out (k := 2) (z := cr) (by rw [hv]; rfl)
      cases hA2
      rw [add_pos aw 2 (by decide)] at hc2
      have q2 : (2 : Int) < (k : Int) := by omega
      have p2 : 2 < k := by omega
      obtain ⟨aw3, hA3, hlt3, hc3⟩ := own_cell HO.out (k := 3) (z := cg) (by rw [hv]; rfl)
      cases hA3
      rw [add_pos aw 3 (by decide)] at hc3
      have q3 : (3 : Int) < (k : Int) := by omega
      have p3 : 3 < k := by omega
      obtain ⟨aw4, hA4, hlt4, hc4⟩ := own_cell HO.out (k := 4) (z := cb) (by rw [hv]; rfl)
      cases hA4
      rw [add_pos aw 4 (by decide)] at hc4
      have q4 : (4 : Int) < (k : Int) := by omega
      have p4 : 4 < k := by omega
      have q0 : (0 : Int) < (k : Int) := by omega
      have p0 : 0 < k := by omega
      have HW := Lib.hid (fun W => show Calls Tryd.prog 54 #[.int .i64 v0] W fun e w' => e = .returned (.int .i64 kk) ∧ W = w' from by have := rwhich_any v0 W; rw [hw] at this; exact this)
      have HI := Lib.hid (show Calls Tryd.prog 55 #[.slice (some ⟨wr.heap.size, 0, none⟩) 3 3] (wr.alloc (.cells #[.int .i64 cr, .int .i64 cg, .int .i64 cb] 3)).drew fun e w' => e = .returned (.bool true) ∧ (wr.alloc (.cells #[.int .i64 cr, .int .i64 cg, .int .i64 cb] 3)).drew = w' from by
        have h := rwithin_any (some ⟨wr.heap.size, 0, none⟩) 3 3 [cr, cg, cb] (wr.alloc (.cells #[.int .i64 cr, .int .i64 cg, .int .i64 cb] 3)).drew rfl (Par.Rd.lit wr.drew [.int .i64 cr, .int .i64 cg, .int .i64 cb] 3) (by decide)
        rw [show [cr, cg, cb].all inB = true by simp only [List.all_cons, List.all_nil, Bool.and_true, ← Bool.and_assoc, hp]] at h
        exact h)
      have G3 : wr.drew.cell? ⟨aw.block, aw.off + 1, none⟩ = some (.int .i64 2) ∧ wr.drew.cell? ⟨aw.block, aw.off + 2, none⟩ = some (.int .i64 cr) ∧ wr.drew.cell? ⟨aw.block, aw.off + 3, none⟩ = some (.int .i64 cg) ∧ wr.drew.cell? ⟨aw.block, aw.off + 4, none⟩ = some (.int .i64 cb) := ⟨(World.cell?_drew _ _).trans hc1, (World.cell?_drew _ _).trans hc2, (World.cell?_drew _ _).trans hc3, (World.cell?_drew _ _).trans hc4⟩
      have hb5 : Below wr.drew.heap.size wr.drew (wr.alloc (.cells #[.int .i64 cr, .int .i64 cg, .int .i64 cb] 3)).drew := below_box wr.drew (.cells #[.int .i64 cr, .int .i64 cg, .int .i64 cb] 3)
      have GS : (wr.alloc (.cells #[.int .i64 cr, .int .i64 cg, .int .i64 cb] 3)).drew.cell? ⟨aw.block, aw.off + 1, none⟩ = some (.int .i64 2) ∧ (wr.alloc (.cells #[.int .i64 cr, .int .i64 cg, .int .i64 cb] 3)).drew.cell? ⟨aw.block, aw.off + 2, none⟩ = some (.int .i64 cr) ∧ (wr.alloc (.cells #[.int .i64 cr, .int .i64 cg, .int .i64 cb] 3)).drew.cell? ⟨aw.block, aw.off + 3, none⟩ = some (.int .i64 cg) ∧ (wr.alloc (.cells #[.int .i64 cr, .int .i64 cg, .int .i64 cb] 3)).drew.cell? ⟨aw.block, aw.off + 4, none⟩ = some (.int .i64 cb) := ⟨(hb5.cell (p := ⟨aw.block, aw.off + 1, none⟩) hlt0).trans G3.1, (hb5.cell (p := ⟨aw.block, aw.off + 2, none⟩) hlt0).trans G3.2.1, (hb5.cell (p := ⟨aw.block, aw.off + 3, none⟩) hlt0).trans G3.2.2.1, (hb5.cell (p := ⟨aw.block, aw.off + 4, none⟩) hlt0).trans G3.2.2.2⟩
      have HX6 := Lib.hid (HX.out.drew.keep hb5)
      have HB6 := Lib.hid (Par.up HBr.out.drew hb5)
      have hl6 : aw.block < (wr.alloc (.cells #[.int .i64 cr, .int .i64 cg, .int .i64 cb] 3)).drew.heap.size := by show aw.block < (wr.alloc (.cells #[.int .i64 cr, .int .i64 cg, .int .i64 cb] 3)).heap.size; rw [World.size_alloc]; exact Nat.lt_succ_of_lt hlt0
      have hown := own_lo HO.out
      have hne : ¬ w.heap.size = aw.block := by have := hown aw.block (by rfl); omega
      have HF := Lib.hid (fun z => cells_far 39 kk 0 2 z ⟨#[]⟩ aw.block w.heap.size hne)
      clear hb5 hown
      have hpqr : inB cr = true ∧ inB cg = true ∧ inB cb = true := by simp only [Bool.and_eq_true] at hp; exact ⟨hp.1.1, hp.1.2, hp.2⟩
      have HG := Lib.hid (fun W => rgb_any kk cr cg cb (in_of hpqr.1) (in_of hpqr.2.1) (in_of hpqr.2.2) W)
      unfold qV rgbQ cq at HG
      obtain ⟨z, hz⟩ : ∃ z, z = cr * 65536 + cg * 256 + cb := ⟨_, rfl⟩
      rw [← hz] at HG
      have HZ := Lib.hid hz
      clear hz hpqr hp hv
      rcases Nat.lt_or_ge k n with hkn | hkn
      · obtain ⟨p, hp, hp1⟩ := vals_end l (by rw [← HM.out, ← HN.out]; exact hkn)
        rw [← HM.out] at hp
        obtain ⟨ad, u, hA, hlt, hc, hri⟩ := item_i HR.out hp
        obtain ⟨au, cu, hu, -, -⟩ := cells_of hri p.length rfl (HL.out.six p (List.mem_of_getElem? hp)).1
        subst hu
        subst hA
        have d0 := (HBr.out.cell (p := ad.add k) (by rw [Par.add_block]; exact hlt)).trans hc
        have i1 : (k : Int) < (n : Int) := by omega
        have i2 : (0 : Int) ≤ (k : Int) := by omega
        have i3 : ((p.length : Int) == 1) = false := by simp; omega
        generalize p.length = pn at d0 i3
        clear hp hp1 hc hri hlt
        go_upto_region 10 with (go_at_call 54; refine (HW.out _).mono ?_; rintro e w2 ⟨rfl, rfl⟩)
        clear hc0 hc1 hc2 hc3 hc4
        go_region_held3 (fun W => W.cell? ⟨aw.block, aw.off + 1, none⟩ = some (.int .i64 2) ∧ W.cell? ⟨aw.block, aw.off + 2, none⟩ = some (.int .i64 cr) ∧ W.cell? ⟨aw.block, aw.off + 3, none⟩ = some (.int .i64 cg) ∧ W.cell? ⟨aw.block, aw.off + 4, none⟩ = some (.int .i64 cb)) (first | (with_reducible exact G3) | (with_reducible exact GS)) ((go_at_call 55; refine HI.out.mono ?_; rintro e w3 ⟨rfl, rfl⟩))
        go_upto_region 11 with fail
        clear G3 HI
        generalize (wr.alloc (.cells #[.int .i64 cr, .int .i64 cg, .int .i64 cb] 3)).drew = w6 at GS HX6 HB6 hl6 ⊢
        have G4 : w6.drew.cell? ⟨aw.block, aw.off + 1, none⟩ = some (.int .i64 2) ∧ w6.drew.cell? ⟨aw.block, aw.off + 2, none⟩ = some (.int .i64 cr) ∧ w6.drew.cell? ⟨aw.block, aw.off + 3, none⟩ = some (.int .i64 cg) ∧ w6.drew.cell? ⟨aw.block, aw.off + 4, none⟩ = some (.int .i64 cb) := ⟨(World.cell?_drew _ _).trans GS.1, (World.cell?_drew _ _).trans GS.2.1, (World.cell?_drew _ _).trans GS.2.2.1, (World.cell?_drew _ _).trans GS.2.2.2⟩
        go_region_held3 (fun W => W.cell? ⟨aw.block, aw.off + 1, none⟩ = some (.int .i64 2) ∧ W.cell? ⟨aw.block, aw.off + 2, none⟩ = some (.int .i64 cr) ∧ W.cell? ⟨aw.block, aw.off + 3, none⟩ = some (.int .i64 cg) ∧ W.cell? ⟨aw.block, aw.off + 4, none⟩ = some (.int .i64 cb)) (first | (with_reducible exact G4) | (with_reducible exact G5) | (with_reducible exact G6)) ((go_at_call 57; refine (HG.out _).mono ?_; rintro e w7 ⟨rfl, hb7⟩; have HX7 := Lib.hid (HX6.out.drew.keep hb7); have HB7 := Lib.hid (Par.up HB6.out.drew hb7); have G5 : w7.cell? ⟨aw.block, aw.off + 1, none⟩ = some (.int .i64 2) ∧ w7.cell? ⟨aw.block, aw.off + 2, none⟩ = some (.int .i64 cr) ∧ w7.cell? ⟨aw.block, aw.off + 3, none⟩ = some (.int .i64 cg) ∧ w7.cell? ⟨aw.block, aw.off + 4, none⟩ = some (.int .i64 cb) := ⟨(hb7.cell (p := ⟨aw.block, aw.off + 1, none⟩) hl6).trans G4.1, (hb7.cell (p := ⟨aw.block, aw.off + 2, none⟩) hl6).trans G4.2.1, (hb7.cell (p := ⟨aw.block, aw.off + 3, none⟩) hl6).trans G4.2.2.1, (hb7.cell (p := ⟨aw.block, aw.off + 4, none⟩) hl6).trans G4.2.2.2⟩; have G6 := And.intro ((HF.out z w7 (aw.off + 1)).trans G5.1) (And.intro ((HF.out z w7 (aw.off + 2)).trans G5.2.1) (And.intro ((HF.out z w7 (aw.off + 3)).trans G5.2.2.1) ((HF.out z w7 (aw.off + 4)).trans G5.2.2.2))); have x0 := HX7.out.cell 0 _ rfl; have f0 := HX7.out.free 0 (by show 0 < 6; decide); have x1 := HX7.out.cell 1 _ rfl; have f1 := HX7.out.free 1 (by show 1 < 6; decide); have x2 := HX7.out.cell 2 _ rfl; have f2 := HX7.out.free 2 (by show 2 < 6; decide); have x3 := HX7.out.cell 3 _ rfl; have f3 := HX7.out.free 3 (by show 3 < 6; decide); have x4 := HX7.out.cell 4 _ rfl; have f4 := HX7.out.free 4 (by show 4 < 6; decide); have x5 := HX7.out.cell 5 _ rfl; have f5 := HX7.out.free 5 (by show 5 < 6; decide)))
        go_wp2_with fail
        refine bodyPost_ret (ret_cell3 rfl _ _ ⟨w.heap.size, 0, none⟩ _ rfl (put_c6 _ _ _ _ _ _ HX7.out)) rfl ?_
        refine ⟨?_, below_c6 _ _ _ _ _ _ _ HB7.out (Nat.le_refl _)⟩
        show _ = Ending.returned (.tuple #[.agg #[.int .i64 39, .int .i64 kk, .int .i64 0, .int .i64 2, .int .i64 (cr * 65536 + cg * 256 + cb), .string ⟨#[]⟩], .bool true, .int .i64 5])
        rw [← HZ.out]
        rfl
      · have i1 : ¬ (k : Int) < (n : Int) := by omega
        go_upto_region 10 with (go_at_call 54; refine (HW.out _).mono ?_; rintro e w2 ⟨rfl, rfl⟩)
        clear hc0 hc1 hc2 hc3 hc4
        go_region_held3 (fun W => W.cell? ⟨aw.block, aw.off + 1, none⟩ = some (.int .i64 2) ∧ W.cell? ⟨aw.block, aw.off + 2, none⟩ = some (.int .i64 cr) ∧ W.cell? ⟨aw.block, aw.off + 3, none⟩ = some (.int .i64 cg) ∧ W.cell? ⟨aw.block, aw.off + 4, none⟩ = some (.int .i64 cb)) (first | (with_reducible exact G3) | (with_reducible exact GS)) ((go_at_call 55; refine HI.out.mono ?_; rintro e w3 ⟨rfl, rfl⟩))
        go_upto_region 11 with fail
        clear G3 HI
        generalize (wr.alloc (.cells #[.int .i64 cr, .int .i64 cg, .int .i64 cb] 3)).drew = w6 at GS HX6 HB6 hl6 ⊢
        have G4 : w6.drew.cell? ⟨aw.block, aw.off + 1, none⟩ = some (.int .i64 2) ∧ w6.drew.cell? ⟨aw.block, aw.off + 2, none⟩ = some (.int .i64 cr) ∧ w6.drew.cell? ⟨aw.block, aw.off + 3, none⟩ = some (.int .i64 cg) ∧ w6.drew.cell? ⟨aw.block, aw.off + 4, none⟩ = some (.int .i64 cb) := ⟨(World.cell?_drew _ _).trans GS.1, (World.cell?_drew _ _).trans GS.2.1, (World.cell?_drew _ _).trans GS.2.2.1, (World.cell?_drew _ _).trans GS.2.2.2⟩
        go_region_held3 (fun W => W.cell? ⟨aw.block, aw.off + 1, none⟩ = some (.int .i64 2) ∧ W.cell? ⟨aw.block, aw.off + 2, none⟩ = some (.int .i64 cr) ∧ W.cell? ⟨aw.block, aw.off + 3, none⟩ = some (.int .i64 cg) ∧ W.cell? ⟨aw.block, aw.off + 4, none⟩ = some (.int .i64 cb)) (first | (with_reducible exact G4) | (with_reducible exact G5) | (with_reducible exact G6)) ((go_at_call 57; refine (HG.out _).mono ?_; rintro e w7 ⟨rfl, hb7⟩; have HX7 := Lib.hid (HX6.out.drew.keep hb7); have HB7 := Lib.hid (Par.up HB6.out.drew hb7); have G5 : w7.cell? ⟨aw.block, aw.off + 1, none⟩ = some (.int .i64 2) ∧ w7.cell? ⟨aw.block, aw.off + 2, none⟩ = some (.int .i64 cr) ∧ w7.cell? ⟨aw.block, aw.off + 3, none⟩ = some (.int .i64 cg) ∧ w7.cell? ⟨aw.block, aw.off + 4, none⟩ = some (.int .i64 cb) := ⟨(hb7.cell (p := ⟨aw.block, aw.off + 1, none⟩) hl6).trans G4.1, (hb7.cell (p := ⟨aw.block, aw.off + 2, none⟩) hl6).trans G4.2.1, (hb7.cell (p := ⟨aw.block, aw.off + 3, none⟩) hl6).trans G4.2.2.1, (hb7.cell (p := ⟨aw.block, aw.off + 4, none⟩) hl6).trans G4.2.2.2⟩; have G6 := And.intro ((HF.out z w7 (aw.off + 1)).trans G5.1) (And.intro ((HF.out z w7 (aw.off + 2)).trans G5.2.1) (And.intro ((HF.out z w7 (aw.off + 3)).trans G5.2.2.1) ((HF.out z w7 (aw.off + 4)).trans G5.2.2.2))); have x0 := HX7.out.cell 0 _ rfl; have f0 := HX7.out.free 0 (by show 0 < 6; decide); have x1 := HX7.out.cell 1 _ rfl; have f1 := HX7.out.free 1 (by show 1 < 6; decide); have x2 := HX7.out.cell 2 _ rfl; have f2 := HX7.out.free 2 (by show 2 < 6; decide); have x3 := HX7.out.cell 3 _ rfl; have f3 := HX7.out.free 3 (by show 3 < 6; decide); have x4 := HX7.out.cell 4 _ rfl; have f4 := HX7.out.free 4 (by show 4 < 6; decide); have x5 := HX7.out.cell 5 _ rfl; have f5 := HX7.out.free 5 (by show 5 < 6; decide)))
        go_wp2_with fail
        refine bodyPost_ret (ret_cell3 rfl _ _ ⟨w.heap.size, 0, none⟩ _ rfl (put_c6 _ _ _ _ _ _ HX7.out)) rfl ?_
        refine ⟨?_, below_c6 _ _ _ _ _ _ _ HB7.out (Nat.le_refl _)⟩
        show _ = Ending.returned (.tuple #[.agg #[.int .i64 39, .int .i64 kk, .int .i64 0, .int .i64 2, .int .i64 (cr * 65536 + cg * 256 + cb), .string ⟨#[]⟩], .bool true, .int .i64 5])
        rw [← HZ.out]
        rfl
set_option maxRecDepth 100000 in
set_option maxHeartbeats 8000000 in
/-- three numbers, none -/
theorem rfront_e (v : Value) (l : List (List Int)) (w : World) (h : FrL w v l) (v0 cr cg cb kk : Int) (vt : List Int)  (hv : valsV l = v0 :: 2 :: cr :: cg :: cb :: vt) (hw : whV v0 = kk) (hk0 : 0 ≤ kk) (hp : (inB cr && inB cg && inB cb) = false) : Calls Tryd.prog 33 #[v] w (FrPost w (none, min 5 l.length)) := by
  have hbs : ∀ z ∈ valsV l, 0 ≤ z ∧ z ≤ 9999 := vals_pos l (fun p hp z hz => (h.lo p hp z hz).2)
  obtain ⟨A, c, rfl⟩ := h.rl.form
  obtain ⟨n, hn⟩ : ∃ n, n = l.length := ⟨_, rfl⟩
  have hn1 : 1 ≤ n := by rw [hn]; exact h.one
  have hn16 : n ≤ 16 := by rw [hn]; exact h.le
  obtain ⟨m, hm⟩ : ∃ m, m = (valsV l).length := ⟨_, rfl⟩
  have hmn : m ≤ n := by rw [hm, hn]; exact vals_le l
  rw [← hn]
  have HR := Lib.hid (show Par.RL w (.slice A n c) l by rw [hn]; exact h.rl)
  have HN := Lib.hid hn
  have HM := Lib.hid hm
  have HL := Lib.hid h
  have HV := Lib.hid hbs
  clear hn hm h hbs
  obtain ⟨t0, hi0, hz0, hz1, hz2⟩ := info_parts Par.infoI
  have S0 := Lib.hid (And.intro hi0 (And.intro hz0 (And.intro hz1 hz2)))
  clear hi0 hz0 hz1 hz2
  have HX0 := Lib.hid (show Sty.Box (w.alloc (.cells #[.int .i64 0, .int .i64 0, .int .i64 0, .int .i64 0, .int .i64 0, .string ⟨#[]⟩] 48)) w.heap.size (Sty.cP zP) from Sty.Box.new w _ _)
  have HB0 := Lib.hid (below_box w (.cells #[.int .i64 0, .int .i64 0, .int .i64 0, .int .i64 0, .int .i64 0, .string ⟨#[]⟩] 48))
  go_enter Tryd.func33, Tryd.ntmps33
  go_upto_region 1 with fail
  generalize w.alloc (.cells #[.int .i64 0, .int .i64 0, .int .i64 0, .int .i64 0, .int .i64 0, .string ⟨#[]⟩] 48) = w0 at HX0 HB0 ⊢
  have hsz0 : w.heap.size < w0.heap.size := HX0.out.1
  go_wp2_with fail
  go_loopw [5, 6] (fun vv iv wr => ∃ k : Nat, k ≤ m ∧ iv = .int .i64 k ∧ Hid (wr.ownsRow w0.heap.size 3 1 vv k (cI ((valsV l).take k)) ∧ Below w0.heap.size w0 wr)) (fun _ iv _ => m - (intOf iv).toNat)
  case atStart => exact ⟨0, Nat.zero_le _, rfl, World.ownsRow_nil _ _ _ _, Below.refl _ _⟩
  case round =>
    obtain ⟨k, hk, rfl, hid⟩ := hrel
    obtain ⟨AV, cv, hsh, _, _⟩ := own_slice hid.out.1
    subst hsh
    have hszr := hid.out.2.size
    by_cases hkm : k < m
    · obtain ⟨z, hz⟩ : ∃ z, (valsV l)[k]? = some z := ⟨_, List.getElem?_eq_getElem (by have := HM.out; omega)⟩
      obtain ⟨x, hx, hzx⟩ := vals_at l k z hz
      obtain ⟨ad, u, rfl, hlt, hc, hri⟩ := item_i HR.out hx
      obtain ⟨au, cu, hu, hult, huc⟩ := cells_of hri 1 rfl (Nat.le_refl _)
      subst hu
      have hb := Par.up HB0.out hid.out.2
      have d0 := (hb.cell (p := ad.add k) (by rw [Par.add_block]; exact hlt)).trans hc
      have huc0 := huc 0 x rfl
      rw [add_nil] at huc0
      have d1 := (hb.cell (p := au) hult).trans huc0
      have i1 : (k : Int) < (n : Int) := by omega
      have i2 : (0 : Int) ≤ (k : Int) := by omega
      have HZ := Lib.hid hz
      have hmx : max 0 x = z := hzx.symm
      have HO := Lib.hid hid.out.1
      have HB := Lib.hid hid.out.2
      obtain ⟨hi0, hz0, hz1, hz2⟩ := S0.out
      clear hz hzx hc hri huc huc0 hult hlt hid hb
      go_wp2_with (at_builtin; refine wpList_app _ rfl _ _ 39 rfl w0.heap.size 3 t0 _ 8 Tryd.underlying39 hi0 hz0 hz1 hz2 rfl _ k (cI ((valsV l).take k)) rfl (own_below HO.out (below_box _ _)) (some ⟨wr.heap.size, 0, none⟩) 1 1 [.int .i64 z] rfl rfl (Rd.one _ _ _) (by intro u hu; simp at hu; subst hu; rfl) (by omega) (by decide) (by rw [World.size_alloc]; omega) ?_; intro v' w' hown hgrow hat; refine Hid.out ?_)
      refine Lib.hid ?_
      obtain ⟨A2, c2, hsh2, _, _⟩ := own_slice hown
      subst hsh2
      have G := Lib.hid (show w'.ownsRow w0.heap.size 3 1 (.slice A2 (k + 1) c2) (k + 1) (cI ((valsV l).take (k + 1))) ∧ Below w0.heap.size w0 w' from
        ⟨by rw [List.take_add_one, HZ.out]; show World.ownsRow _ _ _ _ _ _ (cI ((valsV l).take k ++ [z])); rw [cI_append]; exact hown, (HB.out.alloc hszr _).grown hgrow (by rw [World.size_alloc]; omega) (fun q hq => own_lo HO.out q hq)⟩)
      clear hown hgrow hat hi0 hz0 hz1 hz2
      go_wp2
      go_roundw
      case rel => exact ⟨k + 1, by omega, by go_num, G.out⟩
      case measure => simp [intOf]; omega
    · obtain rfl : k = m := by omega
      have HO := Lib.hid (show wr.ownsRow w0.heap.size 3 1 (.slice AV k cv) k (cI (valsV l)) by have := hid.out.1; rw [HM.out, List.take_length] at this; rw [HM.out]; exact this)
      have HBr := Lib.hid (Par.up HB0.out hid.out.2)
      have HX := Lib.hid (HX0.out.keep hid.out.2)
      clear hid
      have hk2 : 2 ≤ k := by rw [HM.out, hv]; simp
      have g2 : (2 : Int) ≤ (k : Int) := by omega
      have hk5 : 5 ≤ k := by rw [HM.out, hv]; simp
      have g5 : (5 : Int) ≤ (k : Int) := by omega
      obtain ⟨aw, hA0, hlt0, hc0⟩ := own_cell HO.out (k := 0) (z := v0) (by rw [hv]; rfl)
      subst hA0
      rw [add_nil] at hc0
      obtain ⟨aw1, hA1, hlt1, hc1⟩ := own_cell HO.out (k := 1) (z := 2) (by rw [hv]; rfl)
      cases hA1
      rw [add_pos aw 1 (by decide)] at hc1
      have q1 : (1 : Int) < (k : Int) := by omega
      have p1 : 1 < k := by omega
      obtain ⟨aw2, hA2, hlt2, hc2⟩ := own_cell HO.out (k := 2) (z := cr) (by rw [hv]; rfl)
      cases hA2
      rw [add_pos aw 2 (by decide)] at hc2
      have q2 : (2 : Int) < (k : Int) := by omega
      have p2 : 2 < k := by omega
      obtain ⟨aw3, hA3, hlt3, hc3⟩ := own_cell HO.out (k := 3) (z := cg) (by rw [hv]; rfl)
      cases hA3
      rw [add_pos aw 3 (by decide)] at hc3
      have q3 : (3 : Int) < (k : Int) := by omega
      have p3 : 3 < k := by omega
      obtain ⟨aw4, hA4, hlt4, hc4⟩ := own_cell HO.out (k := 4) (z := cb) (by rw [hv]; rfl)
      cases hA4
      rw [add_pos aw 4 (by decide)] at hc4
      have q4 : (4 : Int) < (k : Int) := by omega
      have p4 : 4 < k := by omega
      have q0 : (0 : Int) < (k : Int) := by omega
      have p0 : 0 < k := by omega
      have HW := Lib.hid (fun W => show Calls Tryd.prog 54 #[.int .i64 v0] W fun e w' => e = .returned (.int .i64 kk) ∧ W = w' from by have := rwhich_any v0 W; rw [hw] at this; exact this)
      have HI := Lib.hid (show Calls Tryd.prog 55 #[.slice (some ⟨wr.heap.size, 0, none⟩) 3 3] (wr.alloc (.cells #[.int .i64 cr, .int .i64 cg, .int .i64 cb] 3)).drew fun e w' => e = .returned (.bool false) ∧ (wr.alloc (.cells #[.int .i64 cr, .int .i64 cg, .int .i64 cb] 3)).drew = w' from by
        have h := rwithin_any (some ⟨wr.heap.size, 0, none⟩) 3 3 [cr, cg, cb] (wr.alloc (.cells #[.int .i64 cr, .int .i64 cg, .int .i64 cb] 3)).drew rfl (Par.Rd.lit wr.drew [.int .i64 cr, .int .i64 cg, .int .i64 cb] 3) (by decide)
        rw [show [cr, cg, cb].all inB = false by simp only [List.all_cons, List.all_nil, Bool.and_true, ← Bool.and_assoc, hp]] at h
        exact h)
      have G3 : wr.drew.cell? ⟨aw.block, aw.off + 1, none⟩ = some (.int .i64 2) ∧ wr.drew.cell? ⟨aw.block, aw.off + 2, none⟩ = some (.int .i64 cr) ∧ wr.drew.cell? ⟨aw.block, aw.off + 3, none⟩ = some (.int .i64 cg) ∧ wr.drew.cell? ⟨aw.block, aw.off + 4, none⟩ = some (.int .i64 cb) := ⟨(World.cell?_drew _ _).trans hc1, (World.cell?_drew _ _).trans hc2, (World.cell?_drew _ _).trans hc3, (World.cell?_drew _ _).trans hc4⟩
      have hb5 : Below wr.drew.heap.size wr.drew (wr.alloc (.cells #[.int .i64 cr, .int .i64 cg, .int .i64 cb] 3)).drew := below_box wr.drew (.cells #[.int .i64 cr, .int .i64 cg, .int .i64 cb] 3)
      have GS : (wr.alloc (.cells #[.int .i64 cr, .int .i64 cg, .int .i64 cb] 3)).drew.cell? ⟨aw.block, aw.off + 1, none⟩ = some (.int .i64 2) ∧ (wr.alloc (.cells #[.int .i64 cr, .int .i64 cg, .int .i64 cb] 3)).drew.cell? ⟨aw.block, aw.off + 2, none⟩ = some (.int .i64 cr) ∧ (wr.alloc (.cells #[.int .i64 cr, .int .i64 cg, .int .i64 cb] 3)).drew.cell? ⟨aw.block, aw.off + 3, none⟩ = some (.int .i64 cg) ∧ (wr.alloc (.cells #[.int .i64 cr, .int .i64 cg, .int .i64 cb] 3)).drew.cell? ⟨aw.block, aw.off + 4, none⟩ = some (.int .i64 cb) := ⟨(hb5.cell (p := ⟨aw.block, aw.off + 1, none⟩) hlt0).trans G3.1, (hb5.cell (p := ⟨aw.block, aw.off + 2, none⟩) hlt0).trans G3.2.1, (hb5.cell (p := ⟨aw.block, aw.off + 3, none⟩) hlt0).trans G3.2.2.1, (hb5.cell (p := ⟨aw.block, aw.off + 4, none⟩) hlt0).trans G3.2.2.2⟩
      have HX6 := Lib.hid (HX.out.drew.keep hb5)
      have HB6 := Lib.hid (Par.up HBr.out.drew hb5)
      have hl6 : aw.block < (wr.alloc (.cells #[.int .i64 cr, .int .i64 cg, .int .i64 cb] 3)).drew.heap.size := by show aw.block < (wr.alloc (.cells #[.int .i64 cr, .int .i64 cg, .int .i64 cb] 3)).heap.size; rw [World.size_alloc]; exact Nat.lt_succ_of_lt hlt0
      have hown := own_lo HO.out
      have hne : ¬ w.heap.size = aw.block := by have := hown aw.block (by rfl); omega
      have HF := Lib.hid (fun z => cells_far 39 kk 0 2 z ⟨#[]⟩ aw.block w.heap.size hne)
      clear hb5 hown
      clear hp hv
      rcases Nat.lt_or_ge k n with hkn | hkn
      · obtain ⟨p, hp, hp1⟩ := vals_end l (by rw [← HM.out, ← HN.out]; exact hkn)
        rw [← HM.out] at hp
        obtain ⟨ad, u, hA, hlt, hc, hri⟩ := item_i HR.out hp
        obtain ⟨au, cu, hu, -, -⟩ := cells_of hri p.length rfl (HL.out.six p (List.mem_of_getElem? hp)).1
        subst hu
        subst hA
        have d0 := (HBr.out.cell (p := ad.add k) (by rw [Par.add_block]; exact hlt)).trans hc
        have i1 : (k : Int) < (n : Int) := by omega
        have i2 : (0 : Int) ≤ (k : Int) := by omega
        have i3 : ((p.length : Int) == 1) = false := by simp; omega
        generalize p.length = pn at d0 i3
        clear hp hp1 hc hri hlt
        go_upto_region 10 with (go_at_call 54; refine (HW.out _).mono ?_; rintro e w2 ⟨rfl, rfl⟩)
        clear hc0 hc1 hc2 hc3 hc4
        go_region_held3 (fun W => W.cell? ⟨aw.block, aw.off + 1, none⟩ = some (.int .i64 2) ∧ W.cell? ⟨aw.block, aw.off + 2, none⟩ = some (.int .i64 cr) ∧ W.cell? ⟨aw.block, aw.off + 3, none⟩ = some (.int .i64 cg) ∧ W.cell? ⟨aw.block, aw.off + 4, none⟩ = some (.int .i64 cb)) (first | (with_reducible exact G3) | (with_reducible exact GS)) ((go_at_call 55; refine HI.out.mono ?_; rintro e w3 ⟨rfl, rfl⟩))
        have e1 := GS.1
        clear G3 HI GS
        go_upto_region 12 with fail
        generalize (wr.alloc (.cells #[.int .i64 cr, .int .i64 cg, .int .i64 cb] 3)).drew = w6 at e1 HX6 HB6 hl6 ⊢
        have x0 := HX6.out.cell 0 _ rfl
        have f0 := HX6.out.free 0 (by show 0 < 6; decide)
        have x1 := HX6.out.cell 1 _ rfl
        have f1 := HX6.out.free 1 (by show 1 < 6; decide)
        have x2 := HX6.out.cell 2 _ rfl
        have f2 := HX6.out.free 2 (by show 2 < 6; decide)
        have x3 := HX6.out.cell 3 _ rfl
        have f3 := HX6.out.free 3 (by show 3 < 6; decide)
        have x4 := HX6.out.cell 4 _ rfl
        have f4 := HX6.out.free 4 (by show 4 < 6; decide)
        have x5 := HX6.out.cell 5 _ rfl
        have f5 := HX6.out.free 5 (by show 5 < 6; decide)
        go_wp2_with fail
        refine bodyPost_ret (ret_cell3 rfl _ _ ⟨w.heap.size, 0, none⟩ _ rfl (load_c6 (Sty.put6 w6 w.heap.size ⟨0, 0, 0, 0, 0, ⟨#[]⟩⟩ zP HX6.out))) rfl ?_
        refine ⟨?_, (below_c6 _ 0 0 0 0 0 ⟨#[]⟩ HB6.out (Nat.le_refl _))⟩
        show _ = Ending.returned (.tuple #[zA, .bool false, .int .i64 ((min 5 n : Nat) : Int)])
        rw [show ((min 5 n : Nat) : Int) = min 5 (n : Int) by omega]
        rfl
      · have i1 : ¬ (k : Int) < (n : Int) := by omega
        go_upto_region 10 with (go_at_call 54; refine (HW.out _).mono ?_; rintro e w2 ⟨rfl, rfl⟩)
        clear hc0 hc1 hc2 hc3 hc4
        go_region_held3 (fun W => W.cell? ⟨aw.block, aw.off + 1, none⟩ = some (.int .i64 2) ∧ W.cell? ⟨aw.block, aw.off + 2, none⟩ = some (.int .i64 cr) ∧ W.cell? ⟨aw.block, aw.off + 3, none⟩ = some (.int .i64 cg) ∧ W.cell? ⟨aw.block, aw.off + 4, none⟩ = some (.int .i64 cb)) (first | (with_reducible exact G3) | (with_reducible exact GS)) ((go_at_call 55; refine HI.out.mono ?_; rintro e w3 ⟨rfl, rfl⟩))
        have e1 := GS.1
        clear G3 HI GS
        go_upto_region 12 with fail
        generalize (wr.alloc (.cells #[.int .i64 cr, .int .i64 cg, .int .i64 cb] 3)).drew = w6 at e1 HX6 HB6 hl6 ⊢
        have x0 := HX6.out.cell 0 _ rfl
        have f0 := HX6.out.free 0 (by show 0 < 6; decide)
        have x1 := HX6.out.cell 1 _ rfl
        have f1 := HX6.out.free 1 (by show 1 < 6; decide)
        have x2 := HX6.out.cell 2 _ rfl
        have f2 := HX6.out.free 2 (by show 2 < 6; decide)
        have x3 := HX6.out.cell 3 _ rfl
        have f3 := HX6.out.free 3 (by show 3 < 6; decide)
        have x4 := HX6.out.cell 4 _ rfl
        have f4 := HX6.out.free 4 (by show 4 < 6; decide)
        have x5 := HX6.out.cell 5 _ rfl
        have f5 := HX6.out.free 5 (by show 5 < 6; decide)
        go_wp2_with fail
        refine bodyPost_ret (ret_cell3 rfl _ _ ⟨w.heap.size, 0, none⟩ _ rfl (load_c6 (Sty.put6 w6 w.heap.size ⟨0, 0, 0, 0, 0, ⟨#[]⟩⟩ zP HX6.out))) rfl ?_
        refine ⟨?_, (below_c6 _ 0 0 0 0 0 ⟨#[]⟩ HB6.out (Nat.le_refl _))⟩
        show _ = Ending.returned (.tuple #[zA, .bool false, .int .i64 ((min 5 n : Nat) : Int)])
        rw [show ((min 5 n : Nat) : Int) = min 5 (n : Int) by omega]
        rfl
set_option maxRecDepth 100000 in
set_option maxHeartbeats 8000000 in
/-- 2 and less than three numbers -/
theorem rfront_f (v : Value) (l : List (List Int)) (w : World) (h : FrL w v l) (v0 kk : Int) (vt : List Int)  (hv : valsV l = v0 :: 2 :: vt) (hvt : vt.length < 3) (hw : whV v0 = kk) (hk0 : 0 ≤ kk) : Calls Tryd.prog 33 #[v] w (FrPost w (none, min 5 l.length)) := by
  have hbs : ∀ z ∈ valsV l, 0 ≤ z ∧ z ≤ 9999 := vals_pos l (fun p hp z hz => (h.lo p hp z hz).2)
  obtain ⟨A, c, rfl⟩ := h.rl.form
  obtain ⟨n, hn⟩ : ∃ n, n = l.length := ⟨_, rfl⟩
  have hn1 : 1 ≤ n := by rw [hn]; exact h.one
  have hn16 : n ≤ 16 := by rw [hn]; exact h.le
  obtain ⟨m, hm⟩ : ∃ m, m = (valsV l).length := ⟨_, rfl⟩
  have hmn : m ≤ n := by rw [hm, hn]; exact vals_le l
  rw [← hn]
  have HR := Lib.hid (show Par.RL w (.slice A n c) l by rw [hn]; exact h.rl)
  have HN := Lib.hid hn
  have HM := Lib.hid hm
  have HL := Lib.hid h
  have HV := Lib.hid hbs
  clear hn hm h hbs
  obtain ⟨t0, hi0, hz0, hz1, hz2⟩ := info_parts Par.infoI
  have S0 := Lib.hid (And.intro hi0 (And.intro hz0 (And.intro hz1 hz2)))
  clear hi0 hz0 hz1 hz2
  have HX0 := Lib.hid (show Sty.Box (w.alloc (.cells #[.int .i64 0, .int .i64 0, .int .i64 0, .int .i64 0, .int .i64 0, .string ⟨#[]⟩] 48)) w.heap.size (Sty.cP zP) from Sty.Box.new w _ _)
  have HB0 := Lib.hid (below_box w (.cells #[.int .i64 0, .int .i64 0, .int .i64 0, .int .i64 0, .int .i64 0, .string ⟨#[]⟩] 48))
  go_enter Tryd.func33, Tryd.ntmps33
  go_upto_region 1 with fail
  generalize w.alloc (.cells #[.int .i64 0, .int .i64 0, .int .i64 0, .int .i64 0, .int .i64 0, .string ⟨#[]⟩] 48) = w0 at HX0 HB0 ⊢
  have hsz0 : w.heap.size < w0.heap.size := HX0.out.1
  go_wp2_with fail
  go_loopw [5, 6] (fun vv iv wr => ∃ k : Nat, k ≤ m ∧ iv = .int .i64 k ∧ Hid (wr.ownsRow w0.heap.size 3 1 vv k (cI ((valsV l).take k)) ∧ Below w0.heap.size w0 wr)) (fun _ iv _ => m - (intOf iv).toNat)
  case atStart => exact ⟨0, Nat.zero_le _, rfl, World.ownsRow_nil _ _ _ _, Below.refl _ _⟩
  case round =>
    obtain ⟨k, hk, rfl, hid⟩ := hrel
    obtain ⟨AV, cv, hsh, _, _⟩ := own_slice hid.out.1
    subst hsh
    have hszr := hid.out.2.size
    by_cases hkm : k < m
    · obtain ⟨z, hz⟩ : ∃ z, (valsV l)[k]? = some z := ⟨_, List.getElem?_eq_getElem (by have := HM.out; omega)⟩
      obtain ⟨x, hx, hzx⟩ := vals_at l k z hz
      obtain ⟨ad, u, rfl, hlt, hc, hri⟩ := item_i HR.out hx
      obtain ⟨au, cu, hu, hult, huc⟩ := cells_of hri 1 rfl (Nat.le_refl _)
      subst hu
      have hb := Par.up HB0.out hid.out.2
      have d0 := (hb.cell (p := ad.add k) (by rw [Par.add_block]; exact hlt)).trans hc
      have huc0 := huc 0 x rfl
      rw [add_nil] at huc0
      have d1 := (hb.cell (p := au) hult).trans huc0
      have i1 : (k : Int) < (n : Int) := by omega
      have i2 : (0 : Int) ≤ (k : Int) := by omega
      have HZ := Lib.hid hz
      have hmx : max 0 x = z := hzx.symm
      have HO := Lib.hid hid.out.1
      have HB := Lib.hid hid.out.2
      obtain ⟨hi0, hz0, hz1, hz2⟩ := S0.out
      clear hz hzx hc hri huc huc0 hult hlt hid hb
      go_wp2_with (at_builtin; refine wpList_app _ rfl _ _ 39 rfl w0.heap.size 3 t0 _ 8 Tryd.underlying39 hi0 hz0 hz1 hz2 rfl _ k (cI ((valsV l).take k)) rfl (own_below HO.out (below_box _ _)) (some ⟨wr.heap.size, 0, none⟩) 1 1 [.int .i64 z] rfl rfl (Rd.one _ _ _) (by intro u hu; simp at hu; subst hu; rfl) (by omega) (by decide) (by rw [World.size_alloc]; omega) ?_; intro v' w' hown hgrow hat; refine Hid.out ?_)
      refine Lib.hid ?_
      obtain ⟨A2, c2, hsh2, _, _⟩ := own_slice hown
      subst hsh2
      have G := Lib.hid (show w'.ownsRow w0.heap.size 3 1 (.slice A2 (k + 1) c2) (k + 1) (cI ((valsV l).take (k + 1))) ∧ Below w0.heap.size w0 w' from
        ⟨by rw [List.take_add_one, HZ.out]; show World.ownsRow _ _ _ _ _ _ (cI ((valsV l).take k ++ [z])); rw [cI_append]; exact hown, (HB.out.alloc hszr _).grown hgrow (by rw [World.size_alloc]; omega) (fun q hq => own_lo HO.out q hq)⟩)
      clear hown hgrow hat hi0 hz0 hz1 hz2
      go_wp2
      go_roundw
      case rel => exact ⟨k + 1, by omega, by go_num, G.out⟩
      case measure => simp [intOf]; omega
    · obtain rfl : k = m := by omega
      have HO := Lib.hid (show wr.ownsRow w0.heap.size 3 1 (.slice AV k cv) k (cI (valsV l)) by have := hid.out.1; rw [HM.out, List.take_length] at this; rw [HM.out]; exact this)
      have HBr := Lib.hid (Par.up HB0.out hid.out.2)
      have HX := Lib.hid (HX0.out.keep hid.out.2)
      clear hid
      have hk2 : 2 ≤ k := by rw [HM.out, hv]; simp
      have g2 : (2 : Int) ≤ (k : Int) := by omega
      have g3 : ¬ (5 : Int) ≤ (k : Int) := by have := HM.out; rw [hv] at this; simp at this; omega
      have hk234 : k = 2 ∨ k = 3 ∨ k = 4 := by omega
      obtain ⟨aw, hA0, hlt0, hc0⟩ := own_cell HO.out (k := 0) (z := v0) (by rw [hv]; rfl)
      subst hA0
      rw [add_nil] at hc0
      obtain ⟨aw1, hA1, hlt1, hc1⟩ := own_cell HO.out (k := 1) (z := 2) (by rw [hv]; rfl)
      cases hA1
      rw [add_pos aw 1 (by decide)] at hc1
      have q1 : (1 : Int) < (k : Int) := by omega
      have p1 : 1 < k := by omega
      have q0 : (0 : Int) < (k : Int) := by omega
      have p0 : 0 < k := by omega
      have HW := Lib.hid (fun W => show Calls Tryd.prog 54 #[.int .i64 v0] W fun e w' => e = .returned (.int .i64 kk) ∧ W = w' from by have := rwhich_any v0 W; rw [hw] at this; exact this)
      rcases Nat.lt_or_ge k n with hkn | hkn
      · obtain ⟨p, hp, hp1⟩ := vals_end l (by rw [← HM.out, ← HN.out]; exact hkn)
        rw [← HM.out] at hp
        obtain ⟨ad, u, hA, hlt, hc, hri⟩ := item_i HR.out hp
        obtain ⟨au, cu, hu, -, -⟩ := cells_of hri p.length rfl (HL.out.six p (List.mem_of_getElem? hp)).1
        subst hu
        subst hA
        have d0 := (HBr.out.cell (p := ad.add k) (by rw [Par.add_block]; exact hlt)).trans hc
        have i1 : (k : Int) < (n : Int) := by omega
        have i2 : (0 : Int) ≤ (k : Int) := by omega
        have i3 : ((p.length : Int) == 1) = false := by simp; omega
        generalize p.length = pn at d0 i3
        clear hp hp1 hc hri hlt
        go_upto_region 10 with (go_at_call 54; refine (HW.out _).mono ?_; rintro e w2 ⟨rfl, rfl⟩)
        have HX6 := HX
        have HB6 := HBr
        have x0 := HX6.out.cell 0 _ rfl
        have f0 := HX6.out.free 0 (by show 0 < 6; decide)
        have x1 := HX6.out.cell 1 _ rfl
        have f1 := HX6.out.free 1 (by show 1 < 6; decide)
        have x2 := HX6.out.cell 2 _ rfl
        have f2 := HX6.out.free 2 (by show 2 < 6; decide)
        have x3 := HX6.out.cell 3 _ rfl
        have f3 := HX6.out.free 3 (by show 3 < 6; decide)
        have x4 := HX6.out.cell 4 _ rfl
        have f4 := HX6.out.free 4 (by show 4 < 6; decide)
        have x5 := HX6.out.cell 5 _ rfl
        have f5 := HX6.out.free 5 (by show 5 < 6; decide)
        clear hv hvt d0 g3
        rcases hk234 with rfl | rfl | rfl
        · go_region
          go_wp2_with fail
          refine bodyPost_ret (ret_cell3 rfl _ _ ⟨w.heap.size, 0, none⟩ _ rfl (load_c6 (Sty.put6 wr w.heap.size ⟨0, 0, 0, 0, 0, ⟨#[]⟩⟩ zP HX6.out).drew)) rfl ?_
          refine ⟨?_, (below_c6 _ 0 0 0 0 0 ⟨#[]⟩ HB6.out (Nat.le_refl _)).drew⟩
          show _ = Ending.returned (.tuple #[zA, .bool false, .int .i64 ((min 5 n : Nat) : Int)])
          rw [show ((min 5 n : Nat) : Int) = min 5 (n : Int) by omega]
          rfl
        · go_region
          go_wp2_with fail
          refine bodyPost_ret (ret_cell3 rfl _ _ ⟨w.heap.size, 0, none⟩ _ rfl (load_c6 (Sty.put6 wr w.heap.size ⟨0, 0, 0, 0, 0, ⟨#[]⟩⟩ zP HX6.out).drew)) rfl ?_
          refine ⟨?_, (below_c6 _ 0 0 0 0 0 ⟨#[]⟩ HB6.out (Nat.le_refl _)).drew⟩
          show _ = Ending.returned (.tuple #[zA, .bool false, .int .i64 ((min 5 n : Nat) : Int)])
          rw [show ((min 5 n : Nat) : Int) = min 5 (n : Int) by omega]
          rfl
        · go_region
          go_wp2_with fail
          refine bodyPost_ret (ret_cell3 rfl _ _ ⟨w.heap.size, 0, none⟩ _ rfl (load_c6 (Sty.put6 wr w.heap.size ⟨0, 0, 0, 0, 0, ⟨#[]⟩⟩ zP HX6.out).drew)) rfl ?_
          refine ⟨?_, (below_c6 _ 0 0 0 0 0 ⟨#[]⟩ HB6.out (Nat.le_refl _)).drew⟩
          show _ = Ending.returned (.tuple #[zA, .bool false, .int .i64 ((min 5 n : Nat) : Int)])
          rw [show ((min 5 n : Nat) : Int) = min 5 (n : Int) by omega]
          rfl
      · have i1 : ¬ (k : Int) < (n : Int) := by omega
        have d0 := i1
        go_upto_region 10 with (go_at_call 54; refine (HW.out _).mono ?_; rintro e w2 ⟨rfl, rfl⟩)
        have HX6 := HX
        have HB6 := HBr
        have x0 := HX6.out.cell 0 _ rfl
        have f0 := HX6.out.free 0 (by show 0 < 6; decide)
        have x1 := HX6.out.cell 1 _ rfl
        have f1 := HX6.out.free 1 (by show 1 < 6; decide)
        have x2 := HX6.out.cell 2 _ rfl
        have f2 := HX6.out.free 2 (by show 2 < 6; decide)
        have x3 := HX6.out.cell 3 _ rfl
        have f3 := HX6.out.free 3 (by show 3 < 6; decide)
        have x4 := HX6.out.cell 4 _ rfl
        have f4 := HX6.out.free 4 (by show 4 < 6; decide)
        have x5 := HX6.out.cell 5 _ rfl
        have f5 := HX6.out.free 5 (by show 5 < 6; decide)
        clear hv hvt d0 g3
        rcases hk234 with rfl | rfl | rfl
        · go_region
          go_wp2_with fail
          refine bodyPost_ret (ret_cell3 rfl _ _ ⟨w.heap.size, 0, none⟩ _ rfl (load_c6 (Sty.put6 wr w.heap.size ⟨0, 0, 0, 0, 0, ⟨#[]⟩⟩ zP HX6.out).drew)) rfl ?_
          refine ⟨?_, (below_c6 _ 0 0 0 0 0 ⟨#[]⟩ HB6.out (Nat.le_refl _)).drew⟩
          show _ = Ending.returned (.tuple #[zA, .bool false, .int .i64 ((min 5 n : Nat) : Int)])
          rw [show ((min 5 n : Nat) : Int) = min 5 (n : Int) by omega]
          rfl
        · go_region
          go_wp2_with fail
          refine bodyPost_ret (ret_cell3 rfl _ _ ⟨w.heap.size, 0, none⟩ _ rfl (load_c6 (Sty.put6 wr w.heap.size ⟨0, 0, 0, 0, 0, ⟨#[]⟩⟩ zP HX6.out).drew)) rfl ?_
          refine ⟨?_, (below_c6 _ 0 0 0 0 0 ⟨#[]⟩ HB6.out (Nat.le_refl _)).drew⟩
          show _ = Ending.returned (.tuple #[zA, .bool false, .int .i64 ((min 5 n : Nat) : Int)])
          rw [show ((min 5 n : Nat) : Int) = min 5 (n : Int) by omega]
          rfl
        · go_region
          go_wp2_with fail
          refine bodyPost_ret (ret_cell3 rfl _ _ ⟨w.heap.size, 0, none⟩ _ rfl (load_c6 (Sty.put6 wr w.heap.size ⟨0, 0, 0, 0, 0, ⟨#[]⟩⟩ zP HX6.out).drew)) rfl ?_
          refine ⟨?_, (below_c6 _ 0 0 0 0 0 ⟨#[]⟩ HB6.out (Nat.le_refl _)).drew⟩
          show _ = Ending.returned (.tuple #[zA, .bool false, .int .i64 ((min 5 n : Nat) : Int)])
          rw [show ((min 5 n : Nat) : Int) = min 5 (n : Int) by omega]
          rfl
end Go.Proofs.YteepfecplabinaaDoor.Sgr

namespace Go.Proofs.YteepfecplabinaaDoor.Sgr
open Go.RowKit Utf

theorem rfront_any (v : Value) (l : List (List Int)) (w : World) (h : FrL w v l) : Calls Tryd.prog 33 #[v] w (FrPost w (frV l)) := by
  rcases hv : valsV l with _ | ⟨v0, _ | ⟨v1, vt⟩⟩
  · exact rfront_h1 v l w h (by rw [hv]; decide)
  · exact rfront_h1 v l w h (by rw [hv]; simp)
  · by_cases hk : 0 ≤ whV v0
    · by_cases h5 : v1 = 5
      · subst h5
        rcases vt with _ | ⟨v2, vt⟩
        · have e : frV l = (none, min 3 l.length) := by unfold frV; rw [hv]; exact if_pos hk
          rw [e]
          exact rfront_c v l w h v0 _ hv rfl hk
        · cases hp : inB v2 with
          | true =>
            have e : frV l = (some (cq (whV v0) 1 v2), 3) := by unfold frV; rw [hv]; exact (if_pos hk).trans (if_pos hp)
            rw [e]
            exact rfront_a v l w h v0 v2 _ vt hv rfl hk hp
          | false =>
            have e : frV l = (none, min 3 l.length) := by unfold frV; rw [hv]; exact (if_pos hk).trans (if_neg (by rw [hp]; decide))
            rw [e]
            exact rfront_b v l w h v0 v2 _ vt hv rfl hk hp
      · by_cases h2 : v1 = 2
        · subst h2
          rcases vt with _ | ⟨a, _ | ⟨b, _ | ⟨c, vt⟩⟩⟩
          · have e : frV l = (none, min 5 l.length) := by unfold frV; rw [hv]; exact if_pos hk
            rw [e]
            exact rfront_f v l w h v0 _ _ hv (by decide) rfl hk
          · have e : frV l = (none, min 5 l.length) := by unfold frV; rw [hv]; exact if_pos hk
            rw [e]
            exact rfront_f v l w h v0 _ _ hv (by simp) rfl hk
          · have e : frV l = (none, min 5 l.length) := by unfold frV; rw [hv]; exact if_pos hk
            rw [e]
            exact rfront_f v l w h v0 _ _ hv (by simp) rfl hk
          · cases hp : (inB a && inB b && inB c) with
            | true =>
              have hp' : inB a = true ∧ inB b = true ∧ inB c = true := by simp only [Bool.and_eq_true] at hp; exact ⟨hp.1.1, hp.1.2, hp.2⟩
              have e : frV l = (some (rgbQ (whV v0) a b c), 5) := by unfold frV; rw [hv]; exact (if_pos hk).trans (if_pos hp')
              rw [e]
              exact rfront_d v l w h v0 a b c _ vt hv rfl hk hp
            | false =>
              have hp' : ¬ (inB a = true ∧ inB b = true ∧ inB c = true) := by rintro ⟨h1, h2, h3⟩; rw [h1, h2, h3] at hp; cases hp
              have e : frV l = (none, min 5 l.length) := by unfold frV; rw [hv]; exact (if_pos hk).trans (if_neg hp')
              rw [e]
              exact rfront_e v l w h v0 a b c _ vt hv rfl hk hp
        · exact rfront_g v l w h v0 v1 _ vt hv rfl hk h5 h2
    · exact rfront_h2 v l w h v0 v1 vt hv (whV_no hk)
theorem frV_le (l : List (List Int)) (h : l ≠ []) : (frV l).2 ≤ l.length := by
  have hl : 1 ≤ l.length := by cases l with | nil => exact absurd rfl h | cons a t => simp
  have hv := vals_le l
  unfold frV
  repeat' split
  all_goals simp only []
  all_goals first
    | omega
    | (rename_i e _ _; rw [e] at hv; simp only [List.length_cons] at hv; omega)
    | (rename_i e _; rw [e] at hv; simp only [List.length_cons] at hv; omega)
    | (rename_i e _ _ _; rw [e] at hv; simp only [List.length_cons] at hv; omega)
    | skip
set_option maxRecDepth 100000 in
set_option maxHeartbeats 4000000 in
/-- parameters that are not valid -/
theorem rpens_bad (v : Value) (l : List (List Int)) (w : World) (h : Par.RL w v l) (hl : l.length ≤ 1000000) (hb : Par.isBad l = true) : Calls Tryd.prog 14 #[v] w (PensPost w l) := by
  have hc : Par.chkV l = 150 := by unfold Par.chkV; rw [hb]; rfl
  have HK := Lib.hid (Par.rcheck_any v l w h hl)
  rw [hc] at HK
  have HV := Lib.hid (show pensV l = ([], 150) by unfold pensV; rw [hb]; rfl)
  obtain ⟨A, c, rfl⟩ := h.form
  clear h hl hb hc
  generalize l.length = n at HK ⊢
  go_enter Tryd.func14, Tryd.ntmps14
  go_wp2_with (go_at_call 31; refine HK.out.mono ?_; rintro e w1 ⟨rfl, hb1⟩)
  go_ret2
  unfold PensPost
  rw [HV.out]
  exact ⟨_, rfl, own_nil _ _, hb1⟩
set_option maxRecDepth 100000 in
set_option maxHeartbeats 4000000 in
/-- none -/
theorem rpens_nil (v : Value) (w : World) (h : Par.RL w v []) : Calls Tryd.prog 14 #[v] w (PensPost w []) := by
  have HK := Lib.hid (Par.rcheck_any v [] w h (by decide))
  rw [show Par.chkV [] = 0 by decide] at HK
  have HV := Lib.hid (show pensV [] = ([pq 0 0], 0) by decide)
  obtain ⟨A, c, rfl⟩ := h.form
  rw [show ([] : List (List Int)).length = 0 from rfl] at HK ⊢
  clear h
  have HC := Lib.hid (fun W => rpen_any 0 0 W)
  unfold qV pq at HC
  go_enter Tryd.func14, Tryd.ntmps14
  go_wp2_with (first
    | (go_at_call 31; refine HK.out.mono ?_; rintro e w1 ⟨rfl, hb1⟩)
    | (go_at_call 32; refine (HC.out _).mono ?_; rintro e w2 ⟨rfl, hb2⟩))
  go_ret2
  unfold PensPost
  rw [HV.out]
  have hb3 := Par.up hb1 hb2
  exact ⟨_, rfl, Sty.OwnP.new w2 _ hb3.size [pP (pq 0 0)] #[.int .i64 39, .int .i64 0, .int .i64 0, .int .i64 0, .int .i64 0, .string ⟨#[]⟩] rfl (by decide), Par.up hb3 (below_box _ _)⟩
def lenV : Value → Nat
  | .slice _ n _ => n
  | _ => 0
/-- what is left of the parameters, and the pens so far -/
structure PenR (w wr : World) (l : List (List Int)) (lv ov : Value) (k : Nat) (pre : List Q4) : Prop where
  rl : Par.RL w lv (l.drop k)
  own : Sty.OwnP wr w.heap.size ov (pPs pre)
  eq : pensR l = pre ++ pensR (l.drop k)
  le : pre.length ≤ k
  bel : Below w.heap.size w wr
set_option maxRecDepth 100000 in
set_option maxHeartbeats 4000000 in
/-- valid parameters -/
theorem rpens_good (v : Value) (l : List (List Int)) (w : World) (h : Par.RL w v l) (hne : l ≠ []) (hi : Par.isBad l = false) : Calls Tryd.prog 14 #[v] w (PensPost w l) := by
  obtain ⟨hn1, hn2, hn3⟩ := Par.bad_no hi
  have hc0 : Par.chkV l = 0 := by unfold Par.chkV; rw [hi]; rfl
  have HK := Lib.hid (Par.rcheck_any v l w h (by omega))
  rw [hc0] at HK
  have HV := Lib.hid (show pensV l = (pensR l, 0) by unfold pensV; rw [hi, ← pensL_ne l hne]; rfl)
  have HL := Lib.hid h
  obtain ⟨A, c, rfl⟩ := h.form
  obtain ⟨n, hn⟩ : ∃ n, n = l.length := ⟨_, rfl⟩
  have hn0 : n ≠ 0 := by rw [hn]; intro h0; exact hne (List.eq_nil_of_length_eq_zero h0)
  rw [← hn] at HK HL hn1 ⊢
  have H2 := Lib.hid hn2
  have Hn := Lib.hid hn
  have g0 : ((n : Int) == 0) = false := by simp; omega
  clear h hn2 hn hc0 hi hne hn0 hn3
  go_enter Tryd.func14, Tryd.ntmps14
  go_wp2_with (go_at_call 31; refine HK.out.mono ?_; rintro e w1 ⟨rfl, hb1⟩)
  have HB1 := Lib.hid hb1; clear hb1
  go_loopw [0, 4] (fun lv ov wr => ∃ (k : Nat) (pre : List Q4), k ≤ n ∧ lenV lv = n - k ∧ Hid (PenR w wr l lv ov k pre)) (fun lv _ _ => lenV lv)
  case atStart => exact ⟨0, [], Nat.zero_le _, by simp [lenV], HL.out, own_nil _ _, rfl, Nat.le_refl _, HB1.out⟩
  case round =>
    obtain ⟨k, pre, hk, hlen, hp⟩ := hrel
    obtain ⟨A1, c1, hsh⟩ := hp.out.rl.form
    obtain ⟨m, hm⟩ : ∃ m, m = (l.drop k).length := ⟨_, rfl⟩
    rw [← hm] at hsh
    subst hsh
    have hmk : m = n - k := by rw [hm, List.length_drop, Hn.out]
    obtain ⟨A2, c2, hsh2, -, -⟩ := hp.out.own.form
    obtain ⟨pl, hpl⟩ : ∃ pl, pl = (pPs pre).length := ⟨_, rfl⟩
    rw [← hpl] at hsh2
    subst hsh2
    clear hlen
    by_cases hm0 : m = 0
    · subst hm0
      have HE := Lib.hid (show pensR l = pre from by
        have := hp.out.eq
        rw [List.eq_nil_of_length_eq_zero hm.symm] at this
        rw [this]; exact List.append_nil _)
      go_wp2_with fail
      go_ret2
      unfold PensPost
      rw [HV.out]
      exact ⟨_, rfl, by rw [HE.out]; exact hp.out.own, hp.out.bel⟩
    · have i1 : (0 : Int) < (m : Int) := by omega
      obtain ⟨L, hL⟩ : ∃ L, L = l.drop k := ⟨_, rfl⟩
      have hLn : L ≠ [] := by intro e; rw [← hL, e] at hm; exact hm0 hm
      have hmem : ∀ p ∈ L, p ∈ l := fun p hp2 => by rw [hL] at hp2; exact List.mem_of_mem_drop hp2
      have hfl : FrL wr (.slice A1 m c1) L := by
        refine ⟨by rw [hL]; exact hp.out.rl.keep hp.out.bel, by rw [hL, ← hm]; omega, by rw [hL, ← hm]; omega, fun p hp2 => ?_, fun p hp2 => ?_⟩
        · exact ⟨(H2.out p (hmem p hp2)).1, (H2.out p (hmem p hp2)).2.1⟩
        · exact (H2.out p (hmem p hp2)).2.2
      have HF := Lib.hid (rfront_any _ L wr hfl)
      obtain ⟨j, hj⟩ : ∃ j, j = (frV L).2 := ⟨_, rfl⟩
      obtain ⟨O, hO⟩ : ∃ O, O = (frV L).1 := ⟨_, rfl⟩
      have hj1 : 1 ≤ j := by rw [hj]; exact frV_len L hLn
      have hjm : j ≤ m := by rw [hj, hm, ← hL]; exact frV_le L hLn
      have HE := Lib.hid (show pensR l = pre ++ (O.toList ++ pensR (l.drop (k + j))) from by
        rw [hp.out.eq, ← hL, pensR_step L hLn, ← hO, ← hj, hL, List.drop_drop])
      obtain ⟨A3, e1, e2, hrl3⟩ := Sgr.RL.from (show Par.RL w (.slice A1 m c1) L by rw [hL]; exact hp.out.rl) j hjm
      have HR3 := Lib.hid (show Par.RL w (.slice A3 (m - j) (c1 - j)) (l.drop (k + j)) from by rw [hL, List.drop_drop] at hrl3; exact hrl3)
      have hjn : (j : Int) ≤ (m : Int) := by omega
      obtain ⟨zk, zn, zm, z0, z1, zt, hov⟩ := oV_form O
      unfold FrPost at HF
      rw [← hj, ← hO, hov] at HF
      have hszw := hp.out.bel.size
      have HPL := Lib.hid hpl
      have HMK := Lib.hid hmk
      have HO1 := Lib.hid hO
      clear hfl hrl3 hmem hLn hj hm hmk hL hO hpl
      cases O with
      | none =>
        rw [show (none : Option Q4).isSome = false from rfl] at HF
        go_upto_region 10 with (go_at_call 33; refine HF.out.mono ?_; rintro e w3 ⟨rfl, hb3⟩; have HB3 := Lib.hid hb3; clear hb3)
        go_wp2_with fail
        go_roundw
        case rel => exact ⟨k + j, pre, by have := HMK.out; omega, by have := HMK.out; show m - j = n - (k + j); omega, by
          have hbw := (Par.up HB3.out (below_box w3 (.cells #[.int .i64 zk, .int .i64 zn, .int .i64 zm, .int .i64 z0, .int .i64 z1, .string zt] 48)))
          exact ⟨HR3.out, hp.out.own.keep hbw, HE.out, by have := hp.out.le; omega, Par.up hp.out.bel hbw⟩⟩
        case measure => show m - j < m; omega
      | some q =>
        rw [show (some q).isSome = true from rfl] at HF
        have hq : Value.agg #[.int .i64 zk, .int .i64 zn, .int .i64 zm, .int .i64 z0, .int .i64 z1, .string zt] = qV q := hov.symm
        unfold qV at hq
        injection hq with hq
        simp only [Array.mk.injEq, List.cons.injEq, Value.int.injEq, Value.string.injEq, true_and, and_true] at hq
        obtain ⟨rfl, rfl, rfl, rfl, rfl, rfl⟩ := hq
        go_upto_region 9 with (go_at_call 33; refine HF.out.mono ?_; rintro e w3 ⟨rfl, hb3⟩; have HB3 := Lib.hid hb3; clear hb3)
        have HY := Lib.hid (Sty.Box.new w3 #[.int .i64 39, .int .i64 q.n, .int .i64 q.m, .int .i64 q.c0, .int .i64 q.c1, .string ⟨#[]⟩] 48)
        have HB4 := Lib.hid (Par.up HB3.out (below_box w3 (.cells #[.int .i64 39, .int .i64 q.n, .int .i64 q.m, .int .i64 q.c0, .int .i64 q.c1, .string ⟨#[]⟩] 48)))
        generalize w3.alloc (.cells #[.int .i64 39, .int .i64 q.n, .int .i64 q.m, .int .i64 q.c0, .int .i64 q.c1, .string ⟨#[]⟩] 48) = w4 at HY HB4 ⊢
        generalize w3.heap.size = Y at HY ⊢
        have x0 := HY.out.cell 0 _ rfl
        have x1 := HY.out.cell 1 _ rfl
        have x2 := HY.out.cell 2 _ rfl
        have x3 := HY.out.cell 3 _ rfl
        have x4 := HY.out.cell 4 _ rfl
        have x5 := HY.out.cell 5 _ rfl
        have HO := Lib.hid (hp.out.own.keep HB4.out)
        have hsz4 := HB4.out.size
        go_upto_region 10 with (at_builtin; refine Sty.wpList_appP _ rfl _ _ rfl w.heap.size _ (pPs pre) rfl (HO.out.keep (below_box w4 _)) (some ⟨w4.heap.size, 0, none⟩) 1 1 [pP q] rfl rfl (Sty.RdP.one w4 (pP q) 48) (fun h => by cases h) ?hl ?hb0 ?_; rotate_left 2; intro v5 w5 hown5 hb5; have HO5 := Lib.hid hown5; have HB5 := Lib.hid hb5; clear hown5 hb5)
        case hl => have := hp.out.le; unfold pPs; rw [List.length_map]; omega
        case hb0 => omega
        obtain ⟨A5, c5, hs5, -, -⟩ := HO5.out.form
        have HL5 := Lib.hid (show (pPs pre ++ [pP q]).length = (pPs (pre ++ [q])).length by rw [pPs_snoc])
        generalize (pPs pre ++ [pP q]).length = pl5 at hs5 HL5
        subst hs5
        go_wp2_with fail
        go_roundw
        case rel => exact ⟨k + j, pre ++ [q], by have := HMK.out; omega, by have := HMK.out; show m - j = n - (k + j); omega, by
          refine ⟨HR3.out, by rw [pPs_snoc]; exact HO5.out, by rw [HE.out, List.append_assoc]; rfl, by rw [List.length_append, List.length_singleton]; have := hp.out.le; omega, ((Par.up hp.out.bel HB4.out).alloc ?_ _).trans HB5.out⟩
          omega⟩
        case measure => show m - j < m; omega
/-- the pens that parameters denote, by the reference -/
theorem rpens_any (v : Value) (l : List (List Int)) (w : World) (h : Par.RL w v l) (hl : l.length ≤ 1000000) : Calls Tryd.prog 14 #[v] w (PensPost w l) := by
  cases hb : Par.isBad l with
  | true => exact rpens_bad v l w h hl hb
  | false =>
    by_cases hne : l = []
    · subst hne; exact rpens_nil v w h
    · exact rpens_good v l w h hne hb
end Go.Proofs.YteepfecplabinaaDoor.Sgr
