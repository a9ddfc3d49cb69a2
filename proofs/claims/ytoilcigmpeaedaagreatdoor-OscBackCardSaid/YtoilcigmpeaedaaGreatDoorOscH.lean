/-
  Contracts of the closures that handlers makes: clip and palette.
-/
import Derived.Test.YtoilcigmpeaedaaGreatDoorOscG
import Derived.Deep.RegionHeld3
namespace Go.Proofs.YtoilcigmpeaedaaGreatDoor.Osc
open Go.RowKit Utf Col

theorem col_new (w : World) (x : Nat) : (w.alloc (.cells #[.int .i64 2, .int .i64 (x : Int)] 23)).drew.cell? ⟨w.heap.size, 0, none⟩ = some (.int .i64 2) ∧ (w.alloc (.cells #[.int .i64 2, .int .i64 (x : Int)] 23)).drew.cell? ⟨w.heap.size, 1, none⟩ = some (.int .i64 (x : Int)) :=
  ⟨(B64.Box.new w #[.int .i64 2, .int .i64 (x : Int)] _).drew.cell 0 _ rfl, (B64.Box.new w #[.int .i64 2, .int .i64 (x : Int)] _).drew.cell 1 _ rfl⟩
theorem set6_cell {w : World} {B C : Nat} (h : ¬ B = C) (a : A6) (j : Nat) : (set6 w B a).cell? ⟨C, j, none⟩ = w.cell? ⟨C, j, none⟩ := by
  unfold set6
  iterate 6 rw [World.cell?_setCell_other _ _ _ _ (by intro e; injection e; contradiction)]
theorem set6_cells {w : World} {B C : Nat} (h : ¬ B = C) (a : A6) {u v : Value} (hw : w.drew.cell? ⟨C, 0, none⟩ = some u ∧ w.drew.cell? ⟨C, 1, none⟩ = some v) : (set6 w B a).drew.cell? ⟨C, 0, none⟩ = some u ∧ (set6 w B a).drew.cell? ⟨C, 1, none⟩ = some v :=
  by rw [World.cell?_drew] at hw; rw [World.cell?_drew, World.cell?_drew, set6_cell h, set6_cell h]; exact ⟨hw.1, hw.2⟩
theorem cut_len : ∀ (l a b : List UInt8), cutL l = some (a, b) → a.length ≤ l.length ∧ b.length ≤ l.length
  | [], _, _, h => by cases h
  | x :: r, a, b, h => by
    unfold cutL at h
    split at h
    · injection h with h; injection h with h1 h2; subst h1 h2; simp
    · cases hc : cutL r with
      | none => rw [hc] at h; cases h
      | some p =>
        rw [hc] at h
        injection h with h; injection h with h1 h2
        obtain ⟨h3, h4⟩ := cut_len r p.1 p.2 hc
        subst h1 h2
        simp only [List.length_cons]
        omega
set_option maxRecDepth 100000 in
set_option maxHeartbeats 4000000 in
theorem clip_cut (b : Nat) (r : List UInt8) (w : World) (he : Env w) (hc : B64.Box w b [.string ⟨r.toArray⟩]) (hs : r.length ≤ 1000000) (hcut : cutL r = none) :
    Calls Tryz.prog 68 #[.pointer (some ⟨b, 0, none⟩)] w fun e w' => e = .panicked mal ∧ Below w.heap.size w w' := by
  have HF := Lib.hid (fun W => field_none ⟨r.toArray⟩ hcut W (by rw [Lib.size_mk]; exact hs))
  clear hcut
  have HE := Lib.hid he
  have hb0 := fun o => B64.below_box w o
  have y0 := ((hc).alloc (.cells #[.int .i64 0, .int .i64 0, .int .i64 0, .int .i64 0, .int .i64 0, .string ⟨#[]⟩] 25)).cell 0 _ rfl
  clear he hs hc
  go_enter Tryz.func68, Tryz.ntmps68
  go_wp2_with fail
  refine (HF.out _).mono ?_
  rintro e w1 ⟨rfl, hb1⟩
  exact ⟨rfl, rfl, B64.up (hb0 _) hb1⟩
set_option maxRecDepth 100000 in
set_option maxHeartbeats 4000000 in
theorem palette_cut (b : Nat) (r : List UInt8) (w : World) (he : Env w) (hc : B64.Box w b [.string ⟨r.toArray⟩]) (hs : r.length ≤ 1000000) (hcut : cutL r = none) :
    Calls Tryz.prog 65 #[.pointer (some ⟨b, 0, none⟩)] w fun e w' => e = .panicked mal ∧ Below w.heap.size w w' := by
  have HF := Lib.hid (fun W => field_none ⟨r.toArray⟩ hcut W (by rw [Lib.size_mk]; exact hs))
  clear hcut
  have HE := Lib.hid he
  have hb0 := fun o => B64.below_box w o
  have y0 := ((hc).alloc (.cells #[.int .i64 0, .int .i64 0, .int .i64 0, .int .i64 0, .int .i64 0, .string ⟨#[]⟩] 25)).cell 0 _ rfl
  clear he hs hc
  go_enter Tryz.func65, Tryz.ntmps65
  go_wp2_with fail
  refine (HF.out _).mono ?_
  rintro e w1 ⟨rfl, hb1⟩
  exact ⟨rfl, rfl, B64.up (hb0 _) hb1⟩
set_option maxRecDepth 100000 in
set_option maxHeartbeats 4000000 in
theorem clip_sel (b : Nat) (r : List UInt8) (w : World) (he : Env w) (hc : B64.Box w b [.string ⟨r.toArray⟩]) (hs : r.length ≤ 1000000) (a c : List UInt8) (hcut : cutL r = some (a, c)) (ha : ¬ a = [99]) :
    Calls Tryz.prog 68 #[.pointer (some ⟨b, 0, none⟩)] w fun e w' => e = .panicked mal ∧ Below w.heap.size w w' := by
  have HF := Lib.hid (fun W => field_some ⟨r.toArray⟩ a c hcut W (by rw [Lib.size_mk]; exact hs))
  clear hcut
  have h99 : (a == [99]) = false := by simp [ha]
  clear ha
  have HE := Lib.hid he
  have hb0 := fun o => B64.below_box w o
  have y0 := ((hc).alloc (.cells #[.int .i64 0, .int .i64 0, .int .i64 0, .int .i64 0, .int .i64 0, .string ⟨#[]⟩] 25)).cell 0 _ rfl
  clear he hs hc
  go_enter Tryz.func68, Tryz.ntmps68
  go_wp2_with fail
  refine (HF.out _).mono ?_
  rintro e w1 ⟨rfl, hb1⟩
  have HZ := Lib.hid ((bz_new w).keep hb1)
  have hG := Lib.hid (B64.up (hb0 _) hb1)
  have HE := Lib.hid ((HE.out.keep (hb0 _)).keep hb1)
  clear hb1 y0
  go_wp2_with (go_at_call 34; refine (demand_no _).mono ?_; rintro e w2 ⟨rfl, rfl⟩)
  exact ⟨rfl, rfl, hG.out⟩
set_option maxRecDepth 100000 in
set_option maxHeartbeats 4000000 in
theorem clip_dec (b : Nat) (r : List UInt8) (w : World) (he : Env w) (hc : B64.Box w b [.string ⟨r.toArray⟩]) (hs : r.length ≤ 1000000) (c : List UInt8) (hcut : cutL r = some ([99], c)) (hcl : c.length ≤ 8192) (hd : B64.decL c = none) :
    Calls Tryz.prog 68 #[.pointer (some ⟨b, 0, none⟩)] w fun e w' => e = .panicked mal ∧ Below w.heap.size w w' := by
  have HD := Lib.hid (fun W => B64.decode_any ⟨c.toArray⟩ W (by rw [Lib.size_mk]; exact hcl))
  dsimp only at HD
  rw [B64.decV_none _ hd] at HD
  have HF := Lib.hid (fun W => field_some ⟨r.toArray⟩ [99] c hcut W (by rw [Lib.size_mk]; exact hs))
  clear hcut
  clear hd hcl
  have HE := Lib.hid he
  have hb0 := fun o => B64.below_box w o
  have y0 := ((hc).alloc (.cells #[.int .i64 0, .int .i64 0, .int .i64 0, .int .i64 0, .int .i64 0, .string ⟨#[]⟩] 25)).cell 0 _ rfl
  clear he hs hc
  go_enter Tryz.func68, Tryz.ntmps68
  go_wp2_with fail
  refine (HF.out _).mono ?_
  rintro e w1 ⟨rfl, hb1⟩
  have HZ := Lib.hid ((bz_new w).keep hb1)
  have hG := Lib.hid (B64.up (hb0 _) hb1)
  have HE := Lib.hid ((HE.out.keep (hb0 _)).keep hb1)
  clear hb1 y0
  have h1 := hG
  go_wp2_with (go_at_call 34; refine (demand_yes _).mono ?_; rintro e w2 ⟨rfl, rfl⟩)
  refine (HD.out _).mono ?_
  rintro e w3 ⟨rfl, hb3⟩
  have hG := Lib.hid (B64.up hG.out hb3)
  clear hb3
  go_wp2_with (go_at_call 34; refine (demand_no _).mono ?_; rintro e w4 ⟨rfl, rfl⟩)
  exact ⟨rfl, rfl, hG.out⟩
set_option maxRecDepth 100000 in
set_option maxHeartbeats 4000000 in
theorem clip_len (b : Nat) (r : List UInt8) (w : World) (he : Env w) (hc : B64.Box w b [.string ⟨r.toArray⟩]) (hs : r.length ≤ 1000000) (c x : List UInt8) (hcut : cutL r = some ([99], c)) (hcl : c.length ≤ 8192) (hd : B64.decL c = some x) (hx : ¬ x.length ≤ 378) :
    Calls Tryz.prog 68 #[.pointer (some ⟨b, 0, none⟩)] w fun e w' => e = .panicked mal ∧ Below w.heap.size w w' := by
  have HD := Lib.hid (fun W => B64.decode_any ⟨c.toArray⟩ W (by rw [Lib.size_mk]; exact hcl))
  dsimp only at HD
  rw [B64.decV_some _ x hd] at HD
  have HF := Lib.hid (fun W => field_some ⟨r.toArray⟩ [99] c hcut W (by rw [Lib.size_mk]; exact hs))
  clear hcut
  have HI := Lib.hid (fun W => isClip_any ⟨x.toArray⟩ W)
  rw [Lib.size_mk, decide_eq_false (by omega)] at HI
  clear hd hcl hx
  have HE := Lib.hid he
  have hb0 := fun o => B64.below_box w o
  have y0 := ((hc).alloc (.cells #[.int .i64 0, .int .i64 0, .int .i64 0, .int .i64 0, .int .i64 0, .string ⟨#[]⟩] 25)).cell 0 _ rfl
  clear he hs hc
  go_enter Tryz.func68, Tryz.ntmps68
  go_wp2_with fail
  refine (HF.out _).mono ?_
  rintro e w1 ⟨rfl, hb1⟩
  have HZ := Lib.hid ((bz_new w).keep hb1)
  have hG := Lib.hid (B64.up (hb0 _) hb1)
  have HE := Lib.hid ((HE.out.keep (hb0 _)).keep hb1)
  clear hb1 y0
  go_wp2_with (go_at_call 34; refine (demand_yes _).mono ?_; rintro e w2 ⟨rfl, rfl⟩)
  refine (HD.out _).mono ?_
  rintro e w3 ⟨rfl, hb3⟩
  have hG := Lib.hid (B64.up hG.out hb3)
  clear hb3
  go_wp2_with (first
    | (go_at_call 53; refine (HI.out _).mono ?_; rintro e w4 ⟨rfl, rfl⟩)
    | (go_at_call 34; refine (demand_no _).mono ?_; rintro e w5 ⟨rfl, rfl⟩))
  exact ⟨rfl, rfl, hG.out⟩
set_option maxRecDepth 100000 in
set_option maxHeartbeats 4000000 in
theorem clip_yes (b : Nat) (r : List UInt8) (w : World) (he : Env w) (hc : B64.Box w b [.string ⟨r.toArray⟩]) (hs : r.length ≤ 1000000) (c x : List UInt8) (hcut : cutL r = some ([99], c)) (hcl : c.length ≤ 8192) (hd : B64.decL c = some x) (hx : x.length ≤ 378) :
    Calls Tryz.prog 68 #[.pointer (some ⟨b, 0, none⟩)] w fun e w' => e = .returned (actV ⟨46, 0, 0, 0, 0, x⟩) ∧ Below w.heap.size w w' := by
  have HD := Lib.hid (fun W => B64.decode_any ⟨c.toArray⟩ W (by rw [Lib.size_mk]; exact hcl))
  dsimp only at HD
  rw [B64.decV_some _ x hd] at HD
  have HF := Lib.hid (fun W => field_some ⟨r.toArray⟩ [99] c hcut W (by rw [Lib.size_mk]; exact hs))
  clear hcut
  have HI := Lib.hid (fun W => isClip_any ⟨x.toArray⟩ W)
  rw [Lib.size_mk, decide_eq_true (by omega)] at HI
  clear hd hcl hx
  have HE := Lib.hid he
  have hb0 := fun o => B64.below_box w o
  have y0 := ((hc).alloc (.cells #[.int .i64 0, .int .i64 0, .int .i64 0, .int .i64 0, .int .i64 0, .string ⟨#[]⟩] 25)).cell 0 _ rfl
  clear he hs hc
  go_enter Tryz.func68, Tryz.ntmps68
  go_wp2_with fail
  refine (HF.out _).mono ?_
  rintro e w1 ⟨rfl, hb1⟩
  have HZ := Lib.hid ((bz_new w).keep hb1)
  have hG := Lib.hid (B64.up (hb0 _) hb1)
  have HE := Lib.hid ((HE.out.keep (hb0 _)).keep hb1)
  clear hb1 y0
  go_wp2_with (go_at_call 34; refine (demand_yes _).mono ?_; rintro e w2 ⟨rfl, rfl⟩)
  refine (HD.out _).mono ?_
  rintro e w3 ⟨rfl, hb3⟩
  have hG := Lib.hid (B64.up hG.out hb3)
  have HZ := Lib.hid (HZ.out.keep hb3)
  clear hb3
  obtain ⟨⟨x0, x1, x2, x3, x4, x5⟩, f0, f1, f2, f3, f4, f5⟩ := boxz HZ.out
  go_wp2_with (first
    | (go_at_call 53; refine (HI.out _).mono ?_; rintro e w4 ⟨rfl, rfl⟩)
    | (go_at_call 34; refine (demand_yes _).mono ?_; rintro e w5 ⟨rfl, rfl⟩))
  refine bodyPost_ret (ret_cell1 rfl _ _ ⟨w.heap.size, 0, none⟩ _ rfl (load_act (box_set6 HZ.out ⟨46, 0, 0, 0, 0, x⟩))) rfl ?_
  exact ⟨rfl, below_set6 hG.out (Nat.le_refl _) ⟨46, 0, 0, 0, 0, x⟩⟩
set_option maxRecDepth 100000 in
set_option maxHeartbeats 4000000 in
theorem palette_col (b : Nat) (r : List UInt8) (w : World) (he : Env w) (hc : B64.Box w b [.string ⟨r.toArray⟩]) (hs : r.length ≤ 1000000) (a c : List UInt8) (hcut : cutL r = some (a, c)) (hp : parseL c = none) :
    Calls Tryz.prog 65 #[.pointer (some ⟨b, 0, none⟩)] w fun e w' => e = .panicked mal ∧ Below w.heap.size w w' := by
  have HP := Lib.hid (fun W => parse_any ⟨c.toArray⟩ W)
  dsimp only at HP
  rw [← prsV_none _ hp] at HP
  clear hp
  have HF := Lib.hid (fun W => field_some ⟨r.toArray⟩ a c hcut W (by rw [Lib.size_mk]; exact hs))
  clear hcut
  have HE := Lib.hid he
  have hb0 := fun o => B64.below_box w o
  have y0 := ((hc).alloc (.cells #[.int .i64 0, .int .i64 0, .int .i64 0, .int .i64 0, .int .i64 0, .string ⟨#[]⟩] 25)).cell 0 _ rfl
  clear he hs hc
  go_enter Tryz.func65, Tryz.ntmps65
  go_wp2_with fail
  refine (HF.out _).mono ?_
  rintro e w1 ⟨rfl, hb1⟩
  have HZ := Lib.hid ((bz_new w).keep hb1)
  have hG := Lib.hid (B64.up (hb0 _) hb1)
  have HE := Lib.hid ((HE.out.keep (hb0 _)).keep hb1)
  clear hb1 y0
  go_wp2_with fail
  refine (HP.out _).mono ?_
  rintro e w2 ⟨rfl, hb2⟩
  have HZ := Lib.hid (HZ.out.keep hb2)
  have hG := Lib.hid (B64.up hG.out hb2)
  have HE := Lib.hid (HE.out.keep hb2)
  clear hb2
  go_wp2_with (go_at_call 34; refine (demand_no _).mono ?_; rintro e w3 ⟨rfl, rfl⟩)
  exact ⟨rfl, rfl, hG.out.alloc hG.out.size _⟩
set_option maxRecDepth 100000 in
set_option maxHeartbeats 4000000 in
theorem palette_num (b : Nat) (r : List UInt8) (w : World) (he : Env w) (hc : B64.Box w b [.string ⟨r.toArray⟩]) (hs : r.length ≤ 1000000) (a c : List UInt8) (hcut : cutL r = some (a, c)) (x : Nat) (hal : a.length ≤ 1000000) (hp : parseL c = some x) (hn : num3 a = none) :
    Calls Tryz.prog 65 #[.pointer (some ⟨b, 0, none⟩)] w fun e w' => e = .panicked mal ∧ Below w.heap.size w w' := by
  have HN := Lib.hid (fun W => entry_any ⟨a.toArray⟩ W (by rw [Lib.size_mk]; exact hal))
  dsimp only at HN
  rw [← ent_none _ hn] at HN
  have HP := Lib.hid (fun W => parse_any ⟨c.toArray⟩ W)
  dsimp only at HP
  rw [← prsV_some _ x hp] at HP
  clear hp hn hal
  have HF := Lib.hid (fun W => field_some ⟨r.toArray⟩ a c hcut W (by rw [Lib.size_mk]; exact hs))
  clear hcut
  have HE := Lib.hid he
  have hb0 := fun o => B64.below_box w o
  have y0 := ((hc).alloc (.cells #[.int .i64 0, .int .i64 0, .int .i64 0, .int .i64 0, .int .i64 0, .string ⟨#[]⟩] 25)).cell 0 _ rfl
  clear he hs hc
  go_enter Tryz.func65, Tryz.ntmps65
  go_wp2_with fail
  refine (HF.out _).mono ?_
  rintro e w1 ⟨rfl, hb1⟩
  have HZ := Lib.hid ((bz_new w).keep hb1)
  have hG := Lib.hid (B64.up (hb0 _) hb1)
  have HE := Lib.hid ((HE.out.keep (hb0 _)).keep hb1)
  clear hb1 y0
  go_wp2_with fail
  refine (HP.out _).mono ?_
  rintro e w2 ⟨rfl, hb2⟩
  have HZ := Lib.hid (HZ.out.keep hb2)
  have hG := Lib.hid (B64.up hG.out hb2)
  have HE := Lib.hid (HE.out.keep hb2)
  clear hb2
  go_wp2_with (go_at_call 34; refine (demand_yes _).mono ?_; rintro e w3 ⟨rfl, rfl⟩)
  have HZ := Lib.hid (HZ.out.alloc (.cells #[.int .i64 2, .int .i64 (x : Int)] 23))
  have HK := Lib.hid (col_new w2 x)
  have hG := Lib.hid (hG.out.alloc hG.out.size (.cells #[.int .i64 2, .int .i64 (x : Int)] 23))
  generalize (w2.alloc (.cells #[.int .i64 2, .int .i64 (x : Int)] 23)) = w3 at HZ HK hG ⊢
  generalize w2.heap.size = B2 at HK ⊢
  refine wp_region_held (S := (fun W => W.cell? ⟨B2, 0, none⟩ = some (.int .i64 2) ∧ W.cell? ⟨B2, 1, none⟩ = some (.int .i64 (x : Int)))) (by kernel_rfl) ?_
  refine wpAnyH_take (i := 0) (v := .string ⟨a.toArray⟩) rfl (by kernel_rfl) (by kernel_rfl) (by kernel_rfl) (fun _ _ _ h => h) (.inl ⟨rfl, fun W hW => by go_simp⟩) HK.out ?_
  refine wpAnyH_take (i := 2) (v := .agg #[.int .i64 2, .int .i64 (x : Int)]) rfl (by kernel_rfl) (by kernel_rfl) (by kernel_rfl) (fun _ _ _ h => h) (.inl ⟨rfl, fun W hW => by obtain ⟨h1, h2⟩ := hW; go_simp⟩) HK.out ?_
  refine wpAnyH_ready (rs := [1]) (by kernel_rfl) (by simp) ?_
  refine AllReadyH.cons (o := _) rfl (fun K hK => ?_) AllReadyH.nil
  go_simp
  go_at_call 67
  refine (HN.out _).mono ?_
  rintro e w4 ⟨rfl, rfl⟩
  exact ⟨rfl, rfl, hG.out.drew⟩
set_option maxRecDepth 100000 in
set_option maxHeartbeats 4000000 in
theorem palette_yes (b : Nat) (r : List UInt8) (w : World) (he : Env w) (hc : B64.Box w b [.string ⟨r.toArray⟩]) (hs : r.length ≤ 1000000) (a c : List UInt8) (hcut : cutL r = some (a, c)) (x n : Nat) (hal : a.length ≤ 1000000) (hp : parseL c = some x) (hn : num3 a = some n) :
    Calls Tryz.prog 65 #[.pointer (some ⟨b, 0, none⟩)] w fun e w' => e = .returned (actV ⟨45, n, 0, 2, x, []⟩) ∧ Below w.heap.size w w' := by
  have HN := Lib.hid (fun W => entry_any ⟨a.toArray⟩ W (by rw [Lib.size_mk]; exact hal))
  dsimp only at HN
  rw [← ent_some _ n hn] at HN
  have HP := Lib.hid (fun W => parse_any ⟨c.toArray⟩ W)
  dsimp only at HP
  rw [← prsV_some _ x hp] at HP
  clear hp hn hal
  have HF := Lib.hid (fun W => field_some ⟨r.toArray⟩ a c hcut W (by rw [Lib.size_mk]; exact hs))
  clear hcut
  have HE := Lib.hid he
  have hb0 := fun o => B64.below_box w o
  have y0 := ((hc).alloc (.cells #[.int .i64 0, .int .i64 0, .int .i64 0, .int .i64 0, .int .i64 0, .string ⟨#[]⟩] 25)).cell 0 _ rfl
  clear he hs hc
  go_enter Tryz.func65, Tryz.ntmps65
  go_wp2_with fail
  refine (HF.out _).mono ?_
  rintro e w1 ⟨rfl, hb1⟩
  have HZ := Lib.hid ((bz_new w).keep hb1)
  have hG := Lib.hid (B64.up (hb0 _) hb1)
  have HE := Lib.hid ((HE.out.keep (hb0 _)).keep hb1)
  clear hb1 y0
  go_wp2_with fail
  refine (HP.out _).mono ?_
  rintro e w2 ⟨rfl, hb2⟩
  have HZ := Lib.hid (HZ.out.keep hb2)
  have hG := Lib.hid (B64.up hG.out hb2)
  have HE := Lib.hid (HE.out.keep hb2)
  clear hb2
  go_wp2_with (go_at_call 34; refine (demand_yes _).mono ?_; rintro e w3 ⟨rfl, rfl⟩)
  have HZ0 := HZ
  have HZ := Lib.hid (HZ.out.alloc (.cells #[.int .i64 2, .int .i64 (x : Int)] 23))
  have HK := Lib.hid (col_new w2 x)
  have hG := Lib.hid (hG.out.alloc hG.out.size (.cells #[.int .i64 2, .int .i64 (x : Int)] 23))
  generalize (w2.alloc (.cells #[.int .i64 2, .int .i64 (x : Int)] 23)) = w3 at HZ HK hG ⊢
  have kb : ¬ w.heap.size = w2.heap.size := Nat.ne_of_lt HZ0.out.1
  generalize w2.heap.size = B2 at HK kb ⊢
  obtain ⟨⟨x0, x1, x2, x3, x4, x5⟩, f0, f1, f2, f3, f4, f5⟩ := boxz HZ.out
  refine wp_region_held (S := (fun W => W.cell? ⟨B2, 0, none⟩ = some (.int .i64 2) ∧ W.cell? ⟨B2, 1, none⟩ = some (.int .i64 (x : Int)))) (by kernel_rfl) ?_
  refine wpAnyH_take (i := 0) (v := .string ⟨a.toArray⟩) rfl (by kernel_rfl) (by kernel_rfl) (by kernel_rfl) (fun _ _ _ h => h) (.inl ⟨rfl, fun W hW => by go_simp⟩) HK.out ?_
  refine wpAnyH_take (i := 2) (v := .agg #[.int .i64 2, .int .i64 (x : Int)]) rfl (by kernel_rfl) (by kernel_rfl) (by kernel_rfl) (fun _ _ _ h => h) (.inl ⟨rfl, fun W hW => by obtain ⟨h1, h2⟩ := hW; go_simp⟩) HK.out ?_
  refine wpAnyH_ready (rs := [1]) (by kernel_rfl) (by simp) ?_
  refine AllReadyH.cons (o := _) rfl (fun K hK => ?_) AllReadyH.nil
  go_simp
  go_at_call 67
  refine (HN.out _).mono ?_
  rintro e w4 ⟨rfl, rfl⟩
  show K _ _
  refine hK.out _ _ HK.out (fun hHeld => ?_)
  clear hK K
  refine wpAnyH_take (i := 3) (v := .agg #[.int .i64 45, .int .i64 (n : Int), .int .i64 0, .int .i64 2, .int .i64 (x : Int), .string ⟨#[]⟩]) rfl (by kernel_rfl) (by kernel_rfl) (by kernel_rfl) (fun _ _ _ h => h) (.inl ⟨rfl, fun W hW => by go_simp⟩) HK.out ?_
  refine wpAnyH_ready (rs := [4]) (by kernel_rfl) (by simp) ?_
  refine AllReadyH.cons (o := _) rfl (fun K hK => ?_) AllReadyH.nil
  go_simp
  refine hK.out _ _ (set6_cells kb ⟨45, n, 0, 2, x, []⟩ HK.out) (fun hHeld2 => ?_)
  clear hK K
  refine wpAnyH_done (by kernel_rfl) ?_ _
  go_wp2
  refine bodyPost_ret (ret_cell1 rfl _ _ ⟨w.heap.size, 0, none⟩ _ rfl (load_act (box_set6 HZ.out ⟨45, n, 0, 2, x, []⟩).drew)) rfl ?_
  exact ⟨rfl, (below_set6 hG.out (Nat.le_refl _) ⟨45, n, 0, 2, x, []⟩).drew⟩
end Go.Proofs.YtoilcigmpeaedaaGreatDoor.Osc
