/-
  OscG OscH OscI OscJ OscO OscQ OscT
-/
import Derived.Deep.RegionHeld3
import Derived.Maps.Own
import Derived.Defers
import Derived.Recover
import Derived.Test.YtoilcigmpeaedaaGreatDoorF2
import Derived.Test.YtoilcigmpeaedaaGreatDoorF23
import Derived.Test.YtoilcigmpeaedaaGreatDoorF25
import Derived.Test.YtoilcigmpeaedaaGreatDoorF27
namespace Go.Proofs.YtoilcigmpeaedaaGreatDoor.Osc
open Go.RowKit Utf Col

/-- how a reader ends -/
def endO (o : Option A6) : Ending := match o with
  | some a => .returned (actV a)
  | none => .panicked mal
theorem ret_cell1 {P : Program} {fn : Func} {p : Tmp} {ty : TypeId} (h : fn.results = #[.cell p ty]) (tmps : Array Value) (w : World) (a : Addr) (v : Value) (ha : tmps.getD p undef = .pointer (some a)) (hl : (loadVar ty a).run P w = .ok v w) :
    (results fn tmps).run P w = .ok v w := by
  have ha' : tmps[p]?.getD undef = .pointer (some a) := by simpa using ha
  simp only [results, h]
  simp [ha', asAddr, hl]
def z6 : List Value := [.int .i64 0, .int .i64 0, .int .i64 0, .int .i64 0, .int .i64 0, .string ⟨#[]⟩]
theorem bz_new (w : World) : B64.Box (w.alloc (.cells #[.int .i64 0, .int .i64 0, .int .i64 0, .int .i64 0, .int .i64 0, .string ⟨#[]⟩] 25)) w.heap.size z6 := B64.Box.new w _ _
theorem boxz {w : World} {B : Nat} (h : B64.Box w B z6) : (w.cell? ⟨B, 0, none⟩ = some (.int .i64 0) ∧ w.cell? ⟨B, 1, none⟩ = some (.int .i64 0) ∧ w.cell? ⟨B, 2, none⟩ = some (.int .i64 0) ∧ w.cell? ⟨B, 3, none⟩ = some (.int .i64 0) ∧ w.cell? ⟨B, 4, none⟩ = some (.int .i64 0) ∧ w.cell? ⟨B, 5, none⟩ = some (.string ⟨#[]⟩)) ∧
    w.frozen? ⟨B, 0, none⟩ = false ∧ w.frozen? ⟨B, 1, none⟩ = false ∧ w.frozen? ⟨B, 2, none⟩ = false ∧ w.frozen? ⟨B, 3, none⟩ = false ∧ w.frozen? ⟨B, 4, none⟩ = false ∧ w.frozen? ⟨B, 5, none⟩ = false :=
  ⟨⟨h.cell 0 _ rfl, h.cell 1 _ rfl, h.cell 2 _ rfl, h.cell 3 _ rfl, h.cell 4 _ rfl, h.cell 5 _ rfl⟩, h.free 0 (by decide), h.free 1 (by decide), h.free 2 (by decide), h.free 3 (by decide), h.free 4 (by decide), h.free 5 (by decide)⟩
/-- a box of an action, set cell by cell -/
def set6 (w : World) (B : Nat) (a : A6) : World := ((((((w.setCell ⟨B, 0, none⟩ (.int .i64 a.k)).setCell ⟨B, 1, none⟩ (.int .i64 a.n)).setCell ⟨B, 2, none⟩ (.int .i64 a.m)).setCell ⟨B, 3, none⟩ (.int .i64 a.c0)).setCell ⟨B, 4, none⟩ (.int .i64 a.c1)).setCell ⟨B, 5, none⟩ (.string ⟨a.t.toArray⟩))
theorem box_set6 {w : World} {B : Nat} {k n m c0 c1 : Int} {t : List UInt8} (h : B64.Box w B (c6 k n m c0 c1 t)) (a : A6) : B64.Box (set6 w B a) B (c6 a.k a.n a.m a.c0 a.c1 a.t) :=
  (((((h.set 0 _).set 1 _).set 2 _).set 3 _).set 4 _).set 5 _
theorem below_set6 {B0 : Nat} {a w : World} {B : Nat} (h : Below B0 a w) (hB : B0 ≤ B) (x : A6) : Below B0 a (set6 w B x) :=
  (((((h.setCell (p := ⟨B, 0, none⟩) hB _).setCell (p := ⟨B, 1, none⟩) hB _).setCell (p := ⟨B, 2, none⟩) hB _).setCell (p := ⟨B, 3, none⟩) hB _).setCell (p := ⟨B, 4, none⟩) hB _).setCell (p := ⟨B, 5, none⟩) hB _
theorem load_act {w : World} {B : Nat} {k n m c0 c1 : Int} {t : List UInt8} (h : B64.Box w B (c6 k n m c0 c1 t)) : (loadVar 25 ⟨B, 0, none⟩).run Tryz.prog w = .ok (actV ⟨k, n, m, c0, c1, t⟩) w :=
  (run_loadVar_mid w B 0 25 (c6 k n m c0 c1 t) _ h.2.1 Tryz.underlying25 rfl (by kernel_rfl)).trans rfl
theorem zz : z6 = c6 0 0 0 0 0 [] := rfl
set_option maxRecDepth 100000 in
set_option maxHeartbeats 4000000 in
theorem title_yes (b : Nat) (r : List UInt8) (w : World) (he : Env w) (hc : B64.Box w b [.string ⟨r.toArray⟩]) (hs : r.length ≤ 1000000) (ht : titB r = true) :
    Calls Tryz.prog 64 #[.pointer (some ⟨b, 0, none⟩)] w fun e w' => e = .returned (actV ⟨44, 0, 0, 0, 0, r⟩) ∧ Below w.heap.size w w' := by
  have HT := Lib.hid (fun W h => isTitle_any ⟨r.toArray⟩ W h (by rw [Lib.size_mk]; exact hs))
  dsimp only at HT
  rw [ht] at HT
  have HE := Lib.hid he
  have HB := Lib.hid hc
  have hb0 := fun o => B64.below_box w o
  clear he hs ht
  have y0 := ((hc).alloc (.cells #[.int .i64 0, .int .i64 0, .int .i64 0, .int .i64 0, .int .i64 0, .string ⟨#[]⟩] 25)).cell 0 _ rfl
  go_enter Tryz.func64, Tryz.ntmps64
  go_wp2_with fail
  refine (HT.out _ (HE.out.keep (hb0 _)).um).mono ?_
  rintro e w1 ⟨rfl, hb1⟩
  have HZ := (bz_new w).keep hb1
  obtain ⟨⟨x0, x1, x2, x3, x4, x5⟩, f0, f1, f2, f3, f4, f5⟩ := boxz HZ
  have z0 := ((HB.out.alloc _).keep hb1).cell 0 _ rfl
  have hG := Lib.hid (B64.up (hb0 _) hb1)
  clear hb1 y0
  go_wp2_with (go_at_call 34; refine (demand_yes _).mono ?_; rintro e w2 ⟨rfl, rfl⟩)
  have HZ := Lib.hid HZ
  refine bodyPost_ret (ret_cell1 rfl _ _ ⟨w.heap.size, 0, none⟩ _ rfl (load_act (box_set6 HZ.out ⟨44, 0, 0, 0, 0, r⟩))) rfl ?_
  exact ⟨rfl, below_set6 hG.out (Nat.le_refl _) ⟨44, 0, 0, 0, 0, r⟩⟩
set_option maxRecDepth 100000 in
set_option maxHeartbeats 4000000 in
theorem title_no (b : Nat) (r : List UInt8) (w : World) (he : Env w) (hc : B64.Box w b [.string ⟨r.toArray⟩]) (hs : r.length ≤ 1000000) (ht : titB r = false) :
    Calls Tryz.prog 64 #[.pointer (some ⟨b, 0, none⟩)] w fun e w' => e = .panicked mal ∧ Below w.heap.size w w' := by
  have HT := Lib.hid (fun W h => isTitle_any ⟨r.toArray⟩ W h (by rw [Lib.size_mk]; exact hs))
  dsimp only at HT
  rw [ht] at HT
  have HE := Lib.hid he
  have HB := Lib.hid hc
  have hb0 := fun o => B64.below_box w o
  clear he hs ht
  have y0 := ((hc).alloc (.cells #[.int .i64 0, .int .i64 0, .int .i64 0, .int .i64 0, .int .i64 0, .string ⟨#[]⟩] 25)).cell 0 _ rfl
  go_enter Tryz.func64, Tryz.ntmps64
  go_wp2_with fail
  refine (HT.out _ (HE.out.keep (hb0 _)).um).mono ?_
  rintro e w1 ⟨rfl, hb1⟩
  go_wp2_with (go_at_call 34; refine (demand_no _).mono ?_; rintro e w2 ⟨rfl, rfl⟩)
  exact ⟨rfl, rfl, B64.up (hb0 _) hb1⟩
end Go.Proofs.YtoilcigmpeaedaaGreatDoor.Osc

namespace Go.Proofs.YtoilcigmpeaedaaGreatDoor.Osc
open Go.RowKit Utf Col

theorem col_new (w : World) (x : Nat) : (w.alloc (.cells #[.int .i64 2, .int .i64 (x : Int)] 23)).drew.cell? ⟨w.heap.size, 0, none⟩ = some (.int .i64 2) ∧ (w.alloc (.cells #[.int .i64 2, .int .i64 (x : Int)] 23)).drew.cell? ⟨w.heap.size, 1, none⟩ = some (.int .i64 (x : Int)) :=
  ⟨(B64.Box.new w #[.int .i64 2, .int .i64 (x : Int)] _).drew.cell 0 _ rfl, (B64.Box.new w #[.int .i64 2, .int .i64 (x : Int)] _).drew.cell 1 _ rfl⟩
theorem set6_cell {w : World} {B C : Nat} (h : ¬ B = C) (a : A6) (j : Nat) : (set6 w B a).cell? ⟨C, j, none⟩ = w.cell? ⟨C, j, none⟩ := by
  unfold set6
  iterate 6 rw [World.cell?_setCell_other _ _ _ _ (by intro e; injection e; contradiction)]
theorem set6_cells {w : World} {B C : Nat} (h : ¬ B = C) (a : A6) {u v : Value} (hw : w.drew.cell? ⟨C, 0, none⟩ = some u ∧ w.drew.cell? ⟨C, 1, none⟩ = some v) : (set6 w B a).drew.cell? ⟨C, 0, none⟩ = some u ∧ (set6 w B a).drew.cell? ⟨C, 1, none⟩ = some v :=
  by rw [World.cell?_drew] at hw; rw [World.cell?_drew, World.cell?_drew, set6_cell h, set6_cell h]; exact ⟨hw.1, hw.2⟩
theorem cut_len : ∀ (l a b : List UInt8), cutL l = some (a, b) → a.length ≤ l.length ∧ b.length ≤ l.length
  | [], _, _, h => by cases h
  | x :: r, a, b, h => by
    unfold cutL at h
    split at h
    · injection h with h; injection h with h1 h2; subst h1 h2; simp
    · cases hc : cutL r with
      | none => rw [hc] at h; cases h
      | some p =>
        rw [hc] at h
        injection h with h; injection h with h1 h2
        obtain ⟨h3, h4⟩ := cut_len r p.1 p.2 hc
        subst h1 h2
        simp only [List.length_cons]
        omega
set_option maxRecDepth 100000 in
set_option maxHeartbeats 4000000 in
theorem clip_cut (b : Nat) (r : List UInt8) (w : World) (he : Env w) (hc : B64.Box w b [.string ⟨r.toArray⟩]) (hs : r.length ≤ 1000000) (hcut : cutL r = none) :
    Calls Tryz.prog 68 #[.pointer (some ⟨b, 0, none⟩)] w fun e w' => e = .panicked mal ∧ Below w.heap.size w w' := by
  have HF := Lib.hid (fun W => field_none ⟨r.toArray⟩ hcut W (by rw [Lib.size_mk]; exact hs))
  clear hcut
  have HE := Lib.hid he
  have hb0 := fun o => B64.below_box w o
  have y0 := ((hc).alloc (.cells #[.int .i64 0, .int .i64 0, .int .i64 0, .int .i64 0, .int .i64 0, .string ⟨#[]⟩] 25)).cell 0 _ rfl
  clear he hs hc
  go_enter Tryz.func68, Tryz.ntmps68
  go_wp2_with fail
  refine (HF.out _).mono ?_
  rintro e w1 ⟨rfl, hb1⟩
  exact ⟨rfl, rfl, B64.up (hb0 _) hb1⟩
set_option maxRecDepth 100000 in
set_option maxHeartbeats 4000000 in
theorem palette_cut (b : Nat) (r : List UInt8) (w : World) (he : Env w) (hc : B64.Box w b [.string ⟨r.toArray⟩]) (hs : r.length ≤ 1000000) (hcut : cutL r = none) :
    Calls Tryz.prog 65 #[.pointer (some ⟨b, 0, none⟩)] w fun e w' => e = .panicked mal ∧ Below w.heap.size w w' := by
  have HF := Lib.hid (fun W => field_none ⟨r.toArray⟩ hcut W (by rw [Lib.size_mk]; exact hs))
  clear hcut
  have HE := Lib.hid he
  have hb0 := fun o => B64.below_box w o
  have y0 := ((hc).alloc (.cells #[.int .i64 0, .int .i64 0, .int .i64 0, .int .i64 0, .int .i64 0, .string ⟨#[]⟩] 25)).cell 0 _ rfl
  clear he hs hc
  go_enter Tryz.func65, Tryz.ntmps65
  go_wp2_with fail
  refine (HF.out _).mono ?_
  rintro e w1 ⟨rfl, hb1⟩
  exact ⟨rfl, rfl, B64.up (hb0 _) hb1⟩
set_option maxRecDepth 100000 in
set_option maxHeartbeats 4000000 in
theorem clip_sel (b : Nat) (r : List UInt8) (w : World) (he : Env w) (hc : B64.Box w b [.string ⟨r.toArray⟩]) (hs : r.length ≤ 1000000) (a c : List UInt8) (hcut : cutL r = some (a, c)) (ha : ¬ a = [99]) :
    Calls Tryz.prog 68 #[.pointer (some ⟨b, 0, none⟩)] w fun e w' => e = .panicked mal ∧ Below w.heap.size w w' := by
  have HF := Lib.hid (fun W => field_some ⟨r.toArray⟩ a c hcut W (by rw [Lib.size_mk]; exact hs))
  clear hcut
  have h99 : (a == [99]) = false := by simp [ha]
  clear ha
  have HE := Lib.hid he
  have hb0 := fun o => B64.below_box w o
  have y0 := ((hc).alloc (.cells #[.int .i64 0, .int .i64 0, .int .i64 0, .int .i64 0, .int .i64 0, .string ⟨#[]⟩] 25)).cell 0 _ rfl
  clear he hs hc
  go_enter Tryz.func68, Tryz.ntmps68
  go_wp2_with fail
  refine (HF.out _).mono ?_
  rintro e w1 ⟨rfl, hb1⟩
  have HZ := Lib.hid ((bz_new w).keep hb1)
  have hG := Lib.hid (B64.up (hb0 _) hb1)
  have HE := Lib.hid ((HE.out.keep (hb0 _)).keep hb1)
  clear hb1 y0
  go_wp2_with (go_at_call 34; refine (demand_no _).mono ?_; rintro e w2 ⟨rfl, rfl⟩)
  exact ⟨rfl, rfl, hG.out⟩
set_option maxRecDepth 100000 in
set_option maxHeartbeats 4000000 in
theorem clip_dec (b : Nat) (r : List UInt8) (w : World) (he : Env w) (hc : B64.Box w b [.string ⟨r.toArray⟩]) (hs : r.length ≤ 1000000) (c : List UInt8) (hcut : cutL r = some ([99], c)) (hcl : c.length ≤ 8192) (hd : B64.decL c = none) :
    Calls Tryz.prog 68 #[.pointer (some ⟨b, 0, none⟩)] w fun e w' => e = .panicked mal ∧ Below w.heap.size w w' := by
  have HD := Lib.hid (fun W => B64.decode_any ⟨c.toArray⟩ W (by rw [Lib.size_mk]; exact hcl))
  dsimp only at HD
  rw [B64.decV_none _ hd] at HD
  have HF := Lib.hid (fun W => field_some ⟨r.toArray⟩ [99] c hcut W (by rw [Lib.size_mk]; exact hs))
  clear hcut
  clear hd hcl
  have HE := Lib.hid he
  have hb0 := fun o => B64.below_box w o
  have y0 := ((hc).alloc (.cells #[.int .i64 0, .int .i64 0, .int .i64 0, .int .i64 0, .int .i64 0, .string ⟨#[]⟩] 25)).cell 0 _ rfl
  clear he hs hc
  go_enter Tryz.func68, Tryz.ntmps68
  go_wp2_with fail
  refine (HF.out _).mono ?_
  rintro e w1 ⟨rfl, hb1⟩
  have HZ := Lib.hid ((bz_new w).keep hb1)
  have hG := Lib.hid (B64.up (hb0 _) hb1)
  have HE := Lib.hid ((HE.out.keep (hb0 _)).keep hb1)
  clear hb1 y0
  have h1 := hG
  go_wp2_with (go_at_call 34; refine (demand_yes _).mono ?_; rintro e w2 ⟨rfl, rfl⟩)
  refine (HD.out _).mono ?_
  rintro e w3 ⟨rfl, hb3⟩
  have hG := Lib.hid (B64.up hG.out hb3)
  clear hb3
  go_wp2_with (go_at_call 34; refine (demand_no _).mono ?_; rintro e w4 ⟨rfl, rfl⟩)
  exact ⟨rfl, rfl, hG.out⟩
set_option maxRecDepth 100000 in
set_option maxHeartbeats 4000000 in
theorem clip_len (b : Nat) (r : List UInt8) (w : World) (he : Env w) (hc : B64.Box w b [.string ⟨r.toArray⟩]) (hs : r.length ≤ 1000000) (c x : List UInt8) (hcut : cutL r = some ([99], c)) (hcl : c.length ≤ 8192) (hd : B64.decL c = some x) (hx : ¬ x.length ≤ 378) :
    Calls Tryz.prog 68 #[.pointer (some ⟨b, 0, none⟩)] w fun e w' => e = .panicked mal ∧ Below w.heap.size w w' := by
  have HD := Lib.hid (fun W => B64.decode_any ⟨c.toArray⟩ W (by rw [Lib.size_mk]; exact hcl))
  dsimp only at HD
  rw [B64.decV_some _ x hd] at HD
  have HF := Lib.hid (fun W => field_some ⟨r.toArray⟩ [99] c hcut W (by rw [Lib.size_mk]; exact hs))
  clear hcut
  have HI := Lib.hid (fun W => isClip_any ⟨x.toArray⟩ W)
  rw [Lib.size_mk, decide_eq_false (by omega)] at HI
  clear hd hcl hx
  have HE := Lib.hid he
  have hb0 := fun o => B64.below_box w o
  have y0 := ((hc).alloc (.cells #[.int .i64 0, .int .i64 0, .int .i64 0, .int .i64 0, .int .i64 0, .string ⟨#[]⟩] 25)).cell 0 _ rfl
  clear he hs hc
  go_enter Tryz.func68, Tryz.ntmps68
  go_wp2_with fail
  refine (HF.out _).mono ?_
  rintro e w1 ⟨rfl, hb1⟩
  have HZ := Lib.hid ((bz_new w).keep hb1)
  have hG := Lib.hid (B64.up (hb0 _) hb1)
  have HE := Lib.hid ((HE.out.keep (hb0 _)).keep hb1)
  clear hb1 y0
  go_wp2_with (go_at_call 34; refine (demand_yes _).mono ?_; rintro e w2 ⟨rfl, rfl⟩)
  refine (HD.out _).mono ?_
  rintro e w3 ⟨rfl, hb3⟩
  have hG := Lib.hid (B64.up hG.out hb3)
  clear hb3
  go_wp2_with (first
    | (go_at_call 53; refine (HI.out _).mono ?_; rintro e w4 ⟨rfl, rfl⟩)
    | (go_at_call 34; refine (demand_no _).mono ?_; rintro e w5 ⟨rfl, rfl⟩))
  exact ⟨rfl, rfl, hG.out⟩
set_option maxRecDepth 100000 in
set_option maxHeartbeats 4000000 in
theorem clip_yes (b : Nat) (r : List UInt8) (w : World) (he : Env w) (hc : B64.Box w b [.string ⟨r.toArray⟩]) (hs : r.length ≤ 1000000) (c x : List UInt8) (hcut : cutL r = some ([99], c)) (hcl : c.length ≤ 8192) (hd : B64.decL c = some x) (hx : x.length ≤ 378) :
    Calls Tryz.prog 68 #[.pointer (some ⟨b, 0, none⟩)] w fun e w' => e = .returned (actV ⟨46, 0, 0, 0, 0, x⟩) ∧ Below w.heap.size w w' := by
  have HD := Lib.hid (fun W => B64.decode_any ⟨c.toArray⟩ W (by rw [Lib.size_mk]; exact hcl))
  dsimp only at HD
  rw [B64.decV_some _ x hd] at HD
  have HF := Lib.hid (fun W => field_some ⟨r.toArray⟩ [99] c hcut W (by rw [Lib.size_mk]; exact hs))
  clear hcut
  have HI := Lib.hid (fun W => isClip_any ⟨x.toArray⟩ W)
  rw [Lib.size_mk, decide_eq_true (by omega)] at HI
  clear hd hcl hx
  have HE := Lib.hid he
  have hb0 := fun o => B64.below_box w o
  have y0 := ((hc).alloc (.cells #[.int .i64 0, .int .i64 0, .int .i64 0, .int .i64 0, .int .i64 0, .string ⟨#[]⟩] 25)).cell 0 _ rfl
  clear he hs hc
  go_enter Tryz.func68, Tryz.ntmps68
  go_wp2_with fail
  refine (HF.out _).mono ?_
  rintro e w1 ⟨rfl, hb1⟩
  have HZ := Lib.hid ((bz_new w).keep hb1)
  have hG := Lib.hid (B64.up (hb0 _) hb1)
  have HE := Lib.hid ((HE.out.keep (hb0 _)).keep hb1)
  clear hb1 y0
  go_wp2_with (go_at_call 34; refine (demand_yes _).mono ?_; rintro e w2 ⟨rfl, rfl⟩)
  refine (HD.out _).mono ?_
  rintro e w3 ⟨rfl, hb3⟩
  have hG := Lib.hid (B64.up hG.out hb3)
  have HZ := Lib.hid (HZ.out.keep hb3)
  clear hb3
  obtain ⟨⟨x0, x1, x2, x3, x4, x5⟩, f0, f1, f2, f3, f4, f5⟩ := boxz HZ.out
  go_wp2_with (first
    | (go_at_call 53; refine (HI.out _).mono ?_; rintro e w4 ⟨rfl, rfl⟩)
    | (go_at_call 34; refine (demand_yes _).mono ?_; rintro e w5 ⟨rfl, rfl⟩))
  refine bodyPost_ret (ret_cell1 rfl _ _ ⟨w.heap.size, 0, none⟩ _ rfl (load_act (box_set6 HZ.out ⟨46, 0, 0, 0, 0, x⟩))) rfl ?_
  exact ⟨rfl, below_set6 hG.out (Nat.le_refl _) ⟨46, 0, 0, 0, 0, x⟩⟩
set_option maxRecDepth 100000 in
set_option maxHeartbeats 4000000 in
theorem palette_col (b : Nat) (r : List UInt8) (w : World) (he : Env w) (hc : B64.Box w b [.string ⟨r.toArray⟩]) (hs : r.length ≤ 1000000) (a c : List UInt8) (hcut : cutL r = some (a, c)) (hp : parseL c = none) :
    Calls Tryz.prog 65 #[.pointer (some ⟨b, 0, none⟩)] w fun e w' => e = .panicked mal ∧ Below w.heap.size w w' := by
  have HP := Lib.hid (fun W => parse_any ⟨c.toArray⟩ W)
  dsimp only at HP
  rw [← prsV_none _ hp] at HP
  clear hp
  have HF := Lib.hid (fun W => field_some ⟨r.toArray⟩ a c hcut W (by rw [Lib.size_mk]; exact hs))
  clear hcut
  have HE := Lib.hid he
  have hb0 := fun o => B64.below_box w o
  have y0 := ((hc).alloc (.cells #[.int .i64 0, .int .i64 0, .int .i64 0, .int .i64 0, .int .i64 0, .string ⟨#[]⟩] 25)).cell 0 _ rfl
  clear he hs hc
  go_enter Tryz.func65, Tryz.ntmps65
  go_wp2_with fail
  refine (HF.out _).mono ?_
  rintro e w1 ⟨rfl, hb1⟩
  have HZ := Lib.hid ((bz_new w).keep hb1)
  have hG := Lib.hid (B64.up (hb0 _) hb1)
  have HE := Lib.hid ((HE.out.keep (hb0 _)).keep hb1)
  clear hb1 y0
  go_wp2_with fail
  refine (HP.out _).mono ?_
  rintro e w2 ⟨rfl, hb2⟩
  have HZ := Lib.hid (HZ.out.keep hb2)
  have hG := Lib.hid (B64.up hG.out hb2)
  have HE := Lib.hid (HE.out.keep hb2)
  clear hb2
  go_wp2_with (go_at_call 34; refine (demand_no _).mono ?_; rintro e w3 ⟨rfl, rfl⟩)
  exact ⟨rfl, rfl, hG.out.alloc hG.out.size _⟩
set_option maxRecDepth 100000 in
set_option maxHeartbeats 4000000 in
theorem palette_num (b : Nat) (r : List UInt8) (w : World) (he : Env w) (hc : B64.Box w b [.string ⟨r.toArray⟩]) (hs : r.length ≤ 1000000) (a c : List UInt8) (hcut : cutL r = some (a, c)) (x : Nat) (hal : a.length ≤ 1000000) (hp : parseL c = some x) (hn : num3 a = none) :
    Calls Tryz.prog 65 #[.pointer (some ⟨b, 0, none⟩)] w fun e w' => e = .panicked mal ∧ Below w.heap.size w w' := by
  have HN := Lib.hid (fun W => entry_any ⟨a.toArray⟩ W (by rw [Lib.size_mk]; exact hal))
  dsimp only at HN
  rw [← ent_none _ hn] at HN
  have HP := Lib.hid (fun W => parse_any ⟨c.toArray⟩ W)
  dsimp only at HP
  rw [← prsV_some _ x hp] at HP
  clear hp hn hal
  have HF := Lib.hid (fun W => field_some ⟨r.toArray⟩ a c hcut W (by rw [Lib.size_mk]; exact hs))
  clear hcut
  have HE := Lib.hid he
  have hb0 := fun o => B64.below_box w o
  have y0 := ((hc).alloc (.cells #[.int .i64 0, .int .i64 0, .int .i64 0, .int .i64 0, .int .i64 0, .string ⟨#[]⟩] 25)).cell 0 _ rfl
  clear he hs hc
  go_enter Tryz.func65, Tryz.ntmps65
  go_wp2_with fail
  refine (HF.out _).mono ?_
  rintro e w1 ⟨rfl, hb1⟩
  have HZ := Lib.hid ((bz_new w).keep hb1)
  have hG := Lib.hid (B64.up (hb0 _) hb1)
  have HE := Lib.hid ((HE.out.keep (hb0 _)).keep hb1)
  clear hb1 y0
  go_wp2_with fail
  refine (HP.out _).mono ?_
  rintro e w2 ⟨rfl, hb2⟩
  have HZ := Lib.hid (HZ.out.keep hb2)
  have hG := Lib.hid (B64.up hG.out hb2)
  have HE := Lib.hid (HE.out.keep hb2)
  clear hb2
  go_wp2_with (go_at_call 34; refine (demand_yes _).mono ?_; rintro e w3 ⟨rfl, rfl⟩)
  have HZ := Lib.hid (HZ.out.alloc (.cells #[.int .i64 2, .int .i64 (x : Int)] 23))
  have HK := Lib.hid (col_new w2 x)
  have hG := Lib.hid (hG.out.alloc hG.out.size (.cells #[.int .i64 2, .int .i64 (x : Int)] 23))
  generalize (w2.alloc (.cells #[.int .i64 2, .int .i64 (x : Int)] 23)) = w3 at HZ HK hG ⊢
  generalize w2.heap.size = B2 at HK ⊢
  refine wp_region_held (S := (fun W => W.cell? ⟨B2, 0, none⟩ = some (.int .i64 2) ∧ W.cell? ⟨B2, 1, none⟩ = some (.int .i64 (x : Int)))) (by kernel_rfl) ?_
  refine wpAnyH_take (i := 0) (v := .string ⟨a.toArray⟩) rfl (by kernel_rfl) (by kernel_rfl) (by kernel_rfl) (fun _ _ _ h => h) (.inl ⟨rfl, fun W hW => by go_simp⟩) HK.out ?_
  refine wpAnyH_take (i := 2) (v := .agg #[.int .i64 2, .int .i64 (x : Int)]) rfl (by kernel_rfl) (by kernel_rfl) (by kernel_rfl) (fun _ _ _ h => h) (.inl ⟨rfl, fun W hW => by obtain ⟨h1, h2⟩ := hW; go_simp⟩) HK.out ?_
  refine wpAnyH_ready (rs := [1]) (by kernel_rfl) (by simp) ?_
  refine AllReadyH.cons (o := _) rfl (fun K hK => ?_) AllReadyH.nil
  go_simp
  go_at_call 67
  refine (HN.out _).mono ?_
  rintro e w4 ⟨rfl, rfl⟩
  exact ⟨rfl, rfl, hG.out.drew⟩
set_option maxRecDepth 100000 in
set_option maxHeartbeats 4000000 in
theorem palette_yes (b : Nat) (r : List UInt8) (w : World) (he : Env w) (hc : B64.Box w b [.string ⟨r.toArray⟩]) (hs : r.length ≤ 1000000) (a c : List UInt8) (hcut : cutL r = some (a, c)) (x n : Nat) (hal : a.length ≤ 1000000) (hp : parseL c = some x) (hn : num3 a = some n) :
    Calls Tryz.prog 65 #[.pointer (some ⟨b, 0, none⟩)] w fun e w' => e = .returned (actV ⟨45, n, 0, 2, x, []⟩) ∧ Below w.heap.size w w' := by
  have HN := Lib.hid (fun W => entry_any ⟨a.toArray⟩ W (by rw [Lib.size_mk]; exact hal))
  dsimp only at HN
  rw [← ent_some _ n hn] at HN
  have HP := Lib.hid (fun W => parse_any ⟨c.toArray⟩ W)
  dsimp only at HP
  rw [← prsV_some _ x hp] at HP
  clear hp hn hal
  have HF := Lib.hid (fun W => field_some ⟨r.toArray⟩ a c hcut W (by rw [Lib.size_mk]; exact hs))
  clear hcut
  have HE := Lib.hid he
  have hb0 := fun o => B64.below_box w o
  have y0 := ((hc).alloc (.cells #[.int .i64 0, .int .i64 0, .int .i64 0, .int .i64 0, .int .i64 0, .string ⟨#[]⟩] 25)).cell 0 _ rfl
  clear he hs hc
  go_enter Tryz.func65, Tryz.ntmps65
  go_wp2_with fail
  refine (HF.out _).mono ?_
  rintro e w1 ⟨rfl, hb1⟩
  have HZ := Lib.hid ((bz_new w).keep hb1)
  have hG := Lib.hid (B64.up (hb0 _) hb1)
  have HE := Lib.hid ((HE.out.keep (hb0 _)).keep hb1)
  clear hb1 y0
  go_wp2_with fail
  refine (HP.out _).mono ?_
  rintro e w2 ⟨rfl, hb2⟩
  have HZ := Lib.hid (HZ.out.keep hb2)
  have hG := Lib.hid (B64.up hG.out hb2)
  have HE := Lib.hid (HE.out.keep hb2)
  clear hb2
  go_wp2_with (go_at_call 34; refine (demand_yes _).mono ?_; rintro e w3 ⟨rfl, rfl⟩)
  have HZ0 := HZ
  have HZ := Lib.hid (HZ.out.alloc (.cells #[.int .i64 2, .int .i64 (x : Int)] 23))
  have HK := Lib.hid (col_new w2 x)
  have hG := Lib.hid (hG.out.alloc hG.out.size (.cells #[.int .i64 2, .int .i64 (x : Int)] 23))
  generalize (w2.alloc (.cells #[.int .i64 2, .int .i64 (x : Int)] 23)) = w3 at HZ HK hG ⊢
  have kb : ¬ w.heap.size = w2.heap.size := Nat.ne_of_lt HZ0.out.1
  generalize w2.heap.size = B2 at HK kb ⊢
  obtain ⟨⟨x0, x1, x2, x3, x4, x5⟩, f0, f1, f2, f3, f4, f5⟩ := boxz HZ.out
  refine wp_region_held (S := (fun W => W.cell? ⟨B2, 0, none⟩ = some (.int .i64 2) ∧ W.cell? ⟨B2, 1, none⟩ = some (.int .i64 (x : Int)))) (by kernel_rfl) ?_
  refine wpAnyH_take (i := 0) (v := .string ⟨a.toArray⟩) rfl (by kernel_rfl) (by kernel_rfl) (by kernel_rfl) (fun _ _ _ h => h) (.inl ⟨rfl, fun W hW => by go_simp⟩) HK.out ?_
  refine wpAnyH_take (i := 2) (v := .agg #[.int .i64 2, .int .i64 (x : Int)]) rfl (by kernel_rfl) (by kernel_rfl) (by kernel_rfl) (fun _ _ _ h => h) (.inl ⟨rfl, fun W hW => by obtain ⟨h1, h2⟩ := hW; go_simp⟩) HK.out ?_
  refine wpAnyH_ready (rs := [1]) (by kernel_rfl) (by simp) ?_
  refine AllReadyH.cons (o := _) rfl (fun K hK => ?_) AllReadyH.nil
  go_simp
  go_at_call 67
  refine (HN.out _).mono ?_
  rintro e w4 ⟨rfl, rfl⟩
  show K _ _
  refine hK.out _ _ HK.out (fun hHeld => ?_)
  clear hK K
  refine wpAnyH_take (i := 3) (v := .agg #[.int .i64 45, .int .i64 (n : Int), .int .i64 0, .int .i64 2, .int .i64 (x : Int), .string ⟨#[]⟩]) rfl (by kernel_rfl) (by kernel_rfl) (by kernel_rfl) (fun _ _ _ h => h) (.inl ⟨rfl, fun W hW => by go_simp⟩) HK.out ?_
  refine wpAnyH_ready (rs := [4]) (by kernel_rfl) (by simp) ?_
  refine AllReadyH.cons (o := _) rfl (fun K hK => ?_) AllReadyH.nil
  go_simp
  refine hK.out _ _ (set6_cells kb ⟨45, n, 0, 2, x, []⟩ HK.out) (fun hHeld2 => ?_)
  clear hK K
  refine wpAnyH_done (by kernel_rfl) ?_ _
  go_wp2
  refine bodyPost_ret (ret_cell1 rfl _ _ ⟨w.heap.size, 0, none⟩ _ rfl (load_act (box_set6 HZ.out ⟨45, n, 0, 2, x, []⟩).drew)) rfl ?_
  exact ⟨rfl, (below_set6 hG.out (Nat.le_refl _) ⟨45, n, 0, 2, x, []⟩).drew⟩
end Go.Proofs.YtoilcigmpeaedaaGreatDoor.Osc

namespace Go.Proofs.YtoilcigmpeaedaaGreatDoor.Osc
open Go.RowKit Utf Col

theorem set_push (a : Array Obj) (o o' : Obj) : (a.push o).setIfInBounds a.size o' = a.push o' := by
  apply Array.ext_getElem?
  intro i
  rw [Array.getElem?_setIfInBounds, Array.getElem?_push, Array.getElem?_push]
  by_cases h : a.size = i
  · subst h; simp
  · rw [if_neg h, if_neg (fun e => h e.symm), if_neg (fun e => h e.symm)]
theorem set_last (W : World) (o o' : Obj) : ({ heap := (W.alloc o).heap.setIfInBounds W.heap.size o', tape := W.tape, drawn := W.drawn, os := (W.alloc o).os, output := (W.alloc o).output } : World) = W.alloc o' := by
  show ({ heap := (W.heap.push o).setIfInBounds W.heap.size o', tape := W.tape, drawn := W.drawn, os := W.os, output := W.output } : World) = { W with heap := W.heap.push o' }
  rw [set_push]
theorem ins_run (W : World) (es : List MapEntry) (k : Nat) (S : ByteArray) (v : Value) (hk : Instr.findNow .string (.string S) es 0 = some none) :
    (Instr.mapUpdate 61 (.map (some W.heap.size)) (.string S) v).run Tryz.prog (W.alloc (.map es.toArray k)) = .ok () (W.alloc (.map (es ++ [({ key := .string S, val := v, born := k } : MapEntry)]).toArray (k + 1))) := by
  have hbk : (W.alloc (.map es.toArray k)).heap[W.heap.size]? = some (.map es.toArray k) := heap_alloc_new W _
  have hc : ∀ x, (Instr.checkKey false 10000 9 (.string S)).run Tryz.prog x = .ok () x := fun x => MapKept.run_checkKey (k := .string S) Tryz.underlying9 (by simp [MapKept.IsKey]) false 9999
  have hk' : Instr.findNow .string (.string S) es.toArray.toList 0 = some none := hk
  simp [Instr.mapUpdate, run_underlying Tryz.underlying61, MapKept.run_getObj_map hbk, hc, MapKept.run_findKey Tryz.underlying9 hk', MapKept.run_setObj_map _ hbk, Result.andThen]
  exact set_last W _ _
def fnv (f b : Nat) : Value := .func (.func f) #[] #[.pointer (some ⟨b, 0, none⟩)]
def entO (b : Nat) : List MapEntry := [{ key := .string ⟨#[48]⟩, val := fnv 64 b, born := 0 }, { key := .string ⟨#[50]⟩, val := fnv 64 b, born := 1 }, { key := .string ⟨#[52]⟩, val := fnv 65 b, born := 2 }, { key := .string ⟨#[53, 50]⟩, val := fnv 68 b, born := 3 }]
set_option maxRecDepth 100000 in
set_option maxHeartbeats 2000000 in
theorem handlers_any (r : ByteArray) (w : World) : Calls Tryz.prog 36 #[.string r] w fun e w' => e = .returned (.map (some (w.heap.size + 1))) ∧ w' = (w.alloc (.cells #[.string r] 9)).alloc (.map (entO w.heap.size).toArray 4) := by
  have hmf : ∀ (fn : Fn) (first cap : Array Value) (w : World), (Instr.makeFunc fn first cap).run Tryz.prog w = .ok (.func fn first cap) w := fun _ _ _ _ => rfl
  have hmm : ∀ W : World, (Instr.makeMap 61 none).run Tryz.prog W = .ok (.map (some W.heap.size)) (W.alloc (.map #[] 0)) := fun W => by
    simp [Instr.makeMap, Result.andThen]
  have i0 := fun v => ins_run (w.alloc (.cells #[.string r] 9)) [] 0 ⟨#[48]⟩ v rfl
  have i1 := fun u v => ins_run (w.alloc (.cells #[.string r] 9)) [{ key := .string ⟨#[48]⟩, val := u, born := 0 }] 1 ⟨#[50]⟩ v (by kernel_rfl)
  have i2 := fun u1 u2 v => ins_run (w.alloc (.cells #[.string r] 9)) [{ key := .string ⟨#[48]⟩, val := u1, born := 0 }, { key := .string ⟨#[50]⟩, val := u2, born := 1 }] 2 ⟨#[52]⟩ v (by kernel_rfl)
  have i3 := fun u1 u2 u3 v => ins_run (w.alloc (.cells #[.string r] 9)) [{ key := .string ⟨#[48]⟩, val := u1, born := 0 }, { key := .string ⟨#[50]⟩, val := u2, born := 1 }, { key := .string ⟨#[52]⟩, val := u3, born := 2 }] 3 ⟨#[53, 50]⟩ v (by kernel_rfl)
  rw [show (w.alloc (.cells #[.string r] 9)).heap.size = w.heap.size + 1 by simp] at i0 i1 i2 i3
  simp only [List.nil_append, List.cons_append] at i0 i1 i2 i3
  go_enter Tryz.func36, Tryz.ntmps36
  go_wp2
  go_ret
  exact ⟨by kernel_rfl, rfl⟩
theorem look_run (b g : Nat) (w : World) (h : w.heap[g]? = some (.map (entO b).toArray 4)) (S : ByteArray) (o : Option (Nat × Value)) (hk : Instr.findNow .string (.string S) (entO b) 0 = some o) :
    ∃ z, (Instr.lookup 61 (.map (some g)) (.string S) true).run Tryz.prog w = .ok (.tuple #[(o.map (·.2)).getD z, .bool o.isSome]) w := by
  have hc : ∀ x, (Instr.checkKey false 10000 9 (.string S)).run Tryz.prog x = .ok () x := fun x => MapKept.run_checkKey (k := .string S) Tryz.underlying9 (by simp [MapKept.IsKey]) false 9999
  have he : (entO b).toArray.isEmpty = false := rfl
  have hk' : Instr.findNow .string (.string S) (entO b).toArray.toList 0 = some o := hk
  cases o with
  | none =>
    refine ⟨?_, ?_⟩
    rotate_left
    · simp [Instr.lookup, run_underlying Tryz.underlying61, MapKept.run_getObj_map h, he, hc, MapKept.run_findKey Tryz.underlying9 hk', Result.andThen]
      rfl
  | some v =>
    refine ⟨undef, ?_⟩
    simp [Instr.lookup, run_underlying Tryz.underlying61, MapKept.run_getObj_map h, he, hc, MapKept.run_findKey Tryz.underlying9 hk', Result.andThen]
theorem find_0 (b : Nat) : Instr.findNow .string (.string ⟨#[48]⟩) (entO b) 0 = some (some (0, fnv 64 b)) := by kernel_rfl
theorem find_2 (b : Nat) : Instr.findNow .string (.string ⟨#[50]⟩) (entO b) 0 = some (some (1, fnv 64 b)) := by kernel_rfl
theorem find_4 (b : Nat) : Instr.findNow .string (.string ⟨#[52]⟩) (entO b) 0 = some (some (2, fnv 65 b)) := by kernel_rfl
theorem find_52 (b : Nat) : Instr.findNow .string (.string ⟨#[53, 50]⟩) (entO b) 0 = some (some (3, fnv 68 b)) := by kernel_rfl
theorem ba_ne (a b : List UInt8) (h : ¬ a = b) : ((⟨a.toArray⟩ : ByteArray) == (⟨b.toArray⟩ : ByteArray)) = false := by
  show (a.toArray == b.toArray) = false
  simp [h]
theorem find_no (b : Nat) (a : List UInt8) (h0 : ¬ a = [48]) (h2 : ¬ a = [50]) (h4 : ¬ a = [52]) (h52 : ¬ a = [53, 50]) : Instr.findNow .string (.string ⟨a.toArray⟩) (entO b) 0 = some none := by
  have e0 := ba_ne a [48] h0
  have e2 := ba_ne a [50] h2
  have e4 := ba_ne a [52] h4
  have e52 := ba_ne a [53, 50] h52
  unfold entO
  simp only [Instr.findNow, Instr.sameNow]
  rw [e0, e2, e4, e52]
end Go.Proofs.YtoilcigmpeaedaaGreatDoor.Osc

namespace Go.Proofs.YtoilcigmpeaedaaGreatDoor.Osc
open Go.RowKit Utf Col

theorem catch_panicking (p q : Nat) (k n m c0 c1 : Int) (t : List UInt8) (b : Bool) (u : TypeId) (pv : Value) (older : List PanicEntry) (w : World) (hp : B64.Box w p (c6 k n m c0 c1 t)) (hq : B64.Box w q [.bool b]) (hpq : ¬ p = q) :
    CallsD Tryz.prog 33 #[.pointer (some ⟨p, 0, none⟩), .pointer (some ⟨q, 0, none⟩)] (.panicking ({ v := .iface u pv, recovered := false } :: older)) w fun e u' w' =>
      e = .returned (.tuple #[]) ∧ u' = .panicking ({ v := .iface u pv, recovered := true } :: older) ∧ w' = (set6 w p ⟨0, 0, 0, 0, 0, []⟩).setCell ⟨q, 0, none⟩ (.bool false) := by
  obtain ⟨y0, y1, y2, y3, y4, y5⟩ := box6 hp
  have f0 := hp.free 0 (by show 0 < 6; decide)
  have f1 := hp.free 1 (by show 1 < 6; decide)
  have f2 := hp.free 2 (by show 2 < 6; decide)
  have f3 := hp.free 3 (by show 3 < 6; decide)
  have f4 := hp.free 4 (by show 4 < 6; decide)
  have f5 := hp.free 5 (by show 5 < 6; decide)
  have z0 := hq.cell 0 _ rfl
  have g0 := hq.free 0 (by show 0 < 1; decide)
  refine callsD_of_wpS Tryz.func33 rfl fun cc cs hu => ?_
  apply wpS_seq
  apply wpS_region
  simp [wpOpsS, go_sem, recoverD, hu, Tryz.ntmps33, Exit.thenS]
  refine wpS_cond (t := true) (by simp [Act.eval, Array.replicate]) ?_
  simp only [if_true]
  apply wpS_region
  simp [wpOpsS, go_sem, y0, y1, y2, y3, y4, y5, f0, f1, f2, f3, f4, f5, z0, g0, bodyPostS, results, Tryz.results33]
  rfl
theorem catch_idle (p q : Nat) (w : World) :
    CallsD Tryz.prog 33 #[.pointer (some ⟨p, 0, none⟩), .pointer (some ⟨q, 0, none⟩)] .returning w fun e u' w' => e = .returned (.tuple #[]) ∧ u' = .returning ∧ w' = w := by
  refine callsD_of_wpS Tryz.func33 rfl fun cc cs hu => ?_
  apply wpS_seq
  apply wpS_region
  simp [wpOpsS, go_sem, recoverD, hu, Tryz.ntmps33, Exit.thenS]
  refine wpS_cond (t := false) (by simp [Act.eval, Array.replicate]) ?_
  simp only [Bool.false_eq_true, if_false]
  refine wpS_of_wp (wp_skip ?_)
  cases cc
  simp_all [bodyPostS, results, Tryz.results33]
def parV (o : Option A6) : Value := match o with
  | some a => .tuple #[actV a, .bool true]
  | none => .tuple #[actV ⟨0, 0, 0, 0, 0, []⟩, .bool false]
theorem ret_cell2 {P : Program} {fn : Func} {p q : Tmp} {ty tz : TypeId} (h : fn.results = #[.cell p ty, .cell q tz]) (tmps : Array Value) (w : World) (a b : Addr) (v u : Value) (ha : tmps.getD p undef = .pointer (some a)) (hb : tmps.getD q undef = .pointer (some b)) (hl : (loadVar ty a).run P w = .ok v w) (hm : (loadVar tz b).run P w = .ok u w) :
    (results fn tmps).run P w = .ok (.tuple #[v, u]) w := by
  have ha' : tmps[p]?.getD undef = .pointer (some a) := by simpa using ha
  have hb' : tmps[q]?.getD undef = .pointer (some b) := by simpa using hb
  simp only [results, h]
  simp [ha', hb', asAddr, hl, hm]
theorem box1_new (w : World) (o : Obj) : B64.Box ((w.alloc o).alloc (.cells #[.bool false] 4)) (w.heap.size + 1) [.bool false] := by
  have := B64.Box.new (w.alloc o) #[.bool false] 4
  rwa [show (w.alloc o).heap.size = w.heap.size + 1 by simp] at this
theorem set6_size (w : World) (B : Nat) (a : A6) : (set6 w B a).heap.size = w.heap.size := by simp [set6]
theorem shut_panic (w W : World) (tmps : Array Value) (p q : Nat) (h2 : tmps.getD 2 undef = .pointer (some ⟨p, 0, none⟩)) (h3 : tmps.getD 3 undef = .pointer (some ⟨q, 0, none⟩)) (hp : B64.Box W p z6) (hq : B64.Box W q [.bool false]) (hpq : ¬ p = q) (h1 : w.heap.size ≤ p) (h4 : w.heap.size ≤ q) (hb : Below w.heap.size w W) :
    bodyPostD Tryz.prog Tryz.f13 (fun e w' => e = Ending.returned (parV none) ∧ Below w.heap.size w w') (Exit.panic mal) { tmps := tmps, defers := [{ target := Target.fn (Fn.func 33) #[.pointer (some ⟨p, 0, none⟩), .pointer (some ⟨q, 0, none⟩)], args := #[] }] } W := by
  refine leaves_cons (f := 33) (args := #[.pointer (some ⟨p, 0, none⟩), .pointer (some ⟨q, 0, none⟩)]) (by simp) (by simp [go_sem]) ?_
  refine (catch_panicking p q 0 0 0 0 0 [] false _ _ [] W hp hq hpq).mono ?_
  rintro e u' w'' ⟨rfl, rfl, rfl⟩
  have r1 := load_act ((box_set6 hp ⟨0, 0, 0, 0, 0, []⟩).at (by simp) ((B64.grown_set _ q 0 _).block p (by rw [set6_size]; exact hp.1) (fun e => hpq (by injection e))) : B64.Box ((set6 W p ⟨0, 0, 0, 0, 0, []⟩).setCell ⟨q, 0, none⟩ (.bool false)) p _)
  have r2 : (loadVar 4 ⟨q, 0, none⟩).run Tryz.prog ((set6 W p ⟨0, 0, 0, 0, 0, []⟩).setCell ⟨q, 0, none⟩ (.bool false)) = .ok (.bool false) ((set6 W p ⟨0, 0, 0, 0, 0, []⟩).setCell ⟨q, 0, none⟩ (.bool false)) := by
    have hc : (set6 W p ⟨0, 0, 0, 0, 0, []⟩).cell? ⟨q, 0, none⟩ = some (.bool false) := (set6_cell hpq _ 0).trans (hq.cell 0 _ rfl)
    go_simp
  exact ⟨_, ret_cell2 rfl tmps _ ⟨p, 0, none⟩ ⟨q, 0, none⟩ _ _ h2 h3 r1 r2, rfl, (below_set6 hb h1 ⟨0, 0, 0, 0, 0, []⟩).setCell (p := ⟨q, 0, none⟩) h4 _⟩
set_option maxRecDepth 100000 in
set_option maxHeartbeats 4000000 in
theorem parse_long (s : ByteArray) (w : World) (hs : ¬ (s.size : Int) ≤ 512) : Calls Tryz.prog 13 #[.string s] w fun e w' => e = .returned (parV none) ∧ Below w.heap.size w w' := by
  have hmf : ∀ (fn : Fn) (first cap : Array Value) (w : World), (Instr.makeFunc fn first cap).run Tryz.prog w = .ok (.func fn first cap) w := fun _ _ _ _ => rfl
  have d5 : decide ((s.size : Int) ≤ 512) = false := decide_eq_false hs
  go_enter_defers Tryz.func13, Tryz.ntmps13
  go_wp2_with (go_at_call 34; refine (demand_no _).mono ?_; rintro e w1 ⟨rfl, rfl⟩)
  exact shut_panic w _ _ w.heap.size (w.heap.size + 1) rfl rfl ((bz_new w).alloc _) (box1_new w _) (by omega) (by omega) (by omega) (B64.up (B64.below_box _ _) (B64.below_box _ _))
theorem handlers_at (r : ByteArray) (w : World) : Calls Tryz.prog 36 #[.string r] w fun e w' => ∃ b g, e = .returned (.map (some g)) ∧ B64.Box w' b [.string r] ∧ w'.heap[g]? = some (.map (entO b).toArray 4) ∧ Below w.heap.size w w' :=
  (handlers_any r w).mono fun e w' ⟨he, hw⟩ => ⟨w.heap.size, w.heap.size + 1, he, by rw [hw]; exact (B64.Box.new w _ _).alloc _, by
    rw [hw]
    have := heap_alloc_new (w.alloc (.cells #[.string r] 9)) (.map (entO w.heap.size).toArray 4)
    rwa [show (w.alloc (.cells #[.string r] 9)).heap.size = w.heap.size + 1 by simp] at this, by rw [hw]; exact B64.up (B64.below_box _ _) (B64.below_box _ _)⟩
theorem look_at (b g : Nat) (w : World) (h : w.heap[g]? = some (.map (entO b).toArray 4)) (a : List UInt8) (i : Nat) (v : Value) (hk : Instr.findNow .string (.string ⟨a.toArray⟩) (entO b) 0 = some (some (i, v))) :
    (Instr.lookup 61 (.map (some g)) (.string ⟨a.toArray⟩) true).run Tryz.prog w = .ok (.tuple #[v, .bool true]) w := by
  obtain ⟨z, hz⟩ := look_run b g w h _ _ hk
  exact hz
theorem look_no (b g : Nat) (w : World) (h : w.heap[g]? = some (.map (entO b).toArray 4)) (a : List UInt8) (h0 : ¬ a = [48]) (h2 : ¬ a = [50]) (h4 : ¬ a = [52]) (h52 : ¬ a = [53, 50]) :
    ∃ z, (Instr.lookup 61 (.map (some g)) (.string ⟨a.toArray⟩) true).run Tryz.prog w = .ok (.tuple #[z, .bool false]) w := by
  obtain ⟨z, hz⟩ := look_run b g w h _ _ (find_no b a h0 h2 h4 h52)
  exact ⟨z, hz⟩
/-- the two boxes of Parse's results, and the world as far as it has come -/
structure PB (w W : World) : Prop where
  p : B64.Box W w.heap.size z6
  q : B64.Box W (w.heap.size + 1) [.bool false]
  b : Below w.heap.size w W
  e : Env W
theorem PB.new {w : World} (h : Env w) : PB w ((w.alloc (.cells #[.int .i64 0, .int .i64 0, .int .i64 0, .int .i64 0, .int .i64 0, .string ⟨#[]⟩] 25)).alloc (.cells #[.bool false] 4)) :=
  ⟨(bz_new w).alloc _, box1_new w _, B64.up (B64.below_box _ _) (B64.below_box _ _), (h.keep (B64.below_box _ _)).keep (B64.below_box _ _)⟩
theorem PB.keep {w W W' : World} (h : PB w W) (hb : Below W.heap.size W W') : PB w W' := ⟨h.p.keep hb, h.q.keep hb, B64.up h.b hb, h.e.keep hb⟩
theorem shut_good (w W : World) (x : A6) (tmps : Array Value) (p q : Nat) (h2 : tmps.getD 2 undef = .pointer (some ⟨p, 0, none⟩)) (h3 : tmps.getD 3 undef = .pointer (some ⟨q, 0, none⟩)) (b1 : B64.Box W p z6) (b2 : B64.Box W q [.bool false]) (hpq : ¬ p = q) (h1 : w.heap.size ≤ p) (h4 : w.heap.size ≤ q) (hb : Below w.heap.size w W) :
    bodyPostD Tryz.prog Tryz.f13 (fun e w' => e = Ending.returned (parV (some x)) ∧ Below w.heap.size w w') Exit.ret { tmps := tmps, defers := [{ target := Target.fn (Fn.func 33) #[.pointer (some ⟨p, 0, none⟩), .pointer (some ⟨q, 0, none⟩)], args := #[] }] } ((set6 W p x).setCell ⟨q, 0, none⟩ (.bool true)) := by
  have r1 := load_act ((box_set6 b1 x).at (by simp) ((B64.grown_set _ q 0 _).block p (by rw [set6_size]; exact b1.1) (fun e => hpq (by injection e))) : B64.Box ((set6 W p x).setCell ⟨q, 0, none⟩ (.bool true)) p _)
  have r2 : (loadVar 4 ⟨q, 0, none⟩).run Tryz.prog ((set6 W p x).setCell ⟨q, 0, none⟩ (.bool true)) = .ok (.bool true) ((set6 W p x).setCell ⟨q, 0, none⟩ (.bool true)) := by
    have hc : (set6 W p x).cell? ⟨q, 0, none⟩ = some (.bool false) := (set6_cell hpq _ 0).trans (b2.cell 0 _ rfl)
    go_simp
  refine leaves_cons (f := 33) (args := #[.pointer (some ⟨p, 0, none⟩), .pointer (some ⟨q, 0, none⟩)]) (by simp) (by simp [go_sem]) ?_
  refine (catch_idle p q _).mono ?_
  rintro e u' w'' ⟨rfl, rfl, rfl⟩
  exact ⟨_, ret_cell2 rfl tmps _ ⟨p, 0, none⟩ ⟨q, 0, none⟩ _ _ h2 h3 r1 r2, rfl, (below_set6 hb h1 x).setCell (p := ⟨q, 0, none⟩) h4 _⟩
theorem PB.good {w W : World} (h : PB w W) (x : A6) (tmps : Array Value) (h2 : tmps.getD 2 undef = .pointer (some ⟨w.heap.size, 0, none⟩)) (h3 : tmps.getD 3 undef = .pointer (some ⟨w.heap.size + 1, 0, none⟩)) :
    bodyPostD Tryz.prog Tryz.f13 (fun e w' => e = Ending.returned (parV (some x)) ∧ Below w.heap.size w w') Exit.ret { tmps := tmps, defers := [{ target := Target.fn (Fn.func 33) #[.pointer (some ⟨w.heap.size, 0, none⟩), .pointer (some ⟨w.heap.size + 1, 0, none⟩)], args := #[] }] } ((set6 W w.heap.size x).setCell ⟨w.heap.size + 1, 0, none⟩ (.bool true)) :=
  shut_good w W x tmps _ _ h2 h3 h.p h.q (by omega) (by omega) (by omega) h.b
theorem PB.bad {w W : World} (h : PB w W) (tmps : Array Value) (h2 : tmps.getD 2 undef = .pointer (some ⟨w.heap.size, 0, none⟩)) (h3 : tmps.getD 3 undef = .pointer (some ⟨w.heap.size + 1, 0, none⟩)) :
    bodyPostD Tryz.prog Tryz.f13 (fun e w' => e = Ending.returned (parV none) ∧ Below w.heap.size w w') (Exit.panic mal) { tmps := tmps, defers := [{ target := Target.fn (Fn.func 33) #[.pointer (some ⟨w.heap.size, 0, none⟩), .pointer (some ⟨w.heap.size + 1, 0, none⟩)], args := #[] }] } W :=
  shut_panic w W tmps _ _ h2 h3 h.p h.q (by omega) (by omega) (by omega) h.b
set_option maxRecDepth 100000 in
set_option maxHeartbeats 4000000 in
theorem parse_cut (s : ByteArray) (w : World) (he : Env w) (hs : (s.size : Int) ≤ 512) (hcut : cutL s.data.toList = none) : Calls Tryz.prog 13 #[.string s] w fun e w' => e = .returned (parV none) ∧ Below w.heap.size w w' := by
  have hmf : ∀ (fn : Fn) (first cap : Array Value) (w : World), (Instr.makeFunc fn first cap).run Tryz.prog w = .ok (.func fn first cap) w := fun _ _ _ _ => rfl
  have d5 : decide ((s.size : Int) ≤ 512) = true := decide_eq_true hs
  have HB := Lib.hid (PB.new he)
  have HF := Lib.hid (fun W => field_none s hcut W (by omega))
  clear hcut
  clear he hs
  go_enter_defers Tryz.func13, Tryz.ntmps13
  go_wp2_with (go_at_call 34; refine (demand_yes _).mono ?_; rintro e w1 ⟨rfl, rfl⟩)
  refine (HF.out _).mono ?_
  rintro e w2 ⟨rfl, hb2⟩
  have HB := Lib.hid (HB.out.keep hb2)
  clear hb2
  exact HB.out.bad _ rfl rfl
set_option maxRecDepth 100000 in
set_option maxHeartbeats 4000000 in
theorem parse_num (s : ByteArray) (w : World) (he : Env w) (hs : (s.size : Int) ≤ 512) (a r : List UInt8) (hcut : cutL s.data.toList = some (a, r)) (h0 : ¬ a = [48]) (h2 : ¬ a = [50]) (h4 : ¬ a = [52]) (h52 : ¬ a = [53, 50]) : Calls Tryz.prog 13 #[.string s] w fun e w' => e = .returned (parV none) ∧ Below w.heap.size w w' := by
  have hmf : ∀ (fn : Fn) (first cap : Array Value) (w : World), (Instr.makeFunc fn first cap).run Tryz.prog w = .ok (.func fn first cap) w := fun _ _ _ _ => rfl
  have d5 : decide ((s.size : Int) ≤ 512) = true := decide_eq_true hs
  have HB := Lib.hid (PB.new he)
  have HF := Lib.hid (fun W => field_some s a r hcut W (by omega))
  clear hcut
  have HN := Lib.hid (fun b g W h => look_no b g W h a h0 h2 h4 h52)
  clear h0 h2 h4 h52
  clear he hs
  go_enter_defers Tryz.func13, Tryz.ntmps13
  go_wp2_with (go_at_call 34; refine (demand_yes _).mono ?_; rintro e w1 ⟨rfl, rfl⟩)
  refine (HF.out _).mono ?_
  rintro e w2 ⟨rfl, hb2⟩
  have HB := Lib.hid (HB.out.keep hb2)
  clear hb2
  go_wp2_with (first
    | (go_at_call 36; refine (handlers_at _ _).mono ?_; rintro e w3 ⟨b, g, rfl, hbx, hmp, hb3⟩; obtain ⟨z, hl⟩ := HN.out b g _ hmp; have HB := Lib.hid (HB.out.keep hb3); clear hb3 hbx hmp)
    | (go_at_call 34; refine (demand_no _).mono ?_; rintro e w4 ⟨rfl, rfl⟩))
  exact HB.out.bad _ rfl rfl
set_option maxRecDepth 100000 in
set_option maxHeartbeats 4000000 in
theorem parse_t_no (s : ByteArray) (w : World) (he : Env w) (hs : (s.size : Int) ≤ 512) (a r : List UInt8) (hcut : cutL s.data.toList = some (a, r)) (j : Nat) (hk : ∀ b, Instr.findNow .string (.string ⟨a.toArray⟩) (entO b) 0 = some (some (j, fnv 64 b))) (hr : ∀ b W, Env W → B64.Box W b [.string ⟨r.toArray⟩] → Calls Tryz.prog 64 #[.pointer (some ⟨b, 0, none⟩)] W fun e w' => e = .panicked mal ∧ Below W.heap.size W w') : Calls Tryz.prog 13 #[.string s] w fun e w' => e = .returned (parV none) ∧ Below w.heap.size w w' := by
  have hmf : ∀ (fn : Fn) (first cap : Array Value) (w : World), (Instr.makeFunc fn first cap).run Tryz.prog w = .ok (.func fn first cap) w := fun _ _ _ _ => rfl
  have d5 : decide ((s.size : Int) ≤ 512) = true := decide_eq_true hs
  have HB := Lib.hid (PB.new he)
  have HF := Lib.hid (fun W => field_some s a r hcut W (by omega))
  clear hcut
  have HN := Lib.hid (fun b g W h => look_at b g W h a j _ (hk b))
  unfold fnv at HN
  clear hk
  have HR := Lib.hid hr
  clear hr
  clear he hs
  go_enter_defers Tryz.func13, Tryz.ntmps13
  go_wp2_with (go_at_call 34; refine (demand_yes _).mono ?_; rintro e w1 ⟨rfl, rfl⟩)
  refine (HF.out _).mono ?_
  rintro e w2 ⟨rfl, hb2⟩
  have HB := Lib.hid (HB.out.keep hb2)
  clear hb2
  go_wp2_with (first
    | (go_at_call 36; refine (handlers_at _ _).mono ?_; rintro e w3 ⟨b, g, rfl, hbx, hmp, hb3⟩; have hl := HN.out b g _ hmp; have HB := Lib.hid (HB.out.keep hb3); have HX := Lib.hid hbx; clear hb3 hbx hmp)
    | (go_at_call 34; refine (demand_yes _).mono ?_; rintro e w4 ⟨rfl, rfl⟩))
  refine (HR.out _ _ HB.out.e HX.out).mono ?_
  rintro e w5 ⟨rfl, hb5⟩
  exact (HB.out.keep hb5).bad _ rfl rfl
set_option maxRecDepth 100000 in
set_option maxHeartbeats 4000000 in
theorem parse_t_yes (s : ByteArray) (w : World) (he : Env w) (hs : (s.size : Int) ≤ 512) (a r : List UInt8) (hcut : cutL s.data.toList = some (a, r)) (j : Nat) (hk : ∀ b, Instr.findNow .string (.string ⟨a.toArray⟩) (entO b) 0 = some (some (j, fnv 64 b))) (x : A6) (hr : ∀ b W, Env W → B64.Box W b [.string ⟨r.toArray⟩] → Calls Tryz.prog 64 #[.pointer (some ⟨b, 0, none⟩)] W fun e w' => e = .returned (actV x) ∧ Below W.heap.size W w') : Calls Tryz.prog 13 #[.string s] w fun e w' => e = .returned (parV (some x)) ∧ Below w.heap.size w w' := by
  have hmf : ∀ (fn : Fn) (first cap : Array Value) (w : World), (Instr.makeFunc fn first cap).run Tryz.prog w = .ok (.func fn first cap) w := fun _ _ _ _ => rfl
  have d5 : decide ((s.size : Int) ≤ 512) = true := decide_eq_true hs
  have HB := Lib.hid (PB.new he)
  have HF := Lib.hid (fun W => field_some s a r hcut W (by omega))
  clear hcut
  have HN := Lib.hid (fun b g W h => look_at b g W h a j _ (hk b))
  unfold fnv at HN
  clear hk
  unfold actV at hr
  have HR := Lib.hid hr
  clear hr
  clear he hs
  go_enter_defers Tryz.func13, Tryz.ntmps13
  go_wp2_with (go_at_call 34; refine (demand_yes _).mono ?_; rintro e w1 ⟨rfl, rfl⟩)
  refine (HF.out _).mono ?_
  rintro e w2 ⟨rfl, hb2⟩
  have HB := Lib.hid (HB.out.keep hb2)
  clear hb2
  go_wp2_with (first
    | (go_at_call 36; refine (handlers_at _ _).mono ?_; rintro e w3 ⟨b, g, rfl, hbx, hmp, hb3⟩; have hl := HN.out b g _ hmp; have HB := Lib.hid (HB.out.keep hb3); have HX := Lib.hid hbx; clear hb3 hbx hmp)
    | (go_at_call 34; refine (demand_yes _).mono ?_; rintro e w4 ⟨rfl, rfl⟩))
  refine (HR.out _ _ HB.out.e HX.out).mono ?_
  rintro e w5 ⟨rfl, hb5⟩
  have HB := Lib.hid (HB.out.keep hb5)
  obtain ⟨⟨x0, x1, x2, x3, x4, x5⟩, f0, f1, f2, f3, f4, f5⟩ := boxz HB.out.p
  have z0 := HB.out.q.cell 0 _ rfl
  have g0 := HB.out.q.free 0 (by show 0 < 1; decide)
  clear hb5
  go_wp2
  exact HB.out.good x _ rfl rfl
set_option maxRecDepth 100000 in
set_option maxHeartbeats 4000000 in
theorem parse_p_no (s : ByteArray) (w : World) (he : Env w) (hs : (s.size : Int) ≤ 512) (a r : List UInt8) (hcut : cutL s.data.toList = some (a, r)) (j : Nat) (hk : ∀ b, Instr.findNow .string (.string ⟨a.toArray⟩) (entO b) 0 = some (some (j, fnv 65 b))) (hr : ∀ b W, Env W → B64.Box W b [.string ⟨r.toArray⟩] → Calls Tryz.prog 65 #[.pointer (some ⟨b, 0, none⟩)] W fun e w' => e = .panicked mal ∧ Below W.heap.size W w') : Calls Tryz.prog 13 #[.string s] w fun e w' => e = .returned (parV none) ∧ Below w.heap.size w w' := by
  have hmf : ∀ (fn : Fn) (first cap : Array Value) (w : World), (Instr.makeFunc fn first cap).run Tryz.prog w = .ok (.func fn first cap) w := fun _ _ _ _ => rfl
  have d5 : decide ((s.size : Int) ≤ 512) = true := decide_eq_true hs
  have HB := Lib.hid (PB.new he)
  have HF := Lib.hid (fun W => field_some s a r hcut W (by omega))
  clear hcut
  have HN := Lib.hid (fun b g W h => look_at b g W h a j _ (hk b))
  unfold fnv at HN
  clear hk
  have HR := Lib.hid hr
  clear hr
  clear he hs
  go_enter_defers Tryz.func13, Tryz.ntmps13
  go_wp2_with (go_at_call 34; refine (demand_yes _).mono ?_; rintro e w1 ⟨rfl, rfl⟩)
  refine (HF.out _).mono ?_
  rintro e w2 ⟨rfl, hb2⟩
  have HB := Lib.hid (HB.out.keep hb2)
  clear hb2
  go_wp2_with (first
    | (go_at_call 36; refine (handlers_at _ _).mono ?_; rintro e w3 ⟨b, g, rfl, hbx, hmp, hb3⟩; have hl := HN.out b g _ hmp; have HB := Lib.hid (HB.out.keep hb3); have HX := Lib.hid hbx; clear hb3 hbx hmp)
    | (go_at_call 34; refine (demand_yes _).mono ?_; rintro e w4 ⟨rfl, rfl⟩))
  refine (HR.out _ _ HB.out.e HX.out).mono ?_
  rintro e w5 ⟨rfl, hb5⟩
  exact (HB.out.keep hb5).bad _ rfl rfl
set_option maxRecDepth 100000 in
set_option maxHeartbeats 4000000 in
theorem parse_p_yes (s : ByteArray) (w : World) (he : Env w) (hs : (s.size : Int) ≤ 512) (a r : List UInt8) (hcut : cutL s.data.toList = some (a, r)) (j : Nat) (hk : ∀ b, Instr.findNow .string (.string ⟨a.toArray⟩) (entO b) 0 = some (some (j, fnv 65 b))) (x : A6) (hr : ∀ b W, Env W → B64.Box W b [.string ⟨r.toArray⟩] → Calls Tryz.prog 65 #[.pointer (some ⟨b, 0, none⟩)] W fun e w' => e = .returned (actV x) ∧ Below W.heap.size W w') : Calls Tryz.prog 13 #[.string s] w fun e w' => e = .returned (parV (some x)) ∧ Below w.heap.size w w' := by
  have hmf : ∀ (fn : Fn) (first cap : Array Value) (w : World), (Instr.makeFunc fn first cap).run Tryz.prog w = .ok (.func fn first cap) w := fun _ _ _ _ => rfl
  have d5 : decide ((s.size : Int) ≤ 512) = true := decide_eq_true hs
  have HB := Lib.hid (PB.new he)
  have HF := Lib.hid (fun W => field_some s a r hcut W (by omega))
  clear hcut
  have HN := Lib.hid (fun b g W h => look_at b g W h a j _ (hk b))
  unfold fnv at HN
  clear hk
  unfold actV at hr
  have HR := Lib.hid hr
  clear hr
  clear he hs
  go_enter_defers Tryz.func13, Tryz.ntmps13
  go_wp2_with (go_at_call 34; refine (demand_yes _).mono ?_; rintro e w1 ⟨rfl, rfl⟩)
  refine (HF.out _).mono ?_
  rintro e w2 ⟨rfl, hb2⟩
  have HB := Lib.hid (HB.out.keep hb2)
  clear hb2
  go_wp2_with (first
    | (go_at_call 36; refine (handlers_at _ _).mono ?_; rintro e w3 ⟨b, g, rfl, hbx, hmp, hb3⟩; have hl := HN.out b g _ hmp; have HB := Lib.hid (HB.out.keep hb3); have HX := Lib.hid hbx; clear hb3 hbx hmp)
    | (go_at_call 34; refine (demand_yes _).mono ?_; rintro e w4 ⟨rfl, rfl⟩))
  refine (HR.out _ _ HB.out.e HX.out).mono ?_
  rintro e w5 ⟨rfl, hb5⟩
  have HB := Lib.hid (HB.out.keep hb5)
  obtain ⟨⟨x0, x1, x2, x3, x4, x5⟩, f0, f1, f2, f3, f4, f5⟩ := boxz HB.out.p
  have z0 := HB.out.q.cell 0 _ rfl
  have g0 := HB.out.q.free 0 (by show 0 < 1; decide)
  clear hb5
  go_wp2
  exact HB.out.good x _ rfl rfl
set_option maxRecDepth 100000 in
set_option maxHeartbeats 4000000 in
theorem parse_c_no (s : ByteArray) (w : World) (he : Env w) (hs : (s.size : Int) ≤ 512) (a r : List UInt8) (hcut : cutL s.data.toList = some (a, r)) (j : Nat) (hk : ∀ b, Instr.findNow .string (.string ⟨a.toArray⟩) (entO b) 0 = some (some (j, fnv 68 b))) (hr : ∀ b W, Env W → B64.Box W b [.string ⟨r.toArray⟩] → Calls Tryz.prog 68 #[.pointer (some ⟨b, 0, none⟩)] W fun e w' => e = .panicked mal ∧ Below W.heap.size W w') : Calls Tryz.prog 13 #[.string s] w fun e w' => e = .returned (parV none) ∧ Below w.heap.size w w' := by
  have hmf : ∀ (fn : Fn) (first cap : Array Value) (w : World), (Instr.makeFunc fn first cap).run Tryz.prog w = .ok (.func fn first cap) w := fun _ _ _ _ => rfl
  have d5 : decide ((s.size : Int) ≤ 512) = true := decide_eq_true hs
  have HB := Lib.hid (PB.new he)
  have HF := Lib.hid (fun W => field_some s a r hcut W (by omega))
  clear hcut
  have HN := Lib.hid (fun b g W h => look_at b g W h a j _ (hk b))
  unfold fnv at HN
  clear hk
  have HR := Lib.hid hr
  clear hr
  clear he hs
  go_enter_defers Tryz.func13, Tryz.ntmps13
  go_wp2_with (go_at_call 34; refine (demand_yes _).mono ?_; rintro e w1 ⟨rfl, rfl⟩)
  refine (HF.out _).mono ?_
  rintro e w2 ⟨rfl, hb2⟩
  have HB := Lib.hid (HB.out.keep hb2)
  clear hb2
  go_wp2_with (first
    | (go_at_call 36; refine (handlers_at _ _).mono ?_; rintro e w3 ⟨b, g, rfl, hbx, hmp, hb3⟩; have hl := HN.out b g _ hmp; have HB := Lib.hid (HB.out.keep hb3); have HX := Lib.hid hbx; clear hb3 hbx hmp)
    | (go_at_call 34; refine (demand_yes _).mono ?_; rintro e w4 ⟨rfl, rfl⟩))
  refine (HR.out _ _ HB.out.e HX.out).mono ?_
  rintro e w5 ⟨rfl, hb5⟩
  exact (HB.out.keep hb5).bad _ rfl rfl
set_option maxRecDepth 100000 in
set_option maxHeartbeats 4000000 in
theorem parse_c_yes (s : ByteArray) (w : World) (he : Env w) (hs : (s.size : Int) ≤ 512) (a r : List UInt8) (hcut : cutL s.data.toList = some (a, r)) (j : Nat) (hk : ∀ b, Instr.findNow .string (.string ⟨a.toArray⟩) (entO b) 0 = some (some (j, fnv 68 b))) (x : A6) (hr : ∀ b W, Env W → B64.Box W b [.string ⟨r.toArray⟩] → Calls Tryz.prog 68 #[.pointer (some ⟨b, 0, none⟩)] W fun e w' => e = .returned (actV x) ∧ Below W.heap.size W w') : Calls Tryz.prog 13 #[.string s] w fun e w' => e = .returned (parV (some x)) ∧ Below w.heap.size w w' := by
  have hmf : ∀ (fn : Fn) (first cap : Array Value) (w : World), (Instr.makeFunc fn first cap).run Tryz.prog w = .ok (.func fn first cap) w := fun _ _ _ _ => rfl
  have d5 : decide ((s.size : Int) ≤ 512) = true := decide_eq_true hs
  have HB := Lib.hid (PB.new he)
  have HF := Lib.hid (fun W => field_some s a r hcut W (by omega))
  clear hcut
  have HN := Lib.hid (fun b g W h => look_at b g W h a j _ (hk b))
  unfold fnv at HN
  clear hk
  unfold actV at hr
  have HR := Lib.hid hr
  clear hr
  clear he hs
  go_enter_defers Tryz.func13, Tryz.ntmps13
  go_wp2_with (go_at_call 34; refine (demand_yes _).mono ?_; rintro e w1 ⟨rfl, rfl⟩)
  refine (HF.out _).mono ?_
  rintro e w2 ⟨rfl, hb2⟩
  have HB := Lib.hid (HB.out.keep hb2)
  clear hb2
  go_wp2_with (first
    | (go_at_call 36; refine (handlers_at _ _).mono ?_; rintro e w3 ⟨b, g, rfl, hbx, hmp, hb3⟩; have hl := HN.out b g _ hmp; have HB := Lib.hid (HB.out.keep hb3); have HX := Lib.hid hbx; clear hb3 hbx hmp)
    | (go_at_call 34; refine (demand_yes _).mono ?_; rintro e w4 ⟨rfl, rfl⟩))
  refine (HR.out _ _ HB.out.e HX.out).mono ?_
  rintro e w5 ⟨rfl, hb5⟩
  have HB := Lib.hid (HB.out.keep hb5)
  obtain ⟨⟨x0, x1, x2, x3, x4, x5⟩, f0, f1, f2, f3, f4, f5⟩ := boxz HB.out.p
  have z0 := HB.out.q.cell 0 _ rfl
  have g0 := HB.out.q.free 0 (by show 0 < 1; decide)
  clear hb5
  go_wp2
  exact HB.out.good x _ rfl rfl
theorem parse_any (s : ByteArray) (w : World) (he : Env w) : Calls Tryz.prog 13 #[.string s] w fun e w' => e = .returned (parV (parO s.data.toList)) ∧ Below w.heap.size w w' := by
  have hlen : s.data.toList.length = s.size := by simp
  unfold parO
  by_cases h5 : 512 < s.data.toList.length
  · rw [if_pos h5]
    exact parse_long s w (by omega)
  · rw [if_neg h5]
    have hs : (s.size : Int) ≤ 512 := by omega
    cases hc : cutL s.data.toList with
    | none => exact parse_cut s w he hs hc
    | some p =>
      obtain ⟨a, r⟩ := p
      obtain ⟨ha, hr⟩ := cut_len _ a r hc
      rw [Option.bind_some]
      dsimp only
      by_cases h02 : a = [48] ∨ a = [50]
      · rw [if_pos h02]
        have hk : ∃ j, ∀ b, Instr.findNow .string (.string ⟨a.toArray⟩) (entO b) 0 = some (some (j, fnv 64 b)) := by
          rcases h02 with rfl | rfl
          · exact ⟨0, find_0⟩
          · exact ⟨1, find_2⟩
        obtain ⟨j, hk⟩ := hk
        unfold parT
        cases ht : titB r with
        | true =>
          rw [if_pos rfl]
          exact parse_t_yes s w he hs a r hc j hk _ fun b W h1 h2 => title_yes b r W h1 h2 (by omega) ht
        | false =>
          rw [if_neg (by decide)]
          exact parse_t_no s w he hs a r hc j hk fun b W h1 h2 => title_no b r W h1 h2 (by omega) ht
      · rw [if_neg h02]
        by_cases h4 : a = [52]
        · rw [if_pos h4]
          subst h4
          unfold parP
          cases hc2 : cutL r with
          | none => exact parse_p_no s w he hs [52] r hc 2 find_4 fun b W h1 h2 => palette_cut b r W h1 h2 (by omega) hc2
          | some p2 =>
            obtain ⟨a2, c⟩ := p2
            obtain ⟨ha2, hc3⟩ := cut_len _ a2 c hc2
            rw [Option.bind_some]
            dsimp only
            cases hp : parseL c with
            | none =>
              have : ((num3 a2).bind fun n => (none : Option Nat).bind fun x => some (⟨45, n, 0, 2, x, []⟩ : A6)) = none := by cases num3 a2 <;> rfl
              rw [this]
              exact parse_p_no s w he hs [52] r hc 2 find_4 fun b W h1 h2 => palette_col b r W h1 h2 (by omega) a2 c hc2 hp
            | some x =>
              cases hn : num3 a2 with
              | none => exact parse_p_no s w he hs [52] r hc 2 find_4 fun b W h1 h2 => palette_num b r W h1 h2 (by omega) a2 c hc2 x (by omega) hp hn
              | some n => exact parse_p_yes s w he hs [52] r hc 2 find_4 _ fun b W h1 h2 => palette_yes b r W h1 h2 (by omega) a2 c hc2 x n (by omega) hp hn
        · rw [if_neg h4]
          by_cases h52 : a = [53, 50]
          · rw [if_pos h52]
            subst h52
            unfold parC
            cases hc2 : cutL r with
            | none => exact parse_c_no s w he hs [53, 50] r hc 3 find_52 fun b W h1 h2 => clip_cut b r W h1 h2 (by omega) hc2
            | some p2 =>
              obtain ⟨a2, c⟩ := p2
              obtain ⟨ha2, hc3⟩ := cut_len _ a2 c hc2
              rw [Option.bind_some]
              dsimp only
              by_cases h99 : a2 = [99]
              · rw [if_pos h99]
                subst h99
                cases hd : B64.decL c with
                | none => exact parse_c_no s w he hs [53, 50] r hc 3 find_52 fun b W h1 h2 => clip_dec b r W h1 h2 (by omega) c hc2 (by omega) hd
                | some x =>
                  rw [Option.bind_some]
                  by_cases hx : x.length ≤ 378
                  · rw [if_pos hx]
                    exact parse_c_yes s w he hs [53, 50] r hc 3 find_52 _ fun b W h1 h2 => clip_yes b r W h1 h2 (by omega) c x hc2 (by omega) hd hx
                  · rw [if_neg hx]
                    exact parse_c_no s w he hs [53, 50] r hc 3 find_52 fun b W h1 h2 => clip_len b r W h1 h2 (by omega) c x hc2 (by omega) hd hx
              · rw [if_neg h99]
                exact parse_c_no s w he hs [53, 50] r hc 3 find_52 fun b W h1 h2 => clip_sel b r W h1 h2 (by omega) a2 c hc2 h99
          · rw [if_neg h52]
            exact parse_num s w he hs a r hc (fun h => h02 (.inl h)) (fun h => h02 (.inr h)) h4 h52
end Go.Proofs.YtoilcigmpeaedaaGreatDoor.Osc

namespace Go.Proofs.YtoilcigmpeaedaaGreatDoor.Osc
open Go.RowKit Utf Col

theorem cv1 (z y : Int) (h : IntKind.u64.wrap z = y) (W : World) : (convert 3 69 (.int .i64 z)).run Tryz.prog W = .ok (.int .u64 y) W := by
  rw [← h]
  go_simp
theorem cv2 (x : Int) (h0 : 0 ≤ x) (h1 : x < 95) (W : World) : (convert 69 3 (.int .u64 x)).run Tryz.prog W = .ok (.int .i64 x) W := by
  have h3 : IntKind.i64.wrap x = x := IntWalk.i64_in _ (by omega)
  go_simp
theorem addT_len (s : List UInt8) (z : Int) (h : s.length + (encL (fixC z)).length ≤ 510) : addT s z = s ++ encL (fixC z) := by rw [addT, if_pos h]
theorem addT_no (s : List UInt8) (z : Int) (h : ¬ s.length + (encL (fixC z)).length ≤ 510) : addT s z = s := by rw [addT, if_neg h]
theorem app_l (a b : List UInt8) : (⟨a.toArray⟩ : ByteArray) ++ (⟨b.toArray⟩ : ByteArray) = ⟨(a ++ b).toArray⟩ := by
  apply ByteArray.ext
  rw [ByteArray.data_append]
  simp
set_option maxRecDepth 100000 in
set_option maxHeartbeats 4000000 in
theorem title_any (A : Option Addr) (c n : Nat) (zs : List Int) (hn : zs.length = n) (w : World) (h : Rd w A (cI zs)) (hz : ∀ z ∈ zs, -9223372036854775808 ≤ z ∧ z ≤ 9223372036854775807) (hl : n ≤ 9223372036854775807) :
    Calls Tryz.prog 16 #[.slice A n c] w fun e w' => e = .returned (.string ⟨(titF zs).toArray⟩) ∧ Below w.heap.size w w' := by
  have H := Lib.hid h; clear h
  have HZ := Lib.hid hz; clear hz
  go_enter Tryz.func16, Tryz.ntmps16
  go_wp2
  go_loopw [3, 4] (fun v i wr => ∃ k : Nat, k ≤ n ∧ k ≤ 200 ∧ i = .int .i64 (k : Int) ∧ ∃ s : List UInt8, s.length ≤ 510 ∧ v = .string ⟨s.toArray⟩ ∧ Hid (s = (zs.take k).foldl addT []) ∧ Hid (Below w.heap.size w wr)) (fun _ i _ => 200 - (intOf i).toNat)
  case atStart => exact ⟨0, by omega, by omega, rfl, [], by simp, rfl, Lib.hid rfl, Lib.hid (Below.refl _ _)⟩
  case round =>
    obtain ⟨k, hk, hk2, rfl, s, hs, rfl, hp, hb⟩ := hrel
    by_cases hlt : k < n
    · by_cases h2 : k < 200
      · obtain ⟨z, hz⟩ : ∃ z, zs[k]? = some z := ⟨zs[k]'(by omega), List.getElem?_eq_getElem (by omega)⟩
        obtain ⟨ad, rfl, hblk, hc⟩ := ((H.out).below hb.out) k _ (cI_at zs k z hz)
        have hzb := HZ.out z (List.mem_of_getElem? hz)
        have HP := Lib.hid (fun e : List UInt8 => fun h : e = addT s z => show e = (zs.take (k + 1)).foldl addT [] by rw [h, fold_snoc zs k z hz, hp.out])
        have hb2 : k < n := hlt
        clear hp hz
        have he := encL_len (fixC z)
        obtain ⟨E, hE⟩ : ∃ E, E = encL (fixC z) := ⟨_, rfl⟩
        rw [← hE] at he
        have hadd := fun h : s.length + E.length ≤ 510 => addT_len s z (by rw [← hE]; exact h)
        have hno := fun h : ¬ s.length + E.length ≤ 510 => addT_no s z (by rw [← hE]; exact h)
        rw [← hE] at hadd
        have HE := Lib.hid hE
        have HA := Lib.hid hadd
        have HO := Lib.hid hno
        clear hE hadd hno
        have HPU := Lib.hid (fun W => rput_any (fixC z) W)
        rw [← HE.out] at HPU
        clear HE
        have HCK := Lib.hid (fun W => rcheck_any z W)
        cases hck : chk z with
        | false =>
          rw [hck] at HCK
          have hok : okT z = false := by rw [okT, hck]; rfl
          obtain ⟨y, hy⟩ : ∃ y : Int, y = z % 18446744073709551616 := ⟨_, rfl⟩
          have hy0 : 0 ≤ y := by omega
          obtain ⟨x, hx⟩ : ∃ x : Int, x = y % 95 := ⟨_, rfl⟩
          have hx2 : 0 ≤ x := by omega
          have hx3 : x < 95 := by omega
          have hfx : fixC z = 32 + x := by rw [fixC, if_neg (by rw [hok]; decide), hx, hy]
          rw [hfx] at HPU
          have r1 := cv1 z y (by rw [IntKind.wrap_u64, hy])
          have r2 : y.tmod 95 = x := by rw [Int.tmod_eq_emod_of_nonneg hy0, hx]
          have r3 := cv2 x hx2 hx3
          have r4 : (32 : Int) + x ≤ 200 := by omega
          have r5 : (0 : Int) ≤ 32 + x := by omega
          clear hx hfx hok hy hy0
          by_cases h5 : s.length + E.length ≤ 510
          · have hR := Lib.hid (HP.out _ (HA.out h5).symm)
            have d5 : decide ((s.length : Int) + (E.length : Int) ≤ 510) = true := decide_eq_true (by omega)
            have hq : (⟨s.toArray⟩ : ByteArray) ++ (⟨E.toArray⟩ : ByteArray) = ⟨(s ++ E).toArray⟩ := app_l s E
            have hl9 : ¬ 9223372036854775807 < s.length + E.length := by omega
            have hl8 : (s ++ E).length ≤ 510 := by rw [List.length_append]; exact h5
            go_wp2_with (first
              | (go_at_call 41; refine (HCK.out _).mono ?_; rintro e w1 ⟨rfl, rfl⟩)
              | (go_at_call 42; refine (HPU.out _).mono ?_; rintro e w1 ⟨rfl, hb1⟩; have hb := Lib.hid (B64.up hb.out hb1); clear hb1))
            refine ⟨⟨k + 1, by omega, by omega, by go_num, s ++ E, hl8, ?_, hR, hb⟩, ?_⟩
            · first | rfl | exact congrArg Value.string hq
            · show 200 - ((k : Int) + 1).toNat < 200 - (k : Int).toNat
              omega
          · have hR := Lib.hid (HP.out _ (HO.out h5).symm)
            have d5 : decide ((s.length : Int) + (E.length : Int) ≤ 510) = false := decide_eq_false (by omega)
            go_wp2_with (first
              | (go_at_call 41; refine (HCK.out _).mono ?_; rintro e w1 ⟨rfl, rfl⟩)
              | (go_at_call 42; refine (HPU.out _).mono ?_; rintro e w1 ⟨rfl, hb1⟩; have hb := Lib.hid (B64.up hb.out hb1); clear hb1))
            refine ⟨⟨k + 1, by omega, by omega, by go_num, s, hs, rfl, hR, hb⟩, ?_⟩
            show 200 - ((k : Int) + 1).toNat < 200 - (k : Int).toNat
            omega
        | true =>
          rw [hck] at HCK
          by_cases h32 : z < 32
          · have hok : okT z = false := by rw [okT, badC, decide_eq_true h32]; simp
            have d32 : decide (z < 32) = true := decide_eq_true h32
            obtain ⟨y, hy⟩ : ∃ y : Int, y = z % 18446744073709551616 := ⟨_, rfl⟩
            have hy0 : 0 ≤ y := by omega
            obtain ⟨x, hx⟩ : ∃ x : Int, x = y % 95 := ⟨_, rfl⟩
            have hx2 : 0 ≤ x := by omega
            have hx3 : x < 95 := by omega
            have hfx : fixC z = 32 + x := by rw [fixC, if_neg (by rw [hok]; decide), hx, hy]
            rw [hfx] at HPU
            have r1 := cv1 z y (by rw [IntKind.wrap_u64, hy])
            have r2 : y.tmod 95 = x := by rw [Int.tmod_eq_emod_of_nonneg hy0, hx]
            have r3 := cv2 x hx2 hx3
            have r4 : (32 : Int) + x ≤ 200 := by omega
            have r5 : (0 : Int) ≤ 32 + x := by omega
            clear hx hfx hok hy hy0
            by_cases h5 : s.length + E.length ≤ 510
            · have hR := Lib.hid (HP.out _ (HA.out h5).symm)
              have d5 : decide ((s.length : Int) + (E.length : Int) ≤ 510) = true := decide_eq_true (by omega)
              have hq : (⟨s.toArray⟩ : ByteArray) ++ (⟨E.toArray⟩ : ByteArray) = ⟨(s ++ E).toArray⟩ := app_l s E
              have hl9 : ¬ 9223372036854775807 < s.length + E.length := by omega
              have hl8 : (s ++ E).length ≤ 510 := by rw [List.length_append]; exact h5
              go_wp2_with (first
                | (go_at_call 41; refine (HCK.out _).mono ?_; rintro e w1 ⟨rfl, rfl⟩)
                | (go_at_call 42; refine (HPU.out _).mono ?_; rintro e w1 ⟨rfl, hb1⟩; have hb := Lib.hid (B64.up hb.out hb1); clear hb1))
              refine ⟨⟨k + 1, by omega, by omega, by go_num, s ++ E, hl8, ?_, hR, hb⟩, ?_⟩
              · first | rfl | exact congrArg Value.string hq
              · show 200 - ((k : Int) + 1).toNat < 200 - (k : Int).toNat
                omega
            · have hR := Lib.hid (HP.out _ (HO.out h5).symm)
              have d5 : decide ((s.length : Int) + (E.length : Int) ≤ 510) = false := decide_eq_false (by omega)
              go_wp2_with (first
                | (go_at_call 41; refine (HCK.out _).mono ?_; rintro e w1 ⟨rfl, rfl⟩)
                | (go_at_call 42; refine (HPU.out _).mono ?_; rintro e w1 ⟨rfl, hb1⟩; have hb := Lib.hid (B64.up hb.out hb1); clear hb1))
              refine ⟨⟨k + 1, by omega, by omega, by go_num, s, hs, rfl, hR, hb⟩, ?_⟩
              show 200 - ((k : Int) + 1).toNat < 200 - (k : Int).toNat
              omega
          · have d32 : decide (z < 32) = false := decide_eq_false h32
            by_cases h127 : 127 ≤ z
            · have d127 : decide (127 ≤ z) = true := decide_eq_true h127
              by_cases h159 : z ≤ 159
              · have d159 : decide (z ≤ 159) = true := decide_eq_true h159
                have hok : okT z = false := by rw [okT, badC, d127, d159]; simp
                obtain ⟨y, hy⟩ : ∃ y : Int, y = z % 18446744073709551616 := ⟨_, rfl⟩
                have hy0 : 0 ≤ y := by omega
                obtain ⟨x, hx⟩ : ∃ x : Int, x = y % 95 := ⟨_, rfl⟩
                have hx2 : 0 ≤ x := by omega
                have hx3 : x < 95 := by omega
                have hfx : fixC z = 32 + x := by rw [fixC, if_neg (by rw [hok]; decide), hx, hy]
                rw [hfx] at HPU
                have r1 := cv1 z y (by rw [IntKind.wrap_u64, hy])
                have r2 : y.tmod 95 = x := by rw [Int.tmod_eq_emod_of_nonneg hy0, hx]
                have r3 := cv2 x hx2 hx3
                have r4 : (32 : Int) + x ≤ 200 := by omega
                have r5 : (0 : Int) ≤ 32 + x := by omega
                clear hx hfx hok hy hy0
                by_cases h5 : s.length + E.length ≤ 510
                · have hR := Lib.hid (HP.out _ (HA.out h5).symm)
                  have d5 : decide ((s.length : Int) + (E.length : Int) ≤ 510) = true := decide_eq_true (by omega)
                  have hq : (⟨s.toArray⟩ : ByteArray) ++ (⟨E.toArray⟩ : ByteArray) = ⟨(s ++ E).toArray⟩ := app_l s E
                  have hl9 : ¬ 9223372036854775807 < s.length + E.length := by omega
                  have hl8 : (s ++ E).length ≤ 510 := by rw [List.length_append]; exact h5
                  go_wp2_with (first
                    | (go_at_call 41; refine (HCK.out _).mono ?_; rintro e w1 ⟨rfl, rfl⟩)
                    | (go_at_call 42; refine (HPU.out _).mono ?_; rintro e w1 ⟨rfl, hb1⟩; have hb := Lib.hid (B64.up hb.out hb1); clear hb1))
                  refine ⟨⟨k + 1, by omega, by omega, by go_num, s ++ E, hl8, ?_, hR, hb⟩, ?_⟩
                  · first | rfl | exact congrArg Value.string hq
                  · show 200 - ((k : Int) + 1).toNat < 200 - (k : Int).toNat
                    omega
                · have hR := Lib.hid (HP.out _ (HO.out h5).symm)
                  have d5 : decide ((s.length : Int) + (E.length : Int) ≤ 510) = false := decide_eq_false (by omega)
                  go_wp2_with (first
                    | (go_at_call 41; refine (HCK.out _).mono ?_; rintro e w1 ⟨rfl, rfl⟩)
                    | (go_at_call 42; refine (HPU.out _).mono ?_; rintro e w1 ⟨rfl, hb1⟩; have hb := Lib.hid (B64.up hb.out hb1); clear hb1))
                  refine ⟨⟨k + 1, by omega, by omega, by go_num, s, hs, rfl, hR, hb⟩, ?_⟩
                  show 200 - ((k : Int) + 1).toNat < 200 - (k : Int).toNat
                  omega
              · have d159 : decide (z ≤ 159) = false := decide_eq_false h159
                have hok : okT z = true := by rw [okT, badC, d159, d127, d32, hck]; rfl
                have hfx : fixC z = z := by rw [fixC, if_pos hok]
                rw [hfx] at HPU
                clear hfx hok
                by_cases h5 : s.length + E.length ≤ 510
                · have hR := Lib.hid (HP.out _ (HA.out h5).symm)
                  have d5 : decide ((s.length : Int) + (E.length : Int) ≤ 510) = true := decide_eq_true (by omega)
                  have hq : (⟨s.toArray⟩ : ByteArray) ++ (⟨E.toArray⟩ : ByteArray) = ⟨(s ++ E).toArray⟩ := app_l s E
                  have hl9 : ¬ 9223372036854775807 < s.length + E.length := by omega
                  have hl8 : (s ++ E).length ≤ 510 := by rw [List.length_append]; exact h5
                  go_wp2_with (first
                    | (go_at_call 41; refine (HCK.out _).mono ?_; rintro e w1 ⟨rfl, rfl⟩)
                    | (go_at_call 42; refine (HPU.out _).mono ?_; rintro e w1 ⟨rfl, hb1⟩; have hb := Lib.hid (B64.up hb.out hb1); clear hb1))
                  refine ⟨⟨k + 1, by omega, by omega, by go_num, s ++ E, hl8, ?_, hR, hb⟩, ?_⟩
                  · first | rfl | exact congrArg Value.string hq
                  · show 200 - ((k : Int) + 1).toNat < 200 - (k : Int).toNat
                    omega
                · have hR := Lib.hid (HP.out _ (HO.out h5).symm)
                  have d5 : decide ((s.length : Int) + (E.length : Int) ≤ 510) = false := decide_eq_false (by omega)
                  go_wp2_with (first
                    | (go_at_call 41; refine (HCK.out _).mono ?_; rintro e w1 ⟨rfl, rfl⟩)
                    | (go_at_call 42; refine (HPU.out _).mono ?_; rintro e w1 ⟨rfl, hb1⟩; have hb := Lib.hid (B64.up hb.out hb1); clear hb1))
                  refine ⟨⟨k + 1, by omega, by omega, by go_num, s, hs, rfl, hR, hb⟩, ?_⟩
                  show 200 - ((k : Int) + 1).toNat < 200 - (k : Int).toNat
                  omega
            · have d127 : decide (127 ≤ z) = false := decide_eq_false h127
              have hok : okT z = true := by rw [okT, badC, d127, d32, hck]; rfl
              have hfx : fixC z = z := by rw [fixC, if_pos hok]
              rw [hfx] at HPU
              clear hfx hok
              by_cases h5 : s.length + E.length ≤ 510
              · have hR := Lib.hid (HP.out _ (HA.out h5).symm)
                have d5 : decide ((s.length : Int) + (E.length : Int) ≤ 510) = true := decide_eq_true (by omega)
                have hq : (⟨s.toArray⟩ : ByteArray) ++ (⟨E.toArray⟩ : ByteArray) = ⟨(s ++ E).toArray⟩ := app_l s E
                have hl9 : ¬ 9223372036854775807 < s.length + E.length := by omega
                have hl8 : (s ++ E).length ≤ 510 := by rw [List.length_append]; exact h5
                go_wp2_with (first
                  | (go_at_call 41; refine (HCK.out _).mono ?_; rintro e w1 ⟨rfl, rfl⟩)
                  | (go_at_call 42; refine (HPU.out _).mono ?_; rintro e w1 ⟨rfl, hb1⟩; have hb := Lib.hid (B64.up hb.out hb1); clear hb1))
                refine ⟨⟨k + 1, by omega, by omega, by go_num, s ++ E, hl8, ?_, hR, hb⟩, ?_⟩
                · first | rfl | exact congrArg Value.string hq
                · show 200 - ((k : Int) + 1).toNat < 200 - (k : Int).toNat
                  omega
              · have hR := Lib.hid (HP.out _ (HO.out h5).symm)
                have d5 : decide ((s.length : Int) + (E.length : Int) ≤ 510) = false := decide_eq_false (by omega)
                go_wp2_with (first
                  | (go_at_call 41; refine (HCK.out _).mono ?_; rintro e w1 ⟨rfl, rfl⟩)
                  | (go_at_call 42; refine (HPU.out _).mono ?_; rintro e w1 ⟨rfl, hb1⟩; have hb := Lib.hid (B64.up hb.out hb1); clear hb1))
                refine ⟨⟨k + 1, by omega, by omega, by go_num, s, hs, rfl, hR, hb⟩, ?_⟩
                show 200 - ((k : Int) + 1).toNat < 200 - (k : Int).toNat
                omega
      · obtain rfl : k = 200 := by omega
        have hf := Lib.hid (show s = titF zs from hp.out)
        clear hp
        go_wp2_with fail
        go_ret
        exact ⟨by rw [← hf.out]; rfl, hb.out⟩
    · obtain rfl : k = n := by omega
      have hf := Lib.hid (show s = titF zs by rw [titF, hp.out, List.take_of_length_le (by omega), List.take_of_length_le (by omega)])
      clear hp
      go_wp2_with fail
      go_ret
      exact ⟨by rw [← hf.out]; rfl, hb.out⟩
set_option maxRecDepth 100000 in
set_option maxHeartbeats 2000000 in
theorem titled_any (t : List UInt8) (w : World) : Calls Tryz.prog 17 #[.string ⟨t.toArray⟩] w fun e w' => e = .returned (actV ⟨44, 0, 0, 0, 0, t⟩) ∧ Below w.heap.size w w' := by
  have HZ := Lib.hid (bz_new w)
  have HB := Lib.hid (B64.below_box w (.cells #[.int .i64 0, .int .i64 0, .int .i64 0, .int .i64 0, .int .i64 0, .string ⟨#[]⟩] 25))
  go_enter Tryz.func17, Tryz.ntmps17
  go_upto_region 1 with fail
  generalize (w.alloc (.cells #[.int .i64 0, .int .i64 0, .int .i64 0, .int .i64 0, .int .i64 0, .string ⟨#[]⟩] 25)) = W at HZ HB ⊢
  obtain ⟨⟨x0, x1, x2, x3, x4, x5⟩, f0, f1, f2, f3, f4, f5⟩ := boxz HZ.out
  go_wp2
  refine bodyPost_ret (ret_cell1 rfl _ _ ⟨w.heap.size, 0, none⟩ _ rfl (load_act (box_set6 HZ.out ⟨44, 0, 0, 0, 0, t⟩))) rfl ?_
  exact ⟨rfl, below_set6 HB.out (Nat.le_refl _) ⟨44, 0, 0, 0, 0, t⟩⟩
set_option maxRecDepth 100000 in
set_option maxHeartbeats 2000000 in
theorem clip_any (t : List UInt8) (w : World) : Calls Tryz.prog 20 #[.string ⟨t.toArray⟩] w fun e w' => e = .returned (actV ⟨46, 0, 0, 0, 0, t⟩) ∧ Below w.heap.size w w' := by
  have HZ := Lib.hid (bz_new w)
  have HB := Lib.hid (B64.below_box w (.cells #[.int .i64 0, .int .i64 0, .int .i64 0, .int .i64 0, .int .i64 0, .string ⟨#[]⟩] 25))
  go_enter Tryz.func20, Tryz.ntmps20
  go_upto_region 1 with fail
  generalize (w.alloc (.cells #[.int .i64 0, .int .i64 0, .int .i64 0, .int .i64 0, .int .i64 0, .string ⟨#[]⟩] 25)) = W at HZ HB ⊢
  obtain ⟨⟨x0, x1, x2, x3, x4, x5⟩, f0, f1, f2, f3, f4, f5⟩ := boxz HZ.out
  go_wp2
  refine bodyPost_ret (ret_cell1 rfl _ _ ⟨w.heap.size, 0, none⟩ _ rfl (load_act (box_set6 HZ.out ⟨46, 0, 0, 0, 0, t⟩))) rfl ?_
  exact ⟨rfl, below_set6 HB.out (Nat.le_refl _) ⟨46, 0, 0, 0, 0, t⟩⟩
set_option maxRecDepth 100000 in
set_option maxHeartbeats 2000000 in
theorem palette_any (n x : Int) (w : World) : Calls Tryz.prog 22 #[.int .i64 n, .int .i64 x] w fun e w' => e = .returned (actV ⟨45, n, 0, 2, x, []⟩) ∧ Below w.heap.size w w' := by
  have HZ := Lib.hid (bz_new w)
  have HB := Lib.hid (B64.below_box w (.cells #[.int .i64 0, .int .i64 0, .int .i64 0, .int .i64 0, .int .i64 0, .string ⟨#[]⟩] 25))
  go_enter Tryz.func22, Tryz.ntmps22
  go_upto_region 1 with fail
  generalize (w.alloc (.cells #[.int .i64 0, .int .i64 0, .int .i64 0, .int .i64 0, .int .i64 0, .string ⟨#[]⟩] 25)) = W at HZ HB ⊢
  obtain ⟨⟨x0, x1, x2, x3, x4, x5⟩, f0, f1, f2, f3, f4, f5⟩ := boxz HZ.out
  go_wp2
  refine bodyPost_ret (ret_cell1 rfl _ _ ⟨w.heap.size, 0, none⟩ _ rfl (load_act (box_set6 HZ.out ⟨45, n, 0, 2, x, []⟩))) rfl ?_
  exact ⟨rfl, below_set6 HB.out (Nat.le_refl _) ⟨45, n, 0, 2, x, []⟩⟩
theorem says_arg (a : A6) : actV a = .agg #[.int .i64 a.k, .int .i64 a.n, .int .i64 a.m, .int .i64 a.c0, .int .i64 a.c1, .string ⟨a.t.toArray⟩] := rfl
set_option maxRecDepth 100000 in
set_option maxHeartbeats 4000000 in
theorem says_yes (s : ByteArray) (a : A6) (h : parO s.data.toList = some a) (w : World) (he : Env w) : Calls Tryz.prog 15 #[.string s, actV a] w fun e w' => e = .returned (.bool true) ∧ Below w.heap.size w w' := by
  have HP := Lib.hid (fun W h => parse_any s W h)
  rw [h] at HP
  unfold parV at HP
  have HE := Lib.hid he
  have HQ : ∀ W, (binOp .eql 25 (actV a) (actV a)).run Tryz.prog W = .ok (.bool true) W := fun W => by
    rw [eqlA, eqA_iff, decide_eq_true rfl]
  clear h he
  obtain ⟨k, n, m, c0, c1, t⟩ := a
  unfold actV at HP HQ ⊢
  dsimp only at HP HQ ⊢
  have hb0 := fun o => B64.below_box w o
  go_enter Tryz.func15, Tryz.ntmps15
  go_wp2_with fail
  refine (HP.out _ (HE.out.keep (hb0 _))).mono ?_
  rintro e w1 ⟨rfl, hb1⟩
  have HX := Lib.hid ((bx_new w k n m c0 c1 t).keep hb1)
  obtain ⟨y0, y1, y2, y3, y4, y5⟩ := box6 (HX.out.alloc (.cells #[.int .i64 k, .int .i64 n, .int .i64 m, .int .i64 c0, .int .i64 c1, .string ⟨t.toArray⟩] 25))
  obtain ⟨z0, z1, z2, z3, z4, z5⟩ := box6 (bx_new w1 k n m c0 c1 t)
  have hG := Lib.hid (B64.up (hb0 _) hb1)
  clear hb1
  go_wp2_with fail
  go_ret
  exact ⟨rfl, hG.out.alloc hG.out.size _⟩
theorem zero6 : (Value.agg #[.int .i64 0, .int .i64 0, .int .i64 0, .int .i64 0, .int .i64 0, .string ⟨#[]⟩]) = actV ⟨0, 0, 0, 0, 0, []⟩ := rfl
set_option maxRecDepth 100000 in
set_option maxHeartbeats 4000000 in
theorem none_yes (s : ByteArray) (h : parO s.data.toList = none) (w : World) (he : Env w) : Calls Tryz.prog 18 #[.string s] w fun e w' => e = .returned (.bool true) ∧ Below w.heap.size w w' := by
  have HP := Lib.hid (fun W h => parse_any s W h)
  rw [h] at HP
  unfold parV at HP
  have HE := Lib.hid he
  have HQ : ∀ W, (binOp .eql 25 (actV ⟨0, 0, 0, 0, 0, []⟩) (actV ⟨0, 0, 0, 0, 0, []⟩)).run Tryz.prog W = .ok (.bool true) W := fun W => by
    rw [eqlA, eqA_iff, decide_eq_true rfl]
  clear h he
  unfold actV at HP HQ
  dsimp only at HP HQ
  go_enter Tryz.func18, Tryz.ntmps18
  go_wp2_with fail
  refine (HP.out _ HE.out).mono ?_
  rintro e w1 ⟨rfl, hb1⟩
  obtain ⟨z0, z1, z2, z3, z4, z5⟩ := box6 (bx_new w1 0 0 0 0 0 [])
  have hG := Lib.hid hb1
  clear hb1
  go_wp2_with fail
  go_ret
  exact ⟨rfl, hG.out.alloc hG.out.size _⟩
set_option maxRecDepth 100000 in
set_option maxHeartbeats 4000000 in
theorem told_yes (a : A6) (s : List UInt8) (h : prtO a = some s) (hs : a.t.length ≤ 1000000) (w : World) (he : Env w) : Calls Tryz.prog 21 #[actV a, .string ⟨s.toArray⟩] w fun e w' => e = .returned (.bool true) ∧ Below w.heap.size w w' := by
  have HP := Lib.hid (fun W h => print_any a W h hs)
  unfold prtV at HP
  rw [h] at HP
  have HS := Lib.hid (fun W h0 => says_yes ⟨s.toArray⟩ a (back h).1 W h0)
  have HE := Lib.hid he
  clear h he hs
  obtain ⟨k, n, m, c0, c1, t⟩ := a
  unfold actV at HP HS ⊢
  dsimp only at HP HS ⊢
  have hb0 := fun o => B64.below_box w o
  have h5 : (s == s) = true := by simp
  go_enter Tryz.func21, Tryz.ntmps21
  go_wp2_with fail
  refine (HP.out _ (HE.out.keep (hb0 _))).mono ?_
  rintro e w1 ⟨rfl, hb1⟩
  have HX := Lib.hid ((bx_new w k n m c0 c1 t).keep hb1)
  have HE := Lib.hid ((HE.out.keep (hb0 _)).keep hb1)
  obtain ⟨y0, y1, y2, y3, y4, y5⟩ := box6 HX.out
  have hG := Lib.hid (B64.up (hb0 _) hb1)
  clear hb1
  go_wp2_with fail
  refine (HS.out _ HE.out).mono ?_
  rintro e w2 ⟨rfl, hb2⟩
  have hG := Lib.hid (B64.up hG.out hb2)
  clear hb2
  go_wp2_with fail
  go_ret
  exact ⟨rfl, hG.out⟩
end Go.Proofs.YtoilcigmpeaedaaGreatDoor.Osc

namespace Go.Proofs.YtoilcigmpeaedaaGreatDoor.Osc
open Go.RowKit Utf Col

theorem rep_any (c : UInt8) (n : Nat) (hn : n ≤ 100000) (W : World) : Calls Tryz.prog 19 #[.string ⟨#[c]⟩, .int .i64 (n : Int)] W fun e w' => e = .returned (.string ⟨(List.replicate n c).toArray⟩) ∧ Below W.heap.size W w' := by
  have := Tryz.strings_Repeat ⟨#[c]⟩ n W (by omega) (by show 1 * n ≤ _; omega)
  have e : Lib.repeatL (⟨#[c]⟩ : ByteArray).data.toList n = List.replicate n c := B64.repeat_one c n
  rw [e] at this
  exact this
theorem par_long (s : List UInt8) (h : 512 < s.length) : parO s = none := by unfold parO; rw [if_pos h]
/-- as far as the world has come -/
structure EB (w W : World) : Prop where
  b : Below w.heap.size w W
  e : Env W
theorem EB.keep {w W W' : World} (h : EB w W) (hb : Below W.heap.size W W') : EB w W' := ⟨B64.up h.b hb, h.e.keep hb⟩
theorem EB.refl {w : World} (h : Env w) : EB w w := ⟨Below.refl _ _, h⟩
set_option maxRecDepth 100000 in
set_option maxHeartbeats 4000000 in
theorem works_any (w : World) (he : Env w) : Calls Tryz.prog 12 #[] w fun e w' => e = .returned (.bool true) ∧ Below w.heap.size w w' := by
  have HB := Lib.hid (EB.refl he)
  have HP1 : ∀ W, Env W → Calls Tryz.prog 10 #[actV ⟨44, 0, 0, 0, 0, [255]⟩] W fun e w' => e = .returned (.tuple #[.string ⟨#[]⟩, .int .i64 2]) ∧ Below W.heap.size W w' := fun W h => by
    have := print_any ⟨44, 0, 0, 0, 0, [255]⟩ W h (by decide)
    rwa [prtV, show prtO ⟨44, 0, 0, 0, 0, [255]⟩ = none by decide +kernel] at this
  have HP2 : ∀ W, Env W → Calls Tryz.prog 10 #[actV ⟨45, 0, 0, 1, 1, []⟩] W fun e w' => e = .returned (.tuple #[.string ⟨#[]⟩, .int .i64 2]) ∧ Below W.heap.size W w' := fun W h => by
    have := print_any ⟨45, 0, 0, 1, 1, []⟩ W h (by decide)
    rwa [prtV, show prtO ⟨45, 0, 0, 1, 1, []⟩ = none by decide +kernel] at this
  have HP1 := Lib.hid HP1
  have HP2 := Lib.hid HP2
  clear he
  go_enter Tryz.func12, Tryz.ntmps12
  go_upto_region 4 with (first
    | (go_at_call 17; refine (titled_any _ _).mono ?_; rintro e W1 ⟨rfl, hb1⟩; have HB := Lib.hid (HB.out.keep hb1); clear hb1)
    | (go_at_call 20; refine (clip_any _ _).mono ?_; rintro e W1 ⟨rfl, hb1⟩; have HB := Lib.hid (HB.out.keep hb1); clear hb1)
    | (go_at_call 22; refine (palette_any _ _ _).mono ?_; rintro e W1 ⟨rfl, hb1⟩; have HB := Lib.hid (HB.out.keep hb1); clear hb1)
    | (go_at_call 21; refine (told_yes _ _ (by decide +kernel) (by decide) _ HB.out.e).mono ?_; rintro e W1 ⟨rfl, hb1⟩; have HB := Lib.hid (HB.out.keep hb1); clear hb1)
    | (go_at_call 15; refine (says_yes _ _ (by decide +kernel) _ HB.out.e).mono ?_; rintro e W1 ⟨rfl, hb1⟩; have HB := Lib.hid (HB.out.keep hb1); clear hb1)
    | (go_at_call 18; refine (none_yes _ (by decide +kernel) _ HB.out.e).mono ?_; rintro e W1 ⟨rfl, hb1⟩; have HB := Lib.hid (HB.out.keep hb1); clear hb1))
  go_upto_region 5 with (first
    | (go_at_call 17; refine (titled_any [255] _).mono ?_; rintro e W1 ⟨rfl, hb1⟩; have HB := Lib.hid (HB.out.keep hb1); clear hb1)
    | (go_at_call 10; refine (HP1.out _ HB.out.e).mono ?_; rintro e W1 ⟨rfl, hb1⟩; have HB := Lib.hid (HB.out.keep hb1); clear hb1))
  unfold actV at HP2
  dsimp only at HP2
  go_upto_region 6 with (go_at_call 10; refine (HP2.out _ HB.out.e).mono ?_; rintro e W1 ⟨rfl, hb1⟩; have HB := Lib.hid (HB.out.keep hb1); clear hb1)
  go_wp2_with fail
  go_ret
  exact ⟨rfl, HB.out.b⟩
end Go.Proofs.YtoilcigmpeaedaaGreatDoor.Osc

namespace Go.Proofs.YtoilcigmpeaedaaGreatDoor.Osc
open Go.RowKit Utf Col

structure Dr where
  wh : Nat
  n : Nat
  rgb : Nat
  zs : List Int
  cl : List UInt8
/-- a draft's value, and that its numbers lie in w -/
structure DrV (w : World) (v : Value) (d : Dr) : Prop where
  h0 : d.wh < 256
  h1 : d.n < 256
  h2 : d.rgb < 4294967296
  h3 : d.zs.length ≤ 9223372036854775807
  h4 : d.cl.length ≤ 9223372036854775807
  h5 : ∀ z ∈ d.zs, -9223372036854775808 ≤ z ∧ z ≤ 9223372036854775807
  v : ∃ A c, v = .agg #[.int .u8 (d.wh : Int), .int .u8 (d.n : Int), .int .u32 (d.rgb : Int), .slice A d.zs.length c, .string ⟨d.cl.toArray⟩] ∧ Rd w A (cI d.zs)
theorem DrV.below {w w' : World} {v : Value} {d : Dr} (h : DrV w v d) (hb : Below w.heap.size w w') : DrV w' v d :=
  ⟨h.h0, h.h1, h.h2, h.h3, h.h4, h.h5, let ⟨A, c, e, r⟩ := h.v; ⟨A, c, e, r.below hb⟩⟩
def draA (d : Dr) : A6 := if d.wh % 3 = 0 then ⟨44, 0, 0, 0, 0, titF d.zs⟩ else if d.wh % 3 = 1 then ⟨45, (d.n : Int), 0, 2, ((d.rgb % 16777216 : Nat) : Int), []⟩ else ⟨46, 0, 0, 0, 0, d.cl.take 378⟩
theorem dra_has (d : Dr) (h : d.n < 256) : ∃ u, prtO (draA d) = some u := by
  unfold draA
  split
  · exact ⟨_, by unfold prtO; rw [if_pos ⟨rfl, rfl, rfl, rfl, rfl, titF_ok _⟩]⟩
  · split
    · exact ⟨_, by unfold prtO; rw [if_neg (by intro hc; exact absurd hc.1 (by show ¬ (45 : Int) = 44; decide)), if_pos ⟨rfl, rfl, rfl, by dsimp only; omega, by dsimp only; omega, rfl, by dsimp only; omega, by dsimp only; omega⟩]⟩
    · exact ⟨_, by unfold prtO; rw [if_neg (by intro hc; exact absurd hc.1 (by show ¬ (46 : Int) = 44; decide)), if_neg (by intro hc; exact absurd hc.1 (by show ¬ (46 : Int) = 45; decide)), if_pos ⟨rfl, rfl, rfl, rfl, rfl, by dsimp only; rw [List.length_take]; omega⟩]⟩
theorem dra_len (d : Dr) : (draA d).t.length ≤ 510 := by
  unfold draA
  split
  · exact titF_len _
  · split
    · simp
    · dsimp only; rw [List.length_take]; omega
def c5 (d : Dr) (A : Option Addr) (c : Nat) : List Value := [.int .u8 (d.wh : Int), .int .u8 (d.n : Int), .int .u32 (d.rgb : Int), .slice A d.zs.length c, .string ⟨d.cl.toArray⟩]
set_option maxRecDepth 100000 in
set_option maxHeartbeats 4000000 in
theorem action_any (v : Value) (d : Dr) (w : World) (h : DrV w v d) : Calls Tryz.prog 9 #[v] w fun e w' => e = .returned (actV (draA d)) ∧ Below w.heap.size w w' := by
  obtain ⟨h0, h1, h2, h3, h4, h5, A, c, rfl, hr⟩ := h
  obtain ⟨wh, n, rgb, zs, cl⟩ := d
  dsimp only at *
  have HT := Lib.hid (fun W hb => title_any A c zs.length zs rfl W (hr.below hb) h5 h3)
  have hb0 : Below w.heap.size w ((w.alloc (.cells #[.int .u8 (wh : Int), .int .u8 (n : Int), .int .u32 (rgb : Int), .slice A zs.length c, .string ⟨cl.toArray⟩] 29)).alloc (.cells #[.int .i64 0, .int .i64 0, .int .i64 0, .int .i64 0, .int .i64 0, .string ⟨#[]⟩] 25)) := B64.up (B64.below_box _ _) (B64.below_box _ _)
  have hD : B64.Box ((w.alloc (.cells #[.int .u8 (wh : Int), .int .u8 (n : Int), .int .u32 (rgb : Int), .slice A zs.length c, .string ⟨cl.toArray⟩] 29)).alloc (.cells #[.int .i64 0, .int .i64 0, .int .i64 0, .int .i64 0, .int .i64 0, .string ⟨#[]⟩] 25)) w.heap.size [.int .u8 (wh : Int), .int .u8 (n : Int), .int .u32 (rgb : Int), .slice A zs.length c, .string ⟨cl.toArray⟩] := (B64.Box.new w _ _).alloc _
  have hZ : B64.Box ((w.alloc (.cells #[.int .u8 (wh : Int), .int .u8 (n : Int), .int .u32 (rgb : Int), .slice A zs.length c, .string ⟨cl.toArray⟩] 29)).alloc (.cells #[.int .i64 0, .int .i64 0, .int .i64 0, .int .i64 0, .int .i64 0, .string ⟨#[]⟩] 25)) (w.heap.size + 1) z6 := by
    have := bz_new (w.alloc (.cells #[.int .u8 (wh : Int), .int .u8 (n : Int), .int .u32 (rgb : Int), .slice A zs.length c, .string ⟨cl.toArray⟩] 29))
    rwa [show (w.alloc (.cells #[.int .u8 (wh : Int), .int .u8 (n : Int), .int .u32 (rgb : Int), .slice A zs.length c, .string ⟨cl.toArray⟩] 29)).heap.size = w.heap.size + 1 by simp] at this
  have hb0 := Lib.hid hb0
  have hD := Lib.hid hD
  have hZ := Lib.hid hZ
  obtain ⟨m, hm1, hm3⟩ : ∃ m : Nat, (wh : Int) % 3 = (m : Int) ∧ m = wh % 3 := ⟨wh % 3, by omega, rfl⟩
  have hm2 : (wh : Int).tmod 3 = (m : Int) := by rw [Int.tmod_eq_emod_of_nonneg (by omega)]; exact hm1
  have hm4 : (m : Int) < 3 := by omega
  have HM := Lib.hid hm3
  have w0 : (wh : Int) < 256 := by omega
  clear hr h5 hm1 hm3
  go_enter Tryz.func9, Tryz.ntmps9
  go_upto_region 1 with fail
  generalize ((w.alloc (.cells #[.int .u8 (wh : Int), .int .u8 (n : Int), .int .u32 (rgb : Int), .slice A zs.length c, .string ⟨cl.toArray⟩] 29)).alloc (.cells #[.int .i64 0, .int .i64 0, .int .i64 0, .int .i64 0, .int .i64 0, .string ⟨#[]⟩] 25)) = W at hb0 hD hZ ⊢
  have u0 := hD.out.cell 0 _ rfl
  have u1 := hD.out.cell 1 _ rfl
  have u2 := hD.out.cell 2 _ rfl
  have u3 := hD.out.cell 3 _ rfl
  have u4 := hD.out.cell 4 _ rfl
  by_cases k0 : m = 0
  · have e0 : ((m : Int) == 0) = true := by rw [k0]; rfl
    have hA := Lib.hid (show draA ⟨wh, n, rgb, zs, cl⟩ = ⟨44, 0, 0, 0, 0, titF zs⟩ by unfold draA; rw [if_pos (by rw [← HM.out]; exact k0)])
    clear k0
    go_wp2_with fail
    refine (HT.out _ hb0.out).mono ?_
    rintro e w1 ⟨rfl, hb1⟩
    have hZ := Lib.hid (hZ.out.keep hb1)
    have hG := Lib.hid (B64.up hb0.out hb1)
    clear hb1 u0 u1 u2 u3 u4
    obtain ⟨⟨x0, x1, x2, x3, x4, x5⟩, f0, f1, f2, f3, f4, f5⟩ := boxz hZ.out
    go_wp2_with fail
    refine bodyPost_ret (ret_cell1 rfl _ _ ⟨w.heap.size + 1, 0, none⟩ _ rfl (load_act (box_set6 hZ.out ⟨44, 0, 0, 0, 0, titF zs⟩))) rfl ?_
    exact ⟨by rw [hA.out], below_set6 hG.out (by omega) ⟨44, 0, 0, 0, 0, titF zs⟩⟩
  · have e0 : ((m : Int) == 0) = false := by rw [beq_eq_false_iff_ne]; omega
    obtain ⟨⟨x0, x1, x2, x3, x4, x5⟩, f0, f1, f2, f3, f4, f5⟩ := boxz hZ.out
    by_cases k1 : m = 1
    · have e1 : ((m : Int) == 1) = true := by rw [k1]; rfl
      obtain ⟨r, hr1, hr2⟩ : ∃ r : Nat, (rgb : Int) % 16777216 = (r : Int) ∧ r = rgb % 16777216 := ⟨rgb % 16777216, by omega, rfl⟩
      have hr3 : (rgb : Int).tmod 16777216 = (r : Int) := by rw [Int.tmod_eq_emod_of_nonneg (by omega)]; exact hr1
      have hA := Lib.hid (show draA ⟨wh, n, rgb, zs, cl⟩ = ⟨45, n, 0, 2, r, []⟩ by unfold draA; rw [if_neg (by rw [← HM.out]; exact k0), if_pos (by rw [← HM.out]; exact k1), hr2])
      have hr4 : (r : Int) ≤ 16777215 := by omega
      have hr5 : (0 : Int) ≤ r := by omega
      have n0 : (n : Int) ≤ 255 := by omega
      clear k0 k1 hr1 hr2 h2
      go_wp2_with fail
      refine bodyPost_ret (ret_cell1 rfl _ _ ⟨w.heap.size + 1, 0, none⟩ _ rfl (load_act (box_set6 hZ.out ⟨45, n, 0, 2, r, []⟩))) rfl ?_
      exact ⟨by rw [hA.out], below_set6 hb0.out (by omega) ⟨45, n, 0, 2, r, []⟩⟩
    · have e1 : ((m : Int) == 1) = false := by rw [beq_eq_false_iff_ne]; omega
      have hA := Lib.hid (show draA ⟨wh, n, rgb, zs, cl⟩ = ⟨46, 0, 0, 0, 0, cl.take 378⟩ by unfold draA; rw [if_neg (by rw [← HM.out]; exact k0), if_neg (by rw [← HM.out]; exact k1)])
      clear k0 k1
      have ec := Lib.hid (show (⟨cl.toArray⟩ : ByteArray).extract 0 (min (cl.length : Int) 378).toNat = ⟨(cl.take 378).toArray⟩ by
        rw [← ext_front ⟨cl.toArray⟩]
        show (⟨(cl.take _).toArray⟩ : ByteArray) = _
        by_cases hq : cl.length ≤ 378
        · rw [List.take_of_length_le (by omega), List.take_of_length_le hq]
        · rw [show (min (cl.length : Int) 378).toNat = 378 by omega])
      go_wp2_with fail
      rw [ec.out]
      refine bodyPost_ret (ret_cell1 rfl _ _ ⟨w.heap.size + 1, 0, none⟩ _ rfl (load_act (box_set6 hZ.out ⟨46, 0, 0, 0, 0, cl.take 378⟩))) rfl ?_
      exact ⟨by rw [hA.out], below_set6 hb0.out (by omega) ⟨46, 0, 0, 0, 0, cl.take 378⟩⟩
end Go.Proofs.YtoilcigmpeaedaaGreatDoor.Osc
