/-
  Contracts of the closures that handlers makes: title, palette, clip.
-/
import Derived.Test.YtoilcigmpeaedaaGreatDoorOscF
import Derived.Test.YtoilcigmpeaedaaGreatDoorColE
namespace Go.Proofs.YtoilcigmpeaedaaGreatDoor.Osc
open Go.RowKit Utf Col

/-- how a reader ends -/
def endO (o : Option A6) : Ending := match o with
  | some a => .returned (actV a)
  | none => .panicked mal
theorem ret_cell1 {P : Program} {fn : Func} {p : Tmp} {ty : TypeId} (h : fn.results = #[.cell p ty]) (tmps : Array Value) (w : World) (a : Addr) (v : Value) (ha : tmps.getD p undef = .pointer (some a)) (hl : (loadVar ty a).run P w = .ok v w) :
    (results fn tmps).run P w = .ok v w := by
  have ha' : tmps[p]?.getD undef = .pointer (some a) := by simpa using ha
  simp only [results, h]
  simp [ha', asAddr, hl]
def z6 : List Value := [.int .i64 0, .int .i64 0, .int .i64 0, .int .i64 0, .int .i64 0, .string ⟨#[]⟩]
theorem bz_new (w : World) : B64.Box (w.alloc (.cells #[.int .i64 0, .int .i64 0, .int .i64 0, .int .i64 0, .int .i64 0, .string ⟨#[]⟩] 25)) w.heap.size z6 := B64.Box.new w _ _
theorem boxz {w : World} {B : Nat} (h : B64.Box w B z6) : (w.cell? ⟨B, 0, none⟩ = some (.int .i64 0) ∧ w.cell? ⟨B, 1, none⟩ = some (.int .i64 0) ∧ w.cell? ⟨B, 2, none⟩ = some (.int .i64 0) ∧ w.cell? ⟨B, 3, none⟩ = some (.int .i64 0) ∧ w.cell? ⟨B, 4, none⟩ = some (.int .i64 0) ∧ w.cell? ⟨B, 5, none⟩ = some (.string ⟨#[]⟩)) ∧
    w.frozen? ⟨B, 0, none⟩ = false ∧ w.frozen? ⟨B, 1, none⟩ = false ∧ w.frozen? ⟨B, 2, none⟩ = false ∧ w.frozen? ⟨B, 3, none⟩ = false ∧ w.frozen? ⟨B, 4, none⟩ = false ∧ w.frozen? ⟨B, 5, none⟩ = false :=
  ⟨⟨h.cell 0 _ rfl, h.cell 1 _ rfl, h.cell 2 _ rfl, h.cell 3 _ rfl, h.cell 4 _ rfl, h.cell 5 _ rfl⟩, h.free 0 (by decide), h.free 1 (by decide), h.free 2 (by decide), h.free 3 (by decide), h.free 4 (by decide), h.free 5 (by decide)⟩
/-- a box of an action, set cell by cell -/
def set6 (w : World) (B : Nat) (a : A6) : World := ((((((w.setCell ⟨B, 0, none⟩ (.int .i64 a.k)).setCell ⟨B, 1, none⟩ (.int .i64 a.n)).setCell ⟨B, 2, none⟩ (.int .i64 a.m)).setCell ⟨B, 3, none⟩ (.int .i64 a.c0)).setCell ⟨B, 4, none⟩ (.int .i64 a.c1)).setCell ⟨B, 5, none⟩ (.string ⟨a.t.toArray⟩))
theorem box_set6 {w : World} {B : Nat} {k n m c0 c1 : Int} {t : List UInt8} (h : B64.Box w B (c6 k n m c0 c1 t)) (a : A6) : B64.Box (set6 w B a) B (c6 a.k a.n a.m a.c0 a.c1 a.t) :=
  (((((h.set 0 _).set 1 _).set 2 _).set 3 _).set 4 _).set 5 _
theorem below_set6 {B0 : Nat} {a w : World} {B : Nat} (h : Below B0 a w) (hB : B0 ≤ B) (x : A6) : Below B0 a (set6 w B x) :=
  (((((h.setCell (p := ⟨B, 0, none⟩) hB _).setCell (p := ⟨B, 1, none⟩) hB _).setCell (p := ⟨B, 2, none⟩) hB _).setCell (p := ⟨B, 3, none⟩) hB _).setCell (p := ⟨B, 4, none⟩) hB _).setCell (p := ⟨B, 5, none⟩) hB _
theorem load_act {w : World} {B : Nat} {k n m c0 c1 : Int} {t : List UInt8} (h : B64.Box w B (c6 k n m c0 c1 t)) : (loadVar 25 ⟨B, 0, none⟩).run Tryz.prog w = .ok (actV ⟨k, n, m, c0, c1, t⟩) w :=
  (run_loadVar_mid w B 0 25 (c6 k n m c0 c1 t) _ h.2.1 Tryz.underlying25 rfl (by kernel_rfl)).trans rfl
theorem zz : z6 = c6 0 0 0 0 0 [] := rfl
set_option maxRecDepth 100000 in
set_option maxHeartbeats 4000000 in
theorem title_yes (b : Nat) (r : List UInt8) (w : World) (he : Env w) (hc : B64.Box w b [.string ⟨r.toArray⟩]) (hs : r.length ≤ 1000000) (ht : titB r = true) :
    Calls Tryz.prog 64 #[.pointer (some ⟨b, 0, none⟩)] w fun e w' => e = .returned (actV ⟨44, 0, 0, 0, 0, r⟩) ∧ Below w.heap.size w w' := by
  have HT := Lib.hid (fun W h => isTitle_any ⟨r.toArray⟩ W h (by rw [Lib.size_mk]; exact hs))
  dsimp only at HT
  rw [ht] at HT
  have HE := Lib.hid he
  have HB := Lib.hid hc
  have hb0 := fun o => B64.below_box w o
  clear he hs ht
  have y0 := ((hc).alloc (.cells #[.int .i64 0, .int .i64 0, .int .i64 0, .int .i64 0, .int .i64 0, .string ⟨#[]⟩] 25)).cell 0 _ rfl
  go_enter Tryz.func64, Tryz.ntmps64
  go_wp2_with fail
  refine (HT.out _ (HE.out.keep (hb0 _)).um).mono ?_
  rintro e w1 ⟨rfl, hb1⟩
  have HZ := (bz_new w).keep hb1
  obtain ⟨⟨x0, x1, x2, x3, x4, x5⟩, f0, f1, f2, f3, f4, f5⟩ := boxz HZ
  have z0 := ((HB.out.alloc _).keep hb1).cell 0 _ rfl
  have hG := Lib.hid (B64.up (hb0 _) hb1)
  clear hb1 y0
  go_wp2_with (go_at_call 34; refine (demand_yes _).mono ?_; rintro e w2 ⟨rfl, rfl⟩)
  have HZ := Lib.hid HZ
  refine bodyPost_ret (ret_cell1 rfl _ _ ⟨w.heap.size, 0, none⟩ _ rfl (load_act (box_set6 HZ.out ⟨44, 0, 0, 0, 0, r⟩))) rfl ?_
  exact ⟨rfl, below_set6 hG.out (Nat.le_refl _) ⟨44, 0, 0, 0, 0, r⟩⟩
set_option maxRecDepth 100000 in
set_option maxHeartbeats 4000000 in
theorem title_no (b : Nat) (r : List UInt8) (w : World) (he : Env w) (hc : B64.Box w b [.string ⟨r.toArray⟩]) (hs : r.length ≤ 1000000) (ht : titB r = false) :
    Calls Tryz.prog 64 #[.pointer (some ⟨b, 0, none⟩)] w fun e w' => e = .panicked mal ∧ Below w.heap.size w w' := by
  have HT := Lib.hid (fun W h => isTitle_any ⟨r.toArray⟩ W h (by rw [Lib.size_mk]; exact hs))
  dsimp only at HT
  rw [ht] at HT
  have HE := Lib.hid he
  have HB := Lib.hid hc
  have hb0 := fun o => B64.below_box w o
  clear he hs ht
  have y0 := ((hc).alloc (.cells #[.int .i64 0, .int .i64 0, .int .i64 0, .int .i64 0, .int .i64 0, .string ⟨#[]⟩] 25)).cell 0 _ rfl
  go_enter Tryz.func64, Tryz.ntmps64
  go_wp2_with fail
  refine (HT.out _ (HE.out.keep (hb0 _)).um).mono ?_
  rintro e w1 ⟨rfl, hb1⟩
  go_wp2_with (go_at_call 34; refine (demand_no _).mono ?_; rintro e w2 ⟨rfl, rfl⟩)
  exact ⟨rfl, rfl, B64.up (hb0 _) hb1⟩
end Go.Proofs.YtoilcigmpeaedaaGreatDoor.Osc
