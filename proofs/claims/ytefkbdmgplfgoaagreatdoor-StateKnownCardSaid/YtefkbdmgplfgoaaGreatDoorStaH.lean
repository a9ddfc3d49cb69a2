/-
  Contract of the reference's told.
-/
import Derived.Test.YtefkbdmgplfgoaaGreatDoorStaC
import Derived.Deep.RegionHeld3
namespace Go.Proofs.YtefkbdmgplfgoaaGreatDoor.Sta
open Go.RowKit Utf Par

theorem below_set8 {B : Nat} {a w : World} (b : Nat) (x0 x1 x2 x3 x4 x5 x6 x7 : Value) (h : Below B a w) (hb : B ≤ b) : Below B a ((((((((w.setCell ⟨b, 0, none⟩ x0).setCell ⟨b, 1, none⟩ x1).setCell ⟨b, 2, none⟩ x2).setCell ⟨b, 3, none⟩ x3).setCell ⟨b, 4, none⟩ x4).setCell ⟨b, 5, none⟩ x5).setCell ⟨b, 6, none⟩ x6).setCell ⟨b, 7, none⟩ x7) :=
  ((((((((h.setCell (p := ⟨b, 0, none⟩) hb _).setCell (p := ⟨b, 1, none⟩) hb _).setCell (p := ⟨b, 2, none⟩) hb _).setCell (p := ⟨b, 3, none⟩) hb _).setCell (p := ⟨b, 4, none⟩) hb _).setCell (p := ⟨b, 5, none⟩) hb _).setCell (p := ⟨b, 6, none⟩) hb _).setCell (p := ⟨b, 7, none⟩) hb _)
theorem below_set8a {B : Nat} {a w : World} (b : Nat) (x0 x1 x2 x3 x4 x5 x6 x7 : Value) (o : Obj) (h : Below B a w) (hb : B ≤ b) (ha : B ≤ a.heap.size) : Below B a (((((((((w.setCell ⟨b, 0, none⟩ x0).setCell ⟨b, 1, none⟩ x1).setCell ⟨b, 2, none⟩ x2).setCell ⟨b, 3, none⟩ x3).setCell ⟨b, 4, none⟩ x4).setCell ⟨b, 5, none⟩ x5).setCell ⟨b, 6, none⟩ x6).setCell ⟨b, 7, none⟩ x7).alloc o) :=
  (below_set8 b x0 x1 x2 x3 x4 x5 x6 x7 h hb).alloc (Nat.le_trans ha (below_set8 b x0 x1 x2 x3 x4 x5 x6 x7 h hb).size) o
theorem box_set8 {w : World} {b : Nat} {y0 y1 y2 y3 y4 y5 y6 y7 : Value} (x0 x1 x2 x3 x4 x5 x6 x7 : Value) (h : Box w b [y0, y1, y2, y3, y4, y5, y6, y7]) : Box ((((((((w.setCell ⟨b, 0, none⟩ x0).setCell ⟨b, 1, none⟩ x1).setCell ⟨b, 2, none⟩ x2).setCell ⟨b, 3, none⟩ x3).setCell ⟨b, 4, none⟩ x4).setCell ⟨b, 5, none⟩ x5).setCell ⟨b, 6, none⟩ x6).setCell ⟨b, 7, none⟩ x7) b [x0, x1, x2, x3, x4, x5, x6, x7] :=
  (((((((h.set 0 x0).set 1 x1).set 2 x2).set 3 x3).set 4 x4).set 5 x5).set 6 x6).set 7 x7
theorem grown_set8 (w : World) (b : Nat) (x0 x1 x2 x3 x4 x5 x6 x7 : Value) : w.grownBy ((((((((w.setCell ⟨b, 0, none⟩ x0).setCell ⟨b, 1, none⟩ x1).setCell ⟨b, 2, none⟩ x2).setCell ⟨b, 3, none⟩ x3).setCell ⟨b, 4, none⟩ x4).setCell ⟨b, 5, none⟩ x5).setCell ⟨b, 6, none⟩ x6).setCell ⟨b, 7, none⟩ x7) (some b) :=
  (((((((grown_set w b 0 x0).trans (grown_set _ b 1 x1)).trans (grown_set _ b 2 x2)).trans (grown_set _ b 3 x3)).trans (grown_set _ b 4 x4)).trans (grown_set _ b 5 x5)).trans (grown_set _ b 6 x6)).trans (grown_set _ b 7 x7)
theorem size_set8 (w : World) (b : Nat) (x0 x1 x2 x3 x4 x5 x6 x7 : Value) : ((((((((w.setCell ⟨b, 0, none⟩ x0).setCell ⟨b, 1, none⟩ x1).setCell ⟨b, 2, none⟩ x2).setCell ⟨b, 3, none⟩ x3).setCell ⟨b, 4, none⟩ x4).setCell ⟨b, 5, none⟩ x5).setCell ⟨b, 6, none⟩ x6).setCell ⟨b, 7, none⟩ x7).heap.size = w.heap.size := by simp
theorem RdE.grown {w w' : World} {b R : Nat} {xs : List EQ} (h : RdE w (some ⟨b, 0, none⟩) xs) (hg : w.grownBy w' (some R)) (hne : b ≠ R) : RdE w' (some ⟨b, 0, none⟩) xs := fun j p hp => by
  obtain ⟨b', o, hA, hlt, hr⟩ := h j p hp
  cases hA
  exact ⟨b, 0, rfl, Nat.lt_of_lt_of_le hlt hg.size, fun i v hv => (World.cell?_of_block (a := ⟨b, 0 + j * 7 + i, none⟩) (hg.block b hlt (by simpa using hne))).trans (hr i v hv)⟩
theorem RV.mk1 {W : World} {b : Nat} {e : EV} {A : Option Addr} {n c : Nat} (h : RdE W (some ⟨b, 0, none⟩) [⟨e, A, n, c⟩]) (hq : RL W (.slice A n c) e.ps) : RV W (.slice (some ⟨b, 0, none⟩) 1 1) [e] :=
  ⟨_, 1, [⟨e, A, n, c⟩], rfl, Nat.le_refl _, by decide, rfl, h, fun x hx => by
    obtain rfl : x = ⟨e, A, n, c⟩ := by simpa using hx
    exact hq⟩
theorem RdE.at {w' W : World} {b : Nat} {xs : List EQ} (h : RdE w' (some ⟨b, 0, none⟩) xs) (hl : b < w'.heap.size) (hb : W.heap[b]? = w'.heap[b]?) : RdE W (some ⟨b, 0, none⟩) xs := fun j p hp => by
  obtain ⟨b', o, hA, _, hr⟩ := h j p hp
  cases hA
  have hlt : b < W.heap.size := by
    have : (W.heap[b]?).isSome := by rw [hb]; simp [hl]
    simpa using this
  exact ⟨b, 0, rfl, hlt, fun i v hv => (World.cell?_of_block (a := ⟨b, 0 + j * 7 + i, none⟩) hb).trans (hr i v hv)⟩
/-- what told hands back: the initial state, and events -/
def Told (l : List EV) (w0 w : World) (e : Ending) (w' : World) : Prop := ∃ v, e = .returned (.tuple #[.agg #[.int .i64 0, .slice none 0 0, .int .u8 0, .int .u8 0, .slice none 0 0, .string ⟨#[]⟩, .string ⟨#[]⟩, .bool false], v]) ∧ (∀ W, Agr w0 w w' W → RV W v l) ∧ Below w.heap.size w w'
set_option maxRecDepth 100000 in
set_option maxHeartbeats 8000000 in
theorem told_is (p : PS) (e : EV) (au aq ae : Option Addr) (nu cu nq cq ne ce : Nat) (w0 w : World) (he : RL w0 (.slice ae ne ce) e.ps) :
    Calls Tryz.prog 84 #[.agg (cS p (.slice au nu cu) (.slice aq nq cq)), .agg (cE ⟨e, ae, ne, ce⟩).toArray] w (Told (tolS p e).2 w0 w) := by
  obtain ⟨st, utf, pr, fi, pp, it, tx, bad⟩ := p
  obtain ⟨k, c, epr, efi, eps, eit, etx⟩ := e
  have HE := Lib.hid he; clear he
  unfold cS cE
  dsimp only at *
  generalize pr.toNat = x
  generalize fi.toNat = y
  obtain ⟨x', hx'⟩ : ∃ x', x' = epr.toNat := ⟨_, rfl⟩
  obtain ⟨y', hy'⟩ : ∃ y', y' = efi.toNat := ⟨_, rfl⟩
  rw [← hx', ← hy']
  have HX' := Lib.hid hx'
  have HY' := Lib.hid hy'
  clear hx' hy'
  have hb1 : Below w.heap.size w (((w.alloc (.cells #[.int .i64 st, .slice au nu cu, .int .u8 (x : Int), .int .u8 (y : Int), .slice aq nq cq, .string it, .string tx, .bool bad] 25)).alloc (.cells #[.int .i64 k, .int .i64 c, .int .u8 (x' : Int), .int .u8 (y' : Int), .slice ae ne ce, .string eit, .string etx] 27)).alloc (.cells #[.int .i64 0, .slice none 0 0, .int .u8 0, .int .u8 0, .slice none 0 0, .string ⟨#[]⟩, .string ⟨#[]⟩, .bool false] 25)) := up (up (below_box _ _) (below_box _ _)) (below_box _ _)
  have he1 := (Box.new (w.alloc (.cells #[.int .i64 st, .slice au nu cu, .int .u8 (x : Int), .int .u8 (y : Int), .slice aq nq cq, .string it, .string tx, .bool bad] 25)) #[.int .i64 k, .int .i64 c, .int .u8 (x' : Int), .int .u8 (y' : Int), .slice ae ne ce, .string eit, .string etx] 27).alloc (.cells #[.int .i64 0, .slice none 0 0, .int .u8 0, .int .u8 0, .slice none 0 0, .string ⟨#[]⟩, .string ⟨#[]⟩, .bool false] 25)
  have hp1 := ((Box.new w #[.int .i64 st, .slice au nu cu, .int .u8 (x : Int), .int .u8 (y : Int), .slice aq nq cq, .string it, .string tx, .bool bad] 25).alloc (.cells #[.int .i64 k, .int .i64 c, .int .u8 (x' : Int), .int .u8 (y' : Int), .slice ae ne ce, .string eit, .string etx] 27)).alloc (.cells #[.int .i64 0, .slice none 0 0, .int .u8 0, .int .u8 0, .slice none 0 0, .string ⟨#[]⟩, .string ⟨#[]⟩, .bool false] 25)
  have hr1 := Box.new ((w.alloc (.cells #[.int .i64 st, .slice au nu cu, .int .u8 (x : Int), .int .u8 (y : Int), .slice aq nq cq, .string it, .string tx, .bool bad] 25)).alloc (.cells #[.int .i64 k, .int .i64 c, .int .u8 (x' : Int), .int .u8 (y' : Int), .slice ae ne ce, .string eit, .string etx] 27)) #[.int .i64 0, .slice none 0 0, .int .u8 0, .int .u8 0, .slice none 0 0, .string ⟨#[]⟩, .string ⟨#[]⟩, .bool false] 25
  rw [World.size_alloc] at he1
  rw [World.size_alloc, World.size_alloc] at hr1
  go_enter Tryz.func84, Tryz.ntmps84
  go_upto_region 1 with fail
  generalize (((w.alloc (.cells #[.int .i64 st, .slice au nu cu, .int .u8 (x : Int), .int .u8 (y : Int), .slice aq nq cq, .string it, .string tx, .bool bad] 25)).alloc (.cells #[.int .i64 k, .int .i64 c, .int .u8 (x' : Int), .int .u8 (y' : Int), .slice ae ne ce, .string eit, .string etx] 27)).alloc (.cells #[.int .i64 0, .slice none 0 0, .int .u8 0, .int .u8 0, .slice none 0 0, .string ⟨#[]⟩, .string ⟨#[]⟩, .bool false] 25)) = w1 at hb1 he1 hp1 hr1 ⊢
  have hs : w.heap.size ≤ w.heap.size + 1 + 1 := by omega
  obtain ⟨P, hP⟩ : ∃ P, P = w.heap.size := ⟨_, rfl⟩
  obtain ⟨E, hE⟩ : ∃ E, E = w.heap.size + 1 := ⟨_, rfl⟩
  obtain ⟨R, hR⟩ : ∃ R, R = w.heap.size + 1 + 1 := ⟨_, rfl⟩
  rw [← hR] at hr1 hs ⊢
  rw [← hE] at he1 ⊢
  rw [← hP] at hp1 ⊢
  have n1 : E < R := by omega
  have HS := Lib.hid hs
  have HB := Lib.hid hb1
  have HR1 := Lib.hid hr1
  have p7 := hp1.cell 7 _ rfl
  have hER : E ≠ R := by omega
  cases bad with
  | true =>
    clear hE hR hP he1 hp1 hb1 hr1
    go_wp2_with (go_at_call 60; refine (begin_any _ _).mono ?_; rintro e w3 ⟨rfl, hb3⟩; have hx3 := HR1.out.keep hb3; have z0 := hx3.cell 0 _ rfl; have z1 := hx3.cell 1 _ rfl; have z2 := hx3.cell 2 _ rfl; have z3 := hx3.cell 3 _ rfl; have z4 := hx3.cell 4 _ rfl; have z5 := hx3.cell 5 _ rfl; have z6 := hx3.cell 6 _ rfl; have z7 := hx3.cell 7 _ rfl; have v0 := hx3.free 0 (by show 0 < 8; decide); have v1 := hx3.free 1 (by show 1 < 8; decide); have v2 := hx3.free 2 (by show 2 < 8; decide); have v3 := hx3.free 3 (by show 3 < 8; decide); have v4 := hx3.free 4 (by show 4 < 8; decide); have v5 := hx3.free 5 (by show 5 < 8; decide); have v6 := hx3.free 6 (by show 6 < 8; decide); have v7 := hx3.free 7 (by show 7 < 8; decide); have HX3 := Lib.hid hx3; clear hx3)
    refine bodyPost_ret (ret_cell rfl _ _ ⟨R, 0, none⟩ _ rfl (load_par8 _ _ _ _ _ _ _ _ _ _ (box_set8 _ _ _ _ _ _ _ _ HX3.out))) rfl ?_
    exact ⟨_, rfl, fun W _ => RV.nil _, below_set8 _ _ _ _ _ _ _ _ _ (up HB.out hb3) HS.out⟩
  | false =>
    have HK := Lib.hid (show ∀ W, Below R w1 W → (W.cell? ⟨E, 0, none⟩ = some (.int .i64 k) ∧ W.cell? ⟨E, 1, none⟩ = some (.int .i64 c) ∧ W.cell? ⟨E, 2, none⟩ = some (.int .u8 (x' : Int)) ∧ W.cell? ⟨E, 3, none⟩ = some (.int .u8 (y' : Int)) ∧ W.cell? ⟨E, 4, none⟩ = some (.slice ae ne ce) ∧ W.cell? ⟨E, 5, none⟩ = some (.string eit) ∧ W.cell? ⟨E, 6, none⟩ = some (.string etx)) ∧ Below R w1 W from fun W hW => ⟨⟨(he1.below hW n1).cell 0 _ rfl, (he1.below hW n1).cell 1 _ rfl, (he1.below hW n1).cell 2 _ rfl, (he1.below hW n1).cell 3 _ rfl, (he1.below hW n1).cell 4 _ rfl, (he1.below hW n1).cell 5 _ rfl, (he1.below hW n1).cell 6 _ rfl⟩, hW⟩)
    have hsz : R ≤ w1.heap.size := by have := hr1.1; omega
    have D : Below R w1 w1.drew := (Below.refl R w1).drew
    have hszd : R ≤ w1.drew.heap.size := Nat.le_trans hsz D.size
    clear hE hR hP he1 hp1 hb1 hr1
    go_wp2_with fail
    go_region_held3 (fun W => (W.cell? ⟨E, 0, none⟩ = some (.int .i64 k) ∧ W.cell? ⟨E, 1, none⟩ = some (.int .i64 c) ∧ W.cell? ⟨E, 2, none⟩ = some (.int .u8 (x' : Int)) ∧ W.cell? ⟨E, 3, none⟩ = some (.int .u8 (y' : Int)) ∧ W.cell? ⟨E, 4, none⟩ = some (.slice ae ne ce) ∧ W.cell? ⟨E, 5, none⟩ = some (.string eit) ∧ W.cell? ⟨E, 6, none⟩ = some (.string etx)) ∧ Below R w1 W)
      (first
        | with_reducible exact HK.out _ D
        | with_reducible exact HK.out _ ((Below.alloc (Below.refl R w1) hsz _).drew)
        | with_reducible exact HK.out _ f3
        | with_reducible exact HK.out _ (Below.alloc f3 (Nat.le_trans hsz f3.size) _)
        | with_reducible exact HK.out _ (below_set8 _ _ _ _ _ _ _ _ _ f3 (Nat.le_refl _))
        | with_reducible exact HK.out _ (below_set8 _ _ _ _ _ _ _ _ _ (Below.alloc f3 (Nat.le_trans hsz f3.size) _) (Nat.le_refl _))
        | with_reducible exact HK.out _ (below_set8a _ _ _ _ _ _ _ _ _ _ f3 (Nat.le_refl _) hsz)
        | with_reducible assumption)
      (first
        | (go_at_call 60; refine (begin_any _ _).mono ?_; rintro e w3 ⟨rfl, hb3⟩; have hx3 : Box w3 R _ := (by first | with_reducible exact HR1.out.drew.keep hb3 | with_reducible exact (HR1.out.alloc _).drew.keep hb3); have f3 : Below R w1 w3 := (by first | with_reducible exact D.trans (hb3.mono hszd) | with_reducible exact ((Below.alloc (Below.refl R w1) hsz _).drew).trans (hb3.mono (Nat.le_trans hsz ((Below.alloc (Below.refl R w1) hsz _).drew).size))); have z0 := hx3.cell 0 _ rfl; have v0 := hx3.free 0 (by show 0 < 8; decide); have z1 := hx3.cell 1 _ rfl; have v1 := hx3.free 1 (by show 1 < 8; decide); have z2 := hx3.cell 2 _ rfl; have v2 := hx3.free 2 (by show 2 < 8; decide); have z3 := hx3.cell 3 _ rfl; have v3 := hx3.free 3 (by show 3 < 8; decide); have z4 := hx3.cell 4 _ rfl; have v4 := hx3.free 4 (by show 4 < 8; decide); have z5 := hx3.cell 5 _ rfl; have v5 := hx3.free 5 (by show 5 < 8; decide); have z6 := hx3.cell 6 _ rfl; have v6 := hx3.free 6 (by show 6 < 8; decide); have z7 := hx3.cell 7 _ rfl; have v7 := hx3.free 7 (by show 7 < 8; decide); have l3 := hx3.1; have HX3 := Lib.hid hx3; clear hx3))
    · have b8 := box_set8 (.int .i64 0) (.slice none 0 0) (.int .u8 0) (.int .u8 0) (.slice none 0 0) (.string ⟨#[]⟩) (.string ⟨#[]⟩) (.bool false) HX3.out
      have z8 := size_set8 w3 R (.int .i64 0) (.slice none 0 0) (.int .u8 0) (.int .u8 0) (.slice none 0 0) (.string ⟨#[]⟩) (.string ⟨#[]⟩) (.bool false)
      have d8 := below_set8 R (.int .i64 0) (.slice none 0 0) (.int .u8 0) (.int .u8 0) (.slice none 0 0) (.string ⟨#[]⟩) (.string ⟨#[]⟩) (.bool false) (HB.out.trans (f3.mono HS.out)) HS.out
      generalize ((((((((w3.setCell ⟨R, 0, none⟩ (.int .i64 0)).setCell ⟨R, 1, none⟩ (.slice none 0 0)).setCell ⟨R, 2, none⟩ (.int .u8 0)).setCell ⟨R, 3, none⟩ (.int .u8 0)).setCell ⟨R, 4, none⟩ (.slice none 0 0)).setCell ⟨R, 5, none⟩ (.string ⟨#[]⟩)).setCell ⟨R, 6, none⟩ (.string ⟨#[]⟩)).setCell ⟨R, 7, none⟩ (.bool false)) = W8 at b8 z8 d8 ⊢
      rw [← z8]
      obtain rfl := HX'.out
      obtain rfl := HY'.out
      have B8 := Lib.hid b8
      have D8 := Lib.hid d8
      clear z8 b8 d8
      go_wp2
      refine bodyPost_ret (ret_cell rfl _ _ ⟨R, 0, none⟩ _ rfl (load_par8 _ _ _ _ _ _ _ _ _ _ (B8.out.alloc _))) rfl ?_
      exact ⟨_, rfl, fun W hW => RV.mk1 ((RdE.one _ ⟨⟨k, c, epr, efi, eps, eit, etx⟩, ae, ne, ce⟩ _).at (by simp) (hW.2 _ D8.out.size (by simp))) (HE.out.keep hW.1), D8.out.alloc D8.out.size _⟩
    · have b8 := box_set8 (.int .i64 0) (.slice none 0 0) (.int .u8 0) (.int .u8 0) (.slice none 0 0) (.string ⟨#[]⟩) (.string ⟨#[]⟩) (.bool false) HX3.out
      have z8 := size_set8 w3 R (.int .i64 0) (.slice none 0 0) (.int .u8 0) (.int .u8 0) (.slice none 0 0) (.string ⟨#[]⟩) (.string ⟨#[]⟩) (.bool false)
      have d8 := below_set8 R (.int .i64 0) (.slice none 0 0) (.int .u8 0) (.int .u8 0) (.slice none 0 0) (.string ⟨#[]⟩) (.string ⟨#[]⟩) (.bool false) (HB.out.trans (f3.mono HS.out)) HS.out
      generalize ((((((((w3.setCell ⟨R, 0, none⟩ (.int .i64 0)).setCell ⟨R, 1, none⟩ (.slice none 0 0)).setCell ⟨R, 2, none⟩ (.int .u8 0)).setCell ⟨R, 3, none⟩ (.int .u8 0)).setCell ⟨R, 4, none⟩ (.slice none 0 0)).setCell ⟨R, 5, none⟩ (.string ⟨#[]⟩)).setCell ⟨R, 6, none⟩ (.string ⟨#[]⟩)).setCell ⟨R, 7, none⟩ (.bool false)) = W8 at b8 z8 d8 ⊢
      rw [← z8]
      obtain rfl := HX'.out
      obtain rfl := HY'.out
      have B8 := Lib.hid b8
      have D8 := Lib.hid d8
      clear z8 b8 d8
      go_wp2
      refine bodyPost_ret (ret_cell rfl _ _ ⟨R, 0, none⟩ _ rfl (load_par8 _ _ _ _ _ _ _ _ _ _ (B8.out.alloc _))) rfl ?_
      exact ⟨_, rfl, fun W hW => RV.mk1 ((RdE.one _ ⟨⟨k, c, epr, efi, eps, eit, etx⟩, ae, ne, ce⟩ _).at (by simp) (hW.2 _ D8.out.size (by simp))) (HE.out.keep hW.1), D8.out.alloc D8.out.size _⟩
    · have b8 := box_set8 (.int .i64 0) (.slice none 0 0) (.int .u8 0) (.int .u8 0) (.slice none 0 0) (.string ⟨#[]⟩) (.string ⟨#[]⟩) (.bool false) HX3.out
      have d8 := below_set8 R (.int .i64 0) (.slice none 0 0) (.int .u8 0) (.int .u8 0) (.slice none 0 0) (.string ⟨#[]⟩) (.string ⟨#[]⟩) (.bool false) (HB.out.trans (f3.mono HS.out)) HS.out
      have g8 := grown_set8 w3 R (.int .i64 0) (.slice none 0 0) (.int .u8 0) (.int .u8 0) (.slice none 0 0) (.string ⟨#[]⟩) (.string ⟨#[]⟩) (.bool false)
      obtain rfl := HX'.out
      obtain rfl := HY'.out
      have hrd := ((RdE.one w1 ⟨⟨k, c, epr, efi, eps, eit, etx⟩, ae, ne, ce⟩ 27).keep (up (Below.refl _ _).drew hb3)).grown g8 (by have := HR1.out.1; omega)
      generalize ((((((((w3.setCell ⟨R, 0, none⟩ (.int .i64 0)).setCell ⟨R, 1, none⟩ (.slice none 0 0)).setCell ⟨R, 2, none⟩ (.int .u8 0)).setCell ⟨R, 3, none⟩ (.int .u8 0)).setCell ⟨R, 4, none⟩ (.slice none 0 0)).setCell ⟨R, 5, none⟩ (.string ⟨#[]⟩)).setCell ⟨R, 6, none⟩ (.string ⟨#[]⟩)).setCell ⟨R, 7, none⟩ (.bool false)) = W8 at b8 g8 d8 hrd ⊢
      have B8 := Lib.hid b8
      have D8 := Lib.hid d8
      have HRD := Lib.hid hrd
      clear b8 g8 d8 hrd
      go_wp2
      refine bodyPost_ret (ret_cell rfl _ _ ⟨R, 0, none⟩ _ rfl (load_par8 _ _ _ _ _ _ _ _ _ _ B8.out)) rfl ?_
      have hlt : w1.heap.size < W8.heap.size := by
        obtain ⟨b', o', hA, hl, _⟩ := HRD.out 0 _ rfl
        cases hA
        exact hl
      exact ⟨_, rfl, fun W hW => RV.mk1 (HRD.out.at hlt (hW.2 _ HB.out.size hlt)) (HE.out.keep hW.1), D8.out⟩
theorem tolS_fst (p : PS) (e : EV) : (tolS p e).1 = begS 0 := by unfold tolS; split <;> rfl
theorem told_any (p : PS) (e : EV) (au aq ae : Option Addr) (nu cu nq cq ne ce : Nat) (w0 w : World) (he : RL w0 (.slice ae ne ce) e.ps) :
    Calls Tryz.prog 84 #[.agg (cS p (.slice au nu cu) (.slice aq nq cq)), .agg (cE ⟨e, ae, ne, ce⟩).toArray] w (Ret2 (tolS p e) w0 w) := by
  refine (told_is p e au aq ae nu cu nq cq ne ce w0 w he).mono ?_
  rintro r w' ⟨v, rfl, h1, h2⟩
  refine ⟨.slice none 0 0, .slice none 0 0, v, ?_, fun W hW => ⟨?_, h1 W hW⟩, h2⟩
  · rw [tolS_fst]; rfl
  · rw [tolS_fst]; exact RS.nil _ _ rfl rfl
end Go.Proofs.YtefkbdmgplfgoaaGreatDoor.Sta
