/-
  The walk of the law SgrPens.
-/
import Derived.Test.YteepfecplabinaaDoorP26
import Derived.Test.YteepfecplabinaaDoorP35
namespace Go.Proofs.YteepfecplabinaaDoor.Sgr
open Go.RowKit Utf

theorem three_at (u v x : Value) (k : Nat) (h : k < 3) : ∃ y, (y = u ∨ y = v ∨ y = x) ∧ ∀ w, (Instr.index 30 (.agg #[u, v, x]) (.int .i64 (k : Int))).run Tryd.prog w = .ok y w := by
  rcases (show k = 0 ∨ k = 1 ∨ k = 2 by omega) with rfl | rfl | rfl
  · exact ⟨u, .inl rfl, fun w => by kernel_rfl⟩
  · exact ⟨v, .inr (.inl rfl), fun w => by kernel_rfl⟩
  · exact ⟨x, .inr (.inr rfl), fun w => by kernel_rfl⟩
set_option maxRecDepth 100000 in
set_option maxHeartbeats 4000000 in
theorem spens_any (v0 : Value) (l0 : List (List Int)) (v1 : Value) (ps : List UInt16) (ms : List UInt8) (A : Option Addr) (n c : Nat) (bs : List UInt8) (w : World) (het : EnvT w) (h0 : Par.RL w v0 l0) (hd : Par.DrR w v1 ps ms) (hn : bs.length = n) (hm : n ≤ 9223372036854775807) (hr : Rd w A (cB bs)) :
    Calls Tryd.prog 3 #[v0, v1, .slice A n c] w fun e w' => e = .returned (.bool true) ∧ Below w.heap.size w w' := by
  have HT := Lib.hid het
  have H0 := Lib.hid h0
  have HD := Lib.hid hd
  have HR := Lib.hid hr
  have HN := Lib.hid hn
  have HM := Lib.hid hm
  obtain ⟨A1, n1, c1, A2, n2, c2, rfl, -⟩ := hd
  have HX := Lib.hid (show Par.Box (w.alloc (.cells #[.slice A1 n1 c1, .slice A2 n2 c2] 26)) w.heap.size [.slice A1 n1 c1, .slice A2 n2 c2] from Par.Box.new w _ _)
  have HB := Lib.hid (below_box w (.cells #[.slice A1 n1 c1, .slice A2 n2 c2] 26))
  clear het hr hn hm h0
  go_enter Tryd.func3, Tryd.ntmps3
  go_upto_region 1 with fail
  generalize w.alloc (.cells #[.slice A1 n1 c1, .slice A2 n2 c2] 26) = w1 at HX HB ⊢
  generalize hG : w.heap.size = G at HX ⊢
  have HG := Lib.hid hG
  clear hG
  have HX := Lib.hid HX.out.drew
  have HB := Lib.hid HB.out.drew
  have G3 : w1.drew.cell? ⟨G, 0, none⟩ = some (.slice A1 n1 c1) ∧ w1.drew.cell? ⟨G, 1, none⟩ = some (.slice A2 n2 c2) := ⟨HX.out.cell 0 _ rfl, HX.out.cell 1 _ rfl⟩
  go_region_held3 (fun W => W.cell? ⟨G, 0, none⟩ = some (.slice A1 n1 c1) ∧ W.cell? ⟨G, 1, none⟩ = some (.slice A2 n2 c2)) (first | (with_reducible exact G3) | (with_reducible exact G4) | (with_reducible exact G5) | (with_reducible exact G6)) ((first
    | (go_at_call 10; refine (Par.short_any v0 l0 _ (H0.out.keep HB.out)).mono ?_; rintro e V0 ⟨v0', rfl, h1, hb⟩; have HX := Lib.hid (HX.out.keep hb); have HB := Lib.hid (Par.up HB.out hb); obtain ⟨B0, m0, d0, hs, h9⟩ := Big.form (big_short h1); subst hs; have K0 := Lib.hid h9; clear h9; have G4 : V0.cell? ⟨G, 0, none⟩ = some (.slice A1 n1 c1) ∧ V0.cell? ⟨G, 1, none⟩ = some (.slice A2 n2 c2) := ⟨HX.out.cell 0 _ rfl, HX.out.cell 1 _ rfl⟩; clear h1 hb)
    | (go_at_call 11; refine (Par.drow_any _ ps ms _ (HD.out.keep HB.out)).mono ?_; rintro e V1 ⟨v1', rfl, h1, hb⟩; have HX := Lib.hid (HX.out.keep hb); have HB := Lib.hid (Par.up HB.out hb); obtain ⟨B1, m1, d1, hs, h9⟩ := Big.form (big_row h1); subst hs; have K1 := Lib.hid h9; clear h9; have K0 := Lib.hid (K0.out.keep hb); have G5 : V1.cell? ⟨G, 0, none⟩ = some (.slice A1 n1 c1) ∧ V1.cell? ⟨G, 1, none⟩ = some (.slice A2 n2 c2) := ⟨HX.out.cell 0 _ rfl, HX.out.cell 1 _ rfl⟩; clear h1 hb)
    | (go_at_call 12; refine (near_any A n c bs _ HN.out HM.out (HR.out.below HB.out)).mono ?_; rintro e V2 ⟨v2', l2, rfl, h1, hnr, hb⟩; have HX := Lib.hid (HX.out.keep hb); have HB := Lib.hid (Par.up HB.out hb); obtain ⟨B2, m2, d2, hs, h9⟩ := Big.form (big_near h1 hnr); subst hs; have K2 := Lib.hid h9; clear h9; have K0 := Lib.hid (K0.out.keep hb); have K1 := Lib.hid (K1.out.keep hb); have G6 : V2.cell? ⟨G, 0, none⟩ = some (.slice A1 n1 c1) ∧ V2.cell? ⟨G, 1, none⟩ = some (.slice A2 n2 c2) := ⟨HX.out.cell 0 _ rfl, HX.out.cell 1 _ rfl⟩; clear h1 hb hnr)))
  have HE := Lib.hid HT.out.e
  clear G3 G4 G5 G6 HX HD HR H0 HN HM
  generalize Par.shL l0 = x0 at K0
  generalize Par.rowV ps ms = x1 at K1
  go_upto_region 2 with fail
  go_loopw [20] (fun i wr => ∃ k : Nat, k ≤ 3 ∧ i = .int .i64 k ∧ Hid (Below V2.heap.size V2 wr)) (fun i _ => 3 - (intOf i).toNat)
  case atStart => exact ⟨0, by omega, rfl, Below.refl _ _⟩
  case round =>
    obtain ⟨k, hk, rfl, hid⟩ := hrel
    by_cases hk2 : k < 3
    · have q1 : (k : Int) < 3 := by omega
      obtain ⟨x, hx, e1⟩ := three_at (.slice B0 m0 d0) (.slice B1 m1 d1) (.slice B2 m2 d2) k hk2
      obtain ⟨C, n, c, l, rfl, h9⟩ : ∃ C n c l, x = .slice C n c ∧ Big wr (.slice C n c) l := by
        rcases hx with rfl | rfl | rfl
        · exact ⟨_, _, _, x0, rfl, K0.out.keep hid.out⟩
        · exact ⟨_, _, _, x1, rfl, K1.out.keep hid.out⟩
        · exact ⟨_, _, _, l2, rfl, K2.out.keep hid.out⟩
      have H9 := Lib.hid h9
      have HB := Lib.hid (Par.up HB.out hid.out)
      clear hx h9 hk2
      go_upto_region 5 with (go_at_call 13; refine (pens_row _ (HE.out.keep HB.out) _ l H9.out).mono ?_; rintro e W1 ⟨N1, C1, e1', rfl, hN1, hP1, hb⟩; have N1H := Lib.hid hN1; have P1 := Lib.hid hP1; have H9 := Lib.hid (H9.out.keep hb); have hid := Lib.hid (Par.up hid.out hb); clear hb hN1 hP1 HB)
      go_upto_region 6 with (go_at_call 14; refine (rpens_row _ _ l H9.out).mono ?_; rintro e W2 ⟨N2, C2, e2', rfl, hN2, hP2, hb⟩; have N2H := Lib.hid hN2; have P2 := Lib.hid hP2; have P1 := Lib.hid (P1.out.keep hb); have hid := Lib.hid (Par.up hid.out hb); clear hb hN2 hP2)
      have HS := Lib.hid (same_at C1 C2 N1 N2 e1' e2' (pensV l).1 W2 N1H.out N2H.out P1.out P2.out (pensV_1000 l H9.out.le))
      generalize (pensV l).2 = er
      go_wp2_with (go_at_call 15; refine HS.out.mono ?_; rintro e W3 ⟨rfl, hb⟩; have hid := Lib.hid (Par.up hid.out hb); clear hb HS)
      go_roundw
      case rel => exact ⟨k + 1, by omega, by go_num, hid⟩
      case measure => simp [intOf]; omega
    · obtain rfl : k = 3 := by omega
      have HW := Lib.hid (works_any wr (HT.out.keep (Par.up HB.out hid.out)))
      go_wp2_with (go_at_call 16; refine HW.out.mono ?_; rintro e W4 ⟨rfl, hb⟩; have HB := Lib.hid (Par.up (Par.up HB.out hid.out) hb); clear hb)
      go_ret
      exact ⟨rfl, HB.out⟩
end Go.Proofs.YteepfecplabinaaDoor.Sgr
