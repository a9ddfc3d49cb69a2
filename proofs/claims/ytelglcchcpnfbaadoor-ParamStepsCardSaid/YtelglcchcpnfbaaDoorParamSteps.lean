/-
  The walk of ParamSteps.
-/
import Derived.Test.YtelglcchcpnfbaaDoorParN
import Derived.Test.YtelglcchcpnfbaaDoorParQ
import Derived.Test.YtelglcchcpnfbaaDoorParAb
namespace Go.Proofs.YtelglcchcpnfbaaDoor.Par
open Go.RowKit Utf

theorem ix2 (A1 A2 : Option Addr) (n1 n2 c1 c2 : Nat) (P : Value → Prop) (h1 : P (.slice A1 n1 c1)) (h2 : P (.slice A2 n2 c2)) (k : Nat) (hk : k < 2) : ∃ A n c, P (.slice A n c) ∧ ∀ W, (Instr.index 42 (.agg #[.slice A1 n1 c1, .slice A2 n2 c2]) (.int .i64 (k : Int))).run Tryd.prog W = .ok (.slice A n c) W := by
  rcases (show k = 0 ∨ k = 1 by omega) with rfl | rfl
  · exact ⟨A1, n1, c1, h1, fun _ => by kernel_rfl⟩
  · exact ⟨A2, n2, c2, h2, fun _ => by kernel_rfl⟩
theorem ix5 (c d : UInt8) (k : Nat) (hk : k < 5) : ∃ b : UInt8, ∀ W, (Instr.index 43 (.agg #[.int .u8 (c.toNat : Int), .int .u8 (d.toNat : Int), .int .u8 58, .int .u8 59, .int .u8 57]) (.int .i64 (k : Int))).run Tryd.prog W = .ok (.int .u8 (b.toNat : Int)) W := by
  rcases (show k = 0 ∨ k = 1 ∨ k = 2 ∨ k = 3 ∨ k = 4 by omega) with rfl | rfl | rfl | rfl | rfl
  · exact ⟨c, fun _ => by kernel_rfl⟩
  · exact ⟨d, fun _ => by kernel_rfl⟩
  · exact ⟨58, fun _ => by kernel_rfl⟩
  · exact ⟨59, fun _ => by kernel_rfl⟩
  · exact ⟨57, fun _ => by kernel_rfl⟩
theorem Ks.sz {l : List (List Int)} (h : Ks l) : Sz l := ⟨by have := h.1; omega, fun p hp => by have := h.2 p hp; omega⟩
set_option maxRecDepth 100000 in
set_option maxHeartbeats 8000000 in
theorem steps_any (v u : Value) (l : List (List Int)) (ps : List UInt16) (ms : List UInt8) (ch : UInt8) (w : World) (hv : RL w v l) (hu : DrR w u ps ms) (ht : Tab w) :
    Calls Tryd.prog 4 #[v, u, .int .u8 (ch.toNat : Int)] w fun e w' => e = .returned (.bool true) ∧ Below w.heap.size w w' := by
  have HT := Lib.hid ht; clear ht
  have Hv := Lib.hid hv
  have Hu := Lib.hid hu
  obtain ⟨AL, cl, rfl⟩ := hv.form
  generalize l.length = nl at hv Hv ⊢
  clear hv
  obtain ⟨A, n, c, B, m, e, rfl, -⟩ := hu
  have hb0 : Below w.heap.size w (w.alloc (.cells #[.slice A n c, .slice B m e] 26)) := below_box _ _
  have hx1 := Box.new w #[.slice A n c, .slice B m e] 26
  have HB0 := Lib.hid hb0; clear hb0
  have HX1 := Lib.hid hx1; clear hx1
  have HK := Lib.hid (show ∀ W, Below (w.alloc (.cells #[.slice A n c, .slice B m e] 26)).heap.size (w.alloc (.cells #[.slice A n c, .slice B m e] 26)) W → W.cell? ⟨w.heap.size, 0, none⟩ = some (.slice A n c) ∧ W.cell? ⟨w.heap.size, 1, none⟩ = some (.slice B m e) ∧ Below (w.alloc (.cells #[.slice A n c, .slice B m e] 26)).heap.size (w.alloc (.cells #[.slice A n c, .slice B m e] 26)) W from fun W hW =>
    ⟨(HX1.out.keep hW).cell 0 _ rfl, (HX1.out.keep hW).cell 1 _ rfl, hW⟩)
  go_enter Tryd.func4, Tryd.ntmps4
  go_wp2_with fail
  generalize w.alloc (.cells #[.slice A n c, .slice B m e] 26) = w2 at HB0 HX1 HK ⊢
  go_region_held3 (fun W => W.cell? ⟨w.heap.size, 0, none⟩ = some (.slice A n c) ∧ W.cell? ⟨w.heap.size, 1, none⟩ = some (.slice B m e) ∧ Below w2.heap.size w2 W)
    (first
      | exact HK.out _ ((Below.refl _ _).drew)
      | exact HK.out _ (by assumption)
      | assumption)
    (first
      | (go_at_call_of 10 (Value.slice AL nl cl); refine (short_any _ l _ ((Hv.out.keep HB0.out).keep (And.right (And.right (by assumption))))).mono ?_; rintro e3 w3 ⟨v3, rfl, h3, hb3⟩; obtain ⟨A3, c3, rfl⟩ := h3.form; generalize (shL l).length = n3 at h3 ⊢; have f3 : Below w2.heap.size w2 w3 := up (And.right (And.right (by assumption))) hb3)
      | (go_at_call_of 11 (Value.agg #[Value.slice A n c, Value.slice B m e]); refine (drow_any _ ps ms _ ((Hu.out.keep HB0.out).keep (And.right (And.right (by assumption))))).mono ?_; rintro e4 w4 ⟨v4, rfl, h4, hb4⟩; obtain ⟨A4, c4, rfl⟩ := h4.form; generalize (rowV ps ms).length = n4 at h4 ⊢; have f4 : Below w2.heap.size w2 w4 := up (And.right (And.right (by assumption))) hb4))
  have FP := Lib.hid (show (∃ x, Ks x ∧ RL w4 (.slice A3 n3 c3) x) ∧ (∃ x, Ks x ∧ RL w4 (.slice A4 n4 c4) x) from ⟨⟨_, shL_ks l, h3.keep hb4⟩, ⟨_, Ks.of_ok (rowV_ok ps ms), h4⟩⟩)
  have HW := Lib.hid (up HB0.out f4)
  have HT4 := Lib.hid ((HT.out.keep HB0.out).keep f4)
  obtain ⟨d, hd⟩ : ∃ d : UInt8, (48 : Int) + (ch.toNat : Int) % 10 = (d.toNat : Int) := ⟨UInt8.ofNat (48 + ch.toNat % 10), by rw [UInt8.toNat_ofNat']; omega⟩
  clear h3 h4 f3 f4 hb3 hb4 HK HX1 Hv Hu HT HB0
  go_wp2
  go_loopw [20] (fun i wr => ∃ k : Nat, k ≤ 2 ∧ i = .int .i64 k ∧ Hid (Below w4.heap.size w4 wr)) (fun i _ => 2 - (intOf i).toNat)
  case atStart => exact ⟨0, Nat.zero_le _, rfl, Below.refl _ _⟩
  case round =>
    obtain ⟨k, hk, rfl, hid⟩ := hrel
    by_cases hlt : k < 2
    · obtain ⟨AX, nx, cx, ⟨x, kx, hx⟩, e0⟩ := ix2 A3 A4 n3 n4 c3 c4 (fun v => ∃ x, Ks x ∧ RL w4 v x) FP.out.1 FP.out.2 k hlt
      have KX := Lib.hid kx
      have HX := Lib.hid (hx.keep hid.out)
      clear kx hx
      have c1 : decide ((k : Int) < 2) = true := decide_eq_true (by omega)
      go_wp2
      have E0 := Lib.hid e0
      have HD := Lib.hid hd
      clear e0 hd
      obtain ⟨wo, hwo⟩ : ∃ wo, wo = wr := ⟨_, rfl⟩
      subst hwo
      go_loopw [28] (fun i wi => ∃ j : Nat, j ≤ 5 ∧ i = .int .i64 j ∧ Hid (Below wo.heap.size wo wi)) (fun i _ => 5 - (intOf i).toNat)
      case atStart => exact ⟨0, Nat.zero_le _, rfl, Below.refl _ _⟩
      case round =>
        obtain ⟨j, hj, rfl, hin⟩ := hrel
        by_cases hjt : j < 5
        · obtain ⟨b, e1⟩ := ix5 ch d j hjt
          have HC := Lib.hid (step_any _ x b wr (HX.out.keep hin.out) KX.out.sz)
          have HR := fun W (hb : Below wr.heap.size wr W) => Lib.hid (rstep_any _ x b W ((HX.out.keep hin.out).keep hb) KX.out)
          have HZ := Lib.hid (stpV_sz x b)
          generalize stpV x b = r at HC HR HZ
          obtain ⟨y, r⟩ := r
          dsimp only at HC HR HZ
          have c2 : decide ((j : Int) < 5) = true := decide_eq_true (by omega)
          go_wp2_with (first
            | (go_at_call 21; refine HC.out.mono ?_; rintro e1 w5 ⟨v5, rfl, h5, hb5⟩; obtain ⟨A5, c5, rfl⟩ := h5.1.none; have H5 := Lib.hid h5.1; clear h5)
            | (go_at_call 22; refine (HR _ hb5).out.mono ?_; rintro e1 w6 ⟨v6, rfl, h6, hb6⟩; obtain ⟨A6, c6, rfl⟩ := h6.none; have H6 := Lib.hid h6; clear h6; obtain ⟨ny, hny⟩ : ∃ ny, ny = y.length := ⟨_, rfl⟩; rw [← hny] at H5 H6 ⊢; clear hny)
            | (go_at_call 17; refine (rsame_any _ _ y y _ (H5.out.keep hb6) H6.out HZ.out.1 HZ.out.2 HZ.out.2).mono ?_; rw [decide_eq_true rfl]; rintro e7 w7 ⟨rfl, hb7⟩))
          exact ⟨⟨j + 1, by omega, by go_num, up hin.out (up hb5 (up hb6 hb7))⟩, by simp [intOf]; omega⟩
        · have c2 : decide ((j : Int) < 5) = false := decide_eq_false (by omega)
          go_wp2
          exact ⟨⟨k + 1, by omega, by go_num, up hid.out hin.out⟩, by simp [intOf]; omega⟩
    · have c1 : decide ((k : Int) < 2) = false := decide_eq_false (by omega)
      go_wp2_with (go_at_call 20; refine (works_any _ (HT4.out.keep hid.out)).mono ?_; rintro e7 w7 ⟨rfl, hb7⟩)
      go_ret
      exact ⟨rfl, up HW.out (up hid.out hb7)⟩
end Go.Proofs.YtelglcchcpnfbaaDoor.Par
