/-
  The walk of the law StyleBits: it returns true, whatever its arguments; nothing that lay before the call has turned.
-/
import Derived.Test.YtokjjeekkfefmaaDoorStyW
import Derived.Test.YtokjjeekkfefmaaDoorStySt
import Derived.Test.YtokjjeekkfefmaaDoorStyleKnown
import Derived.Deep.DeepCutAuto
namespace Go.Proofs.YtokjjeekkfefmaaDoor.Sty
open Go.RowKit Utf Col

theorem pow8b (b : Nat) : ∃ m : Int, wrap64 (2 ^ (b % 8)) = m ∧ (m = 1 ∨ m = 2 ∨ m = 4 ∨ m = 8 ∨ m = 16 ∨ m = 32 ∨ m = 64 ∨ m = 128) := by
  rcases (show b % 8 = 0 ∨ b % 8 = 1 ∨ b % 8 = 2 ∨ b % 8 = 3 ∨ b % 8 = 4 ∨ b % 8 = 5 ∨ b % 8 = 6 ∨ b % 8 = 7 by omega) with h | h | h | h | h | h | h | h <;> rw [h] <;> exact ⟨_, rfl, by decide +kernel⟩
theorem bits_set (s : S8) (m r : Int) (hs : errS s = 0) (hm : m = 1 ∨ m = 2 ∨ m = 4 ∨ m = 8 ∨ m = 16 ∨ m = 32 ∨ m = 64 ∨ m = 128) (hr : bits .or .i64 s.a m = r) :
    runV s [⟨39, 1, m, 0, 0, ⟨#[]⟩⟩] = ⟨r, s.u, s.f0, s.f1, s.b0, s.b1, s.l0, s.l1⟩ ∧ runE s [⟨39, 1, m, 0, 0, ⟨#[]⟩⟩] = 0 := by
  have hp : okP ⟨39, 1, m, 0, 0, ⟨#[]⟩⟩ = true := by rcases hm with rfl | rfl | rfl | rfl | rfl | rfl | rfl | rfl <;> decide +kernel
  obtain ⟨h1, h2⟩ := run_one s _ hs hp
  exact ⟨h1.trans (by subst hr; rfl), h2⟩
theorem bits_clear (s : S8) (m r : Int) (hs : errS s = 0) (hm : m = 3 ∨ m = 4 ∨ m = 8 ∨ m = 16 ∨ m = 32 ∨ m = 64 ∨ m = 128) (hr : bits .andNot .i64 s.a m = r) :
    runV s [⟨39, 2, m, 0, 0, ⟨#[]⟩⟩] = ⟨r, s.u, s.f0, s.f1, s.b0, s.b1, s.l0, s.l1⟩ ∧ runE s [⟨39, 2, m, 0, 0, ⟨#[]⟩⟩] = 0 := by
  have hp : okP ⟨39, 2, m, 0, 0, ⟨#[]⟩⟩ = true := by rcases hm with rfl | rfl | rfl | rfl | rfl | rfl | rfl <;> decide +kernel
  obtain ⟨h1, h2⟩ := run_one s _ hs hp
  exact ⟨h1.trans (by subst hr; rfl), h2⟩
theorem bits_run (s : S8) (hs : errS s = 0) (ps : List P6) (hp : ∀ p ∈ ps, okP p = true) : ∃ b, runV z8 ps = b ∧ runE z8 ps = 0 ∧ runV s (⟨39, 0, 0, 0, 0, ⟨#[]⟩⟩ :: ps) = b ∧ runE s (⟨39, 0, 0, 0, 0, ⟨#[]⟩⟩ :: ps) = 0 := by
  have hz : ∀ (ps : List P6) (s : S8), (∀ p ∈ ps, okP p = true) → ∃ b, runP s ps = some b := by
    intro ps
    induction ps with
    | nil => intro s _; exact ⟨s, rfl⟩
    | cons p r ih =>
      intro s h
      obtain ⟨b, hb⟩ := ih (app s p) (fun q hq => h q (by simp [hq]))
      exact ⟨b, by rw [runP, if_pos (h p (by simp)), hb]⟩
  obtain ⟨b, hb⟩ := hz ps z8 hp
  have h0 : okP ⟨39, 0, 0, 0, 0, ⟨#[]⟩⟩ = true := by decide +kernel
  have h1 : runP s (⟨39, 0, 0, 0, 0, ⟨#[]⟩⟩ :: ps) = some b := by rw [runP, if_pos h0]; exact hb
  refine ⟨b, ?_, ?_, ?_, ?_⟩
  · rw [runV, if_pos errS_z, hb]; rfl
  · rw [runE, if_pos errS_z, hb]; rfl
  · rw [runV, if_pos hs, h1]; rfl
  · rw [runE, if_pos hs, h1]; rfl
theorem OwnP.some {w : World} {base : Nat} {v : Value} {p : P6} {ps : List P6} (h : OwnP w base v (p :: ps)) : ∃ g c, v = .slice (Option.some ⟨g, 0, none⟩) (ps.length + 1) c ∧ ps.length + 1 ≤ c ∧ c ≤ 9223372036854775807 ∧ base ≤ g ∧ g < w.heap.size := by
  rcases h.2 with ⟨_, h0⟩ | ⟨g, cap, cur, hv, hb, hg, h1, h2, _⟩
  · simp at h0
  · unfold maxLen at h2
    exact ⟨g, cap, hv, h1, by omega, hb, (Array.getElem?_eq_some_iff.1 hg).1⟩
theorem RdP.tail {w : World} {b o : Nat} {p : P6} {ps : List P6} (h : RdP w (Option.some ⟨b, o, none⟩) (p :: ps)) : RdP w (Option.some ⟨b, o + 6, none⟩) ps := fun j q hq => by
  obtain ⟨b', o', hA, hlt, hr⟩ := h (j + 1) q (by simpa using hq)
  cases hA
  exact ⟨b, o + 6, rfl, hlt, by rw [show o + 6 + j * 6 = o + (j + 1) * 6 by omega]; exact hr⟩
theorem slice1 (g N cp k : Nat) (hN : N = k + 1) (hc : N ≤ cp) : ∃ O, (k ≠ 0 → O = 6) ∧
    (∀ W, (Instr.sliceAt 43 (.slice (Option.some ⟨g, 0, none⟩) N cp) (Option.some (.int .i64 1)) none none).run Tryd.prog W = .ok (.slice (Option.some ⟨g, O, none⟩) k (cp - 1)) W) ∧
    (∀ W, (Instr.slice 43 (.slice (Option.some ⟨g, 0, none⟩) N cp) (Option.some (.int .i64 1)) none none).run Tryd.prog W = .ok (.slice (Option.some ⟨g, O, none⟩) k (cp - 1)) W) := by
  subst hN
  by_cases h1 : cp = 1
  · subst h1
    obtain rfl : k = 0 := by omega
    refine ⟨0, fun h => absurd rfl h, ?_, ?_⟩ <;> intro W <;> go_simp
  · refine ⟨6, fun _ => rfl, ?_, ?_⟩ <;> intro W <;> (go_simp; intro h; omega)
set_option maxRecDepth 100000 in
set_option maxHeartbeats 8000000 in
theorem bits_z (z0 z1 z2 z3 z4 z5 z6 z7 : Int) (bit : UInt8) (o : S8) (ds : List D8) (A : Option Addr) (n c : Nat) (hn : ds.length = n) (hc : n ≤ c ∧ c ≤ 9223372036854775807) (ho : errS o = 0)
    (cS1 : Hid (∀ w, Calls Tryd.prog 10 #[.agg #[.int .u8 z0, .int .u8 z1, .int .u8 z2, .int .u8 z3, .int .u32 z4, .int .u32 z5, .int .u32 z6, .int .u32 z7]] w fun r w' => r = .returned (.agg #[.int .i64 o.a, .int .i64 o.u, .int .i64 o.f0, .int .i64 o.f1, .int .i64 o.b0, .int .i64 o.b1, .int .i64 o.l0, .int .i64 o.l1]) ∧ Below w.heap.size w w'))
    (w : World) (h : Tl w) (hr : RdD w A ds) : Calls Tryd.prog 7 #[.agg #[.int .u8 z0, .int .u8 z1, .int .u8 z2, .int .u8 z3, .int .u32 z4, .int .u32 z5, .int .u32 z6, .int .u32 z7], .int .u8 (bit.toNat : Int), .slice A n c] w fun e w' => e = .returned (.bool true) ∧ Below w.heap.size w w' := by
  have H := Lib.hid h; clear h
  have HO := Lib.hid ho; clear ho
  have HR := Lib.hid hr; clear hr
  have HC := Lib.hid hc; clear hc
  have hb8 : (bit.toNat : Int) < 256 := by have := bit.toNat_lt; omega
  go_enter Tryd.func7, Tryd.ntmps7
  go_wp2_with fail
  have hA0 : Box (w.alloc (.cells #[.int .u8 z0, .int .u8 z1, .int .u8 z2, .int .u8 z3, .int .u32 z4, .int .u32 z5, .int .u32 z6, .int .u32 z7] 31)) w.heap.size [.int .u8 z0, .int .u8 z1, .int .u8 z2, .int .u8 z3, .int .u32 z4, .int .u32 z5, .int .u32 z6, .int .u32 z7] := Box.new _ _ _
  have hW0 : Below w.heap.size w (w.alloc (.cells #[.int .u8 z0, .int .u8 z1, .int .u8 z2, .int .u8 z3, .int .u32 z4, .int .u32 z5, .int .u32 z6, .int .u32 z7] 31)) := below_box w _
  generalize w.alloc (.cells #[.int .u8 z0, .int .u8 z1, .int .u8 z2, .int .u8 z3, .int .u32 z4, .int .u32 z5, .int .u32 z6, .int .u32 z7] 31) = w1 at hA0 hW0 ⊢
  generalize w.heap.size = A0 at hA0 ⊢
  refine (works_any _ ((H.out).keep hW0)).mono ?_
  rintro e w2 ⟨rfl, hb⟩
  have hA2 := hA0.keep hb
  have hW2 := hW0.trans (hb.mono hW0.size)
  clear hb hA0 hW0
  have HW := Lib.hid hW2
  clear hW2
  have lA := hA2.1
  have xA_0 := hA2.cell 0 _ rfl
  have xA_1 := hA2.cell 1 _ rfl
  have xA_2 := hA2.cell 2 _ rfl
  have xA_3 := hA2.cell 3 _ rfl
  have xA_4 := hA2.cell 4 _ rfl
  have xA_5 := hA2.cell 5 _ rfl
  have xA_6 := hA2.cell 6 _ rfl
  have xA_7 := hA2.cell 7 _ rfl
  clear hA2
  go_wp2_with fail
  refine (cS1.out _).mono ?_
  rintro e w3 ⟨rfl, hb⟩
  have HW := Lib.hid (HW.out.trans (hb.mono HW.out.size))
  clear hb lA xA_0 xA_1 xA_2 xA_3 xA_4 xA_5 xA_6 xA_7
  obtain ⟨m, hm, hm8⟩ := pow8b bit.toNat
  have HM := Lib.hid hm8
  clear hm8
  go_upto_region 5 with fail
  rw [hm]
  rename_i K5 hK
  have HK := Lib.hid hK
  clear hK hm
  have h7 : Box (w3.alloc (.cells #[.int .i64 o.a, .int .i64 o.u, .int .i64 o.f0, .int .i64 o.f1, .int .i64 o.b0, .int .i64 o.b1, .int .i64 o.l0, .int .i64 o.l1] 25)) w3.heap.size (cS o) := Box.new _ _ _
  have hW := HW.out.alloc HW.out.size (.cells #[.int .i64 o.a, .int .i64 o.u, .int .i64 o.f0, .int .i64 o.f1, .int .i64 o.b0, .int .i64 o.b1, .int .i64 o.l0, .int .i64 o.l1] 25)
  clear HW
  generalize w3.alloc (.cells #[.int .i64 o.a, .int .i64 o.u, .int .i64 o.f0, .int .i64 o.f1, .int .i64 o.b0, .int .i64 o.b1, .int .i64 o.l0, .int .i64 o.l1] 25) = w4 at h7 hW ⊢
  generalize w3.heap.size = B7 at h7 ⊢
  obtain ⟨om, hom⟩ : ∃ om, bits .or .i64 o.a m = om := ⟨_, rfl⟩
  have F1 := Lib.hid (bits_set o m om HO.out HM.out hom)
  have HOM := Lib.hid hom
  clear hom
  refine regionF m o ⟨om, o.u, o.f0, o.f1, o.b0, o.b1, o.l0, o.l1⟩ _ _ _ _ _ _ _ _ _ _ _ _ _ w4 B7 h7 (Lib.hid ((H.out).keep hW)) (Lib.hid fun w' hT => apply_is o ⟨39, 1, m, 0, 0, ⟨#[]⟩⟩ ⟨om, o.u, o.f0, o.f1, o.b0, o.b1, o.l0, o.l1⟩ 0 F1.out.1 F1.out.2 w' hT) rfl (Lib.hid ?_)
  intro B9 w5 hb g9 h9
  have HG9 := Lib.hid (Nat.le_trans hW.size g9)
  show K5 _ _
  refine HK.out _ _ ?_
  have h7 := h7.keep hb
  have hW := hW.trans (hb.mono hW.size)
  have HN := Lib.hid (show B7 ≠ B9 by have := (show B7 < w4.heap.size from (by assumption : Box w4 B7 (cS o)).1); omega)
  clear hb HK F1
  have HG := Lib.hid (Nat.le_trans hW.size (Nat.le_refl _))
  clear g9
  unfold actF
  have l7 := h7.1
  have x7_0 := h7.cell 0 _ rfl
  have x7_1 := h7.cell 1 _ rfl
  have x7_2 := h7.cell 2 _ rfl
  have x7_3 := h7.cell 3 _ rfl
  have x7_4 := h7.cell 4 _ rfl
  have x7_5 := h7.cell 5 _ rfl
  have x7_6 := h7.cell 6 _ rfl
  have x7_7 := h7.cell 7 _ rfl
  have H7 := Lib.hid h7
  have H9 := Lib.hid h9
  have HW := Lib.hid hW
  clear h7 h9 hW
  go_upto_region 8 with fail
  rw [HOM.out]
  clear l7 x7_0 x7_1 x7_2 x7_3 x7_4 x7_5 x7_6 x7_7
  have h11 : Box (w5.alloc (.cells #[.int .i64 om, .int .i64 o.u, .int .i64 o.f0, .int .i64 o.f1, .int .i64 o.b0, .int .i64 o.b1, .int .i64 o.l0, .int .i64 o.l1] 25)) w5.heap.size (cS ⟨om, o.u, o.f0, o.f1, o.b0, o.b1, o.l0, o.l1⟩) := Box.new _ _ _
  have h7 := H7.out.alloc (.cells #[.int .i64 om, .int .i64 o.u, .int .i64 o.f0, .int .i64 o.f1, .int .i64 o.b0, .int .i64 o.b1, .int .i64 o.l0, .int .i64 o.l1] 25)
  have h9 := H9.out.alloc (.cells #[.int .i64 om, .int .i64 o.u, .int .i64 o.f0, .int .i64 o.f1, .int .i64 o.b0, .int .i64 o.b1, .int .i64 o.l0, .int .i64 o.l1] 25)
  have hW := HW.out.alloc HW.out.size (.cells #[.int .i64 om, .int .i64 o.u, .int .i64 o.f0, .int .i64 o.f1, .int .i64 o.b0, .int .i64 o.b1, .int .i64 o.l0, .int .i64 o.l1] 25)
  have HN2 := Lib.hid (show B7 ≠ w5.heap.size ∧ B9 ≠ w5.heap.size by have := H7.out.1; have := H9.out.1; omega)
  clear H7 H9 HW
  rename_i K8 hK
  have HK8 := Lib.hid hK
  clear hK
  have HL11 := Lib.hid (show w.heap.size ≤ w5.heap.size from (by assumption : Hid (w.heap.size ≤ w5.heap.size)).out)
  generalize w5.alloc (.cells #[.int .i64 om, .int .i64 o.u, .int .i64 o.f0, .int .i64 o.f1, .int .i64 o.b0, .int .i64 o.b1, .int .i64 o.l0, .int .i64 o.l1] 25) = w6 at h7 h9 h11 hW ⊢
  generalize w5.heap.size = B11 at h11 HN2 HL11 ⊢
  have l9 := h9.1
  have x9_0 := h9.cell 0 _ rfl
  have x9_1 := h9.cell 1 _ rfl
  have x9_2 := h9.cell 2 _ rfl
  have x9_3 := h9.cell 3 _ rfl
  have x9_4 := h9.cell 4 _ rfl
  have x9_5 := h9.cell 5 _ rfl
  have x9_6 := h9.cell 6 _ rfl
  have x9_7 := h9.cell 7 _ rfl
  have l11 := h11.1
  have x11_0 := h11.cell 0 _ rfl
  have x11_1 := h11.cell 1 _ rfl
  have x11_2 := h11.cell 2 _ rfl
  have x11_3 := h11.cell 3 _ rfl
  have x11_4 := h11.cell 4 _ rfl
  have x11_5 := h11.cell 5 _ rfl
  have x11_6 := h11.cell 6 _ rfl
  have x11_7 := h11.cell 7 _ rfl
  have e1 : ∀ W, (binOp .neq 25 (.agg #[.int .i64 om, .int .i64 o.u, .int .i64 o.f0, .int .i64 o.f1, .int .i64 o.b0, .int .i64 o.b1, .int .i64 o.l0, .int .i64 o.l1]) (.agg #[.int .i64 om, .int .i64 o.u, .int .i64 o.f0, .int .i64 o.f1, .int .i64 o.b0, .int .i64 o.b1, .int .i64 o.l0, .int .i64 o.l1])).run Tryd.prog W = .ok (.bool false) W := fun W => by rw [neqS, eqS_self]; rfl
  have H7 := Lib.hid h7
  have H9 := Lib.hid h9
  have H11 := Lib.hid h11
  have HW := Lib.hid hW
  clear h7 h9 h11 hW
  go_wp2_with fail
  refine HK8.out _ _ ?_
  clear l9 x9_0 x9_1 x9_2 x9_3 x9_4 x9_5 x9_6 x9_7
  clear l11 x11_0 x11_1 x11_2 x11_3 x11_4 x11_5 x11_6 x11_7
  clear e1 HK8
  obtain ⟨m2, hm2, hm27⟩ : ∃ m2 : Int, (if m ≤ 2 then 3 else m) = m2 ∧ (m2 = 3 ∨ m2 = 4 ∨ m2 = 8 ∨ m2 = 16 ∨ m2 = 32 ∨ m2 = 64 ∨ m2 = 128) := by
    refine ⟨_, rfl, ?_⟩
    rcases HM.out with rfl | rfl | rfl | rfl | rfl | rfl | rfl | rfl <;> decide
  have HM2 := Lib.hid hm27
  clear hm27
  go_upto_if 46 with fail
  go_cut [8] from 18 (fun s8 wx => s8 = .int .i64 m2 ∧ wx = w6)
  case first =>
    by_cases hle : m ≤ 2
    · rw [if_pos hle] at hm2
      subst hm2
      go_wp2_with fail
      go_meet
      case rel => exact ⟨rfl, rfl⟩
    · rw [if_neg hle] at hm2
      subst hm2
      go_wp2_with fail
      go_meet
      case rel => exact ⟨rfl, rfl⟩
  case rest =>
    obtain ⟨rfl, rfl⟩ := hcut
    clear hm2
    go_upto_region 12 with fail
    rename_i K12 hK
    have HK := Lib.hid hK
    clear hK
    obtain ⟨on, hon⟩ : ∃ on, bits .andNot .i64 o.a m2 = on := ⟨_, rfl⟩
    have F2 := Lib.hid (bits_clear o m2 on HO.out HM2.out hon)
    have HON := Lib.hid hon
    clear hon
    have HN3 := Lib.hid (show some B7 ≠ some B9 by simp; exact HN.out)
    have h7 := H7.out
    have hG : Below wc.heap.size wc wc.drew := (Below.refl _ wc).drew
    have l7 := h7.1
    have x7_0 := h7.cell 0 _ rfl
    have x7_1 := h7.cell 1 _ rfl
    have x7_2 := h7.cell 2 _ rfl
    have x7_3 := h7.cell 3 _ rfl
    have x7_4 := h7.cell 4 _ rfl
    have x7_5 := h7.cell 5 _ rfl
    have x7_6 := h7.cell 6 _ rfl
    have x7_7 := h7.cell 7 _ rfl
    have d0 : wc.drew.cell? ⟨B7, 0, none⟩ = some (.int .i64 o.a) := x7_0
    have d1 : wc.drew.cell? ⟨B7, 1, none⟩ = some (.int .i64 o.u) := x7_1
    have d2 : wc.drew.cell? ⟨B7, 2, none⟩ = some (.int .i64 o.f0) := x7_2
    have d3 : wc.drew.cell? ⟨B7, 3, none⟩ = some (.int .i64 o.f1) := x7_3
    have d4 : wc.drew.cell? ⟨B7, 4, none⟩ = some (.int .i64 o.b0) := x7_4
    have d5 : wc.drew.cell? ⟨B7, 5, none⟩ = some (.int .i64 o.b1) := x7_5
    have d6 : wc.drew.cell? ⟨B7, 6, none⟩ = some (.int .i64 o.l0) := x7_6
    have d7 : wc.drew.cell? ⟨B7, 7, none⟩ = some (.int .i64 o.l1) := x7_7
    clear h7
    go_region_held3 (fun w' => w'.cell? ⟨B7, 0, none⟩ = some (.int .i64 o.a) ∧ w'.cell? ⟨B7, 1, none⟩ = some (.int .i64 o.u) ∧ w'.cell? ⟨B7, 2, none⟩ = some (.int .i64 o.f0) ∧ w'.cell? ⟨B7, 3, none⟩ = some (.int .i64 o.f1) ∧ w'.cell? ⟨B7, 4, none⟩ = some (.int .i64 o.b0) ∧ w'.cell? ⟨B7, 5, none⟩ = some (.int .i64 o.b1) ∧ w'.cell? ⟨B7, 6, none⟩ = some (.int .i64 o.l0) ∧ w'.cell? ⟨B7, 7, none⟩ = some (.int .i64 o.l1)) (first | exact ⟨by with_reducible assumption, by with_reducible assumption, by with_reducible assumption, by with_reducible assumption, by with_reducible assumption, by with_reducible assumption, by with_reducible assumption, by with_reducible assumption⟩ | exact ⟨(grown8 _ B9 ⟨_, _, _, _, _, _, _, _⟩).cell (by with_reducible assumption) HN3.out, (grown8 _ B9 ⟨_, _, _, _, _, _, _, _⟩).cell (by with_reducible assumption) HN3.out, (grown8 _ B9 ⟨_, _, _, _, _, _, _, _⟩).cell (by with_reducible assumption) HN3.out, (grown8 _ B9 ⟨_, _, _, _, _, _, _, _⟩).cell (by with_reducible assumption) HN3.out, (grown8 _ B9 ⟨_, _, _, _, _, _, _, _⟩).cell (by with_reducible assumption) HN3.out, (grown8 _ B9 ⟨_, _, _, _, _, _, _, _⟩).cell (by with_reducible assumption) HN3.out, (grown8 _ B9 ⟨_, _, _, _, _, _, _, _⟩).cell (by with_reducible assumption) HN3.out, (grown8 _ B9 ⟨_, _, _, _, _, _, _, _⟩).cell (by with_reducible assumption) HN3.out⟩ | go_keep) (first
      | (go_at_call 25; ((with_reducible refine (lpen_any 2 m2 _).mono ?_); (rintro e wA ⟨rfl, hbA⟩; have hG := hG.trans (hbA.mono hG.size); clear hbA; (try clear d0 d1 d2 d3 d4 d5 d6 d7); have d0 := (hG.cell (p := ⟨B7, 0, none⟩) l7).trans x7_0; have d1 := (hG.cell (p := ⟨B7, 1, none⟩) l7).trans x7_1; have d2 := (hG.cell (p := ⟨B7, 2, none⟩) l7).trans x7_2; have d3 := (hG.cell (p := ⟨B7, 3, none⟩) l7).trans x7_3; have d4 := (hG.cell (p := ⟨B7, 4, none⟩) l7).trans x7_4; have d5 := (hG.cell (p := ⟨B7, 5, none⟩) l7).trans x7_5; have d6 := (hG.cell (p := ⟨B7, 6, none⟩) l7).trans x7_6; have d7 := (hG.cell (p := ⟨B7, 7, none⟩) l7).trans x7_7; skip)))
      | (go_at_call 19; ((with_reducible refine (apply_is o ⟨39, 2, m2, 0, 0, ⟨#[]⟩⟩ ⟨on, o.u, o.f0, o.f1, o.b0, o.b1, o.l0, o.l1⟩ 0 F2.out.1 F2.out.2 _ ((H.out).keep (HW.out.trans (hG.mono HW.out.size)))).mono ?_); (rintro e wA ⟨rfl, hbA⟩; have hG := hG.trans (hbA.mono hG.size); clear hbA; (try clear d0 d1 d2 d3 d4 d5 d6 d7); have d0 := (hG.cell (p := ⟨B7, 0, none⟩) l7).trans x7_0; have d1 := (hG.cell (p := ⟨B7, 1, none⟩) l7).trans x7_1; have d2 := (hG.cell (p := ⟨B7, 2, none⟩) l7).trans x7_2; have d3 := (hG.cell (p := ⟨B7, 3, none⟩) l7).trans x7_3; have d4 := (hG.cell (p := ⟨B7, 4, none⟩) l7).trans x7_4; have d5 := (hG.cell (p := ⟨B7, 5, none⟩) l7).trans x7_5; have d6 := (hG.cell (p := ⟨B7, 6, none⟩) l7).trans x7_6; have d7 := (hG.cell (p := ⟨B7, 7, none⟩) l7).trans x7_7; have HB9 := Lib.hid (H9.out.keep hG); have l9 := HB9.out.1; have y0 := HB9.out.cell 0 _ rfl; have v0 := HB9.out.free 0 (by show 0 < 8; decide); have y1 := HB9.out.cell 1 _ rfl; have v1 := HB9.out.free 1 (by show 1 < 8; decide); have y2 := HB9.out.cell 2 _ rfl; have v2 := HB9.out.free 2 (by show 2 < 8; decide); have y3 := HB9.out.cell 3 _ rfl; have v3 := HB9.out.free 3 (by show 3 < 8; decide); have y4 := HB9.out.cell 4 _ rfl; have v4 := HB9.out.free 4 (by show 4 < 8; decide); have y5 := HB9.out.cell 5 _ rfl; have v5 := HB9.out.free 5 (by show 5 < 8; decide); have y6 := HB9.out.cell 6 _ rfl; have v6 := HB9.out.free 6 (by show 6 < 8; decide); have y7 := HB9.out.cell 7 _ rfl; have v7 := HB9.out.free 7 (by show 7 < 8; decide); skip))))
    show K12 _ _
    refine HK.out _ _ ?_
    clear HK F2
    have h9 := put8 wA B9 ⟨on, o.u, o.f0, o.f1, o.b0, o.b1, o.l0, o.l1⟩ ⟨om, o.u, o.f0, o.f1, o.b0, o.b1, o.l0, o.l1⟩ HB9.out
    have h7 := (H7.out.keep hG).grown (grown8 wA B9 ⟨on, o.u, o.f0, o.f1, o.b0, o.b1, o.l0, o.l1⟩) HN3.out
    have h11 := (H11.out.keep hG).grown (grown8 wA B9 ⟨on, o.u, o.f0, o.f1, o.b0, o.b1, o.l0, o.l1⟩) (by simp; exact fun e => HN2.out.2 e.symm)
    have hV := HW.out.trans (hG.mono HW.out.size)
    have hW := below8 B9 ⟨on, o.u, o.f0, o.f1, o.b0, o.b1, o.l0, o.l1⟩ hV HG9.out
    clear hV hG d0 x7_0 y0 v0 d1 x7_1 y1 v1 d2 x7_2 y2 v2 d3 x7_3 y3 v3 d4 x7_4 y4 v4 d5 x7_5 y5 v5 d6 x7_6 y6 v6 d7 x7_7 y7 v7 l7 l9 H7 H9 H11 HW HB9
    generalize ((((((((wA.setCell ⟨B9, 0, none⟩ (.int .i64 on)).setCell ⟨B9, 1, none⟩ (.int .i64 o.u)).setCell ⟨B9, 2, none⟩ (.int .i64 o.f0)).setCell ⟨B9, 3, none⟩ (.int .i64 o.f1)).setCell ⟨B9, 4, none⟩ (.int .i64 o.b0)).setCell ⟨B9, 5, none⟩ (.int .i64 o.b1)).setCell ⟨B9, 6, none⟩ (.int .i64 o.l0)).setCell ⟨B9, 7, none⟩ (.int .i64 o.l1)) = w7 at h7 h9 h11 hW ⊢
    have l7 := h7.1
    have x7_0 := h7.cell 0 _ rfl
    have x7_1 := h7.cell 1 _ rfl
    have x7_2 := h7.cell 2 _ rfl
    have x7_3 := h7.cell 3 _ rfl
    have x7_4 := h7.cell 4 _ rfl
    have x7_5 := h7.cell 5 _ rfl
    have x7_6 := h7.cell 6 _ rfl
    have x7_7 := h7.cell 7 _ rfl
    have l11 := h11.1
    have x11_0 := h11.cell 0 _ rfl
    have x11_1 := h11.cell 1 _ rfl
    have x11_2 := h11.cell 2 _ rfl
    have x11_3 := h11.cell 3 _ rfl
    have x11_4 := h11.cell 4 _ rfl
    have x11_5 := h11.cell 5 _ rfl
    have x11_6 := h11.cell 6 _ rfl
    have x11_7 := h11.cell 7 _ rfl
    have v11 := h11.free 0 (by show 0 < 8; decide)
    have H7 := Lib.hid h7
    have H9 := Lib.hid h9
    have H11 := Lib.hid h11
    have HW := Lib.hid hW
    clear h7 h9 h11 hW
    go_upto_region 14 with fail
    rename_i K14 hK
    have HK := Lib.hid hK
    clear hK
    clear l7 x7_0 x7_1 x7_2 x7_3 x7_4 x7_5 x7_6 x7_7
    clear l11 x11_0 x11_1 x11_2 x11_3 x11_4 x11_5 x11_6 x11_7
    clear v11
    have h11 : Box (w7.setCell ⟨B11, 0, none⟩ (.int .i64 (bits .andNot .i64 o.a m2))) B11 (cS ⟨bits .andNot .i64 o.a m2, o.u, o.f0, o.f1, o.b0, o.b1, o.l0, o.l1⟩) := H11.out.set 0 _
    rw [HON.out] at h11 ⊢
    have h7 := H7.out.grown (grown_set w7 B11 0 (.int .i64 on)) (by simp; exact HN2.out.1)
    have h9 := H9.out.grown (grown_set w7 B11 0 (.int .i64 on)) (by simp; exact HN2.out.2)
    have hW := below_grown HW.out (grown_set w7 B11 0 (.int .i64 on)) HL11.out HW.out.size
    clear H7 H9 H11 HW
    generalize w7.setCell ⟨B11, 0, none⟩ (.int .i64 on) = w8 at h7 h9 h11 hW ⊢
    have l9 := h9.1
    have x9_0 := h9.cell 0 _ rfl
    have x9_1 := h9.cell 1 _ rfl
    have x9_2 := h9.cell 2 _ rfl
    have x9_3 := h9.cell 3 _ rfl
    have x9_4 := h9.cell 4 _ rfl
    have x9_5 := h9.cell 5 _ rfl
    have x9_6 := h9.cell 6 _ rfl
    have x9_7 := h9.cell 7 _ rfl
    have l11 := h11.1
    have x11_0 := h11.cell 0 _ rfl
    have x11_1 := h11.cell 1 _ rfl
    have x11_2 := h11.cell 2 _ rfl
    have x11_3 := h11.cell 3 _ rfl
    have x11_4 := h11.cell 4 _ rfl
    have x11_5 := h11.cell 5 _ rfl
    have x11_6 := h11.cell 6 _ rfl
    have x11_7 := h11.cell 7 _ rfl
    have e1 : ∀ W, (binOp .neq 25 (.agg #[.int .i64 on, .int .i64 o.u, .int .i64 o.f0, .int .i64 o.f1, .int .i64 o.b0, .int .i64 o.b1, .int .i64 o.l0, .int .i64 o.l1]) (.agg #[.int .i64 on, .int .i64 o.u, .int .i64 o.f0, .int .i64 o.f1, .int .i64 o.b0, .int .i64 o.b1, .int .i64 o.l0, .int .i64 o.l1])).run Tryd.prog W = .ok (.bool false) W := fun W => by rw [neqS, eqS_self]; rfl
    have H7 := Lib.hid h7
    have HW := Lib.hid hW
    clear h7 h9 h11 hW
    go_wp2_with fail
    refine HK.out _ _ ?_
    clear l9 x9_0 x9_1 x9_2 x9_3 x9_4 x9_5 x9_6 x9_7
    clear l11 x11_0 x11_1 x11_2 x11_3 x11_4 x11_5 x11_6 x11_7
    clear e1 HK
    go_wp2_with fail
    refine (lpen_any 0 0 _).mono ?_
    rintro e w9 ⟨rfl, hb⟩
    have HW := Lib.hid (HW.out.trans (hb.mono HW.out.size))
    have H7 := Lib.hid (H7.out.keep hb)
    clear hb
    go_wp2_with fail
    have hP : OwnP (w9.alloc (.cells #[.int .i64 39, .int .i64 0, .int .i64 0, .int .i64 0, .int .i64 0, .string ⟨#[]⟩] 27)) w9.heap.size (.slice (some ⟨w9.heap.size, 0, none⟩) 1 1) [⟨39, 0, 0, 0, 0, ⟨#[]⟩⟩] := OwnP.new w9 w9.heap.size (Nat.le_refl _) [⟨39, 0, 0, 0, 0, ⟨#[]⟩⟩] #[.int .i64 39, .int .i64 0, .int .i64 0, .int .i64 0, .int .i64 0, .string ⟨#[]⟩] rfl (by unfold maxLen; decide)
    have hb9 : Below w9.heap.size w9 (w9.alloc (.cells #[.int .i64 39, .int .i64 0, .int .i64 0, .int .i64 0, .int .i64 0, .string ⟨#[]⟩] 27)) := below_box w9 _
    generalize w9.alloc (.cells #[.int .i64 39, .int .i64 0, .int .i64 0, .int .i64 0, .int .i64 0, .string ⟨#[]⟩] 27) = w10 at hP hb9 ⊢
    have HF := Lib.hid hb9
    have HP := Lib.hid hP
    clear hb9 hP
    go_loopw [12, 13] (fun v i wr => ∃ k : Nat, k ≤ 15 ∧ k ≤ n ∧ i = .int .i64 k ∧ Hid (OwnP wr w9.heap.size v (⟨39, 0, 0, 0, 0, ⟨#[]⟩⟩ :: (ds.take k).map penD)) ∧ Hid (Below w9.heap.size w9 wr)) (fun _ i _ => 15 - (intOf i).toNat)
    case atStart => exact ⟨0, by omega, by omega, rfl, HP, HF⟩
    case round =>
      clear HF HP
      obtain ⟨k, hk15, hkn, rfl, hP, hF⟩ := hrel
      rcases (show k = n ∨ (k < n ∧ k = 15) ∨ (k < n ∧ k < 15) by omega) with hk1 | ⟨hk1, hk2⟩ | ⟨hk1, hk2⟩
      rotate_left 2
      · have q1 : (k : Int) < (n : Int) := by omega
        have q2 : (k : Int) < 15 := by omega
        obtain ⟨d, hd⟩ : ∃ d, ds[k]? = some d := ⟨_, List.getElem?_eq_getElem (by omega)⟩
        obtain ⟨b, o', rfl, hbl, hrg⟩ := (HR.out.keep (HW.out.trans (hF.out.mono HW.out.size))) k d hd
        have HD := Lib.hid hd
        clear hd
        have e1 := fun W => ixD_run b o' n c k hk1 W
        generalize o' + k * 8 = oo at e1 hrg
        have lb : b < wr.heap.size := hbl
        have c0 : wr.cell? ⟨b, oo, none⟩ = _ := hrg 0 _ rfl
        have c1 : wr.cell? ⟨b, oo + 1, none⟩ = _ := hrg 1 _ rfl
        have c2 : wr.cell? ⟨b, oo + 2, none⟩ = _ := hrg 2 _ rfl
        have c3 : wr.cell? ⟨b, oo + 3, none⟩ = _ := hrg 3 _ rfl
        have c4 : wr.cell? ⟨b, oo + 4, none⟩ = _ := hrg 4 _ rfl
        have c5 : wr.cell? ⟨b, oo + 5, none⟩ = _ := hrg 5 _ rfl
        have c6 : wr.cell? ⟨b, oo + 6, none⟩ = _ := hrg 6 _ rfl
        have c7 : wr.cell? ⟨b, oo + 7, none⟩ = _ := hrg 7 _ rfl
        clear hrg hbl
        go_wp2_with fail
        obtain ⟨p, hp⟩ : ∃ p, penD d = p := ⟨_, rfl⟩
        have cp := pen_any d wr
        rw [hp] at cp
        refine cp.mono ?_
        rintro e wB ⟨rfl, hb⟩
        clear cp lb c0 c1 c2 c3 c4 c5 c6 c7 e1
        have HPp := Lib.hid hp
        clear hp
        have HF2 := Lib.hid (hF.out.trans (hb.mono hF.out.size))
        have HP2 := Lib.hid (hP.out.keep hb)
        clear hb hF hP
        unfold pnV'
        go_wp2_with (at_builtin; refine wpList_appP _ rfl _ _ rfl w9.heap.size _ (⟨39, 0, 0, 0, 0, ⟨#[]⟩⟩ :: (ds.take k).map penD) rfl (HP2.out.keep (below_box wB _)) (some ⟨wB.heap.size, 0, none⟩) 1 1 [p] rfl rfl (RdP.one wB p 27) (fun h => by cases h) ?hl ?hb0 ?_; rotate_left 2; intro v3 w11 hown3 hb3; have HP3 := Lib.hid hown3; have HF3 := Lib.hid ((HF2.out.alloc HF2.out.size (.cells #[.int .i64 p.k, .int .i64 p.n, .int .i64 p.m, .int .i64 p.c0, .int .i64 p.c1, .string p.t] 27)).trans hb3); clear hown3 hb3)
        case hl => simp; omega
        case hb0 => have := HF2.out.size; simp; omega
        go_roundw
        case rel =>
          refine ⟨k + 1, by omega, by omega, rfl, Lib.hid ?_, HF3⟩
          have := HP3.out
          rw [show (⟨39, 0, 0, 0, 0, ⟨#[]⟩⟩ :: (ds.take k).map penD) ++ [p] = ⟨39, 0, 0, 0, 0, ⟨#[]⟩⟩ :: (ds.take (k + 1)).map penD by rw [List.take_add_one, HD.out]; simp [HPp.out]] at this
          exact this
        case measure => simp [intOf]; omega
      all_goals
        obtain ⟨ps, hps, hl, hok⟩ : ∃ ps, (ds.take k).map penD = ps ∧ ps.length = k ∧ ∀ p ∈ ps, okP p = true :=
          ⟨_, rfl, by simp; omega, fun p hp => by obtain ⟨d, _, rfl⟩ := List.mem_map.1 hp; exact penD_ok d⟩
        rw [hps] at hP
        clear hps
        obtain ⟨b, f1, f2, f3, f4⟩ := bits_run o HO.out ps hok
        have F1 := Lib.hid f1
        have F2 := Lib.hid f2
        have F3 := Lib.hid f3
        have F4 := Lib.hid f4
        clear f1 f2 f3 f4 hok
        obtain ⟨g, cp, hv, hcp, hcm, hgb, hgl⟩ := hP.out.some
        rw [hl] at hv hcp
        obtain ⟨N, hN⟩ : ∃ N, k + 1 = N := ⟨_, rfl⟩
        rw [hN] at hv hcp
        subst hv
        have HNk := Lib.hid (show N = k + 1 ∧ k ≤ 15 by omega)
        have HP := Lib.hid hP.out.rd
        have HL := Lib.hid hl
        have HWr := Lib.hid (HW.out.trans (hF.out.mono HW.out.size))
        have HC2 := Lib.hid hcp
        have HC3 := Lib.hid hcm
        have h7 := H7.out.keep hF.out
        have H7r := Lib.hid h7
        clear hl hgb hgl hP hF hcp hcm
        have l7 := h7.1
        have x7_0 := h7.cell 0 _ rfl
        have x7_1 := h7.cell 1 _ rfl
        have x7_2 := h7.cell 2 _ rfl
        have x7_3 := h7.cell 3 _ rfl
        have x7_4 := h7.cell 4 _ rfl
        have x7_5 := h7.cell 5 _ rfl
        have x7_6 := h7.cell 6 _ rfl
        have x7_7 := h7.cell 7 _ rfl
        clear h7
        clear hN
        go_upto_region 21 with fail
        rename_i K21 hK
        have HK := Lib.hid hK
        clear hK hk1 hk15 hkn
        try clear hk2
        obtain ⟨O, hO, e3, e4⟩ := slice1 g N cp k (by have := HNk.out; omega) (by have := HC2.out; have := HNk.out; omega)
        have HOO := Lib.hid hO
        clear hO
        go_wp2_with fail
        refine (run_is o _ (⟨39, 0, 0, 0, 0, ⟨#[]⟩⟩ :: ps) _ _ (by have := HL.out; have := HNk.out; simp; omega) b 0 F3.out F4.out _ ((H.out).keep HWr.out) HP.out (by have := HNk.out; omega)).mono ?_
        rintro e wC ⟨rfl, hb⟩
        clear l7 x7_0 x7_1 x7_2 x7_3 x7_4 x7_5 x7_6 x7_7
        have HP := Lib.hid (HP.out.keep hb)
        have H7 := Lib.hid (H7r.out.keep hb)
        have HW := Lib.hid (HWr.out.trans (hb.mono HWr.out.size))
        clear hb H7r HWr
        go_wp2_with fail
        refine HK.out _ _ ?_
        clear HK
        have h14 : Box (wC.alloc (.cells #[.int .i64 b.a, .int .i64 b.u, .int .i64 b.f0, .int .i64 b.f1, .int .i64 b.b0, .int .i64 b.b1, .int .i64 b.l0, .int .i64 b.l1] 25)) wC.heap.size (cS b) := Box.new _ _ _
        have HP := Lib.hid (HP.out.keep (below_box wC (.cells #[.int .i64 b.a, .int .i64 b.u, .int .i64 b.f0, .int .i64 b.f1, .int .i64 b.b0, .int .i64 b.b1, .int .i64 b.l0, .int .i64 b.l1] 25)))
        have H7 := Lib.hid (H7.out.alloc (.cells #[.int .i64 b.a, .int .i64 b.u, .int .i64 b.f0, .int .i64 b.f1, .int .i64 b.b0, .int .i64 b.b1, .int .i64 b.l0, .int .i64 b.l1] 25))
        have HW := Lib.hid (HW.out.alloc HW.out.size (.cells #[.int .i64 b.a, .int .i64 b.u, .int .i64 b.f0, .int .i64 b.f1, .int .i64 b.b0, .int .i64 b.b1, .int .i64 b.l0, .int .i64 b.l1] 25))
        generalize wC.alloc (.cells #[.int .i64 b.a, .int .i64 b.u, .int .i64 b.f0, .int .i64 b.f1, .int .i64 b.b0, .int .i64 b.b1, .int .i64 b.l0, .int .i64 b.l1] 25) = wD at h14 HP H7 HW ⊢
        generalize wC.heap.size = B14 at h14 ⊢
        have H14 := Lib.hid h14
        clear h14
        go_wp2_with fail
        have HP2 : Hid (RdP wD (some ⟨g, O, none⟩) ps) := Lib.hid (by
          have hl := HL.out
          cases ps with
          | nil => exact fun j p h => by simp at h
          | cons p r =>
            have h6 : O = 6 := HOO.out (by simp at hl; omega)
            rw [h6]
            exact HP.out.tail)
        refine (run_is z8 _ ps k _ HL.out b 0 F1.out F2.out _ ((H.out).keep HW.out) HP2.out (by have := HNk.out; omega)).mono ?_
        rintro e wE ⟨rfl, hb⟩
        have HP := Lib.hid (HP.out.keep hb)
        have H7 := Lib.hid (H7.out.keep hb)
        have H14 := Lib.hid (H14.out.keep hb)
        have HW := Lib.hid (HW.out.trans (hb.mono HW.out.size))
        clear hb HP2
        go_upto_region 23 with fail
        have h16 : Box (wE.alloc (.cells #[.int .i64 b.a, .int .i64 b.u, .int .i64 b.f0, .int .i64 b.f1, .int .i64 b.b0, .int .i64 b.b1, .int .i64 b.l0, .int .i64 b.l1] 25)) wE.heap.size (cS b) := Box.new _ _ _
        have HP := Lib.hid (HP.out.keep (below_box wE (.cells #[.int .i64 b.a, .int .i64 b.u, .int .i64 b.f0, .int .i64 b.f1, .int .i64 b.b0, .int .i64 b.b1, .int .i64 b.l0, .int .i64 b.l1] 25)))
        have h7 := H7.out.alloc (.cells #[.int .i64 b.a, .int .i64 b.u, .int .i64 b.f0, .int .i64 b.f1, .int .i64 b.b0, .int .i64 b.b1, .int .i64 b.l0, .int .i64 b.l1] 25)
        have h14 := H14.out.alloc (.cells #[.int .i64 b.a, .int .i64 b.u, .int .i64 b.f0, .int .i64 b.f1, .int .i64 b.b0, .int .i64 b.b1, .int .i64 b.l0, .int .i64 b.l1] 25)
        have HW := Lib.hid (HW.out.alloc HW.out.size (.cells #[.int .i64 b.a, .int .i64 b.u, .int .i64 b.f0, .int .i64 b.f1, .int .i64 b.b0, .int .i64 b.b1, .int .i64 b.l0, .int .i64 b.l1] 25))
        clear H7 H14
        generalize wE.alloc (.cells #[.int .i64 b.a, .int .i64 b.u, .int .i64 b.f0, .int .i64 b.f1, .int .i64 b.b0, .int .i64 b.b1, .int .i64 b.l0, .int .i64 b.l1] 25) = wF at h14 h7 h16 HP HW ⊢
        generalize wE.heap.size = B16 at h16 ⊢
        obtain ⟨bg, og, hgg, lg, hgr⟩ := HP.out 0 ⟨39, 0, 0, 0, 0, ⟨#[]⟩⟩ rfl
        cases hgg
        rename_i K23 hK
        have HK := Lib.hid hK
        clear hK
        have l7 := h7.1
        have l14 := h14.1
        have l16 := h16.1
        have x7_0 : wF.cell? ⟨B7, 0, none⟩ = some (.int .i64 o.a) := h7.cell 0 _ rfl
        have x7_1 : wF.cell? ⟨B7, 1, none⟩ = some (.int .i64 o.u) := h7.cell 1 _ rfl
        have x7_2 : wF.cell? ⟨B7, 2, none⟩ = some (.int .i64 o.f0) := h7.cell 2 _ rfl
        have x7_3 : wF.cell? ⟨B7, 3, none⟩ = some (.int .i64 o.f1) := h7.cell 3 _ rfl
        have x7_4 : wF.cell? ⟨B7, 4, none⟩ = some (.int .i64 o.b0) := h7.cell 4 _ rfl
        have x7_5 : wF.cell? ⟨B7, 5, none⟩ = some (.int .i64 o.b1) := h7.cell 5 _ rfl
        have x7_6 : wF.cell? ⟨B7, 6, none⟩ = some (.int .i64 o.l0) := h7.cell 6 _ rfl
        have x7_7 : wF.cell? ⟨B7, 7, none⟩ = some (.int .i64 o.l1) := h7.cell 7 _ rfl
        have x14_0 : wF.cell? ⟨B14, 0, none⟩ = some (.int .i64 b.a) := h14.cell 0 _ rfl
        have x14_1 : wF.cell? ⟨B14, 1, none⟩ = some (.int .i64 b.u) := h14.cell 1 _ rfl
        have x14_2 : wF.cell? ⟨B14, 2, none⟩ = some (.int .i64 b.f0) := h14.cell 2 _ rfl
        have x14_3 : wF.cell? ⟨B14, 3, none⟩ = some (.int .i64 b.f1) := h14.cell 3 _ rfl
        have x14_4 : wF.cell? ⟨B14, 4, none⟩ = some (.int .i64 b.b0) := h14.cell 4 _ rfl
        have x14_5 : wF.cell? ⟨B14, 5, none⟩ = some (.int .i64 b.b1) := h14.cell 5 _ rfl
        have x14_6 : wF.cell? ⟨B14, 6, none⟩ = some (.int .i64 b.l0) := h14.cell 6 _ rfl
        have x14_7 : wF.cell? ⟨B14, 7, none⟩ = some (.int .i64 b.l1) := h14.cell 7 _ rfl
        have x16_0 : wF.cell? ⟨B16, 0, none⟩ = some (.int .i64 b.a) := h16.cell 0 _ rfl
        have x16_1 : wF.cell? ⟨B16, 1, none⟩ = some (.int .i64 b.u) := h16.cell 1 _ rfl
        have x16_2 : wF.cell? ⟨B16, 2, none⟩ = some (.int .i64 b.f0) := h16.cell 2 _ rfl
        have x16_3 : wF.cell? ⟨B16, 3, none⟩ = some (.int .i64 b.f1) := h16.cell 3 _ rfl
        have x16_4 : wF.cell? ⟨B16, 4, none⟩ = some (.int .i64 b.b0) := h16.cell 4 _ rfl
        have x16_5 : wF.cell? ⟨B16, 5, none⟩ = some (.int .i64 b.b1) := h16.cell 5 _ rfl
        have x16_6 : wF.cell? ⟨B16, 6, none⟩ = some (.int .i64 b.l0) := h16.cell 6 _ rfl
        have x16_7 : wF.cell? ⟨B16, 7, none⟩ = some (.int .i64 b.l1) := h16.cell 7 _ rfl
        have xg_0 : wF.cell? ⟨g, 0, none⟩ = some (.int .i64 39) := hgr 0 _ rfl
        have xg_1 : wF.cell? ⟨g, 1, none⟩ = some (.int .i64 0) := hgr 1 _ rfl
        have xg_2 : wF.cell? ⟨g, 2, none⟩ = some (.int .i64 0) := hgr 2 _ rfl
        have xg_3 : wF.cell? ⟨g, 3, none⟩ = some (.int .i64 0) := hgr 3 _ rfl
        have xg_4 : wF.cell? ⟨g, 4, none⟩ = some (.int .i64 0) := hgr 4 _ rfl
        have xg_5 : wF.cell? ⟨g, 5, none⟩ = some (.string ⟨#[]⟩) := hgr 5 _ rfl
        have d7_0 : wF.drew.cell? ⟨B7, 0, none⟩ = some (.int .i64 o.a) := x7_0
        have d7_1 : wF.drew.cell? ⟨B7, 1, none⟩ = some (.int .i64 o.u) := x7_1
        have d7_2 : wF.drew.cell? ⟨B7, 2, none⟩ = some (.int .i64 o.f0) := x7_2
        have d7_3 : wF.drew.cell? ⟨B7, 3, none⟩ = some (.int .i64 o.f1) := x7_3
        have d7_4 : wF.drew.cell? ⟨B7, 4, none⟩ = some (.int .i64 o.b0) := x7_4
        have d7_5 : wF.drew.cell? ⟨B7, 5, none⟩ = some (.int .i64 o.b1) := x7_5
        have d7_6 : wF.drew.cell? ⟨B7, 6, none⟩ = some (.int .i64 o.l0) := x7_6
        have d7_7 : wF.drew.cell? ⟨B7, 7, none⟩ = some (.int .i64 o.l1) := x7_7
        have d14_0 : wF.drew.cell? ⟨B14, 0, none⟩ = some (.int .i64 b.a) := x14_0
        have d14_1 : wF.drew.cell? ⟨B14, 1, none⟩ = some (.int .i64 b.u) := x14_1
        have d14_2 : wF.drew.cell? ⟨B14, 2, none⟩ = some (.int .i64 b.f0) := x14_2
        have d14_3 : wF.drew.cell? ⟨B14, 3, none⟩ = some (.int .i64 b.f1) := x14_3
        have d14_4 : wF.drew.cell? ⟨B14, 4, none⟩ = some (.int .i64 b.b0) := x14_4
        have d14_5 : wF.drew.cell? ⟨B14, 5, none⟩ = some (.int .i64 b.b1) := x14_5
        have d14_6 : wF.drew.cell? ⟨B14, 6, none⟩ = some (.int .i64 b.l0) := x14_6
        have d14_7 : wF.drew.cell? ⟨B14, 7, none⟩ = some (.int .i64 b.l1) := x14_7
        have d16_0 : wF.drew.cell? ⟨B16, 0, none⟩ = some (.int .i64 b.a) := x16_0
        have d16_1 : wF.drew.cell? ⟨B16, 1, none⟩ = some (.int .i64 b.u) := x16_1
        have d16_2 : wF.drew.cell? ⟨B16, 2, none⟩ = some (.int .i64 b.f0) := x16_2
        have d16_3 : wF.drew.cell? ⟨B16, 3, none⟩ = some (.int .i64 b.f1) := x16_3
        have d16_4 : wF.drew.cell? ⟨B16, 4, none⟩ = some (.int .i64 b.b0) := x16_4
        have d16_5 : wF.drew.cell? ⟨B16, 5, none⟩ = some (.int .i64 b.b1) := x16_5
        have d16_6 : wF.drew.cell? ⟨B16, 6, none⟩ = some (.int .i64 b.l0) := x16_6
        have d16_7 : wF.drew.cell? ⟨B16, 7, none⟩ = some (.int .i64 b.l1) := x16_7
        have dg_0 : wF.drew.cell? ⟨g, 0, none⟩ = some (.int .i64 39) := xg_0
        have dg_1 : wF.drew.cell? ⟨g, 1, none⟩ = some (.int .i64 0) := xg_1
        have dg_2 : wF.drew.cell? ⟨g, 2, none⟩ = some (.int .i64 0) := xg_2
        have dg_3 : wF.drew.cell? ⟨g, 3, none⟩ = some (.int .i64 0) := xg_3
        have dg_4 : wF.drew.cell? ⟨g, 4, none⟩ = some (.int .i64 0) := xg_4
        have dg_5 : wF.drew.cell? ⟨g, 5, none⟩ = some (.string ⟨#[]⟩) := xg_5
        clear h7 h14 h16 hgr
        have hG : Below wF.heap.size wF wF.drew := (Below.refl _ wF).drew
        have e5 : ∀ W, (Instr.indexAt 43 (.slice (some ⟨g, 0, none⟩) N cp) (.int .i64 0)).run Tryd.prog W = .ok (.pointer (some ⟨g, 0, none⟩)) W := fun W => by have h := ix_run g 0 N cp 0 (by have := HNk.out; omega) W; simpa using h
        have e6 : ∀ W, (binOp .eql 25 (.agg #[.int .i64 b.a, .int .i64 b.u, .int .i64 b.f0, .int .i64 b.f1, .int .i64 b.b0, .int .i64 b.b1, .int .i64 b.l0, .int .i64 b.l1]) (.agg #[.int .i64 b.a, .int .i64 b.u, .int .i64 b.f0, .int .i64 b.f1, .int .i64 b.b0, .int .i64 b.b1, .int .i64 b.l0, .int .i64 b.l1])).run Tryd.prog W = .ok (.bool true) W := fun W => by rw [eqlS, eqS_self]
        have FM := Lib.hid (show runV o [⟨39, 0, 0, 0, 0, ⟨#[]⟩⟩] = z8 ∧ runE o [⟨39, 0, 0, 0, 0, ⟨#[]⟩⟩] = 0 by
          obtain ⟨h1, h2⟩ := run_one o ⟨39, 0, 0, 0, 0, ⟨#[]⟩⟩ HO.out (by decide +kernel)
          exact ⟨h1, h2⟩)
        have HGa := Lib.hid (HW.out.alloc HW.out.size (.cells #[.int .i64 39, .int .i64 0, .int .i64 0, .int .i64 0, .int .i64 0, .string ⟨#[]⟩] 27)).drew
        have cM : Hid (Calls Tryd.prog 26 #[.agg #[.int .i64 o.a, .int .i64 o.u, .int .i64 o.f0, .int .i64 o.f1, .int .i64 o.b0, .int .i64 o.b1, .int .i64 o.l0, .int .i64 o.l1], .agg #[.int .i64 0, .int .i64 0, .int .i64 0, .int .i64 0, .int .i64 0, .int .i64 0, .int .i64 0, .int .i64 0], .slice (some ⟨wF.heap.size, 0, none⟩) 1 1] (wF.alloc (.cells #[.int .i64 39, .int .i64 0, .int .i64 0, .int .i64 0, .int .i64 0, .string ⟨#[]⟩] 27)).drew fun e w' => e = .returned (.bool true) ∧ Below (wF.alloc (.cells #[.int .i64 39, .int .i64 0, .int .i64 0, .int .i64 0, .int .i64 0, .string ⟨#[]⟩] 27)).drew.heap.size (wF.alloc (.cells #[.int .i64 39, .int .i64 0, .int .i64 0, .int .i64 0, .int .i64 0, .string ⟨#[]⟩] 27)).drew w') := Lib.hid
          (makes_yes o z8 _ [⟨39, 0, 0, 0, 0, ⟨#[]⟩⟩] 1 1 rfl FM.out.1 FM.out.2 _ ((H.out).keep HGa.out) ((RdP.one wF ⟨39, 0, 0, 0, 0, ⟨#[]⟩⟩ 27).keep ((Below.refl _ _).drew)) (by omega))
        have HQ0 := Lib.hid (below_box wF (.cells #[.int .i64 39, .int .i64 0, .int .i64 0, .int .i64 0, .int .i64 0, .string ⟨#[]⟩] 27)).drew
        clear hG
        go_region_held3 (fun w' => w'.cell? ⟨B7, 0, none⟩ = some (.int .i64 o.a) ∧ w'.cell? ⟨B7, 1, none⟩ = some (.int .i64 o.u) ∧ w'.cell? ⟨B7, 2, none⟩ = some (.int .i64 o.f0) ∧ w'.cell? ⟨B7, 3, none⟩ = some (.int .i64 o.f1) ∧ w'.cell? ⟨B7, 4, none⟩ = some (.int .i64 o.b0) ∧ w'.cell? ⟨B7, 5, none⟩ = some (.int .i64 o.b1) ∧ w'.cell? ⟨B7, 6, none⟩ = some (.int .i64 o.l0) ∧ w'.cell? ⟨B7, 7, none⟩ = some (.int .i64 o.l1) ∧ w'.cell? ⟨B14, 0, none⟩ = some (.int .i64 b.a) ∧ w'.cell? ⟨B14, 1, none⟩ = some (.int .i64 b.u) ∧ w'.cell? ⟨B14, 2, none⟩ = some (.int .i64 b.f0) ∧ w'.cell? ⟨B14, 3, none⟩ = some (.int .i64 b.f1) ∧ w'.cell? ⟨B14, 4, none⟩ = some (.int .i64 b.b0) ∧ w'.cell? ⟨B14, 5, none⟩ = some (.int .i64 b.b1) ∧ w'.cell? ⟨B14, 6, none⟩ = some (.int .i64 b.l0) ∧ w'.cell? ⟨B14, 7, none⟩ = some (.int .i64 b.l1) ∧ w'.cell? ⟨B16, 0, none⟩ = some (.int .i64 b.a) ∧ w'.cell? ⟨B16, 1, none⟩ = some (.int .i64 b.u) ∧ w'.cell? ⟨B16, 2, none⟩ = some (.int .i64 b.f0) ∧ w'.cell? ⟨B16, 3, none⟩ = some (.int .i64 b.f1) ∧ w'.cell? ⟨B16, 4, none⟩ = some (.int .i64 b.b0) ∧ w'.cell? ⟨B16, 5, none⟩ = some (.int .i64 b.b1) ∧ w'.cell? ⟨B16, 6, none⟩ = some (.int .i64 b.l0) ∧ w'.cell? ⟨B16, 7, none⟩ = some (.int .i64 b.l1) ∧ w'.cell? ⟨g, 0, none⟩ = some (.int .i64 39) ∧ w'.cell? ⟨g, 1, none⟩ = some (.int .i64 0) ∧ w'.cell? ⟨g, 2, none⟩ = some (.int .i64 0) ∧ w'.cell? ⟨g, 3, none⟩ = some (.int .i64 0) ∧ w'.cell? ⟨g, 4, none⟩ = some (.int .i64 0) ∧ w'.cell? ⟨g, 5, none⟩ = some (.string ⟨#[]⟩)) (first | exact ⟨by with_reducible assumption, by with_reducible assumption, by with_reducible assumption, by with_reducible assumption, by with_reducible assumption, by with_reducible assumption, by with_reducible assumption, by with_reducible assumption, by with_reducible assumption, by with_reducible assumption, by with_reducible assumption, by with_reducible assumption, by with_reducible assumption, by with_reducible assumption, by with_reducible assumption, by with_reducible assumption, by with_reducible assumption, by with_reducible assumption, by with_reducible assumption, by with_reducible assumption, by with_reducible assumption, by with_reducible assumption, by with_reducible assumption, by with_reducible assumption, by with_reducible assumption, by with_reducible assumption, by with_reducible assumption, by with_reducible assumption, by with_reducible assumption, by with_reducible assumption⟩ | go_keep) (first
          | (go_at_call 26; ((with_reducible refine cM.out.mono ?_); (rintro e wG ⟨rfl, hbG⟩; have hQ := HQ0.out.trans (hbG.mono HQ0.out.size); have HZ := Lib.hid (HGa.out.trans (hbG.mono HGa.out.size)); clear hbG; (try clear d7_0 d7_1 d7_2 d7_3 d7_4 d7_5 d7_6 d7_7 d14_0 d14_1 d14_2 d14_3 d14_4 d14_5 d14_6 d14_7 d16_0 d16_1 d16_2 d16_3 d16_4 d16_5 d16_6 d16_7 dg_0 dg_1 dg_2 dg_3 dg_4 dg_5); have d7_0 := (hQ.cell (p := ⟨B7, 0, none⟩) l7).trans x7_0; have d7_1 := (hQ.cell (p := ⟨B7, 1, none⟩) l7).trans x7_1; have d7_2 := (hQ.cell (p := ⟨B7, 2, none⟩) l7).trans x7_2; have d7_3 := (hQ.cell (p := ⟨B7, 3, none⟩) l7).trans x7_3; have d7_4 := (hQ.cell (p := ⟨B7, 4, none⟩) l7).trans x7_4; have d7_5 := (hQ.cell (p := ⟨B7, 5, none⟩) l7).trans x7_5; have d7_6 := (hQ.cell (p := ⟨B7, 6, none⟩) l7).trans x7_6; have d7_7 := (hQ.cell (p := ⟨B7, 7, none⟩) l7).trans x7_7; have d14_0 := (hQ.cell (p := ⟨B14, 0, none⟩) l14).trans x14_0; have d14_1 := (hQ.cell (p := ⟨B14, 1, none⟩) l14).trans x14_1; have d14_2 := (hQ.cell (p := ⟨B14, 2, none⟩) l14).trans x14_2; have d14_3 := (hQ.cell (p := ⟨B14, 3, none⟩) l14).trans x14_3; have d14_4 := (hQ.cell (p := ⟨B14, 4, none⟩) l14).trans x14_4; have d14_5 := (hQ.cell (p := ⟨B14, 5, none⟩) l14).trans x14_5; have d14_6 := (hQ.cell (p := ⟨B14, 6, none⟩) l14).trans x14_6; have d14_7 := (hQ.cell (p := ⟨B14, 7, none⟩) l14).trans x14_7; have d16_0 := (hQ.cell (p := ⟨B16, 0, none⟩) l16).trans x16_0; have d16_1 := (hQ.cell (p := ⟨B16, 1, none⟩) l16).trans x16_1; have d16_2 := (hQ.cell (p := ⟨B16, 2, none⟩) l16).trans x16_2; have d16_3 := (hQ.cell (p := ⟨B16, 3, none⟩) l16).trans x16_3; have d16_4 := (hQ.cell (p := ⟨B16, 4, none⟩) l16).trans x16_4; have d16_5 := (hQ.cell (p := ⟨B16, 5, none⟩) l16).trans x16_5; have d16_6 := (hQ.cell (p := ⟨B16, 6, none⟩) l16).trans x16_6; have d16_7 := (hQ.cell (p := ⟨B16, 7, none⟩) l16).trans x16_7; have dg_0 := (hQ.cell (p := ⟨g, 0, none⟩) lg).trans xg_0; have dg_1 := (hQ.cell (p := ⟨g, 1, none⟩) lg).trans xg_1; have dg_2 := (hQ.cell (p := ⟨g, 2, none⟩) lg).trans xg_2; have dg_3 := (hQ.cell (p := ⟨g, 3, none⟩) lg).trans xg_3; have dg_4 := (hQ.cell (p := ⟨g, 4, none⟩) lg).trans xg_4; have dg_5 := (hQ.cell (p := ⟨g, 5, none⟩) lg).trans xg_5; clear hQ; skip))))
        all_goals
          show K23 _ _
          refine HK.out _ _ ?_
          clear HK l7 l14 l16 lg e5 e6 cM d7_0 d7_1 d7_2 d7_3 d7_4 d7_5 d7_6 d7_7 d14_0 d14_1 d14_2 d14_3 d14_4 d14_5 d14_6 d14_7 d16_0 d16_1 d16_2 d16_3 d16_4 d16_5 d16_6 d16_7 dg_0 dg_1 dg_2 dg_3 dg_4 dg_5 x7_0 x7_1 x7_2 x7_3 x7_4 x7_5 x7_6 x7_7 x14_0 x14_1 x14_2 x14_3 x14_4 x14_5 x14_6 x14_7 x16_0 x16_1 x16_2 x16_3 x16_4 x16_5 x16_6 x16_7 xg_0 xg_1 xg_2 xg_3 xg_4 xg_5
          go_wp2
          go_ret
          exact ⟨rfl, HZ.out⟩
theorem bits_any (d : D8) (bit : UInt8) (ds : List D8) (A : Option Addr) (n c : Nat) (hn : ds.length = n) (hc : n ≤ c ∧ c ≤ 9223372036854775807) (w : World) (h : Tl w) (hr : RdD w A ds) : Calls Tryd.prog 7 #[.agg #[.int .u8 (d.a.toNat : Int), .int .u8 (d.u.toNat : Int), .int .u8 (d.w.toNat : Int), .int .u8 (d.m.toNat : Int), .int .u32 (d.e0.toNat : Int), .int .u32 (d.e1.toNat : Int), .int .u32 (d.e2.toNat : Int), .int .u32 (d.e3.toNat : Int)], .int .u8 (bit.toNat : Int), .slice A n c] w fun e w' => e = .returned (.bool true) ∧ Below w.heap.size w w' :=
  bits_z _ _ _ _ _ _ _ _ bit (styD d) ds A n c hn hc (styD_ok d) (Lib.hid fun w => style_any d w) w h hr
end Go.Proofs.YtokjjeekkfefmaaDoor.Sty
