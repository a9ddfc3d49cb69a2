/-
  The walk of the law OscBack.
-/
import Derived.Test.YtoilcigmpeaedaaGreatDoorOscV
import Derived.Test.YtoilcigmpeaedaaGreatDoorOscX
namespace Go.Proofs.YtoilcigmpeaedaaGreatDoor.Osc
open Go.RowKit Utf Col
open B64 (Box)

theorem prt_pos (a : A6) (u : List UInt8) (h : prtO a = some u) : 0 < u.length := by
  unfold prtO at h
  split at h
  · injection h with h; subst h; simp
  · split at h
    · injection h with h; subst h; simp
    · split at h
      · injection h with h; subst h; simp
      · cases h
set_option maxRecDepth 100000 in
set_option maxHeartbeats 8000000 in
theorem back_any (v1 v2 : Value) (d e : Dr) (w : World) (hd : DrV w v1 d) (he2 : DrV w v2 e) (he : Env w) :
    Calls Tryz.prog 5 #[v1, v2] w fun z w' => z = .returned (.bool true) ∧ Below w.heap.size w w' := by
  have HB := Lib.hid (EB.refl he)
  obtain ⟨u, hu⟩ := dra_has d hd.h1
  obtain ⟨x, hx⟩ := dra_has e he2.h1
  have hdl := dra_len d
  have hel := dra_len e
  have C1 := fun W hb => action_any v1 d W (hd.below hb)
  have C2 := fun W hb => action_any v2 e W (he2.below hb)
  obtain ⟨-, -, -, -, -, -, A, cA, rfl, -⟩ := hd
  obtain ⟨-, -, -, -, -, -, B, cB, rfl, -⟩ := he2
  generalize draA d = o at C1 hu hdl
  generalize draA e = q at C2 hx hel
  unfold actV at C1 C2
  have C1 := Lib.hid C1
  have C2 := Lib.hid C2
  have hb0 : Below w.heap.size w ((w.alloc (.cells #[.int .u8 (d.wh : Int), .int .u8 (d.n : Int), .int .u32 (d.rgb : Int), .slice A d.zs.length cA, .string ⟨d.cl.toArray⟩] 29)).alloc (.cells #[.int .u8 (e.wh : Int), .int .u8 (e.n : Int), .int .u32 (e.rgb : Int), .slice B e.zs.length cB, .string ⟨e.cl.toArray⟩] 29)) := B64.up (B64.below_box _ _) (B64.below_box _ _)
  have hP : Box ((w.alloc (.cells #[.int .u8 (d.wh : Int), .int .u8 (d.n : Int), .int .u32 (d.rgb : Int), .slice A d.zs.length cA, .string ⟨d.cl.toArray⟩] 29)).alloc (.cells #[.int .u8 (e.wh : Int), .int .u8 (e.n : Int), .int .u32 (e.rgb : Int), .slice B e.zs.length cB, .string ⟨e.cl.toArray⟩] 29)) w.heap.size [.int .u8 (d.wh : Int), .int .u8 (d.n : Int), .int .u32 (d.rgb : Int), .slice A d.zs.length cA, .string ⟨d.cl.toArray⟩] := (Box.new w _ _).alloc _
  have hR : Box ((w.alloc (.cells #[.int .u8 (d.wh : Int), .int .u8 (d.n : Int), .int .u32 (d.rgb : Int), .slice A d.zs.length cA, .string ⟨d.cl.toArray⟩] 29)).alloc (.cells #[.int .u8 (e.wh : Int), .int .u8 (e.n : Int), .int .u32 (e.rgb : Int), .slice B e.zs.length cB, .string ⟨e.cl.toArray⟩] 29)) (w.heap.size + 1) [.int .u8 (e.wh : Int), .int .u8 (e.n : Int), .int .u32 (e.rgb : Int), .slice B e.zs.length cB, .string ⟨e.cl.toArray⟩] := by
    have := Box.new (w.alloc (.cells #[.int .u8 (d.wh : Int), .int .u8 (d.n : Int), .int .u32 (d.rgb : Int), .slice A d.zs.length cA, .string ⟨d.cl.toArray⟩] 29)) #[.int .u8 (e.wh : Int), .int .u8 (e.n : Int), .int .u32 (e.rgb : Int), .slice B e.zs.length cB, .string ⟨e.cl.toArray⟩] 29
    rwa [show (w.alloc (.cells #[.int .u8 (d.wh : Int), .int .u8 (d.n : Int), .int .u32 (d.rgb : Int), .slice A d.zs.length cA, .string ⟨d.cl.toArray⟩] 29)).heap.size = w.heap.size + 1 by simp] at this
  have hP := Lib.hid hP
  have hR := Lib.hid hR
  have hb0 := Lib.hid hb0
  clear he
  go_enter Tryz.func5, Tryz.ntmps5
  go_upto_region 1 with fail
  generalize ((w.alloc (.cells #[.int .u8 (d.wh : Int), .int .u8 (d.n : Int), .int .u32 (d.rgb : Int), .slice A d.zs.length cA, .string ⟨d.cl.toArray⟩] 29)).alloc (.cells #[.int .u8 (e.wh : Int), .int .u8 (e.n : Int), .int .u32 (e.rgb : Int), .slice B e.zs.length cB, .string ⟨e.cl.toArray⟩] 29)) = W0 at hP hR hb0 ⊢
  have HB := Lib.hid (HB.out.keep hb0.out)
  go_wp2_with fail
  refine (works_any _ HB.out.e).mono ?_
  rintro z w1 ⟨rfl, hb1⟩
  have HB := Lib.hid (HB.out.keep hb1)
  have hP := Lib.hid (hP.out.keep hb1)
  have hR := Lib.hid (hR.out.keep hb1)
  clear hb1 hb0
  go_upto_region 3 with fail
  rename_i K hK
  have HK := Lib.hid hK
  clear hK
  have E1 := Lib.hid (show ∀ W, Below w1.heap.size w1 W → _ from fun W hb => C1.out W (HB.out.b.trans (hb.mono HB.out.b.size)))
  have E2 := Lib.hid (show ∀ W, Below w1.heap.size w1 W → _ from fun W hb => C2.out W (HB.out.b.trans (hb.mono HB.out.b.size)))
  refine regionW d e A B cA cB o q _ _ _ _ _ _ _ w1 w.heap.size (w.heap.size + 1) rfl rfl hP.out hR.out E1 E2 (fun _ _ _ _ _ h => h) (Lib.hid ?_)
  intro B5 B6 w2 hb2 g5 g6 hne hB5 hB6
  show K _ _
  refine HK.out _ _ ?_
  have HB := Lib.hid (HB.out.keep hb2)
  have H5 := Lib.hid hB5
  have H6 := Lib.hid hB6
  clear HK K hb2 hB5 hB6 hP hR E1 E2 C1 C2 g5 g6
  unfold actW
  have HR1 := fun W h => print_any o W h (by omega)
  have HR2 := fun W h => print_any q W h (by omega)
  rw [prtV, hu] at HR1
  rw [prtV, hx] at HR2
  have HS := fun W h => says_yes ⟨u.toArray⟩ o (back hu).1 W h
  have HQ : ∀ W, (binOp .eql 25 (actV o) (actV q)).run Tryz.prog W = .ok (.bool (eqA o q)) W := fun W => eqlA o q W
  have hul := (back hu).2
  have hup := prt_pos o u hu
  have hok := prt_ok o u hu
  have hbb : (u == x) = eqA o q := by
    rw [eqA_iff, ← prt_eq o q u x hu hx, Bool.eq_iff_iff]; simp
  unfold actV at HR1 HR2 HS HQ
  obtain ⟨ok, on, om, o0, o1, ot⟩ := o
  obtain ⟨qk, qn, qm, q0, q1, qt⟩ := q
  dsimp only at HR1 HR2 HS HQ
  generalize eqA ⟨ok, on, om, o0, o1, ot⟩ ⟨qk, qn, qm, q0, q1, qt⟩ = bb at HQ hbb
  have HR1 := Lib.hid HR1
  have HR2 := Lib.hid HR2
  have HS := Lib.hid HS
  have HU := Lib.hid hok
  have hb9 : (bb == bb) = true := by cases bb <;> rfl
  have d1 : decide ((u.length : Int) ≤ 512) = true := decide_eq_true (by omega)
  have d2 : decide ((0 : Int) < (u.length : Int)) = true := decide_eq_true (by omega)
  have d3 : decide (0 < u.length) = true := decide_eq_true hup
  have hu5 : (u.length : Int) ≤ 512 := by omega
  have hu0 : (0 : Int) < (u.length : Int) := by omega
  clear hu hx hdl hel hok hne hul
  obtain ⟨y0, y1, y2, y3, y4, y5⟩ := box6 H5.out
  go_wp2_with fail
  refine (HR1.out _ HB.out.e).mono ?_
  rintro z w3 ⟨rfl, hb3⟩
  have HB := Lib.hid (HB.out.keep hb3)
  have H5 := Lib.hid (H5.out.keep hb3)
  have H6 := Lib.hid (H6.out.keep hb3)
  clear hb3 y0 y1 y2 y3 y4 y5
  obtain ⟨y0, y1, y2, y3, y4, y5⟩ := box6 H6.out
  go_wp2_with fail
  refine (HR2.out _ HB.out.e).mono ?_
  rintro z w4 ⟨rfl, hb4⟩
  have HB := Lib.hid (HB.out.keep hb4)
  have H5 := Lib.hid (H5.out.keep hb4)
  have H6 := Lib.hid (H6.out.keep hb4)
  clear hb4 y0 y1 y2 y3 y4 y5
  go_wp2_with fail
  go_loopw [11] (fun iv wr => ∃ i : Nat, i ≤ u.length ∧ iv = .int .i64 (i : Int) ∧ Hid (wr = w4)) (fun iv _ => u.length - (intOf iv).toNat)
  case atStart => exact ⟨0, by omega, rfl, Lib.hid rfl⟩
  case round =>
    obtain ⟨i, hi, rfl, hwr⟩ := hrel
    by_cases hi2 : i < u.length
    · obtain ⟨b, hb⟩ : ∃ b, u[i]? = some b := ⟨u[i]'hi2, List.getElem?_eq_getElem hi2⟩
      have hx9 := fun W => B64.idx_run 9 ⟨u.toArray⟩ i b (by simpa using hb) Tryz.underlying9 W
      have hbo := HU.out b (List.mem_of_getElem? hb)
      have hbo2 : 32 ≤ b.toNat ∧ b.toNat ≠ 127 := by unfold okB at hbo; simpa using hbo
      have hb0 : b.toNat < 256 := b.toNat_lt
      have e1 : decide ((b.toNat : Int) < 32) = false := decide_eq_false (by omega)
      have e2 : ((b.toNat : Int) == 127) = false := by rw [beq_eq_false_iff_ne]; omega
      clear hb hbo hbo2
      go_wp2_with fail
      refine ⟨⟨i + 1, by omega, by go_num, hwr⟩, ?_⟩
      show u.length - ((i : Int) + 1).toNat < u.length - (i : Int).toNat
      omega
    · obtain rfl : i = u.length := by omega
      have HB := Lib.hid (show EB w wr by rw [hwr.out]; exact HB.out)
      have H5 := Lib.hid (show Box wr B5 _ by rw [hwr.out]; exact H5.out)
      have H6 := Lib.hid (show Box wr B6 _ by rw [hwr.out]; exact H6.out)
      obtain ⟨y0, y1, y2, y3, y4, y5⟩ := box6 H5.out
      clear hwr
      go_wp2_with fail
      refine (HS.out _ HB.out.e).mono ?_
      rintro z w5 ⟨rfl, hb5⟩
      have HB := Lib.hid (HB.out.keep hb5)
      clear y0 y1 y2 y3 y4 y5
      obtain ⟨y0, y1, y2, y3, y4, y5⟩ := box6 (H5.out.keep hb5)
      obtain ⟨z0, z1, z2, z3, z4, z5⟩ := box6 (H6.out.keep hb5)
      clear hb5
      go_wp2_with fail
      go_ret
      exact ⟨by kernel_rfl, HB.out.b⟩
end Go.Proofs.YtoilcigmpeaedaaGreatDoor.Osc
