/-
  The walk of the law UtfSteps: it returns true, whatever its arguments; nothing that lay before the call has turned.
-/
import Derived.Test.YtciklknbllblmaaDoorUtfS
import Derived.Test.YtciklknbllblmaaDoorUtfBack
import Derived.Test.YtciklknbllblmaaDoorUtfKnown
namespace Go.Proofs.YtciklknbllblmaaDoor.Utf
open Go.RowKit

theorem index2 (A B : Option Addr) (n m c d : Nat) (k : Nat) (hk : k < 2) : ∀ W, (Instr.index 31 (.agg #[.slice A n c, .slice B m d]) (.int .i64 (k : Int))).run Tryd.prog W = .ok (if k = 0 then .slice A n c else .slice B m d) W := by
  rcases (show k = 0 ∨ k = 1 by omega) with rfl | rfl
  · exact fun _ => by kernel_rfl
  · exact fun _ => by kernel_rfl
theorem index3u (a b c : Int) (k : Nat) (hk : k < 3) : ∀ W, (Instr.index 35 (.agg #[.int .u8 a, .int .u8 b, .int .u8 c]) (.int .i64 (k : Int))).run Tryd.prog W = .ok (.int .u8 (if k = 0 then a else if k = 1 then b else c)) W := by
  rcases (show k = 0 ∨ k = 1 ∨ k = 2 by omega) with rfl | rfl | rfl
  · exact fun _ => by kernel_rfl
  · exact fun _ => by kernel_rfl
  · exact fun _ => by kernel_rfl
theorem three_u8 (b : UInt8) (k : Nat) : ∃ z : UInt8, (if k = 0 then (b.toNat : Int) else if k = 1 then 128 + (b.toNat : Int) % 64 else 192 + (b.toNat : Int) % 64) = (z.toNat : Int) := by
  have hb := b.toNat_lt
  by_cases h0 : k = 0
  · exact ⟨b, by rw [if_pos h0]⟩
  · rw [if_neg h0]
    by_cases h1 : k = 1
    · exact ⟨UInt8.ofNat (128 + b.toNat % 64), by rw [if_pos h1, u8_of _ (by omega)]; omega⟩
    · exact ⟨UInt8.ofNat (192 + b.toNat % 64), by rw [if_neg h1, u8_of _ (by omega)]; omega⟩

theorem flush_at (A : Option Addr) (c n : Nat) (bs : List UInt8) (hn : bs.length = n) (w : World) (h : Rd w A (cB bs)) (hm : Mk w) (hc : bs.length ≤ c) (hs : bs.length ≤ 1000000) :
    Calls Tryd.prog 20 #[.slice A n c] w (IntsPost (flushL bs) w) := by
  subst hn; exact flush_any A c bs w h hm hc hs
theorem step_at (A : Option Addr) (c n : Nat) (p : List UInt8) (b : UInt8) (hn : p.length = n) (w : World) (h : Rd w A (cB p)) (hm : Mk w) (hc : p.length ≤ c) (hs : p.length ≤ 100000) :
    Calls Tryd.prog 22 #[.slice A n c, .int .u8 (b.toNat : Int)] w (StepPost p b w) := by
  subst hn; exact step_any A c p b w h hm hc hs

set_option maxRecDepth 100000 in
set_option maxHeartbeats 8000000 in
theorem lsteps_law (A : Option Addr) (n d : Nat) (bs : List UInt8) (cp : Int) (nn b : UInt8) (w : World) (hm : Mk w) (hx : Rd w A (cB bs)) (hn : bs.length = n) (hc : n ≤ d) (hcb : d ≤ 9223372036854775807) :
    Calls Tryd.prog 4 #[.slice A n d, .int .i64 cp, .int .u8 (nn.toNat : Int), .int .u8 (b.toNat : Int)] w fun e w' => e = .returned (.bool true) ∧ Below w.heap.size w w' := by
  have HM := Lib.hid hm; clear hm
  have HX := Lib.hid hx; clear hx
  have Hn := Lib.hid hn; clear hn
  have hbl : (b.toNat : Int) < 256 := by have := b.toNat_lt; omega
  have hnl : (nn.toNat : Int) < 256 := by have := nn.toNat_lt; omega
  rcases (show (n ≤ 10) ∨ (10 < n) by omega) with h1 | h1
  · go_enter Tryd.func4, Tryd.ntmps4
    go_wp2_with fail
    generalize wrap64 ((IntKind.u64.wrap cp).tmod 1114112) = z0
    obtain ⟨P, hP⟩ : ∃ P, bs.take n = P := ⟨_, rfl⟩
    have RP := Lib.hid (show Rd w A (cB P) by rw [← hP, cB_take]; exact (HX.out).take _)
    have RPL := Lib.hid (show P.length = n by rw [← hP, List.length_take, Hn.out]; omega)
    clear hP HX
    refine (rput_any z0 _).mono ?_
    rintro e w1 ⟨rfl, hb1⟩
    obtain ⟨g, hg⟩ : ∃ g : ByteArray, (⟨(encL z0).toArray⟩ : ByteArray) = g := ⟨_, rfl⟩
    have hgs : g.size ≤ 4 := by rw [← hg]; exact encL_len z0
    rw [hg]
    clear hg
    obtain ⟨c1, w2, hcv, hc1, hr1, hb2⟩ := bytes_of (P := Tryd.prog) w1 9 30 5 g Tryd.underlying9 Tryd.underlying30 Tryd.underlying5
    have hb3 := up5' hb1 hb2
    obtain ⟨m, hmm⟩ : ∃ m : Nat, m = nn.toNat % (g.size + 1) := ⟨_, rfl⟩
    have hml : m ≤ g.size := by rw [hmm]; have := Nat.mod_lt nn.toNat (show 0 < g.size + 1 by omega); omega
    have em : (nn.toNat : Int) % ((g.size : Int) + 1) = (m : Int) := by rw [hmm]; exact (Int.natCast_emod _ _).symm
    have em2 : (nn.toNat : Int).tmod ((g.size : Int) + 1) = (m : Int) := by rw [Int.tmod_eq_emod_of_nonneg (by omega)]; exact em
    have t1 : (0 : Int) < (g.size : Int) + 1 := by omega
    have t2 : (((g.size : Int) + 1) == 0) = false := by rw [beq_eq_false_iff_ne]; omega
    obtain ⟨Q, hQ⟩ : ∃ Q, g.data.toList.take m = Q := ⟨_, rfl⟩
    have RQ := Lib.hid (show Rd w2 (some ⟨w1.heap.size, 0, none⟩) (cB Q) by rw [← hQ, cB_take]; exact hr1.take _)
    have RQL := Lib.hid (show Q.length = m by rw [← hQ, List.length_take]; have : g.data.toList.length = g.size := rfl; omega)
    have RP2 := Lib.hid ((RP.out).below hb3)
    clear hQ hr1 RP hmm hb1 hb2
    have Hcv := Lib.hid hcv; clear hcv
    have hcv := Hcv.out
    go_wp2_with fail
    clear hcv em em2 t1 t2
    go_loopw [40] (fun i wr => ∃ k : Nat, k ≤ 2 ∧ i = .int .i64 k ∧ Hid (Below w2.heap.size w2 wr)) (fun i _ => 2 - (intOf i).toNat)
    case atStart => exact ⟨0, by omega, rfl, Below.refl _ _⟩
    case round =>
      obtain ⟨k, hk, rfl, hid⟩ := hrel
      by_cases hlt : k < 2
      · have hix := index2 A (some ⟨w1.heap.size, 0, none⟩) n m d c1 k hlt
        obtain ⟨A0, n0, d0, R, hval, hRL, hnd, hsm, hrd⟩ : ∃ A0 n0 d0 R, (if k = 0 then Value.slice A n d else Value.slice (some ⟨w1.heap.size, 0, none⟩) m c1) = .slice A0 n0 d0 ∧ R.length = n0 ∧ n0 ≤ d0 ∧ n0 ≤ 10 ∧ Rd w2 A0 (cB R) := by
          by_cases h0 : k = 0
          · exact ⟨A, n, d, P, by rw [if_pos h0], RPL.out, by omega, by omega, RP2.out⟩
          · exact ⟨_, m, c1, Q, by rw [if_neg h0], RQL.out, by omega, by omega, RQ.out⟩
        rw [hval] at hix
        have HRL := Lib.hid hRL; clear hRL hval
        have hsm2 : R.length ≤ 10 := by rw [HRL.out]; omega
        have HR := Lib.hid hrd; clear hrd
        have hb4 := up5' hb3 hid.out
        have h2r := hid.out
        have HMr := Lib.hid ((HM.out).keep hb4)
        obtain ⟨q, hq⟩ : ∃ q, (R.isEmpty || preB R) = q := ⟨_, rfl⟩
        have hqq : (q != q) = false := by cases q <;> rfl
        have Hq := Lib.hid hq; clear hq
        go_wp2_with fail
        refine (right_yes A0 d0 n0 R q HRL.out _ ((HR.out).below h2r) HMr.out (by rw [HRL.out]; exact hnd) (by omega) Hq.out).mono ?_
        rintro e x1 ⟨rfl, ha1⟩
        have g1 := up5' h2r ha1
        go_wp2_with fail
        refine (rright_any A0 d0 n0 R HRL.out _ ((HR.out).below g1) (by omega)).mono ?_
        rintro e x2 ⟨rfl, ha2⟩
        rw [Hq.out]
        have g2 := up5' g1 ha2
        have hfl := flushL_len R
        go_wp2_with fail
        refine (flush_at A0 d0 n0 R HRL.out _ ((HR.out).below g2) (((HM.out).keep hb3).keep g2) (by rw [HRL.out]; exact hnd) (by omega)).mono ?_
        rintro e x3 ⟨A3, c3, rfl, hr3, ha3, _⟩
        have g3 := up5' g2 ha3
        go_wp2_with fail
        refine (rflush_any A0 d0 n0 R HRL.out _ ((HR.out).below g3) (by omega)).mono ?_
        rintro e x4 ⟨A4, c4, rfl, hr4, ha4, _⟩
        have g4 := up5' g3 ha4
        have HR3 := Lib.hid (hr3.below ha4)
        have HR4 := Lib.hid hr4
        clear hr3 hr4
        go_wp2_with fail
        refine (ints_yes A3 A4 c3 c4 _ _ (flushL R) (flushL R) rfl rfl _ HR3.out HR4.out (by omega) (eqI_self _)).mono ?_
        rintro e x5 ⟨rfl, ha5⟩
        have g5 := up5' g4 ha5
        clear g1 g2 g3 g4 ha1 ha2 ha3 ha4 ha5 h2r
        go_wp2_with fail
        obtain ⟨wx, hwx⟩ : ∃ wx, wx = x5 := ⟨_, rfl⟩
        obtain rfl := hwx
        go_loopw [64] (fun i wr => ∃ k : Nat, k ≤ 3 ∧ i = .int .i64 k ∧ Hid (Below w2.heap.size w2 wr)) (fun i _ => 3 - (intOf i).toNat)
        case atStart => exact ⟨0, by omega, rfl, g5⟩
        case round =>
          obtain ⟨j, hj, rfl, hid2⟩ := hrel
          by_cases hlt2 : j < 3
          · have hjx := index3u (b.toNat : Int) (128 + (b.toNat : Int) % 64) (192 + (b.toNat : Int) % 64) j hlt2
            obtain ⟨z, hz⟩ := three_u8 b j
            rw [hz] at hjx
            clear hz
            have g6 := hid2.out
            have hlen := stepL_len R z
            go_wp2_with fail
            refine (step_at A0 d0 n0 R z HRL.out _ ((HR.out).below g6) (((HM.out).keep hb3).keep g6) (by rw [HRL.out]; exact hnd) (by omega)).mono ?_
            rintro e y1 ⟨B1, e1, B2, e2, rfl, _, _, s1, s2, ha1⟩
            have g7 := up5' g6 ha1
            obtain ⟨l1, hl1⟩ : ∃ l, (stepL R z).1 = l := ⟨_, rfl⟩
            obtain ⟨l2, hl2⟩ : ∃ l, (stepL R z).2 = l := ⟨_, rfl⟩
            rw [hl1] at s1 hlen ⊢
            rw [hl2] at s2 hlen ⊢
            have Hl1 := Lib.hid hl1; clear hl1
            have Hl2 := Lib.hid hl2; clear hl2
            have S1 := Lib.hid s1
            have S2 := Lib.hid s2
            clear s1 s2
            go_wp2_with fail
            refine (rstep_any A0 d0 n0 R z HRL.out _ ((HR.out).below g7) (by omega)).mono ?_
            rintro e y2 ⟨B3, e3, B4, e4, rfl, _, _, s3, s4, ha2⟩
            have g8 := up5' g7 ha2
            rw [Hl1.out] at s3 ⊢
            rw [Hl2.out] at s4 ⊢
            have v1 := run_str (P := Tryd.prog) y2 30 9 5 B1 e1 l1 Tryd.underlying30 Tryd.underlying5 Tryd.underlying9 ((S1.out).below ha2)
            have v2 := run_str (P := Tryd.prog) y2 30 9 5 B3 e3 l1 Tryd.underlying30 Tryd.underlying5 Tryd.underlying9 s3
            have S4 := Lib.hid s4
            have S2' := Lib.hid ((S2.out).below ha2)
            clear s3 s4 g6 ha1 ha2
            have hne : (l1 != l1) = false := by simp
            go_wp2_with fail
            refine (ints_yes B2 B4 e2 e4 _ _ l2 l2 rfl rfl _ S2'.out S4.out (by omega) (eqI_self _)).mono ?_
            rintro e y3 ⟨rfl, ha3⟩
            have g9 := up5' g8 ha3
            clear v1 v2 g7 g8 ha3
            go_wp2
            go_roundw
            case rel => exact ⟨j + 1, by omega, by go_num, g9⟩
            case measure => simp [intOf]; omega
          · have g6 := hid2.out
            obtain rfl : 3 = j := by omega
            clear hid2 hlt2 hj
            go_wp2
            go_roundw
            case rel => exact ⟨k + 1, by omega, by go_num, g6⟩
            case measure => simp [intOf]; omega
      · have hb4 := up5' hb3 hid.out
        obtain rfl : 2 = k := by omega
        clear hid hlt hk
        go_wp2_with fail
        refine (works_any _ ((HM.out).keep hb4)).mono ?_
        rintro e x1 ⟨rfl, ha1⟩
        have hb5 := up5' hb4 ha1
        go_wp2
        go_ret
        exact ⟨rfl, hb5⟩
  · go_enter Tryd.func4, Tryd.ntmps4
    go_wp2_with fail
    generalize wrap64 ((IntKind.u64.wrap cp).tmod 1114112) = z0
    obtain ⟨P, hP⟩ : ∃ P, bs.take 10 = P := ⟨_, rfl⟩
    have RP := Lib.hid (show Rd w A (cB P) by rw [← hP, cB_take]; exact (HX.out).take _)
    have RPL := Lib.hid (show P.length = 10 by rw [← hP, List.length_take, Hn.out]; omega)
    clear hP HX
    refine (rput_any z0 _).mono ?_
    rintro e w1 ⟨rfl, hb1⟩
    obtain ⟨g, hg⟩ : ∃ g : ByteArray, (⟨(encL z0).toArray⟩ : ByteArray) = g := ⟨_, rfl⟩
    have hgs : g.size ≤ 4 := by rw [← hg]; exact encL_len z0
    rw [hg]
    clear hg
    obtain ⟨c1, w2, hcv, hc1, hr1, hb2⟩ := bytes_of (P := Tryd.prog) w1 9 30 5 g Tryd.underlying9 Tryd.underlying30 Tryd.underlying5
    have hb3 := up5' hb1 hb2
    obtain ⟨m, hmm⟩ : ∃ m : Nat, m = nn.toNat % (g.size + 1) := ⟨_, rfl⟩
    have hml : m ≤ g.size := by rw [hmm]; have := Nat.mod_lt nn.toNat (show 0 < g.size + 1 by omega); omega
    have em : (nn.toNat : Int) % ((g.size : Int) + 1) = (m : Int) := by rw [hmm]; exact (Int.natCast_emod _ _).symm
    have em2 : (nn.toNat : Int).tmod ((g.size : Int) + 1) = (m : Int) := by rw [Int.tmod_eq_emod_of_nonneg (by omega)]; exact em
    have t1 : (0 : Int) < (g.size : Int) + 1 := by omega
    have t2 : (((g.size : Int) + 1) == 0) = false := by rw [beq_eq_false_iff_ne]; omega
    obtain ⟨Q, hQ⟩ : ∃ Q, g.data.toList.take m = Q := ⟨_, rfl⟩
    have RQ := Lib.hid (show Rd w2 (some ⟨w1.heap.size, 0, none⟩) (cB Q) by rw [← hQ, cB_take]; exact hr1.take _)
    have RQL := Lib.hid (show Q.length = m by rw [← hQ, List.length_take]; have : g.data.toList.length = g.size := rfl; omega)
    have RP2 := Lib.hid ((RP.out).below hb3)
    clear hQ hr1 RP hmm hb1 hb2
    have Hcv := Lib.hid hcv; clear hcv
    have hcv := Hcv.out
    go_wp2_with fail
    clear hcv em em2 t1 t2
    go_loopw [40] (fun i wr => ∃ k : Nat, k ≤ 2 ∧ i = .int .i64 k ∧ Hid (Below w2.heap.size w2 wr)) (fun i _ => 2 - (intOf i).toNat)
    case atStart => exact ⟨0, by omega, rfl, Below.refl _ _⟩
    case round =>
      obtain ⟨k, hk, rfl, hid⟩ := hrel
      by_cases hlt : k < 2
      · have hix := index2 A (some ⟨w1.heap.size, 0, none⟩) 10 m d c1 k hlt
        obtain ⟨A0, n0, d0, R, hval, hRL, hnd, hsm, hrd⟩ : ∃ A0 n0 d0 R, (if k = 0 then Value.slice A 10 d else Value.slice (some ⟨w1.heap.size, 0, none⟩) m c1) = .slice A0 n0 d0 ∧ R.length = n0 ∧ n0 ≤ d0 ∧ n0 ≤ 10 ∧ Rd w2 A0 (cB R) := by
          by_cases h0 : k = 0
          · exact ⟨A, 10, d, P, by rw [if_pos h0], RPL.out, by omega, by omega, RP2.out⟩
          · exact ⟨_, m, c1, Q, by rw [if_neg h0], RQL.out, by omega, by omega, RQ.out⟩
        rw [hval] at hix
        have HRL := Lib.hid hRL; clear hRL hval
        have hsm2 : R.length ≤ 10 := by rw [HRL.out]; omega
        have HR := Lib.hid hrd; clear hrd
        have hb4 := up5' hb3 hid.out
        have h2r := hid.out
        have HMr := Lib.hid ((HM.out).keep hb4)
        obtain ⟨q, hq⟩ : ∃ q, (R.isEmpty || preB R) = q := ⟨_, rfl⟩
        have hqq : (q != q) = false := by cases q <;> rfl
        have Hq := Lib.hid hq; clear hq
        go_wp2_with fail
        refine (right_yes A0 d0 n0 R q HRL.out _ ((HR.out).below h2r) HMr.out (by rw [HRL.out]; exact hnd) (by omega) Hq.out).mono ?_
        rintro e x1 ⟨rfl, ha1⟩
        have g1 := up5' h2r ha1
        go_wp2_with fail
        refine (rright_any A0 d0 n0 R HRL.out _ ((HR.out).below g1) (by omega)).mono ?_
        rintro e x2 ⟨rfl, ha2⟩
        rw [Hq.out]
        have g2 := up5' g1 ha2
        have hfl := flushL_len R
        go_wp2_with fail
        refine (flush_at A0 d0 n0 R HRL.out _ ((HR.out).below g2) (((HM.out).keep hb3).keep g2) (by rw [HRL.out]; exact hnd) (by omega)).mono ?_
        rintro e x3 ⟨A3, c3, rfl, hr3, ha3, _⟩
        have g3 := up5' g2 ha3
        go_wp2_with fail
        refine (rflush_any A0 d0 n0 R HRL.out _ ((HR.out).below g3) (by omega)).mono ?_
        rintro e x4 ⟨A4, c4, rfl, hr4, ha4, _⟩
        have g4 := up5' g3 ha4
        have HR3 := Lib.hid (hr3.below ha4)
        have HR4 := Lib.hid hr4
        clear hr3 hr4
        go_wp2_with fail
        refine (ints_yes A3 A4 c3 c4 _ _ (flushL R) (flushL R) rfl rfl _ HR3.out HR4.out (by omega) (eqI_self _)).mono ?_
        rintro e x5 ⟨rfl, ha5⟩
        have g5 := up5' g4 ha5
        clear g1 g2 g3 g4 ha1 ha2 ha3 ha4 ha5 h2r
        go_wp2_with fail
        obtain ⟨wx, hwx⟩ : ∃ wx, wx = x5 := ⟨_, rfl⟩
        obtain rfl := hwx
        go_loopw [64] (fun i wr => ∃ k : Nat, k ≤ 3 ∧ i = .int .i64 k ∧ Hid (Below w2.heap.size w2 wr)) (fun i _ => 3 - (intOf i).toNat)
        case atStart => exact ⟨0, by omega, rfl, g5⟩
        case round =>
          obtain ⟨j, hj, rfl, hid2⟩ := hrel
          by_cases hlt2 : j < 3
          · have hjx := index3u (b.toNat : Int) (128 + (b.toNat : Int) % 64) (192 + (b.toNat : Int) % 64) j hlt2
            obtain ⟨z, hz⟩ := three_u8 b j
            rw [hz] at hjx
            clear hz
            have g6 := hid2.out
            have hlen := stepL_len R z
            go_wp2_with fail
            refine (step_at A0 d0 n0 R z HRL.out _ ((HR.out).below g6) (((HM.out).keep hb3).keep g6) (by rw [HRL.out]; exact hnd) (by omega)).mono ?_
            rintro e y1 ⟨B1, e1, B2, e2, rfl, _, _, s1, s2, ha1⟩
            have g7 := up5' g6 ha1
            obtain ⟨l1, hl1⟩ : ∃ l, (stepL R z).1 = l := ⟨_, rfl⟩
            obtain ⟨l2, hl2⟩ : ∃ l, (stepL R z).2 = l := ⟨_, rfl⟩
            rw [hl1] at s1 hlen ⊢
            rw [hl2] at s2 hlen ⊢
            have Hl1 := Lib.hid hl1; clear hl1
            have Hl2 := Lib.hid hl2; clear hl2
            have S1 := Lib.hid s1
            have S2 := Lib.hid s2
            clear s1 s2
            go_wp2_with fail
            refine (rstep_any A0 d0 n0 R z HRL.out _ ((HR.out).below g7) (by omega)).mono ?_
            rintro e y2 ⟨B3, e3, B4, e4, rfl, _, _, s3, s4, ha2⟩
            have g8 := up5' g7 ha2
            rw [Hl1.out] at s3 ⊢
            rw [Hl2.out] at s4 ⊢
            have v1 := run_str (P := Tryd.prog) y2 30 9 5 B1 e1 l1 Tryd.underlying30 Tryd.underlying5 Tryd.underlying9 ((S1.out).below ha2)
            have v2 := run_str (P := Tryd.prog) y2 30 9 5 B3 e3 l1 Tryd.underlying30 Tryd.underlying5 Tryd.underlying9 s3
            have S4 := Lib.hid s4
            have S2' := Lib.hid ((S2.out).below ha2)
            clear s3 s4 g6 ha1 ha2
            have hne : (l1 != l1) = false := by simp
            go_wp2_with fail
            refine (ints_yes B2 B4 e2 e4 _ _ l2 l2 rfl rfl _ S2'.out S4.out (by omega) (eqI_self _)).mono ?_
            rintro e y3 ⟨rfl, ha3⟩
            have g9 := up5' g8 ha3
            clear v1 v2 g7 g8 ha3
            go_wp2
            go_roundw
            case rel => exact ⟨j + 1, by omega, by go_num, g9⟩
            case measure => simp [intOf]; omega
          · have g6 := hid2.out
            obtain rfl : 3 = j := by omega
            clear hid2 hlt2 hj
            go_wp2
            go_roundw
            case rel => exact ⟨k + 1, by omega, by go_num, g6⟩
            case measure => simp [intOf]; omega
      · have hb4 := up5' hb3 hid.out
        obtain rfl : 2 = k := by omega
        clear hid hlt hk
        go_wp2_with fail
        refine (works_any _ ((HM.out).keep hb4)).mono ?_
        rintro e x1 ⟨rfl, ha1⟩
        have hb5 := up5' hb4 ha1
        go_wp2
        go_ret
        exact ⟨rfl, hb5⟩
end Go.Proofs.YtciklknbllblmaaDoor.Utf
