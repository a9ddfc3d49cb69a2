/-
  The walk of the law UtfPuts: it returns true, whatever its arguments; nothing that lay before the call has turned.
-/
import Derived.Test.YtciklknbllblmaaDoorUtfO
import Derived.Test.YtciklknbllblmaaDoorUtfBack
namespace Go.Proofs.YtciklknbllblmaaDoor.Utf
open Go.RowKit

theorem index3 (a b c : Int) (k : Nat) (hk : k < 3) : ∃ z : Int, ∀ W, (Instr.index 24 (.agg #[.int .i64 a, .int .i64 b, .int .i64 c]) (.int .i64 (k : Int))).run Tryd.prog W = .ok (.int .i64 z) W := by
  rcases (show k = 0 ∨ k = 1 ∨ k = 2 by omega) with rfl | rfl | rfl
  · exact ⟨a, fun _ => by kernel_rfl⟩
  · exact ⟨b, fun _ => by kernel_rfl⟩
  · exact ⟨c, fun _ => by kernel_rfl⟩

set_option maxRecDepth 100000 in
set_option maxHeartbeats 4000000 in
theorem puts_any (c : Int) (A : Option Addr) (n d : Nat) (xs : List Int) (w : World) (hm : Mk w) (hx : Rd w A (cI xs)) (hn : xs.length = n) (hc : n ≤ d) (hcb : d ≤ 9223372036854775807) :
    Calls Tryd.prog 3 #[.int .i64 c, .slice A n d] w fun e w' => e = .returned (.bool true) ∧ Below w.heap.size w w' := by
  have HM := Lib.hid hm; clear hm
  have HX := Lib.hid hx; clear hx
  have Hn := Lib.hid hn; clear hn
  rcases (show (n ≤ 100) ∨ (100 < n) by omega) with h1 | h1
  · go_enter Tryd.func3, Tryd.ntmps3
    go_wp2_with fail
    generalize wrap64 ((IntKind.u64.wrap c).tmod 1179648) = z1
    generalize wrap64 ((IntKind.u64.wrap c).tmod 4096) = z2
    obtain ⟨P, hP⟩ : ∃ P, xs.take n = P := ⟨_, rfl⟩
    have RX := Lib.hid (show Rd w A (cI P) by rw [← hP, cI_take]; exact (HX.out).take _)
    have RXL := Lib.hid (show P.length = n by rw [← hP, List.length_take, Hn.out]; omega)
    clear hP HX
    go_loopw [22] (fun i wr => ∃ k : Nat, k ≤ 3 ∧ i = .int .i64 k ∧ Hid (Below w.heap.size w wr)) (fun i _ => 3 - (intOf i).toNat)
    case atStart => exact ⟨0, by omega, rfl, Below.refl _ _⟩
    case round =>
      obtain ⟨k, hk, rfl, hid⟩ := hrel
      by_cases hlt : k < 3
      · obtain ⟨z, hz⟩ := index3 c z1 z2 k hlt
        go_wp2_with fail
        refine (check_any _ _).mono ?_
        rintro e w' ⟨rfl, rfl⟩
        go_wp2_with fail
        refine (rcheck_any _ _).mono ?_
        rintro e w' ⟨rfl, rfl⟩
        obtain ⟨q, hq⟩ : ∃ q, chk z = q := ⟨_, rfl⟩
        rw [hq]
        clear hq
        have hqq : (q != q) = false := by cases q <;> rfl
        go_wp2_with fail
        refine (put_any _ _ ((HM.out).keep hid.out)).mono ?_
        rintro e w1 ⟨rfl, hb1⟩
        have hb2 := hid.out.trans (hb1.mono hid.out.size)
        go_wp2_with fail
        refine (rput_any _ _).mono ?_
        rintro e w2 ⟨rfl, hb3⟩
        have hb4 := hb2.trans (hb3.mono hb2.size)
        obtain ⟨g, hg⟩ : ∃ g : ByteArray, (⟨(encL z).toArray⟩ : ByteArray) = g := ⟨_, rfl⟩
        rw [hg]
        clear hg hb1 hb2 hb3
        go_wp2
        go_roundw
        case rel => exact ⟨k + 1, by omega, by go_num, hb4⟩
        case measure => simp [intOf]; omega
      · obtain rfl : 3 = k := by omega
        have hb := hid.out
        clear hid hlt hk
        go_wp2_with fail
        refine (text_yes A d _ P RXL.out _ ((RX.out).below hb) ((HM.out).keep hb) (by rw [RXL.out]; omega)).mono ?_
        rintro e w1 ⟨rfl, hb1⟩
        have hb2 := hb.trans (hb1.mono hb.size)
        go_wp2_with fail
        refine (rtext_any A d _ P RXL.out _ ((RX.out).below hb2) (by rw [RXL.out]; omega)).mono ?_
        rintro e w2 ⟨rfl, hb3⟩
        have hb4 := hb2.trans (hb3.mono hb2.size)
        obtain ⟨g, hg⟩ : ∃ g : ByteArray, (⟨(textL P).toArray⟩ : ByteArray) = g := ⟨_, rfl⟩
        rw [hg]
        clear hg hb1 hb2 hb3 hb
        go_wp2_with fail
        refine (works_any _ ((HM.out).keep hb4)).mono ?_
        rintro e w3 ⟨rfl, hb5⟩
        have hb6 := hb4.trans (hb5.mono hb4.size)
        go_wp2
        go_ret
        exact ⟨rfl, hb6⟩
  · go_enter Tryd.func3, Tryd.ntmps3
    go_wp2_with fail
    generalize wrap64 ((IntKind.u64.wrap c).tmod 1179648) = z1
    generalize wrap64 ((IntKind.u64.wrap c).tmod 4096) = z2
    obtain ⟨P, hP⟩ : ∃ P, xs.take 100 = P := ⟨_, rfl⟩
    have RX := Lib.hid (show Rd w A (cI P) by rw [← hP, cI_take]; exact (HX.out).take _)
    have RXL := Lib.hid (show P.length = 100 by rw [← hP, List.length_take, Hn.out]; omega)
    clear hP HX
    go_loopw [22] (fun i wr => ∃ k : Nat, k ≤ 3 ∧ i = .int .i64 k ∧ Hid (Below w.heap.size w wr)) (fun i _ => 3 - (intOf i).toNat)
    case atStart => exact ⟨0, by omega, rfl, Below.refl _ _⟩
    case round =>
      obtain ⟨k, hk, rfl, hid⟩ := hrel
      by_cases hlt : k < 3
      · obtain ⟨z, hz⟩ := index3 c z1 z2 k hlt
        go_wp2_with fail
        refine (check_any _ _).mono ?_
        rintro e w' ⟨rfl, rfl⟩
        go_wp2_with fail
        refine (rcheck_any _ _).mono ?_
        rintro e w' ⟨rfl, rfl⟩
        obtain ⟨q, hq⟩ : ∃ q, chk z = q := ⟨_, rfl⟩
        rw [hq]
        clear hq
        have hqq : (q != q) = false := by cases q <;> rfl
        go_wp2_with fail
        refine (put_any _ _ ((HM.out).keep hid.out)).mono ?_
        rintro e w1 ⟨rfl, hb1⟩
        have hb2 := hid.out.trans (hb1.mono hid.out.size)
        go_wp2_with fail
        refine (rput_any _ _).mono ?_
        rintro e w2 ⟨rfl, hb3⟩
        have hb4 := hb2.trans (hb3.mono hb2.size)
        obtain ⟨g, hg⟩ : ∃ g : ByteArray, (⟨(encL z).toArray⟩ : ByteArray) = g := ⟨_, rfl⟩
        rw [hg]
        clear hg hb1 hb2 hb3
        go_wp2
        go_roundw
        case rel => exact ⟨k + 1, by omega, by go_num, hb4⟩
        case measure => simp [intOf]; omega
      · obtain rfl : 3 = k := by omega
        have hb := hid.out
        clear hid hlt hk
        go_wp2_with fail
        refine (text_yes A d _ P RXL.out _ ((RX.out).below hb) ((HM.out).keep hb) (by rw [RXL.out]; omega)).mono ?_
        rintro e w1 ⟨rfl, hb1⟩
        have hb2 := hb.trans (hb1.mono hb.size)
        go_wp2_with fail
        refine (rtext_any A d _ P RXL.out _ ((RX.out).below hb2) (by rw [RXL.out]; omega)).mono ?_
        rintro e w2 ⟨rfl, hb3⟩
        have hb4 := hb2.trans (hb3.mono hb2.size)
        obtain ⟨g, hg⟩ : ∃ g : ByteArray, (⟨(textL P).toArray⟩ : ByteArray) = g := ⟨_, rfl⟩
        rw [hg]
        clear hg hb1 hb2 hb3 hb
        go_wp2_with fail
        refine (works_any _ ((HM.out).keep hb4)).mono ?_
        rintro e w3 ⟨rfl, hb5⟩
        have hb6 := hb4.trans (hb5.mono hb4.size)
        go_wp2
        go_ret
        exact ⟨rfl, hb6⟩
end Go.Proofs.YtciklknbllblmaaDoor.Utf
