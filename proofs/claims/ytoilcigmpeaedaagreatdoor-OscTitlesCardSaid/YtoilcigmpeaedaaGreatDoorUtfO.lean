/-
  Contracts of the reference's Check, size, Put.
-/
import Derived.Test.YtoilcigmpeaedaaGreatDoorUtfM
import Derived.Test.YtoilcigmpeaedaaGreatDoorUtfN
namespace Go.Proofs.YtoilcigmpeaedaaGreatDoor.Utf
open Go.RowKit

theorem rcheck_any (c : Int) (w : World) : Calls Tryz.prog 41 #[.int .i64 c] w fun e w' => e = .returned (.bool (chk c)) ∧ w = w' := by
  by_cases h1 : 0 ≤ c
  · by_cases h2 : c ≤ 1114111
    · by_cases h3 : c < 55296
      · have hf : chk c = true := by simp [chk, h1, h2, h3]
        go_enter Tryz.func41, Tryz.ntmps41
        go_wp2
        go_ret
        exact ⟨by first | rfl | (rw [hf]; rfl), rfl⟩
      · by_cases h4 : 57343 < c
        · have hf : chk c = true := by simp [chk, h1, h2, h4]
          go_enter Tryz.func41, Tryz.ntmps41
          go_wp2
          go_ret
          exact ⟨by first | rfl | (rw [hf]; rfl), rfl⟩
        · have hf : chk c = false := by simp [chk]; omega
          go_enter Tryz.func41, Tryz.ntmps41
          go_wp2
          go_ret
          exact ⟨by first | rfl | (rw [hf]; rfl), rfl⟩
    · have hf : chk c = false := by simp [chk]; omega
      go_enter Tryz.func41, Tryz.ntmps41
      go_wp2
      go_ret
      exact ⟨by first | rfl | (rw [hf]; rfl), rfl⟩
  · have hf : chk c = false := by simp [chk]; omega
    go_enter Tryz.func41, Tryz.ntmps41
    go_wp2
    go_ret
    exact ⟨by first | rfl | (rw [hf]; rfl), rfl⟩

theorem rsize_any (c : Int) (w : World) : Calls Tryz.prog 72 #[.int .i64 c] w fun e w' => e = .returned (.int .i64 (cl c)) ∧ w = w' := by
  rcases cl_cases c with ⟨h1, hf⟩ | ⟨h1, h2, hf⟩ | ⟨h1, h2, hf⟩ | ⟨h1, hf⟩
  all_goals
    go_enter Tryz.func72, Tryz.ntmps72
    go_wp2
    go_ret
    exact ⟨by first | rfl | (rw [hf]; rfl), rfl⟩

theorem bytes_ext {a b : ByteArray} (h : a.data.toList = b.data.toList) : a = b := by
  cases a; cases b
  simp only at h
  exact congrArg ByteArray.mk (Array.ext' h)
theorem ba_app2 (a b : List UInt8) : ((⟨a.toArray⟩ : ByteArray) ++ (⟨b.toArray⟩ : ByteArray)).data.toList = (⟨(a ++ b).toArray⟩ : ByteArray).data.toList := by simp
def rMarks : Array Value := #[.int .i64 0, .int .i64 0, .int .i64 192, .int .i64 224, .int .i64 240]
theorem rput_conv (w : World) (l : List UInt8) (n : Nat) (hn : l.length = n) (cs : Array Value) (h : cs.toList = cB l) (M : Obj) :
    (convert 38 9 (.slice (some ⟨w.heap.size, 0, none⟩) n n)).run Tryz.prog ((w.alloc (.cells cs 5)).alloc M) = .ok (.string ⟨l.toArray⟩) ((w.alloc (.cells cs 5)).alloc M) := by
  subst hn
  refine run_str (P := Tryz.prog) _ 38 9 5 _ _ l Tryz.underlying38 Tryz.underlying5 Tryz.underlying9 ?_
  rw [← h]
  exact (Rd.lit w cs _).below ((Below.refl _ _).alloc (Nat.le_refl _) _)
theorem rput_conv1 (w : World) (b : UInt8) (z : Int) (h : z = (b.toNat : Int)) :
    (convert 38 9 (.slice (some ⟨w.heap.size, 0, none⟩) 1 1)).run Tryz.prog (w.alloc (.cells #[.int .u8 z] 5)) = .ok (.string ⟨[b].toArray⟩) (w.alloc (.cells #[.int .u8 z] 5)) := by
  subst h
  exact run_str (P := Tryz.prog) _ 38 9 5 _ 1 [b] Tryz.underlying38 Tryz.underlying5 Tryz.underlying9 (Rd.one _ _ _)
theorem rb (n : Nat) (z : Int) (h : z = (n : Int)) (hn : n < 256) : Value.int .u8 z = .int .u8 ((UInt8.ofNat n).toNat : Int) := by rw [u8_of n hn, h]

set_option maxRecDepth 100000 in
set_option maxHeartbeats 4000000 in
theorem rput_1 (x : Nat) (w : World) (hx2 : x < 128) (hk : chk (x : Int) = true) :
    Calls Tryz.prog 42 #[.int .i64 (x : Int)] w fun e w' => e = .returned (.string ⟨(encV x).toArray⟩) ∧ Below w.heap.size w w' := by
  have Hc := Lib.hid (show cl (x : Int) = 1 by rcases cl_cases (x : Int) with ⟨h1, h2⟩ | ⟨h1, h1', h2⟩ | ⟨h1, h1', h2⟩ | ⟨h1, h2⟩ <;> first | exact h2 | omega)
  have hcv := rput_conv1 w (UInt8.ofNat x) (x : Int) (by rw [u8_of x (by omega)])
  have He := Lib.hid (show encV x = [UInt8.ofNat x] by unfold encV; rw [if_pos hx2])
  have Hk := Lib.hid hk; clear hk
  go_enter Tryz.func42, Tryz.ntmps42
  go_wp2_with fail
  refine (rcheck_any _ _).mono ?_
  rintro e w' ⟨rfl, rfl⟩
  rw [Hk.out]
  go_wp2_with fail
  refine (rsize_any _ _).mono ?_
  rintro e w' ⟨rfl, rfl⟩
  rw [Hc.out]
  go_wp2
  go_ret
  exact ⟨by rw [He.out]; rfl, (Below.refl _ _).alloc (Nat.le_refl _) _⟩

set_option maxRecDepth 100000 in
set_option maxHeartbeats 4000000 in
theorem rput_2 (x : Nat) (w : World) (hx1 : 128 ≤ x) (hx2 : x < 2048) (hk : chk (x : Int) = true) :
    Calls Tryz.prog 42 #[.int .i64 (x : Int)] w fun e w' => e = .returned (.string ⟨(encV x).toArray⟩) ∧ Below w.heap.size w w' := by
  have Hc := Lib.hid (show cl (x : Int) = 2 by rcases cl_cases (x : Int) with ⟨h1, h2⟩ | ⟨h1, h1', h2⟩ | ⟨h1, h1', h2⟩ | ⟨h1, h2⟩ <;> first | exact h2 | omega)
  have hmk : ∀ W, (Instr.makeSlice 38 (.int .i64 2) (.int .i64 2)).run Tryz.prog W = .ok (.slice (some ⟨W.heap.size, 0, none⟩) 2 2) (W.alloc (.cells #[.int .u8 0, .int .u8 0] 5)) := fun _ => by kernel_rfl
  have He := Lib.hid (show encV x = [UInt8.ofNat (192 + x / 64), UInt8.ofNat (128 + x % 64)] by unfold encV; rw [if_neg (by omega), if_pos hx2])
  have hcv := rput_conv w (encV x) 2 (by rw [He.out]; rfl) #[.int .u8 (192 + (x : Int) / 64), .int .u8 (128 + (x : Int) % 64)] (by rw [He.out]; simp only [cB, List.map_cons, List.map_nil]; rw [rb (192 + x / 64) (192 + (x : Int) / 64) (by omega) (by omega), rb (128 + x % 64) (128 + (x : Int) % 64) (by omega) (by omega)]) (.cells #[.int .i64 0, .int .i64 0, .int .i64 192, .int .i64 224, .int .i64 240] 96)
  have Hk := Lib.hid hk; clear hk
  go_enter Tryz.func42, Tryz.ntmps42
  go_wp2_with fail
  refine (rcheck_any _ _).mono ?_
  rintro e w' ⟨rfl, rfl⟩
  rw [Hk.out]
  go_wp2_with fail
  refine (rsize_any _ _).mono ?_
  rintro e w' ⟨rfl, rfl⟩
  rw [Hc.out]
  go_wp2_with fail
  refine wp_loop_rounds 2 ?_
  rw [rounds_succ]
  go_wp2_with fail
  rw [rounds_succ]
  go_wp2_with fail
  go_ret
  exact ⟨rfl, ((Below.refl _ _).alloc (Nat.le_refl _) _).alloc (by simp) _⟩

set_option maxRecDepth 100000 in
set_option maxHeartbeats 4000000 in
theorem rput_3 (x : Nat) (w : World) (hx1 : 2048 ≤ x) (hx2 : x < 65536) (hk : chk (x : Int) = true) :
    Calls Tryz.prog 42 #[.int .i64 (x : Int)] w fun e w' => e = .returned (.string ⟨(encV x).toArray⟩) ∧ Below w.heap.size w w' := by
  have Hc := Lib.hid (show cl (x : Int) = 3 by rcases cl_cases (x : Int) with ⟨h1, h2⟩ | ⟨h1, h1', h2⟩ | ⟨h1, h1', h2⟩ | ⟨h1, h2⟩ <;> first | exact h2 | omega)
  have hmk : ∀ W, (Instr.makeSlice 38 (.int .i64 3) (.int .i64 3)).run Tryz.prog W = .ok (.slice (some ⟨W.heap.size, 0, none⟩) 3 3) (W.alloc (.cells #[.int .u8 0, .int .u8 0, .int .u8 0] 5)) := fun _ => by kernel_rfl
  have He := Lib.hid (show encV x = [UInt8.ofNat (224 + x / 4096), UInt8.ofNat (128 + x / 64 % 64), UInt8.ofNat (128 + x % 64)] by unfold encV; rw [if_neg (by omega), if_neg (by omega), if_pos hx2])
  have hcv := rput_conv w (encV x) 3 (by rw [He.out]; rfl) #[.int .u8 (224 + (x : Int) / 64 / 64), .int .u8 (128 + (x : Int) / 64 % 64), .int .u8 (128 + (x : Int) % 64)] (by rw [He.out]; simp only [cB, List.map_cons, List.map_nil]; rw [rb (224 + x / 4096) (224 + (x : Int) / 64 / 64) (by omega) (by omega), rb (128 + x / 64 % 64) (128 + (x : Int) / 64 % 64) (by omega) (by omega), rb (128 + x % 64) (128 + (x : Int) % 64) (by omega) (by omega)]) (.cells #[.int .i64 0, .int .i64 0, .int .i64 192, .int .i64 224, .int .i64 240] 96)
  have Hk := Lib.hid hk; clear hk
  go_enter Tryz.func42, Tryz.ntmps42
  go_wp2_with fail
  refine (rcheck_any _ _).mono ?_
  rintro e w' ⟨rfl, rfl⟩
  rw [Hk.out]
  go_wp2_with fail
  refine (rsize_any _ _).mono ?_
  rintro e w' ⟨rfl, rfl⟩
  rw [Hc.out]
  go_wp2_with fail
  refine wp_loop_rounds 3 ?_
  rw [rounds_succ]
  go_wp2_with fail
  rw [rounds_succ]
  go_wp2_with fail
  rw [rounds_succ]
  go_wp2_with fail
  go_ret
  exact ⟨rfl, ((Below.refl _ _).alloc (Nat.le_refl _) _).alloc (by simp) _⟩

set_option maxRecDepth 100000 in
set_option maxHeartbeats 4000000 in
theorem rput_4 (x : Nat) (w : World) (hx1 : 65536 ≤ x) (hx2 : x ≤ 1114111) (hk : chk (x : Int) = true) :
    Calls Tryz.prog 42 #[.int .i64 (x : Int)] w fun e w' => e = .returned (.string ⟨(encV x).toArray⟩) ∧ Below w.heap.size w w' := by
  have Hc := Lib.hid (show cl (x : Int) = 4 by rcases cl_cases (x : Int) with ⟨h1, h2⟩ | ⟨h1, h1', h2⟩ | ⟨h1, h1', h2⟩ | ⟨h1, h2⟩ <;> first | exact h2 | omega)
  have hmk : ∀ W, (Instr.makeSlice 38 (.int .i64 4) (.int .i64 4)).run Tryz.prog W = .ok (.slice (some ⟨W.heap.size, 0, none⟩) 4 4) (W.alloc (.cells #[.int .u8 0, .int .u8 0, .int .u8 0, .int .u8 0] 5)) := fun _ => by kernel_rfl
  have He := Lib.hid (show encV x = [UInt8.ofNat (240 + x / 262144), UInt8.ofNat (128 + x / 4096 % 64), UInt8.ofNat (128 + x / 64 % 64), UInt8.ofNat (128 + x % 64)] by unfold encV; rw [if_neg (by omega), if_neg (by omega), if_neg (by omega)])
  have hcv := rput_conv w (encV x) 4 (by rw [He.out]; rfl) #[.int .u8 (240 + (x : Int) / 64 / 64 / 64), .int .u8 (128 + (x : Int) / 64 / 64 % 64), .int .u8 (128 + (x : Int) / 64 % 64), .int .u8 (128 + (x : Int) % 64)] (by rw [He.out]; simp only [cB, List.map_cons, List.map_nil]; rw [rb (240 + x / 262144) (240 + (x : Int) / 64 / 64 / 64) (by omega) (by omega), rb (128 + x / 4096 % 64) (128 + (x : Int) / 64 / 64 % 64) (by omega) (by omega), rb (128 + x / 64 % 64) (128 + (x : Int) / 64 % 64) (by omega) (by omega), rb (128 + x % 64) (128 + (x : Int) % 64) (by omega) (by omega)]) (.cells #[.int .i64 0, .int .i64 0, .int .i64 192, .int .i64 224, .int .i64 240] 96)
  have Hk := Lib.hid hk; clear hk
  go_enter Tryz.func42, Tryz.ntmps42
  go_wp2_with fail
  refine (rcheck_any _ _).mono ?_
  rintro e w' ⟨rfl, rfl⟩
  rw [Hk.out]
  go_wp2_with fail
  refine (rsize_any _ _).mono ?_
  rintro e w' ⟨rfl, rfl⟩
  rw [Hc.out]
  go_wp2_with fail
  refine wp_loop_rounds 4 ?_
  rw [rounds_succ]
  go_wp2_with fail
  rw [rounds_succ]
  go_wp2_with fail
  rw [rounds_succ]
  go_wp2_with fail
  rw [rounds_succ]
  go_wp2_with fail
  go_ret
  exact ⟨rfl, ((Below.refl _ _).alloc (Nat.le_refl _) _).alloc (by simp) _⟩

set_option maxRecDepth 100000 in
set_option maxHeartbeats 4000000 in
theorem rput_bad (c : Int) (w : World) (hk : chk c = false) :
    Calls Tryz.prog 42 #[.int .i64 c] w fun e w' => e = .returned (.string ⟨(encV 65533).toArray⟩) ∧ Below w.heap.size w w' := by
  have Hc := Lib.hid (show cl 65533 = 3 by decide +kernel)
  have hmk : ∀ W, (Instr.makeSlice 38 (.int .i64 3) (.int .i64 3)).run Tryz.prog W = .ok (.slice (some ⟨W.heap.size, 0, none⟩) 3 3) (W.alloc (.cells #[.int .u8 0, .int .u8 0, .int .u8 0] 5)) := fun _ => by kernel_rfl
  have He := Lib.hid (show encV 65533 = [239, 191, 189] by decide +kernel)
  rw [He.out]
  have hcv := rput_conv w [239, 191, 189] 3 rfl #[.int .u8 239, .int .u8 191, .int .u8 189] rfl (.cells #[.int .i64 0, .int .i64 0, .int .i64 192, .int .i64 224, .int .i64 240] 96)
  have Hk := Lib.hid hk; clear hk
  go_enter Tryz.func42, Tryz.ntmps42
  go_wp2_with fail
  refine (rcheck_any _ _).mono ?_
  rintro e w' ⟨rfl, rfl⟩
  rw [Hk.out]
  go_wp2_with fail
  refine (rsize_any _ _).mono ?_
  rintro e w' ⟨rfl, rfl⟩
  rw [Hc.out]
  go_wp2_with fail
  refine wp_loop_rounds 3 ?_
  rw [rounds_succ]
  go_wp2_with fail
  rw [rounds_succ]
  go_wp2_with fail
  rw [rounds_succ]
  go_wp2_with fail
  go_ret
  exact ⟨rfl, ((Below.refl _ _).alloc (Nat.le_refl _) _).alloc (by simp) _⟩

theorem rput_any (c : Int) (w : World) : Calls Tryz.prog 42 #[.int .i64 c] w fun e w' => e = .returned (.string ⟨(encL c).toArray⟩) ∧ Below w.heap.size w w' := by
  cases hk : chk c with
  | false =>
    have he : encL c = encV 65533 := by simp [encL, hk]
    rw [he]
    exact rput_bad c w hk
  | true =>
    have he : encL c = encV c.toNat := by simp [encL, hk]
    rw [he]
    have hr : 0 ≤ c ∧ c ≤ 1114111 := by simp [chk] at hk; omega
    obtain ⟨x, rfl⟩ := Int.eq_ofNat_of_zero_le hr.1
    rw [Int.toNat_natCast]
    rcases (show x < 128 ∨ (128 ≤ x ∧ x < 2048) ∨ (2048 ≤ x ∧ x < 65536) ∨ (65536 ≤ x ∧ x ≤ 1114111) by omega) with h | ⟨h, h'⟩ | ⟨h, h'⟩ | ⟨h, h'⟩
    · exact rput_1 x w h hk
    · exact rput_2 x w h h' hk
    · exact rput_3 x w h h' hk
    · exact rput_4 x w h h' hk

set_option maxRecDepth 100000 in
set_option maxHeartbeats 1000000 in
theorem rtext_any (A : Option Addr) (c n : Nat) (zs : List Int) (hn : zs.length = n) (w : World) (h : Rd w A (cI zs)) (hl : zs.length ≤ 100000) :
    Calls Tryz.prog 59 #[.slice A n c] w fun e w' => e = .returned (.string ⟨(textL zs).toArray⟩) ∧ Below w.heap.size w w' := by
  subst hn
  have H := Lib.hid h; clear h
  go_enter Tryz.func59, Tryz.ntmps59
  go_wp2
  go_loopw [3, 4] (fun s i wr => ∃ k : Nat, k ≤ zs.length ∧ i = .int .i64 k ∧ ∃ t : ByteArray, s = .string t ∧ t.size ≤ 400000 ∧ Hid (t = ⟨(textL (zs.take k)).toArray⟩ ∧ Below w.heap.size w wr)) (fun _ i _ => zs.length - (intOf i).toNat)
  case atStart => exact ⟨0, Nat.zero_le _, rfl, ⟨#[]⟩, rfl, by decide +kernel, rfl, Below.refl _ _⟩
  case round =>
    obtain ⟨k, hk, rfl, t, rfl, hts, hid⟩ := hrel
    by_cases hlt : k < zs.length
    · obtain ⟨z, hz⟩ : ∃ z, zs[k]? = some z := ⟨zs[k], by simp [hlt]⟩
      obtain ⟨ad, rfl, hblk, hc⟩ := ((H.out).below hid.out.2) k _ (cI_at zs k z hz)
      have HZ := Lib.hid hz; clear hz
      go_wp2_with fail
      refine (rput_any z _).mono ?_
      rintro e w1 ⟨rfl, hb1⟩
      have hb2 := hid.out.2.trans (hb1.mono hid.out.2.size)
      obtain ⟨g, hg⟩ : ∃ g : ByteArray, (⟨(encL z).toArray⟩ : ByteArray) = g := ⟨_, rfl⟩
      have hgs : g.size ≤ 4 := by rw [← hg]; exact encL_len z
      rw [hg]
      have hte := hid.out.1
      have HT := Lib.hid (show t ++ g = ⟨(textL (zs.take (k + 1))).toArray⟩ by
        rw [textL_take zs k z HZ.out, ← hg, hte]
        apply bytes_ext
        rw [ba_app2])
      have hsz : (t ++ g).size ≤ 400000 := by
        rw [HT.out]
        have h1 := textL_len (zs.take (k + 1))
        rw [List.length_take] at h1
        show (textL (zs.take (k + 1))).length ≤ 400000
        omega
      have Hsz := Lib.hid hsz
      clear hg hb1 hte hsz
      go_wp2
      go_roundw
      case rel => exact ⟨k + 1, by omega, by go_num, t ++ g, rfl, Hsz.out, HT.out, hb2⟩
      case measure => simp [intOf]; omega
    · have ht : zs.take k = zs := List.take_of_length_le (by omega)
      rw [ht] at hid
      clear ht
      go_wp2
      go_ret
      exact ⟨by rw [← hid.out.1]; rfl, hid.out.2⟩
end Go.Proofs.YtoilcigmpeaedaaGreatDoor.Utf
