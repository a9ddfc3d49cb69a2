/-
  UtfL UtfM UtfO UtfP UtfQ UtfR
-/
import Derived.Test.YtoilcigmpeaedaaGreatDoorF0
import Derived.Test.YtoilcigmpeaedaaGreatDoorF10
import Derived.Test.YtoilcigmpeaedaaGreatDoorF13
namespace Go.Proofs.YtoilcigmpeaedaaGreatDoor.Utf
open Go.RowKit

def eqI (xs ys : List Int) : Bool := decide (xs = ys)
theorem eqI_self (xs : List Int) : eqI xs xs = true := by simp [eqI]
theorem eqI_len {xs ys : List Int} (h : xs.length ≠ ys.length) : eqI xs ys = false := by
  simp only [eqI, decide_eq_false_iff_not]
  intro e; exact h (by rw [e])
theorem take_snoc_eq {xs ys : List Int} {k : Nat} {x : Int} (hx : xs[k]? = some x) (hy : ys[k]? = some x) (h : xs.take k = ys.take k) : xs.take (k + 1) = ys.take (k + 1) := by
  rw [List.take_add_one, List.take_add_one, hx, hy, h]
theorem eqI_at {xs ys : List Int} {k : Nat} {x y : Int} (hx : xs[k]? = some x) (hy : ys[k]? = some y) (h : x ≠ y) : eqI xs ys = false := by
  simp only [eqI, decide_eq_false_iff_not]
  intro e; rw [e, hy] at hx; exact h (by simpa using hx.symm)

theorem bytes_of {P : Program} (w : World) (src dst e : TypeId) (s : ByteArray) (hs : P.underlying src = some .string) (hd : P.underlying dst = some (.slice e)) (he : P.underlying e = some (.int .u8)) :
    ∃ c w1, (convert src dst (.string s)).run P w = .ok (.slice (some ⟨w.heap.size, 0, none⟩) s.size c) w1 ∧ s.size ≤ c ∧ Rd w1 (some ⟨w.heap.size, 0, none⟩) (cB s.data.toList) ∧ Below w.heap.size w w1 := by
  refine ⟨_, _, run_bytes_of_string w src dst e s hs hd he, grownCap_ge _ _ _ _, ?_, ?_⟩
  · intro j u hu
    refine ⟨_, rfl, by simp, World.news_of_block (heap_alloc_new w.drew _) j u ?_⟩
    have hj : j < (cB s.data.toList).length := (List.getElem?_eq_some_iff.1 hu).1
    rw [bytesRow, Array.toList_append, List.getElem?_append_left (by simpa [cB] using hj), ← hu]
    simp [cB]
  · exact ((Below.refl _ w).drew).alloc (Nat.le_refl _) _

theorem bytes_list (r : ByteArray) : r.toList = r.data.toList := ByteArray.toList_eq r
def eqB (xs ys : List UInt8) : Bool := decide (xs = ys)
theorem eqB_beq (a b : List UInt8) : eqB a b = (a == b) := by
  unfold eqB
  by_cases h : a = b
  · subst h; simp
  · simp [h]

end Go.Proofs.YtoilcigmpeaedaaGreatDoor.Utf

namespace Go.Proofs.YtoilcigmpeaedaaGreatDoor.Utf
open Go.RowKit

theorem Rd.lit (w : World) (cs : Array Value) (t : TypeId) : Rd (w.alloc (.cells cs t)) (some ⟨w.heap.size, 0, none⟩) cs.toList := fun j u hu =>
  ⟨_, rfl, by simp, World.news_of_block (heap_alloc_new w _) j u hu⟩

def FlushPost (zs : List Int) (m : Nat) (w : World) (e : Ending) (w' : World) : Prop :=
  ∃ A c, e = .returned (.slice A m c) ∧ Rd w' A (cI zs) ∧ Below w.heap.size w w'
theorem flush_yes (A : Option Addr) (c n m : Nat) (bs : List UInt8) (zs : List Int) (hn : bs.length = n) (hm : zs.length = m) (w : World) (h : Rd w A (cB bs)) (hmk : Mk w) (hc : bs.length ≤ c) (hs : bs.length ≤ 1000000) (hf : flushL bs = zs) :
    Calls Tryz.prog 111 #[.slice A n c] w (FlushPost zs m w) := by
  subst hn; subst hm; subst hf; exact (flush_any A c bs w h hmk hc hs).mono fun _ _ ⟨A', c', he, hr, hb, _⟩ => ⟨A', c', he, hr, hb⟩

end Go.Proofs.YtoilcigmpeaedaaGreatDoor.Utf

namespace Go.Proofs.YtoilcigmpeaedaaGreatDoor.Utf
open Go.RowKit

theorem rcheck_any (c : Int) (w : World) : Calls Tryz.prog 41 #[.int .i64 c] w fun e w' => e = .returned (.bool (chk c)) ∧ w = w' := by
  by_cases h1 : 0 ≤ c
  · by_cases h2 : c ≤ 1114111
    · by_cases h3 : c < 55296
      · have hf : chk c = true := by simp [chk, h1, h2, h3]
        go_enter Tryz.func41, Tryz.ntmps41
        go_wp2
        go_ret
        exact ⟨by first | rfl | (rw [hf]; rfl), rfl⟩
      · by_cases h4 : 57343 < c
        · have hf : chk c = true := by simp [chk, h1, h2, h4]
          go_enter Tryz.func41, Tryz.ntmps41
          go_wp2
          go_ret
          exact ⟨by first | rfl | (rw [hf]; rfl), rfl⟩
        · have hf : chk c = false := by simp [chk]; omega
          go_enter Tryz.func41, Tryz.ntmps41
          go_wp2
          go_ret
          exact ⟨by first | rfl | (rw [hf]; rfl), rfl⟩
    · have hf : chk c = false := by simp [chk]; omega
      go_enter Tryz.func41, Tryz.ntmps41
      go_wp2
      go_ret
      exact ⟨by first | rfl | (rw [hf]; rfl), rfl⟩
  · have hf : chk c = false := by simp [chk]; omega
    go_enter Tryz.func41, Tryz.ntmps41
    go_wp2
    go_ret
    exact ⟨by first | rfl | (rw [hf]; rfl), rfl⟩

theorem rsize_any (c : Int) (w : World) : Calls Tryz.prog 72 #[.int .i64 c] w fun e w' => e = .returned (.int .i64 (cl c)) ∧ w = w' := by
  rcases cl_cases c with ⟨h1, hf⟩ | ⟨h1, h2, hf⟩ | ⟨h1, h2, hf⟩ | ⟨h1, hf⟩
  all_goals
    go_enter Tryz.func72, Tryz.ntmps72
    go_wp2
    go_ret
    exact ⟨by first | rfl | (rw [hf]; rfl), rfl⟩

theorem bytes_ext {a b : ByteArray} (h : a.data.toList = b.data.toList) : a = b := by
  cases a; cases b
  simp only at h
  exact congrArg ByteArray.mk (Array.ext' h)
theorem ba_app2 (a b : List UInt8) : ((⟨a.toArray⟩ : ByteArray) ++ (⟨b.toArray⟩ : ByteArray)).data.toList = (⟨(a ++ b).toArray⟩ : ByteArray).data.toList := by simp
def rMarks : Array Value := #[.int .i64 0, .int .i64 0, .int .i64 192, .int .i64 224, .int .i64 240]
theorem rput_conv (w : World) (l : List UInt8) (n : Nat) (hn : l.length = n) (cs : Array Value) (h : cs.toList = cB l) (M : Obj) :
    (convert 38 9 (.slice (some ⟨w.heap.size, 0, none⟩) n n)).run Tryz.prog ((w.alloc (.cells cs 5)).alloc M) = .ok (.string ⟨l.toArray⟩) ((w.alloc (.cells cs 5)).alloc M) := by
  subst hn
  refine run_str (P := Tryz.prog) _ 38 9 5 _ _ l Tryz.underlying38 Tryz.underlying5 Tryz.underlying9 ?_
  rw [← h]
  exact (Rd.lit w cs _).below ((Below.refl _ _).alloc (Nat.le_refl _) _)
theorem rput_conv1 (w : World) (b : UInt8) (z : Int) (h : z = (b.toNat : Int)) :
    (convert 38 9 (.slice (some ⟨w.heap.size, 0, none⟩) 1 1)).run Tryz.prog (w.alloc (.cells #[.int .u8 z] 5)) = .ok (.string ⟨[b].toArray⟩) (w.alloc (.cells #[.int .u8 z] 5)) := by
  subst h
  exact run_str (P := Tryz.prog) _ 38 9 5 _ 1 [b] Tryz.underlying38 Tryz.underlying5 Tryz.underlying9 (Rd.one _ _ _)
theorem rb (n : Nat) (z : Int) (h : z = (n : Int)) (hn : n < 256) : Value.int .u8 z = .int .u8 ((UInt8.ofNat n).toNat : Int) := by rw [u8_of n hn, h]

set_option maxRecDepth 100000 in
set_option maxHeartbeats 4000000 in
theorem rput_1 (x : Nat) (w : World) (hx2 : x < 128) (hk : chk (x : Int) = true) :
    Calls Tryz.prog 42 #[.int .i64 (x : Int)] w fun e w' => e = .returned (.string ⟨(encV x).toArray⟩) ∧ Below w.heap.size w w' := by
  have Hc := Lib.hid (show cl (x : Int) = 1 by rcases cl_cases (x : Int) with ⟨h1, h2⟩ | ⟨h1, h1', h2⟩ | ⟨h1, h1', h2⟩ | ⟨h1, h2⟩ <;> first | exact h2 | omega)
  have hcv := rput_conv1 w (UInt8.ofNat x) (x : Int) (by rw [u8_of x (by omega)])
  have He := Lib.hid (show encV x = [UInt8.ofNat x] by unfold encV; rw [if_pos hx2])
  have Hk := Lib.hid hk; clear hk
  go_enter Tryz.func42, Tryz.ntmps42
  go_wp2_with fail
  refine (rcheck_any _ _).mono ?_
  rintro e w' ⟨rfl, rfl⟩
  rw [Hk.out]
  go_wp2_with fail
  refine (rsize_any _ _).mono ?_
  rintro e w' ⟨rfl, rfl⟩
  rw [Hc.out]
  go_wp2
  go_ret
  exact ⟨by rw [He.out]; rfl, (Below.refl _ _).alloc (Nat.le_refl _) _⟩

set_option maxRecDepth 100000 in
set_option maxHeartbeats 4000000 in
theorem rput_2 (x : Nat) (w : World) (hx1 : 128 ≤ x) (hx2 : x < 2048) (hk : chk (x : Int) = true) :
    Calls Tryz.prog 42 #[.int .i64 (x : Int)] w fun e w' => e = .returned (.string ⟨(encV x).toArray⟩) ∧ Below w.heap.size w w' := by
  have Hc := Lib.hid (show cl (x : Int) = 2 by rcases cl_cases (x : Int) with ⟨h1, h2⟩ | ⟨h1, h1', h2⟩ | ⟨h1, h1', h2⟩ | ⟨h1, h2⟩ <;> first | exact h2 | omega)
  have hmk : ∀ W, (Instr.makeSlice 38 (.int .i64 2) (.int .i64 2)).run Tryz.prog W = .ok (.slice (some ⟨W.heap.size, 0, none⟩) 2 2) (W.alloc (.cells #[.int .u8 0, .int .u8 0] 5)) := fun _ => by kernel_rfl
  have He := Lib.hid (show encV x = [UInt8.ofNat (192 + x / 64), UInt8.ofNat (128 + x % 64)] by unfold encV; rw [if_neg (by omega), if_pos hx2])
  have hcv := rput_conv w (encV x) 2 (by rw [He.out]; rfl) #[.int .u8 (192 + (x : Int) / 64), .int .u8 (128 + (x : Int) % 64)] (by rw [He.out]; simp only [cB, List.map_cons, List.map_nil]; rw [rb (192 + x / 64) (192 + (x : Int) / 64) (by omega) (by omega), rb (128 + x % 64) (128 + (x : Int) % 64) (by omega) (by omega)]) (.cells #[.int .i64 0, .int .i64 0, .int .i64 192, .int .i64 224, .int .i64 240] 96)
  have Hk := Lib.hid hk; clear hk
  go_enter Tryz.func42, Tryz.ntmps42
  go_wp2_with fail
  refine (rcheck_any _ _).mono ?_
  rintro e w' ⟨rfl, rfl⟩
  rw [Hk.out]
  go_wp2_with fail
  refine (rsize_any _ _).mono ?_
  rintro e w' ⟨rfl, rfl⟩
  rw [Hc.out]
  go_wp2_with fail
  refine wp_loop_rounds 2 ?_
  rw [rounds_succ]
  go_wp2_with fail
  rw [rounds_succ]
  go_wp2_with fail
  go_ret
  exact ⟨rfl, ((Below.refl _ _).alloc (Nat.le_refl _) _).alloc (by simp) _⟩

set_option maxRecDepth 100000 in
set_option maxHeartbeats 4000000 in
theorem rput_3 (x : Nat) (w : World) (hx1 : 2048 ≤ x) (hx2 : x < 65536) (hk : chk (x : Int) = true) :
    Calls Tryz.prog 42 #[.int .i64 (x : Int)] w fun e w' => e = .returned (.string ⟨(encV x).toArray⟩) ∧ Below w.heap.size w w' := by
  have Hc := Lib.hid (show cl (x : Int) = 3 by rcases cl_cases (x : Int) with ⟨h1, h2⟩ | ⟨h1, h1', h2⟩ | ⟨h1, h1', h2⟩ | ⟨h1, h2⟩ <;> first | exact h2 | omega)
  have hmk : ∀ W, (Instr.makeSlice 38 (.int .i64 3) (.int .i64 3)).run Tryz.prog W = .ok (.slice (some ⟨W.heap.size, 0, none⟩) 3 3) (W.alloc (.cells #[.int .u8 0, .int .u8 0, .int .u8 0] 5)) := fun _ => by kernel_rfl
  have He := Lib.hid (show encV x = [UInt8.ofNat (224 + x / 4096), UInt8.ofNat (128 + x / 64 % 64), UInt8.ofNat (128 + x % 64)] by unfold encV; rw [if_neg (by omega), if_neg (by omega), if_pos hx2])
  have hcv := rput_conv w (encV x) 3 (by rw [He.out]; rfl) #[.int .u8 (224 + (x : Int) / 64 / 64), .int .u8 (128 + (x : Int) / 64 % 64), .int .u8 (128 + (x : Int) % 64)] (by rw [He.out]; simp only [cB, List.map_cons, List.map_nil]; rw [rb (224 + x / 4096) (224 + (x : Int) / 64 / 64) (by omega) (by omega), rb (128 + x / 64 % 64) (128 + (x : Int) / 64 % 64) (by omega) (by omega), rb (128 + x % 64) (128 + (x : Int) % 64) (by omega) (by omega)]) (.cells #[.int .i64 0, .int .i64 0, .int .i64 192, .int .i64 224, .int .i64 240] 96)
  have Hk := Lib.hid hk; clear hk
  go_enter Tryz.func42, Tryz.ntmps42
  go_wp2_with fail
  refine (rcheck_any _ _).mono ?_
  rintro e w' ⟨rfl, rfl⟩
  rw [Hk.out]
  go_wp2_with fail
  refine (rsize_any _ _).mono ?_
  rintro e w' ⟨rfl, rfl⟩
  rw [Hc.out]
  go_wp2_with fail
  refine wp_loop_rounds 3 ?_
  rw [rounds_succ]
  go_wp2_with fail
  rw [rounds_succ]
  go_wp2_with fail
  rw [rounds_succ]
  go_wp2_with fail
  go_ret
  exact ⟨rfl, ((Below.refl _ _).alloc (Nat.le_refl _) _).alloc (by simp) _⟩

set_option maxRecDepth 100000 in
set_option maxHeartbeats 4000000 in
theorem rput_4 (x : Nat) (w : World) (hx1 : 65536 ≤ x) (hx2 : x ≤ 1114111) (hk : chk (x : Int) = true) :
    Calls Tryz.prog 42 #[.int .i64 (x : Int)] w fun e w' => e = .returned (.string ⟨(encV x).toArray⟩) ∧ Below w.heap.size w w' := by
  have Hc := Lib.hid (show cl (x : Int) = 4 by rcases cl_cases (x : Int) with ⟨h1, h2⟩ | ⟨h1, h1', h2⟩ | ⟨h1, h1', h2⟩ | ⟨h1, h2⟩ <;> first | exact h2 | omega)
  have hmk : ∀ W, (Instr.makeSlice 38 (.int .i64 4) (.int .i64 4)).run Tryz.prog W = .ok (.slice (some ⟨W.heap.size, 0, none⟩) 4 4) (W.alloc (.cells #[.int .u8 0, .int .u8 0, .int .u8 0, .int .u8 0] 5)) := fun _ => by kernel_rfl
  have He := Lib.hid (show encV x = [UInt8.ofNat (240 + x / 262144), UInt8.ofNat (128 + x / 4096 % 64), UInt8.ofNat (128 + x / 64 % 64), UInt8.ofNat (128 + x % 64)] by unfold encV; rw [if_neg (by omega), if_neg (by omega), if_neg (by omega)])
  have hcv := rput_conv w (encV x) 4 (by rw [He.out]; rfl) #[.int .u8 (240 + (x : Int) / 64 / 64 / 64), .int .u8 (128 + (x : Int) / 64 / 64 % 64), .int .u8 (128 + (x : Int) / 64 % 64), .int .u8 (128 + (x : Int) % 64)] (by rw [He.out]; simp only [cB, List.map_cons, List.map_nil]; rw [rb (240 + x / 262144) (240 + (x : Int) / 64 / 64 / 64) (by omega) (by omega), rb (128 + x / 4096 % 64) (128 + (x : Int) / 64 / 64 % 64) (by omega) (by omega), rb (128 + x / 64 % 64) (128 + (x : Int) / 64 % 64) (by omega) (by omega), rb (128 + x % 64) (128 + (x : Int) % 64) (by omega) (by omega)]) (.cells #[.int .i64 0, .int .i64 0, .int .i64 192, .int .i64 224, .int .i64 240] 96)
  have Hk := Lib.hid hk; clear hk
  go_enter Tryz.func42, Tryz.ntmps42
  go_wp2_with fail
  refine (rcheck_any _ _).mono ?_
  rintro e w' ⟨rfl, rfl⟩
  rw [Hk.out]
  go_wp2_with fail
  refine (rsize_any _ _).mono ?_
  rintro e w' ⟨rfl, rfl⟩
  rw [Hc.out]
  go_wp2_with fail
  refine wp_loop_rounds 4 ?_
  rw [rounds_succ]
  go_wp2_with fail
  rw [rounds_succ]
  go_wp2_with fail
  rw [rounds_succ]
  go_wp2_with fail
  rw [rounds_succ]
  go_wp2_with fail
  go_ret
  exact ⟨rfl, ((Below.refl _ _).alloc (Nat.le_refl _) _).alloc (by simp) _⟩

set_option maxRecDepth 100000 in
set_option maxHeartbeats 4000000 in
theorem rput_bad (c : Int) (w : World) (hk : chk c = false) :
    Calls Tryz.prog 42 #[.int .i64 c] w fun e w' => e = .returned (.string ⟨(encV 65533).toArray⟩) ∧ Below w.heap.size w w' := by
  have Hc := Lib.hid (show cl 65533 = 3 by decide +kernel)
  have hmk : ∀ W, (Instr.makeSlice 38 (.int .i64 3) (.int .i64 3)).run Tryz.prog W = .ok (.slice (some ⟨W.heap.size, 0, none⟩) 3 3) (W.alloc (.cells #[.int .u8 0, .int .u8 0, .int .u8 0] 5)) := fun _ => by kernel_rfl
  have He := Lib.hid (show encV 65533 = [239, 191, 189] by decide +kernel)
  rw [He.out]
  have hcv := rput_conv w [239, 191, 189] 3 rfl #[.int .u8 239, .int .u8 191, .int .u8 189] rfl (.cells #[.int .i64 0, .int .i64 0, .int .i64 192, .int .i64 224, .int .i64 240] 96)
  have Hk := Lib.hid hk; clear hk
  go_enter Tryz.func42, Tryz.ntmps42
  go_wp2_with fail
  refine (rcheck_any _ _).mono ?_
  rintro e w' ⟨rfl, rfl⟩
  rw [Hk.out]
  go_wp2_with fail
  refine (rsize_any _ _).mono ?_
  rintro e w' ⟨rfl, rfl⟩
  rw [Hc.out]
  go_wp2_with fail
  refine wp_loop_rounds 3 ?_
  rw [rounds_succ]
  go_wp2_with fail
  rw [rounds_succ]
  go_wp2_with fail
  rw [rounds_succ]
  go_wp2_with fail
  go_ret
  exact ⟨rfl, ((Below.refl _ _).alloc (Nat.le_refl _) _).alloc (by simp) _⟩

theorem rput_any (c : Int) (w : World) : Calls Tryz.prog 42 #[.int .i64 c] w fun e w' => e = .returned (.string ⟨(encL c).toArray⟩) ∧ Below w.heap.size w w' := by
  cases hk : chk c with
  | false =>
    have he : encL c = encV 65533 := by simp [encL, hk]
    rw [he]
    exact rput_bad c w hk
  | true =>
    have he : encL c = encV c.toNat := by simp [encL, hk]
    rw [he]
    have hr : 0 ≤ c ∧ c ≤ 1114111 := by simp [chk] at hk; omega
    obtain ⟨x, rfl⟩ := Int.eq_ofNat_of_zero_le hr.1
    rw [Int.toNat_natCast]
    rcases (show x < 128 ∨ (128 ≤ x ∧ x < 2048) ∨ (2048 ≤ x ∧ x < 65536) ∨ (65536 ≤ x ∧ x ≤ 1114111) by omega) with h | ⟨h, h'⟩ | ⟨h, h'⟩ | ⟨h, h'⟩
    · exact rput_1 x w h hk
    · exact rput_2 x w h h' hk
    · exact rput_3 x w h h' hk
    · exact rput_4 x w h h' hk

set_option maxRecDepth 100000 in
set_option maxHeartbeats 1000000 in
theorem rtext_any (A : Option Addr) (c n : Nat) (zs : List Int) (hn : zs.length = n) (w : World) (h : Rd w A (cI zs)) (hl : zs.length ≤ 100000) :
    Calls Tryz.prog 59 #[.slice A n c] w fun e w' => e = .returned (.string ⟨(textL zs).toArray⟩) ∧ Below w.heap.size w w' := by
  subst hn
  have H := Lib.hid h; clear h
  go_enter Tryz.func59, Tryz.ntmps59
  go_wp2
  go_loopw [3, 4] (fun s i wr => ∃ k : Nat, k ≤ zs.length ∧ i = .int .i64 k ∧ ∃ t : ByteArray, s = .string t ∧ t.size ≤ 400000 ∧ Hid (t = ⟨(textL (zs.take k)).toArray⟩ ∧ Below w.heap.size w wr)) (fun _ i _ => zs.length - (intOf i).toNat)
  case atStart => exact ⟨0, Nat.zero_le _, rfl, ⟨#[]⟩, rfl, by decide +kernel, rfl, Below.refl _ _⟩
  case round =>
    obtain ⟨k, hk, rfl, t, rfl, hts, hid⟩ := hrel
    by_cases hlt : k < zs.length
    · obtain ⟨z, hz⟩ : ∃ z, zs[k]? = some z := ⟨zs[k], by simp [hlt]⟩
      obtain ⟨ad, rfl, hblk, hc⟩ := ((H.out).below hid.out.2) k _ (cI_at zs k z hz)
      have HZ := Lib.hid hz; clear hz
      go_wp2_with fail
      refine (rput_any z _).mono ?_
      rintro e w1 ⟨rfl, hb1⟩
      have hb2 := hid.out.2.trans (hb1.mono hid.out.2.size)
      obtain ⟨g, hg⟩ : ∃ g : ByteArray, (⟨(encL z).toArray⟩ : ByteArray) = g := ⟨_, rfl⟩
      have hgs : g.size ≤ 4 := by rw [← hg]; exact encL_len z
      rw [hg]
      have hte := hid.out.1
      have HT := Lib.hid (show t ++ g = ⟨(textL (zs.take (k + 1))).toArray⟩ by
        rw [textL_take zs k z HZ.out, ← hg, hte]
        apply bytes_ext
        rw [ba_app2])
      have hsz : (t ++ g).size ≤ 400000 := by
        rw [HT.out]
        have h1 := textL_len (zs.take (k + 1))
        rw [List.length_take] at h1
        show (textL (zs.take (k + 1))).length ≤ 400000
        omega
      have Hsz := Lib.hid hsz
      clear hg hb1 hte hsz
      go_wp2
      go_roundw
      case rel => exact ⟨k + 1, by omega, by go_num, t ++ g, rfl, Hsz.out, HT.out, hb2⟩
      case measure => simp [intOf]; omega
    · have ht : zs.take k = zs := List.take_of_length_le (by omega)
      rw [ht] at hid
      clear ht
      go_wp2
      go_ret
      exact ⟨by rw [← hid.out.1]; rfl, hid.out.2⟩
end Go.Proofs.YtoilcigmpeaedaaGreatDoor.Utf

namespace Go.Proofs.YtoilcigmpeaedaaGreatDoor.Utf
open Go.RowKit

def rn (b : UInt8) : Nat := if b.toNat < 128 then 1 else if b.toNat < 192 then 0 else if b.toNat < 224 then 2 else if b.toNat < 240 then 3 else if b.toNat < 248 then 4 else 0
def rv (b : UInt8) : Nat := if b.toNat < 128 then b.toNat else if b.toNat < 192 then 0 else if b.toNat < 224 then b.toNat - 192 else if b.toNat < 240 then b.toNat - 224 else if b.toNat < 248 then b.toNat - 240 else 0
/-- the least and the greatest number behind k continuation places -/
def sp (v : Nat) (r : List UInt8) : Nat → Nat × Nat
  | 0 => (v, v)
  | k + 1 =>
    match r[k]? with
    | some b => ((sp v r k).1 * 64 + (b.toNat - 128), (sp v r k).2 * 64 + (b.toNat - 128))
    | none => ((sp v r k).1 * 64, (sp v r k).2 * 64 + 63)
def rsp (bs : List UInt8) : Nat × Nat × Nat :=
  match bs with
  | [] => (0, 0, 0)
  | b :: r => if (r.take (rn b - 1)).any notc || decide (rn b < r.length + 1) then (0, 0, 0) else ((sp (rv b) r (rn b - 1)).1, (sp (rv b) r (rn b - 1)).2, rn b)

theorem rn_le (b : UInt8) : rn b ≤ 4 := by
  unfold rn
  split
  · omega
  · split
    · omega
    · split
      · omega
      · split
        · omega
        · split <;> omega
theorem rv_lt (b : UInt8) : rv b < 128 := by
  have := b.toNat_lt
  unfold rv
  by_cases h1 : b.toNat < 128
  · rw [if_pos h1]; exact h1
  · rw [if_neg h1]
    by_cases h2 : b.toNat < 192
    · rw [if_pos h2]; omega
    · rw [if_neg h2]
      by_cases h3 : b.toNat < 224
      · rw [if_pos h3]; omega
      · rw [if_neg h3]
        by_cases h4 : b.toNat < 240
        · rw [if_pos h4]; omega
        · rw [if_neg h4]
          by_cases h5 : b.toNat < 248
          · rw [if_pos h5]; omega
          · rw [if_neg h5]; omega
theorem sp_lt (v : Nat) (r : List UInt8) (k : Nat) (h : ∀ j b, j < k → r[j]? = some b → notc b = false) : (sp v r k).1 ≤ (sp v r k).2 ∧ (sp v r k).2 < (v + 1) * 64 ^ k := by
  induction k with
  | zero => simp [sp]
  | succ k ih =>
    obtain ⟨h1, h2⟩ := ih (fun j b hj hb => h j b (by omega) hb)
    have h3 : ((sp v r k).2 + 1) * 64 ≤ (v + 1) * 64 ^ k * 64 := Nat.mul_le_mul_right _ (by omega)
    have h4 : (v + 1) * 64 ^ (k + 1) = (v + 1) * 64 ^ k * 64 := by rw [Nat.pow_succ, Nat.mul_assoc]
    simp only [sp]
    cases hr : r[k]? with
    | none => simp only; omega
    | some b =>
      have hb := h k b (by omega) hr
      have hb2 : b.toNat < 192 := by
        simp only [notc, Bool.not_eq_false', Bool.and_eq_true, decide_eq_true_eq] at hb
        exact hb.2
      simp only; omega

set_option maxRecDepth 100000 in
theorem rfirst_any (b : UInt8) (w : World) : Calls Tryz.prog 119 #[.int .u8 (b.toNat : Int)] w fun e w' => e = .returned (.tuple #[.int .i64 (rn b : Int), .int .i64 (rv b : Int)]) ∧ w = w' := by
  have hb : (b.toNat : Int) < 256 := by have := b.toNat_lt; omega
  have key : ∀ (n v : Nat), rn b = n → rv b = v → (Calls Tryz.prog 119 #[.int .u8 (b.toNat : Int)] w fun e w' => e = .returned (.tuple #[.int .i64 (n : Int), .int .i64 (v : Int)]) ∧ w = w') →
      Calls Tryz.prog 119 #[.int .u8 (b.toNat : Int)] w fun e w' => e = .returned (.tuple #[.int .i64 (rn b : Int), .int .i64 (rv b : Int)]) ∧ w = w' := fun n v h1 h2 h => by rw [h1, h2]; exact h
  by_cases h1 : b.toNat < 128
  · refine key 1 b.toNat (by unfold rn; rw [if_pos h1]) (by unfold rv; rw [if_pos h1]) ?_
    have t1 : (b.toNat : Int) < 128 := by omega
    go_enter Tryz.func119, Tryz.ntmps119
    go_wp2
    go_ret2
    exact ⟨rfl, rfl⟩
  · by_cases h2 : b.toNat < 192
    · refine key 0 0 (by unfold rn; rw [if_neg h1, if_pos h2]) (by unfold rv; rw [if_neg h1, if_pos h2]) ?_
      go_enter Tryz.func119, Tryz.ntmps119
      go_wp2
      go_ret2
      exact ⟨rfl, rfl⟩
    · by_cases h3 : b.toNat < 224
      · refine key 2 (b.toNat - 192) (by unfold rn; rw [if_neg h1, if_neg h2, if_pos h3]) (by unfold rv; rw [if_neg h1, if_neg h2, if_pos h3]) ?_
        go_enter Tryz.func119, Tryz.ntmps119
        go_wp2
        go_ret2
        exact ⟨ret2 rfl (by omega), rfl⟩
      · by_cases h4 : b.toNat < 240
        · refine key 3 (b.toNat - 224) (by unfold rn; rw [if_neg h1, if_neg h2, if_neg h3, if_pos h4]) (by unfold rv; rw [if_neg h1, if_neg h2, if_neg h3, if_pos h4]) ?_
          go_enter Tryz.func119, Tryz.ntmps119
          go_wp2
          go_ret2
          exact ⟨ret2 rfl (by omega), rfl⟩
        · by_cases h5 : b.toNat < 248
          · refine key 4 (b.toNat - 240) (by unfold rn; rw [if_neg h1, if_neg h2, if_neg h3, if_neg h4, if_pos h5]) (by unfold rv; rw [if_neg h1, if_neg h2, if_neg h3, if_neg h4, if_pos h5]) ?_
            go_enter Tryz.func119, Tryz.ntmps119
            go_wp2
            go_ret2
            exact ⟨ret2 rfl (by omega), rfl⟩
          · refine key 0 0 (by unfold rn; rw [if_neg h1, if_neg h2, if_neg h3, if_neg h4, if_neg h5]) (by unfold rv; rw [if_neg h1, if_neg h2, if_neg h3, if_neg h4, if_neg h5]) ?_
            go_enter Tryz.func119, Tryz.ntmps119
            go_wp2
            go_ret2
            exact ⟨rfl, rfl⟩
theorem vi {a b : Int} (h : a = b) : Value.int .i64 a = .int .i64 b := by rw [h]
theorem ret3 {a b c d e f : Int} (h1 : a = d) (h2 : b = e) (h3 : c = f) : Ending.returned (.tuple #[.int .i64 a, .int .i64 b, .int .i64 c]) = .returned (.tuple #[.int .i64 d, .int .i64 e, .int .i64 f]) := by rw [h1, h2, h3]
theorem any_take_of {r : List UInt8} {k n : Nat} {b : UInt8} (hk : k < n) (hr : r[k]? = some b) (hb : notc b = true) : (r.take n).any notc = true := by
  rw [List.any_eq_true]
  exact ⟨b, List.mem_of_getElem? (i := k) (by rw [List.getElem?_take_of_lt hk]; exact hr), hb⟩
theorem any_take_none {r : List UInt8} {n : Nat} (h : ∀ j b, j < n → r[j]? = some b → notc b = false) : (r.take n).any notc = false := by
  rw [List.any_eq_false]
  intro x hx
  obtain ⟨j, hj⟩ := List.getElem?_of_mem hx
  have hlt : j < n := by
    have := (List.getElem?_eq_some_iff.1 hj).1
    rw [List.length_take] at this; omega
  rw [List.getElem?_take_of_lt hlt] at hj
  simp [h j x hlt hj]

set_option maxRecDepth 100000 in
set_option maxHeartbeats 4000000 in
theorem rspan_any (A : Option Addr) (c n0 : Nat) (bs : List UInt8) (hn : bs.length = n0) (w : World) (h : Rd w A (cB bs)) (hs : bs.length ≤ 1000000) :
    Calls Tryz.prog 103 #[.slice A n0 c] w fun e w' => e = .returned (.tuple #[.int .i64 ((rsp bs).1 : Int), .int .i64 ((rsp bs).2.1 : Int), .int .i64 ((rsp bs).2.2 : Int)]) ∧ w = w' := by
  cases bs with
  | nil =>
    obtain rfl : n0 = 0 := hn.symm
    clear h
    go_enter Tryz.func103, Tryz.ntmps103
    go_wp2
    go_ret3
    exact ⟨rfl, rfl⟩
  | cons b r =>
    obtain ⟨ad, rfl, hblk, hc0⟩ := h 0 (.int .u8 (b.toNat : Int)) rfl
    have hc0 : w.cell? ad = some (.int .u8 (b.toNat : Int)) := by simpa [Addr.add] using hc0
    have H := Lib.hid h; clear h
    obtain ⟨m, hm⟩ : ∃ m, r.length = m := ⟨_, rfl⟩
    obtain rfl : n0 = m + 1 := by rw [← hn, ← hm]; rfl
    clear hn
    simp only [List.length_cons, hm] at hs
    have Hm := Lib.hid hm; clear hm
    have hv := rv_lt b
    have hnl := rn_le b
    obtain ⟨n, hn⟩ : ∃ n, rn b = n := ⟨_, rfl⟩
    obtain ⟨v, hv'⟩ : ∃ v, rv b = v := ⟨_, rfl⟩
    rw [hn] at hnl
    rw [hv'] at hv
    have Hrsp := Lib.hid (show rsp (b :: r) = if (r.take (n - 1)).any notc || decide (n < r.length + 1) then (0, 0, 0) else ((sp v r (n - 1)).1, (sp v r (n - 1)).2, n) by
      simp only [rsp, hn, hv'])
    have Hn := Lib.hid hn; clear hn
    have Hv := Lib.hid hv'; clear hv'
    have t0 : (((m : Int) + 1) == 0) = false := by rw [beq_eq_false_iff_ne]; omega
    go_enter Tryz.func103, Tryz.ntmps103
    go_wp2_with fail
    refine (rfirst_any b _).mono ?_
    rintro e w' ⟨rfl, rfl⟩
    rw [Hn.out, Hv.out]
    go_wp2_with fail
    go_loop [6, 7, 8] (fun lo hi i => ∃ k : Nat, k + 1 ≤ max n 1 ∧ i = .int .i64 ((k : Int) + 1) ∧ lo = .int .i64 ((sp v r k).1 : Int) ∧ hi = .int .i64 ((sp v r k).2 : Int) ∧ Hid (∀ j b, j < k → r[j]? = some b → notc b = false)) (fun _ _ i => n - (intOf i).toNat)
    case atStart => exact ⟨0, by omega, by go_num, rfl, rfl, fun j b hj => by omega⟩
    case round =>
      obtain ⟨k, hk, rfl, rfl, rfl, hid⟩ := hrel
      obtain ⟨q1, q2⟩ := sp_lt v r k hid.out
      have q3 : (sp v r k).2 < 40000000 := by
        have : 64 ^ k ≤ 64 ^ 3 := Nat.pow_le_pow_right (by omega) (by omega)
        have h5 := Nat.mul_le_mul (show v + 1 ≤ 128 by omega) this
        omega
      have Hs := Lib.hid (show sp v r (k + 1) = (match r[k]? with
        | some b => ((sp v r k).1 * 64 + (b.toNat - 128), (sp v r k).2 * 64 + (b.toNat - 128))
        | none => ((sp v r k).1 * 64, (sp v r k).2 * 64 + 63)) from rfl)
      obtain ⟨lo, hlo⟩ : ∃ lo, (sp v r k).1 = lo := ⟨_, rfl⟩
      obtain ⟨hi, hhi⟩ : ∃ hi, (sp v r k).2 = hi := ⟨_, rfl⟩
      rw [hlo, hhi] at q1 Hs
      rw [hhi] at q3
      rw [hlo, hhi]
      have Hlo := Lib.hid hlo; clear hlo
      have Hhi := Lib.hid hhi; clear hhi
      by_cases hlt : k + 1 < n
      · by_cases hin : k < m
        · obtain ⟨b1, hb1⟩ : ∃ b1, r[k]? = some b1 := ⟨r[k]'(by rw [Hm.out]; exact hin), by simp⟩
          obtain ⟨ad1, he, _, hcx⟩ := H.out (k + 1) (.int .u8 (b1.toNat : Int)) (cB_at (b :: r) (k + 1) b1 (by simpa using hb1))
          obtain rfl : ad = ad1 := by simpa using he
          clear he
          have hcx : w.cell? ⟨ad.block, ad.off + (k + 1), none⟩ = some (.int .u8 (b1.toNat : Int)) := by simpa [Addr.add] using hcx
          have hb1l : (b1.toNat : Int) < 256 := by have := b1.toNat_lt; omega
          have Hb1 := Lib.hid hb1; clear hb1
          have i1 : (k : Int) + 1 < (n : Int) := by omega
          have i2 : (k : Int) + 1 < (m : Int) + 1 := by omega
          have i3 : (0 : Int) ≤ (k : Int) + 1 := by omega
          rcases (show (b1.toNat < 128) ∨ (192 ≤ b1.toNat) ∨ (128 ≤ b1.toNat ∧ b1.toNat < 192) by omega) with hb2 | hb2 | ⟨hb2, hb3⟩
          · have Hz := Lib.hid (show rsp (b :: r) = (0, 0, 0) by rw [Hrsp.out, any_take_of (show k < n - 1 by omega) Hb1.out (notc_first b1 (.inl hb2))]; rfl)
            go_wp2
            go_ret3
            exact ⟨by rw [Hz.out]; rfl, rfl⟩
          · have Hz := Lib.hid (show rsp (b :: r) = (0, 0, 0) by rw [Hrsp.out, any_take_of (show k < n - 1 by omega) Hb1.out (notc_first b1 (.inr hb2))]; rfl)
            go_wp2
            go_ret3
            exact ⟨by rw [Hz.out]; rfl, rfl⟩
          · have Hs2 := Lib.hid (show sp v r (k + 1) = (lo * 64 + (b1.toNat - 128), hi * 64 + (b1.toNat - 128)) by rw [Hs.out, Hb1.out])
            have Hid2 := Lib.hid (show ∀ j b, j < k + 1 → r[j]? = some b → notc b = false from fun j b' hj hb' => by
              by_cases hjk : j < k
              · exact hid.out j b' hjk hb'
              · obtain rfl : j = k := by omega
                rw [Hb1.out] at hb'
                cases hb'
                exact notc_cont b1 hb2 hb3)
            go_wp2
            go_round
            case rel => exact ⟨k + 1, by omega, by go_num, by rw [Hs2.out]; exact vi (by simp only []; omega), by rw [Hs2.out]; exact vi (by simp only []; omega), Hid2⟩
            case measure => simp [intOf]; omega
        · have i1 : (k : Int) + 1 < (n : Int) := by omega
          have i2 : ¬ (k : Int) + 1 < (m : Int) + 1 := by omega
          have hno : r[k]? = none := List.getElem?_eq_none (by rw [Hm.out]; omega)
          have Hs2 := Lib.hid (show sp v r (k + 1) = (lo * 64, hi * 64 + 63) by rw [Hs.out, hno])
          have Hid2 := Lib.hid (show ∀ j b, j < k + 1 → r[j]? = some b → notc b = false from fun j b' hj hb' => by
            by_cases hjk : j < k
            · exact hid.out j b' hjk hb'
            · obtain rfl : j = k := by omega
              rw [hno] at hb'
              cases hb')
          clear hno
          go_wp2
          go_round
          case rel => exact ⟨k + 1, by omega, by go_num, by rw [Hs2.out]; exact vi (by simp only []; omega), by rw [Hs2.out]; exact vi (by simp only []; omega), Hid2⟩
          case measure => simp [intOf]; omega
      · have i1 : ¬ (k : Int) + 1 < (n : Int) := by omega
        by_cases hbig : n < m + 1
        · have Hz := Lib.hid (show rsp (b :: r) = (0, 0, 0) by rw [Hrsp.out, Hm.out, decide_eq_true hbig, Bool.or_true]; rfl)
          have i2 : (n : Int) < (m : Int) + 1 := by omega
          go_wp2
          go_ret3
          exact ⟨by rw [Hz.out]; rfl, rfl⟩
        · have hkn : k = n - 1 := by omega
          have Hz := Lib.hid (show rsp (b :: r) = (lo, hi, n) by
            rw [Hrsp.out, Hm.out, decide_eq_false hbig, Bool.or_false, any_take_none (fun j b' hj hb' => hid.out j b' (by omega) hb'), ← hkn, Hlo.out, Hhi.out]
            rfl)
          clear hkn
          have i2 : ¬ (n : Int) < (m : Int) + 1 := by omega
          go_wp2
          go_ret3
          exact ⟨by rw [Hz.out]; rfl, rfl⟩
end Go.Proofs.YtoilcigmpeaedaaGreatDoor.Utf

namespace Go.Proofs.YtoilcigmpeaedaaGreatDoor.Utf

theorem fits_1 (x : Nat) : fitsB (x : Int) ((1 : Nat) : Int) = decide (x < 128) := by
  simp only [fitsB, chk]
  rcases cl_cases (x : Int) with ⟨h1, h2⟩ | ⟨h1, h1', h2⟩ | ⟨h1, h1', h2⟩ | ⟨h1, h2⟩ <;> (rw [h2, Bool.eq_iff_iff]; simp <;> omega)
theorem fits_2 (x : Nat) : fitsB (x : Int) ((2 : Nat) : Int) = decide (128 ≤ x ∧ x < 2048) := by
  simp only [fitsB, chk]
  rcases cl_cases (x : Int) with ⟨h1, h2⟩ | ⟨h1, h1', h2⟩ | ⟨h1, h1', h2⟩ | ⟨h1, h2⟩ <;> (rw [h2, Bool.eq_iff_iff]; simp <;> omega)
theorem fits_3 (x : Nat) : fitsB (x : Int) ((3 : Nat) : Int) = decide (2048 ≤ x ∧ x < 65536 ∧ (x < 55296 ∨ 57343 < x)) := by
  simp only [fitsB, chk]
  rcases cl_cases (x : Int) with ⟨h1, h2⟩ | ⟨h1, h1', h2⟩ | ⟨h1, h1', h2⟩ | ⟨h1, h2⟩ <;> (rw [h2, Bool.eq_iff_iff]; simp <;> omega)
theorem fits_4 (x : Nat) : fitsB (x : Int) ((4 : Nat) : Int) = decide (65536 ≤ x ∧ x ≤ 1114111) := by
  simp only [fitsB, chk]
  rcases cl_cases (x : Int) with ⟨h1, h2⟩ | ⟨h1, h1', h2⟩ | ⟨h1, h1', h2⟩ | ⟨h1, h2⟩ <;> (rw [h2, Bool.eq_iff_iff]; simp <;> omega)

theorem sp_in (v : Nat) (r : List UInt8) (h : r.any notc = false) (k : Nat) : sp v r k = if k ≤ r.length then (val v (r.take k), val v (r.take k)) else (val v r * 64 ^ (k - r.length), val v r * 64 ^ (k - r.length) + (64 ^ (k - r.length) - 1)) := by
  induction k with
  | zero => simp [sp, val]
  | succ k ih =>
    simp only [sp]
    rw [ih]
    by_cases hk : k + 1 ≤ r.length
    · rw [if_pos (show k ≤ r.length by omega), if_pos hk]
      obtain ⟨b, hb⟩ : ∃ b, r[k]? = some b := ⟨r[k]'(by omega), by simp⟩
      rw [hb, val_take_succ v r k b hb]
      have hn : notc b = false := by
        rw [List.any_eq_false] at h
        simpa using h b (List.mem_of_getElem? hb)
      have hr : 128 ≤ b.toNat ∧ b.toNat < 192 := by
        simp only [notc, Bool.not_eq_false', Bool.and_eq_true, decide_eq_true_eq] at hn
        exact hn
      have e : b.toNat - 128 = b.toNat % 64 := by omega
      simp only [e]
    · rw [if_neg hk, List.getElem?_eq_none (show r.length ≤ k by omega)]
      by_cases hk2 : k ≤ r.length
      · have e : k = r.length := by omega
        subst e
        rw [if_pos hk2]
        simp
      · rw [if_neg hk2]
        have e : k + 1 - r.length = (k - r.length) + 1 := by omega
        rw [e, Nat.pow_succ]
        have hp : 0 < 64 ^ (k - r.length) := Nat.pow_pos (by omega)
        have h3 : val v r * (64 ^ (k - r.length) * 64) = val v r * 64 ^ (k - r.length) * 64 := by rw [Nat.mul_assoc]
        simp only [Prod.mk.injEq]
        omega

theorem val_ge (a : Nat) (l : List UInt8) : a * 64 ^ l.length ≤ val a l := by
  induction l generalizing a with
  | nil => simp [val]
  | cons x r ih =>
    have h := ih (a * 64 + x.toNat % 64)
    simp only [val, List.length_cons, Nat.pow_succ]
    have h2 : (a * 64) * 64 ^ r.length ≤ (a * 64 + x.toNat % 64) * 64 ^ r.length := Nat.mul_le_mul_right _ (by omega)
    have h3 : a * (64 ^ r.length * 64) = (a * 64) * 64 ^ r.length := by rw [Nat.mul_comm (64 ^ r.length) 64, Nat.mul_assoc]
    omega

def least (n : Nat) : Nat := if n = 2 then 128 else if n = 3 then 2048 else if n = 4 then 65536 else 0
def most (n : Nat) : Nat := if n = 1 then 127 else if n = 2 then 2047 else if n = 3 then 65535 else if n = 4 then 1114111 else 0
def inB (n lo hi : Nat) : Bool := decide (max lo (least n) ≤ min hi (most n) ∧ ¬ (55296 ≤ max lo (least n) ∧ min hi (most n) ≤ 57343))
theorem ends_tell (n d x : Nat) (h1 : 1 ≤ n) (h2 : n ≤ 4) (h3 : d < n) :
    (fitsB ((x * 64 ^ d : Nat) : Int) (n : Int) || fitsB ((x * 64 ^ d + (64 ^ d - 1) : Nat) : Int) (n : Int)) = inB n (x * 64 ^ d) (x * 64 ^ d + (64 ^ d - 1)) := by
  rcases (show (n = 1 ∧ d = 0) ∨ (n = 2 ∧ d = 0) ∨ (n = 2 ∧ d = 1) ∨ (n = 3 ∧ d = 0) ∨ (n = 3 ∧ d = 1) ∨ (n = 3 ∧ d = 2) ∨ (n = 4 ∧ d = 0) ∨ (n = 4 ∧ d = 1) ∨ (n = 4 ∧ d = 2) ∨ (n = 4 ∧ d = 3) by omega) with
    ⟨rfl, rfl⟩ | ⟨rfl, rfl⟩ | ⟨rfl, rfl⟩ | ⟨rfl, rfl⟩ | ⟨rfl, rfl⟩ | ⟨rfl, rfl⟩ | ⟨rfl, rfl⟩ | ⟨rfl, rfl⟩ | ⟨rfl, rfl⟩ | ⟨rfl, rfl⟩
  all_goals
    simp only [fits_1, fits_2, fits_3, fits_4, inB, least, most]
    rw [Bool.eq_iff_iff]
    simp only [Bool.or_eq_true, decide_eq_true_eq, Nat.reducePow, Nat.reduceSub, Nat.reduceEqDiff, if_true, if_false]
    omega

theorem rn_fl (b : UInt8) (h : rn b ≠ 0) : rn b = fl b ∧ rv b = b.toNat - mk (fl b) := by
  have := b.toNat_lt
  unfold rn at h ⊢
  unfold rv
  by_cases h1 : b.toNat < 128
  · rw [fl_1 b (by omega), if_pos h1, if_pos h1]; simp [mk]
  · rw [if_neg h1] at h ⊢
    rw [if_neg h1]
    by_cases h2 : b.toNat < 192
    · rw [if_pos h2] at h; exact absurd rfl h
    · rw [if_neg h2] at h ⊢
      rw [if_neg h2]
      by_cases h3 : b.toNat < 224
      · rw [fl_2 b (by omega) h3, if_pos h3, if_pos h3]; simp [mk]
      · rw [if_neg h3] at h ⊢
        rw [if_neg h3]
        by_cases h4 : b.toNat < 240
        · rw [fl_3 b (by omega) h4, if_pos h4, if_pos h4]; simp [mk]
        · rw [if_neg h4] at h ⊢
          rw [if_neg h4]
          by_cases h5 : b.toNat < 248
          · rw [fl_4 b (by omega), if_pos h5, if_pos h5]; simp [mk]
          · rw [if_neg h5] at h; exact absurd rfl h
/-- a first byte that announces nothing begins nothing -/
theorem rn_zero (b : UInt8) (r : List UInt8) (h : rn b = 0) (hl : r.length + 1 ≤ fl b) : begB (b :: r) = false := by
  have hb := b.toNat_lt
  have hr : (128 ≤ b.toNat ∧ b.toNat < 192) ∨ 248 ≤ b.toNat := by
    unfold rn at h
    by_cases h1 : b.toNat < 128
    · rw [if_pos h1] at h; omega
    · rw [if_neg h1] at h
      by_cases h2 : b.toNat < 192
      · omega
      · rw [if_neg h2] at h
        by_cases h3 : b.toNat < 224
        · rw [if_pos h3] at h; omega
        · rw [if_neg h3] at h
          by_cases h4 : b.toNat < 240
          · rw [if_pos h4] at h; omega
          · rw [if_neg h4] at h
            by_cases h5 : b.toNat < 248
            · rw [if_pos h5] at h; omega
            · omega
  rcases hr with ⟨h1, h2⟩ | h1
  · have f1 := fl_1 b h2
    rw [f1] at hl
    obtain rfl : r = [] := List.eq_nil_of_length_eq_zero (by omega)
    simp [begB, low, high, f1, val, mk]
    have e1 := fits_1 b.toNat
    have e2 : decide (b.toNat < 128) = false := decide_eq_false (by omega)
    rw [e2] at e1
    exact e1
  · have f1 := fl_4 b (by omega)
    have hv : 8 ≤ b.toNat - 240 := by omega
    have hlow : 2097152 ≤ low (b :: r) := by
      have h3 := val_ge (b.toNat - 240) r
      have hm : mk 4 = 240 := rfl
      simp only [low, f1, hm]
      have h4 : 8 * 64 ^ r.length * 64 ^ (4 - (r.length + 1)) ≤ val (b.toNat - 240) r * 64 ^ (4 - (r.length + 1)) := Nat.mul_le_mul_right _ (Nat.le_trans (Nat.mul_le_mul_right _ hv) h3)
      rw [Nat.mul_assoc, ← Nat.pow_add] at h4
      rw [f1] at hl
      have e : r.length + (4 - (r.length + 1)) = 3 := by omega
      rw [e] at h4
      omega
    have hhigh : 2097152 ≤ high (b :: r) := by simp only [high]; omega
    have e1 : fitsB ((low (b :: r) : Nat) : Int) ((4 : Nat) : Int) = false := by rw [fits_4]; exact decide_eq_false (by omega)
    have e2 : fitsB ((high (b :: r) : Nat) : Int) ((4 : Nat) : Int) = false := by rw [fits_4]; exact decide_eq_false (by omega)
    simp only [begB, f1, e1, e2]
    simp

def goesB (bs : List UInt8) : Bool :=
  match bs with
  | [] => false
  | b :: r => decide (r.length + 1 ≤ fl b) && begB (b :: r)
def wholeB (bs : List UInt8) : Bool :=
  match bs with
  | [] => false
  | b :: r => goesB (b :: r) && decide (r.length + 1 = fl b)
theorem goes_zero (bs : List UInt8) (h : (rsp bs).2.2 = 0) : goesB bs = false := by
  cases bs with
  | nil => rfl
  | cons b r =>
    by_cases hl : r.length + 1 ≤ fl b
    · simp only [goesB, decide_eq_true hl, Bool.true_and]
      by_cases hz : rn b = 0
      · exact rn_zero b r hz hl
      · obtain ⟨e1, e2⟩ := rn_fl b hz
        simp only [rsp] at h
        rw [e1] at h
        have hd : decide (fl b < r.length + 1) = false := decide_eq_false (by omega)
        rw [hd, Bool.or_false] at h
        have ht : r.take (fl b - 1) = r := List.take_of_length_le (by omega)
        rw [ht] at h
        cases ha : r.any notc with
        | true => simp [begB, ha]
        | false =>
          rw [ha] at h
          simp only [Bool.false_eq_true, if_false] at h
          omega
    · simp [goesB, hl]
theorem goes_in (bs : List UInt8) (lo hi n : Nat) (h : rsp bs = (lo, hi, n)) (hn : n ≠ 0) : n ≤ 4 ∧ goesB bs = inB n lo hi ∧ wholeB bs = (inB n lo hi && decide (bs.length = n)) ∧ lo = low bs := by
  cases bs with
  | nil => simp [rsp] at h; omega
  | cons b r =>
    simp only [rsp] at h
    by_cases hc : ((r.take (rn b - 1)).any notc || decide (rn b < r.length + 1)) = true
    · rw [if_pos hc] at h
      cases h
      exact absurd rfl hn
    · rw [if_neg hc] at h
      simp only [Bool.or_eq_true, decide_eq_true_eq, not_or] at hc
      have hz : rn b ≠ 0 := by
        intro hz
        simp only [hz, Prod.mk.injEq] at h
        exact hn h.2.2.symm
      obtain ⟨e1, e2⟩ := rn_fl b hz
      rw [e1, e2] at h
      rw [e1] at hc
      have ht : r.take (fl b - 1) = r := List.take_of_length_le (by omega)
      rw [ht] at hc
      have ha : r.any notc = false := by simpa using hc.1
      have hf := fl_bd b
      rw [sp_in _ r ha] at h
      simp only [Prod.mk.injEq] at h
      obtain ⟨h1, h2, h3⟩ := h
      have hlow : low (b :: r) = val (b.toNat - mk (fl b)) r * 64 ^ (fl b - (r.length + 1)) := rfl
      have hd : fl b - 1 - r.length = fl b - (r.length + 1) := by omega
      have hlo : lo = low (b :: r) ∧ hi = high (b :: r) := by
        by_cases hle : fl b - 1 ≤ r.length
        · have e : fl b - (r.length + 1) = 0 := by omega
          rw [if_pos hle] at h1 h2
          rw [ht] at h1 h2
          rw [show high (b :: r) = low (b :: r) + (64 ^ (fl b - (r.length + 1)) - 1) from rfl, hlow, e]
          simp only [] at h1 h2
          simp; omega
        · rw [if_neg hle] at h1 h2
          rw [show high (b :: r) = low (b :: r) + (64 ^ (fl b - (r.length + 1)) - 1) from rfl, hlow, ← hd]
          exact ⟨h1.symm, h2.symm⟩
      have key := ends_tell (fl b) (fl b - (r.length + 1)) (val (b.toNat - mk (fl b)) r) hf.1 hf.2 (by omega)
      have hgo : goesB (b :: r) = inB n lo hi := by
        simp only [goesB, decide_eq_true (show r.length + 1 ≤ fl b by omega), Bool.true_and, begB, ha, Bool.not_false]
        rw [← h3, hlo.1, hlo.2, show high (b :: r) = low (b :: r) + (64 ^ (fl b - (r.length + 1)) - 1) from rfl, hlow]
        exact key
      refine ⟨by omega, hgo, ?_, hlo.1⟩
      simp only [wholeB, hgo, List.length_cons, h3]
end Go.Proofs.YtoilcigmpeaedaaGreatDoor.Utf

namespace Go.Proofs.YtoilcigmpeaedaaGreatDoor.Utf
open Go.RowKit

theorem rbb {a b c d : Bool} (h1 : a = c) (h2 : b = d) : Ending.returned (.tuple #[.bool a, .bool b]) = .returned (.tuple #[.bool c, .bool d]) := by rw [h1, h2]

theorem w_t (n0 n : Nat) {q : Bool} (hq : q = true) : ((n0 : Int) == (n : Int)) = (q && decide (n0 = n)) := by
  subst hq
  rw [Bool.true_and, Bool.eq_iff_iff, beq_iff_eq, decide_eq_true_eq]
  omega
theorem not_dec {p : Prop} [Decidable p] (h : ¬ p) : (!decide p) = true := by rw [decide_eq_false h]; rfl
theorem w_t2 {p : Prop} [Decidable p] (h : ¬ p) (n0 n : Nat) : (!decide p && ((n0 : Int) == (n : Int))) = (true && decide (n0 = n)) := by
  rw [decide_eq_false h]; exact w_t n0 n rfl
theorem pre_goes (b : UInt8) (r : List UInt8) : preB (b :: r) = (goesB (b :: r) && !wholeB (b :: r)) := by
  simp only [preB, wholeB, goesB]
  by_cases h1 : r.length + 1 < fl b
  · rw [decide_eq_true h1, decide_eq_true (show r.length + 1 ≤ fl b by omega), decide_eq_false (show ¬ r.length + 1 = fl b by omega)]
    cases begB (b :: r) <;> rfl
  · rw [decide_eq_false h1]
    by_cases h2 : r.length + 1 = fl b
    · rw [decide_eq_true h2, decide_eq_true (show r.length + 1 ≤ fl b by omega)]
      cases begB (b :: r) <;> rfl
    · rw [decide_eq_false (show ¬ r.length + 1 ≤ fl b by omega)]
      rfl
theorem rsp_lt (bs : List UInt8) (lo hi n : Nat) (h : rsp bs = (lo, hi, n)) : lo ≤ 40000000 ∧ hi ≤ 40000000 := by
  cases bs with
  | nil => simp [rsp] at h; omega
  | cons b r =>
    simp only [rsp] at h
    by_cases hc : ((r.take (rn b - 1)).any notc || decide (rn b < r.length + 1)) = true
    · rw [if_pos hc] at h; cases h; omega
    · rw [if_neg hc] at h
      have ha : (r.take (rn b - 1)).any notc = false := by
        cases hx : (r.take (rn b - 1)).any notc with
        | false => rfl
        | true => rw [hx] at hc; exact absurd rfl hc
      have hk : ∀ j b', j < rn b - 1 → r[j]? = some b' → notc b' = false := fun j b' hj hb => by
        rw [List.any_eq_false] at ha
        have := ha b' (List.mem_of_getElem? (i := j) (by rw [List.getElem?_take_of_lt hj]; exact hb))
        simpa using this
      obtain ⟨q1, q2⟩ := sp_lt (rv b) r (rn b - 1) hk
      have hv := rv_lt b
      have hnl := rn_le b
      have h6 : 64 ^ (rn b - 1) ≤ 64 ^ 3 := Nat.pow_le_pow_right (by omega) (by omega)
      have h5 := Nat.mul_le_mul (show rv b + 1 ≤ 128 by omega) h6
      simp only [Prod.mk.injEq] at h
      omega

set_option maxRecDepth 100000 in
set_option maxHeartbeats 4000000 in
theorem rgoes_any (A : Option Addr) (c n0 : Nat) (bs : List UInt8) (hn : bs.length = n0) (w : World) (h : Rd w A (cB bs)) (hs : bs.length ≤ 1000000) :
    Calls Tryz.prog 102 #[.slice A n0 c] w fun e w' => e = .returned (.tuple #[.bool (goesB bs), .bool (wholeB bs)]) ∧ Below w.heap.size w w' := by
  have H := Lib.hid h; clear h
  have Hn0 := Lib.hid hn; clear hn
  obtain ⟨lo, hi, n, hr⟩ : ∃ lo hi n, rsp bs = (lo, hi, n) := ⟨_, _, _, rfl⟩
  have Hr := Lib.hid hr
  by_cases hz : n = 0
  · subst hz
    have Hg := Lib.hid (goes_zero bs (by rw [hr]))
    have Hw := Lib.hid (show wholeB bs = false by
      cases bs with
      | nil => rfl
      | cons b r => simp only [wholeB, Hg.out]; rfl)
    clear hr
    go_enter Tryz.func102, Tryz.ntmps102
    go_wp2_with fail
    refine (rspan_any A c n0 bs Hn0.out _ H.out hs).mono ?_
    rintro e w' ⟨rfl, rfl⟩
    rw [Hr.out]
    go_wp2
    go_ret2
    exact ⟨rbb Hg.out.symm Hw.out.symm, Below.refl _ _⟩
  · obtain ⟨hn4, hg, hw, hlw⟩ := goes_in bs lo hi n hr hz
    clear hlw
    rw [Hn0.out] at hw
    have hlim : lo ≤ 40000000 ∧ hi ≤ 40000000 := rsp_lt bs lo hi n hr
    have Hg := Lib.hid hg; clear hg
    have Hw := Lib.hid hw; clear hw hr
    rcases (show n = 4 ∨ n = 1 ∨ n = 2 ∨ n = 3 by omega) with rfl | rfl | rfl | rfl
    · clear hz hn4
      rcases (show (lo < 65536 ∧ hi ≤ 1114111 ∧ 65536 ≤ hi) ∨ (lo < 65536 ∧ hi ≤ 1114111 ∧ hi < 65536) ∨ (lo < 65536 ∧ 1114111 < hi) ∨ (65536 ≤ lo ∧ hi ≤ 1114111 ∧ lo ≤ hi) ∨ (65536 ≤ lo ∧ hi ≤ 1114111 ∧ hi < lo) ∨ (65536 ≤ lo ∧ 1114111 < hi ∧ lo ≤ 1114111) ∨ (65536 ≤ lo ∧ 1114111 < hi ∧ 1114111 < lo) by omega) with ⟨p1, p2, p3⟩ | ⟨p1, p2, p3⟩ | ⟨p1, p2⟩ | ⟨p1, p2, p3⟩ | ⟨p1, p2, p3⟩ | ⟨p1, p2, p3⟩ | ⟨p1, p2, p3⟩
      · go_enter Tryz.func102, Tryz.ntmps102
        go_wp2_with fail
        refine (rspan_any A c n0 bs Hn0.out _ H.out hs).mono ?_
        rintro e w' ⟨rfl, rfl⟩
        rw [Hr.out]
        go_wp2_with fail
        go_quiet (fail)
        go_wp2
        go_ret2
        have hin : goesB bs = true := by
          rw [Hg.out]; unfold inB; exact decide_eq_true (by simp only [least, most, Nat.reduceEqDiff, if_true, if_false]; omega)
        exact ⟨rbb (by first | exact hin.symm | (rw [hin]; exact not_dec (by omega))) (by rw [Hw.out, ← Hg.out, hin]; first | exact w_t _ _ (by rfl) | exact w_t2 (by omega) _ _), below_drewN' (((Below.refl _ _).alloc (Nat.le_refl _) _).alloc (by simp) _) _⟩
      · have d1 : decide ((65536 : Int) ≤ (hi : Int)) = false := decide_eq_false (by omega)
        go_enter Tryz.func102, Tryz.ntmps102
        go_wp2_with fail
        refine (rspan_any A c n0 bs Hn0.out _ H.out hs).mono ?_
        rintro e w' ⟨rfl, rfl⟩
        rw [Hr.out]
        go_wp2_with fail
        go_quiet (fail)
        go_wp2
        go_ret2
        have hin : goesB bs = false := by
          rw [Hg.out]; unfold inB; exact decide_eq_false (by simp only [least, most, Nat.reduceEqDiff, if_true, if_false]; omega)
        exact ⟨rbb hin.symm (by rw [Hw.out, ← Hg.out, hin]; rfl), below_drewN' (((Below.refl _ _).alloc (Nat.le_refl _) _).alloc (by simp) _) _⟩
      · go_enter Tryz.func102, Tryz.ntmps102
        go_wp2_with fail
        refine (rspan_any A c n0 bs Hn0.out _ H.out hs).mono ?_
        rintro e w' ⟨rfl, rfl⟩
        rw [Hr.out]
        go_wp2_with fail
        go_quiet (fail)
        go_wp2
        go_ret2
        have hin : goesB bs = true := by
          rw [Hg.out]; unfold inB; exact decide_eq_true (by simp only [least, most, Nat.reduceEqDiff, if_true, if_false]; omega)
        exact ⟨rbb (by first | exact hin.symm | (rw [hin]; exact not_dec (by omega))) (by rw [Hw.out, ← Hg.out, hin]; first | exact w_t _ _ (by rfl) | exact w_t2 (by omega) _ _), below_drewN' (((Below.refl _ _).alloc (Nat.le_refl _) _).alloc (by simp) _) _⟩
      · have d2 : decide ((hi : Int) ≤ 57343) = false := decide_eq_false (by omega)
        go_enter Tryz.func102, Tryz.ntmps102
        go_wp2_with fail
        refine (rspan_any A c n0 bs Hn0.out _ H.out hs).mono ?_
        rintro e w' ⟨rfl, rfl⟩
        rw [Hr.out]
        go_wp2_with fail
        go_quiet (fail)
        go_wp2
        go_ret2
        have hin : goesB bs = true := by
          rw [Hg.out]; unfold inB; exact decide_eq_true (by simp only [least, most, Nat.reduceEqDiff, if_true, if_false]; omega)
        exact ⟨rbb (by first | exact hin.symm | (rw [hin]; exact not_dec (by omega))) (by rw [Hw.out, ← Hg.out, hin]; first | exact w_t _ _ (by rfl) | exact w_t2 (by omega) _ _), below_drewN' (((Below.refl _ _).alloc (Nat.le_refl _) _).alloc (by simp) _) _⟩
      · have d1 : decide ((lo : Int) ≤ (hi : Int)) = false := decide_eq_false (by omega)
        have d2 : decide (lo ≤ hi) = false := decide_eq_false (by omega)
        go_enter Tryz.func102, Tryz.ntmps102
        go_wp2_with fail
        refine (rspan_any A c n0 bs Hn0.out _ H.out hs).mono ?_
        rintro e w' ⟨rfl, rfl⟩
        rw [Hr.out]
        go_wp2_with fail
        go_quiet (fail)
        go_wp2
        go_ret2
        have hin : goesB bs = false := by
          rw [Hg.out]; unfold inB; exact decide_eq_false (by simp only [least, most, Nat.reduceEqDiff, if_true, if_false]; omega)
        exact ⟨rbb hin.symm (by rw [Hw.out, ← Hg.out, hin]; rfl), below_drewN' (((Below.refl _ _).alloc (Nat.le_refl _) _).alloc (by simp) _) _⟩
      · go_enter Tryz.func102, Tryz.ntmps102
        go_wp2_with fail
        refine (rspan_any A c n0 bs Hn0.out _ H.out hs).mono ?_
        rintro e w' ⟨rfl, rfl⟩
        rw [Hr.out]
        go_wp2_with fail
        go_quiet (fail)
        go_wp2
        go_ret2
        have hin : goesB bs = true := by
          rw [Hg.out]; unfold inB; exact decide_eq_true (by simp only [least, most, Nat.reduceEqDiff, if_true, if_false]; omega)
        exact ⟨rbb (by first | exact hin.symm | (rw [hin]; exact not_dec (by omega))) (by rw [Hw.out, ← Hg.out, hin]; first | exact w_t _ _ (by rfl) | exact w_t2 (by omega) _ _), below_drewN' (((Below.refl _ _).alloc (Nat.le_refl _) _).alloc (by simp) _) _⟩
      · have d1 : decide ((lo : Int) ≤ 1114111) = false := decide_eq_false (by omega)
        go_enter Tryz.func102, Tryz.ntmps102
        go_wp2_with fail
        refine (rspan_any A c n0 bs Hn0.out _ H.out hs).mono ?_
        rintro e w' ⟨rfl, rfl⟩
        rw [Hr.out]
        go_wp2_with fail
        go_quiet (fail)
        go_wp2
        go_ret2
        have hin : goesB bs = false := by
          rw [Hg.out]; unfold inB; exact decide_eq_false (by simp only [least, most, Nat.reduceEqDiff, if_true, if_false]; omega)
        exact ⟨rbb hin.symm (by rw [Hw.out, ← Hg.out, hin]; rfl), below_drewN' (((Below.refl _ _).alloc (Nat.le_refl _) _).alloc (by simp) _) _⟩
    all_goals
      clear hz hn4
      go_enter Tryz.func102, Tryz.ntmps102
      go_wp2_with fail
      refine (rspan_any A c n0 bs Hn0.out _ H.out hs).mono ?_
      rintro e w' ⟨rfl, rfl⟩
      rw [Hr.out]
      go_wp2_with fail
      go_quiet (fail)
      go_wp2
      all_goals
        go_ret2
        first
          | (have hin : goesB bs = true := by
               rw [Hg.out]; unfold inB; exact decide_eq_true (by simp only [least, most, Nat.reduceEqDiff, if_true, if_false]; omega)
             exact ⟨rbb (by first | exact hin.symm | (rw [hin]; exact not_dec (by omega))) (by rw [Hw.out, ← Hg.out, hin]; first | exact w_t _ _ (by rfl) | exact w_t2 (by omega) _ _), below_drewN' (((Below.refl _ _).alloc (Nat.le_refl _) _).alloc (by simp) _) _⟩)
          | (have hin : goesB bs = false := by
               rw [Hg.out]; unfold inB; exact decide_eq_false (by simp only [least, most, Nat.reduceEqDiff, if_true, if_false]; omega)
             exact ⟨rbb hin.symm (by rw [Hw.out, ← Hg.out, hin]; rfl), below_drewN' (((Below.refl _ _).alloc (Nat.le_refl _) _).alloc (by simp) _) _⟩)

theorem rright_any (A : Option Addr) (c n0 : Nat) (bs : List UInt8) (hn : bs.length = n0) (w : World) (h : Rd w A (cB bs)) (hs : bs.length ≤ 1000000) :
    Calls Tryz.prog 101 #[.slice A n0 c] w fun e w' => e = .returned (.bool (bs.isEmpty || preB bs)) ∧ Below w.heap.size w w' := by
  have H := Lib.hid h; clear h
  have Hn0 := Lib.hid hn
  cases bs with
  | nil =>
    obtain rfl : n0 = 0 := hn.symm
    clear hn
    go_enter Tryz.func101, Tryz.ntmps101
    go_wp2_with fail
    refine (rgoes_any A c 0 [] rfl _ H.out hs).mono ?_
    rintro e w1 ⟨rfl, hb1⟩
    go_wp2
    go_ret
    exact ⟨rfl, hb1⟩
  | cons b r =>
    have t0 : ((n0 : Int) == 0) = false := by rw [beq_eq_false_iff_ne, ← hn]; simp; omega
    clear hn
    have hpre := pre_goes b r
    obtain ⟨g, hg⟩ : ∃ g, goesB (b :: r) = g := ⟨_, rfl⟩
    obtain ⟨v, hv⟩ : ∃ v, wholeB (b :: r) = v := ⟨_, rfl⟩
    rw [hg, hv] at hpre
    have Hg := Lib.hid hg; clear hg
    have Hv := Lib.hid hv; clear hv
    have Hf := Lib.hid (show ((b :: r).isEmpty || preB (b :: r)) = (g && !v) by rw [hpre]; rfl); clear hpre
    go_enter Tryz.func101, Tryz.ntmps101
    go_wp2_with fail
    refine (rgoes_any A c n0 (b :: r) Hn0.out _ H.out hs).mono ?_
    rintro e w1 ⟨rfl, hb1⟩
    rw [Hg.out, Hv.out]
    cases g
    · go_wp2
      go_ret
      exact ⟨by rw [Hf.out]; rfl, hb1⟩
    · go_wp2
      go_ret
      exact ⟨by rw [Hf.out]; rfl, hb1⟩

set_option maxRecDepth 100000 in
theorem rflush_any (A : Option Addr) (c n0 : Nat) (bs : List UInt8) (hn : bs.length = n0) (w : World) (h : Rd w A (cB bs)) (hs : bs.length ≤ 1000000) :
    Calls Tryz.prog 85 #[.slice A n0 c] w (IntsPost (flushL bs) w) := by
  have H := Lib.hid h; clear h
  have Hn0 := Lib.hid hn
  cases bs with
  | nil =>
    obtain rfl : n0 = 0 := hn.symm
    clear hn
    go_enter Tryz.func85, Tryz.ntmps85
    go_wp2
    go_ret
    exact ⟨none, 0, rfl, Rd.nil _ _, Below.refl _ _, fun _ h => by cases h⟩
  | cons b r =>
    have t0 : (0 : Int) < (n0 : Int) := by rw [← hn, List.length_cons]; omega
    clear hn
    obtain ⟨g, hg⟩ : ∃ g, preB (b :: r) = g := ⟨_, rfl⟩
    have Hg := Lib.hid hg; clear hg
    have Hf := Lib.hid (show flushL (b :: r) = if g then [65533] else [] by simp only [flushL, Hg.out])
    go_enter Tryz.func85, Tryz.ntmps85
    go_wp2_with fail
    refine (rright_any A c n0 (b :: r) Hn0.out _ H.out hs).mono ?_
    rintro e w1 ⟨rfl, hb1⟩
    rw [show ((b :: r).isEmpty || preB (b :: r)) = g by rw [Hg.out]; rfl]
    cases g
    · go_wp2
      go_ret
      refine ⟨none, 0, ?_, ?_, hb1, fun _ h => by cases h⟩
      · rw [Hf.out]; rfl
      · rw [Hf.out]; exact Rd.nil _ _
    · go_wp2
      go_ret
      refine ⟨some ⟨w1.heap.size, 0, none⟩, 1, ?_, ?_, hb1.alloc hb1.size _, fun _ h => by cases h; exact hb1.size⟩
      · rw [Hf.out]; rfl
      · rw [Hf.out]; exact Rd.one _ _ _
end Go.Proofs.YtoilcigmpeaedaaGreatDoor.Utf
