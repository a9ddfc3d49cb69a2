/-
  Contracts of the reference's small functions: has, signs, text.
-/
import Derived.Test.YtefkbdmgplfgoaaGreatDoorStaA
namespace Go.Proofs.YtefkbdmgplfgoaaGreatDoor.Sta
open Go.RowKit Utf Par

theorem hasB_hit {n : Int} {l : List Int} {k : Nat} (h : l[k]? = some n) : hasB n l = true := decide_eq_true (List.mem_of_getElem? h)
theorem not_take_succ {n z : Int} {l : List Int} {k : Nat} (h : l[k]? = some z) (hn : n ∉ l.take k) (hz : z ≠ n) : n ∉ l.take (k + 1) := by
  rw [List.take_add_one, h]
  simp only [Option.toList_some, List.mem_append, List.mem_singleton, not_or]
  exact ⟨hn, fun e => hz e.symm⟩
set_option maxRecDepth 100000 in
set_option maxHeartbeats 2000000 in
theorem has_any (n : Int) (A : Option Addr) (m c : Nat) (l : List Int) (w : World) (hm : m = l.length) (h : Rd w A (cI l)) (hl : m ≤ 1000) :
    Calls Tryz.prog 51 #[.int .i64 n, .slice A m c] w fun e w' => e = .returned (.bool (hasB n l)) ∧ Below w.heap.size w w' := by
  have HX := Lib.hid h; clear h
  have HM := Lib.hid hm; clear hm
  go_enter Tryz.func51, Tryz.ntmps51
  go_wp2
  go_loopw [5] (fun i wr => ∃ k : Nat, k ≤ m ∧ i = .int .i64 k ∧ Hid (n ∉ l.take k ∧ Below w.heap.size w wr)) (fun i _ => m - (intOf i).toNat)
  case atStart => exact ⟨0, Nat.zero_le _, rfl, by simp, Below.refl _ _⟩
  case round =>
    obtain ⟨k, hk, rfl, hid⟩ := hrel
    by_cases hlt : k < m
    · obtain ⟨z, hz⟩ := get_some l k (by rw [← HM.out]; exact hlt)
      obtain ⟨ad, rfl, _, hc⟩ := (HX.out.below hid.out.2) k _ (cI_at l k z hz)
      have Hz := Lib.hid hz; clear hz
      have i1 : (0 : Int) ≤ (k : Int) := by omega
      have i2 : (k : Int) < (m : Int) := by omega
      by_cases e : z = n
      · subst e
        go_wp2
        go_ret
        refine ⟨?_, hid.out.2⟩
        rw [hasB_hit Hz.out]
        rfl
      · have e1 : (z == n) = false := by simpa using e
        go_wp2
        exact ⟨⟨k + 1, by omega, by go_num, not_take_succ Hz.out hid.out.1 e, hid.out.2⟩, by simp [intOf]; omega⟩
    · go_wp2
      go_ret
      refine ⟨?_, hid.out.2⟩
      have he := hid.out.1
      rw [List.take_of_length_le (by rw [← HM.out]; omega)] at he
      rw [show hasB n l = false from decide_eq_false he]
      rfl
def sigC (c : UInt8) : Bool := decide (32 ≤ c.toNat) && decide (c.toNat ≤ 47)
def texC (c : UInt8) : Bool := decide (32 ≤ c.toNat) && !decide (c.toNat = 127)
theorem all_take {α : Type} (p : α → Bool) (l : List α) (k : Nat) (x : α) (h : l[k]? = some x) : (l.take (k + 1)).all p = ((l.take k).all p && p x) := by
  rw [List.take_add_one, h]; simp
theorem all_miss {α : Type} (p : α → Bool) (l : List α) (k : Nat) (x : α) (h : l[k]? = some x) (hp : p x = false) : l.all p = false := by
  rw [List.all_eq_false]
  exact ⟨x, List.mem_of_getElem? h, by simp [hp]⟩
set_option maxRecDepth 100000 in
set_option maxHeartbeats 2000000 in
theorem signs_any (s : ByteArray) (lo hi : Nat) (w : World) (hs : s.size ≤ 1000000) :
    Calls Tryz.prog 54 #[.string s, .int .i64 lo, .int .i64 hi] w fun e w' => e = .returned (.bool (sigB s lo hi)) ∧ Below w.heap.size w w' := by
  have hlen : s.data.toList.length = s.size := by simp
  have HL := Lib.hid hlen; clear hlen
  go_enter Tryz.func54, Tryz.ntmps54
  go_wp2
  go_loopw [7] (fun i wr => ∃ k : Nat, k ≤ s.size ∧ i = .int .i64 k ∧ Hid ((s.data.toList.take k).all sigC = true ∧ Below w.heap.size w wr)) (fun i _ => s.size - (intOf i).toNat)
  case atStart => exact ⟨0, Nat.zero_le _, rfl, by simp, Below.refl _ _⟩
  case round =>
    obtain ⟨k, hk, rfl, hid⟩ := hrel
    by_cases hlt : k < s.size
    · obtain ⟨c, hc⟩ := get_some s.data.toList k (by rw [HL.out]; exact hlt)
      have at1 := fun W => at_str s k c hc W
      have Hc := Lib.hid hc; clear hc
      have i1 : (0 : Int) ≤ (k : Int) := by omega
      have i2 : (k : Int) < (s.size : Int) := by omega
      have miss : sigC c = false → sigB s lo hi = false := fun h => by
        unfold sigB
        rw [show (fun c : UInt8 => decide (32 ≤ c.toNat) && decide (c.toNat ≤ 47)) = sigC from rfl, all_miss sigC _ k c Hc.out h]; rfl
      have HM := Lib.hid miss; clear miss
      by_cases e1 : c.toNat < 32
      · have d1 : decide ((c.toNat : Int) < 32) = true := decide_eq_true (by omega)
        go_wp2
        go_ret
        refine ⟨?_, hid.out.2⟩
        rw [HM.out (by unfold sigC; rw [decide_eq_false (by omega)]; rfl)]
        rfl
      · have d1 : decide ((c.toNat : Int) < 32) = false := decide_eq_false (by omega)
        by_cases e2 : 47 < c.toNat
        · have d2 : decide ((47 : Int) < (c.toNat : Int)) = true := decide_eq_true (by omega)
          go_wp2
          go_ret
          refine ⟨?_, hid.out.2⟩
          rw [HM.out (by unfold sigC; rw [decide_eq_false (show ¬ c.toNat ≤ 47 by omega)]; simp)]
          rfl
        · have d2 : decide ((47 : Int) < (c.toNat : Int)) = false := decide_eq_false (by omega)
          go_wp2
          exact ⟨⟨k + 1, by omega, by go_num, by rw [all_take sigC _ k c Hc.out, hid.out.1]; unfold sigC; rw [decide_eq_true (show 32 ≤ c.toNat by omega), decide_eq_true (show c.toNat ≤ 47 by omega)]; rfl, hid.out.2⟩, by simp [intOf]; omega⟩
    · have he := hid.out.1
      rw [List.take_of_length_le (by rw [HL.out]; omega)] at he
      have HB := Lib.hid (show sigB s lo hi = (decide (lo ≤ s.size) && decide (s.size ≤ hi)) by
        unfold sigB
        rw [show (fun c : UInt8 => decide (32 ≤ c.toNat) && decide (c.toNat ≤ 47)) = sigC from rfl, he]; rfl)
      clear he
      obtain rfl : k = s.size := by omega
      by_cases e1 : lo ≤ s.size
      · have d1 : decide ((lo : Int) ≤ (s.size : Int)) = true := decide_eq_true (by omega)
        go_wp2
        all_goals
          go_ret
          refine ⟨?_, hid.out.2⟩
          rw [HB.out, decide_eq_true e1]
          simp_all
      · have d1 : decide ((lo : Int) ≤ (s.size : Int)) = false := decide_eq_false (by omega)
        go_wp2
        all_goals
          go_ret
          refine ⟨?_, hid.out.2⟩
          rw [HB.out, decide_eq_false e1]
          rfl
set_option maxRecDepth 100000 in
set_option maxHeartbeats 2000000 in
theorem text_any (s : ByteArray) (w : World) (hs : s.size ≤ 1000000) :
    Calls Tryz.prog 55 #[.string s] w fun e w' => e = .returned (.bool (texB s)) ∧ Below w.heap.size w w' := by
  have hlen : s.data.toList.length = s.size := by simp
  have HL := Lib.hid hlen; clear hlen
  go_enter Tryz.func55, Tryz.ntmps55
  go_wp2
  go_loopw [3] (fun i wr => ∃ k : Nat, k ≤ s.size ∧ i = .int .i64 k ∧ Hid ((s.data.toList.take k).all texC = true ∧ Below w.heap.size w wr)) (fun i _ => s.size - (intOf i).toNat)
  case atStart => exact ⟨0, Nat.zero_le _, rfl, by simp, Below.refl _ _⟩
  case round =>
    obtain ⟨k, hk, rfl, hid⟩ := hrel
    by_cases hlt : k < s.size
    · obtain ⟨c, hc⟩ := get_some s.data.toList k (by rw [HL.out]; exact hlt)
      have at1 := fun W => at_str s k c hc W
      have Hc := Lib.hid hc; clear hc
      have i1 : (0 : Int) ≤ (k : Int) := by omega
      have i2 : (k : Int) < (s.size : Int) := by omega
      have miss : texC c = false → texB s = false := fun h => by
        unfold texB
        rw [show (fun c : UInt8 => decide (32 ≤ c.toNat) && !decide (c.toNat = 127)) = texC from rfl, all_miss texC _ k c Hc.out h]; rfl
      have HM := Lib.hid miss; clear miss
      by_cases e1 : c.toNat < 32
      · have d1 : decide ((c.toNat : Int) < 32) = true := decide_eq_true (by omega)
        go_wp2
        go_ret
        refine ⟨?_, hid.out.2⟩
        rw [HM.out (by unfold texC; rw [decide_eq_false (show ¬ 32 ≤ c.toNat by omega)]; rfl)]
        rfl
      · have d1 : decide ((c.toNat : Int) < 32) = false := decide_eq_false (by omega)
        by_cases e2 : c.toNat = 127
        · have d2 : ((c.toNat : Int) == 127) = true := by simp; omega
          go_wp2
          go_ret
          refine ⟨?_, hid.out.2⟩
          rw [HM.out (by unfold texC; rw [decide_eq_true e2]; simp)]
          rfl
        · have d2 : ((c.toNat : Int) == 127) = false := by simp; omega
          go_wp2
          exact ⟨⟨k + 1, by omega, by go_num, by rw [all_take texC _ k c Hc.out, hid.out.1]; unfold texC; rw [decide_eq_true (show 32 ≤ c.toNat by omega), decide_eq_false e2]; rfl, hid.out.2⟩, by simp [intOf]; omega⟩
    · have he := hid.out.1
      rw [List.take_of_length_le (by rw [HL.out]; omega)] at he
      have HB := Lib.hid (show texB s = decide (s.size ≤ 512) by
        unfold texB
        rw [show (fun c : UInt8 => decide (32 ≤ c.toNat) && !decide (c.toNat = 127)) = texC from rfl, he]; rfl)
      clear he
      obtain rfl : k = s.size := by omega
      by_cases e1 : s.size ≤ 512
      · have d1 : decide ((s.size : Int) ≤ 512) = true := decide_eq_true (by omega)
        go_wp2
        all_goals
          go_ret
          refine ⟨?_, hid.out.2⟩
          rw [HB.out, decide_eq_true e1]
          rfl
      · have d1 : decide ((s.size : Int) ≤ 512) = false := decide_eq_false (by omega)
        go_wp2
        all_goals
          go_ret
          refine ⟨?_, hid.out.2⟩
          rw [HB.out, decide_eq_false e1]
          rfl
end Go.Proofs.YtefkbdmgplfgoaaGreatDoor.Sta
