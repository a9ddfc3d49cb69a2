/-
  Contracts of the program's only, filled, isWhole, all.
-/
import Derived.Test.YtefkbdmgplfgoaaGreatDoorStaW
import Derived.Test.YtefkbdmgplfgoaaGreatDoorParF
import Derived.Deep.QuietTactic
import Derived.BigQuiet
namespace Go.Proofs.YtefkbdmgplfgoaaGreatDoor.Sta
open Go.RowKit Utf Par

def onlV (t : Bool) (n : Int) : Int := if t = true then n else 0
theorem only_any (t : Bool) (n : Int) (w : World) : Calls Tryz.prog 77 #[.bool t, .int .i64 n] w fun e w' => e = .returned (.int .i64 (onlV t n)) ∧ w = w' := by
  unfold onlV
  cases t
  all_goals
    go_enter Tryz.func77, Tryz.ntmps77
    go_wp2
    go_ret
    exact ⟨rfl, rfl⟩
def filN (a b c d e f : Bool) : Int := bits .or .i64 (bits .or .i64 (bits .or .i64 (bits .or .i64 (bits .or .i64 (onlV a 1) (onlV b 2)) (onlV c 4)) (onlV d 8)) (onlV e 16)) (onlV f 32)
theorem bne_zero (x : Nat) : (((x : Nat) : Int) != 0) = !decide (x = 0) := by
  by_cases h : x = 0
  · subst h; rfl
  · rw [decide_eq_false h]; simp; omega
theorem emp_sz (s : ByteArray) : s.toList.isEmpty = sz0 s := by
  rw [← str_eq0, nil_list]
  cases s.toList <;> rfl
set_option maxRecDepth 100000 in
set_option maxHeartbeats 8000000 in
theorem filled_any (st : Int) (au aq : Option Addr) (nu cu nq cq x y : Nat) (it tx : ByteArray) (bad : Bool) (w : World) :
    Calls Tryz.prog 41 #[.agg #[.int .i64 st, .slice au nu cu, .int .u8 (x : Int), .int .u8 (y : Int), .slice aq nq cq, .string it, .string tx, .bool bad]] w fun e w' => e = .returned (.int .i64 (filN (decide (0 < nu)) (!decide (x = 0)) (decide (0 < nq)) (!sz0 it) (!decide (y = 0)) (!sz0 tx))) ∧ Below w.heap.size w w' := by
  rw [← emp_sz, ← emp_sz, ← bne_zero, ← bne_zero]
  go_enter Tryz.func41, Tryz.ntmps41
  go_wp2_with fail
  go_quiet ((go_at_call 77; exact (only_any _ _ _).mono fun _ _ ⟨he, hm⟩ => ⟨he, _, hm.symm⟩))
  go_wp2
  go_ret
  exact ⟨rfl, below_drewN' (below_box _ _) _⟩
/-- what has led to a state is there -/
def whoB (st : Int) (i b q f : Bool) : Bool :=
  if st = 2 ∨ st = 5 ∨ st = 10 then i else if st = 4 ∨ st = 9 then b || q else if st = 11 ∨ st = 12 then f else true
set_option maxRecDepth 100000 in
set_option maxHeartbeats 8000000 in
theorem whole_any (st : Int) (au aq : Option Addr) (nu cu nq cq x y : Nat) (it tx : ByteArray) (bad : Bool) (w : World) :
    Calls Tryz.prog 42 #[.agg #[.int .i64 st, .slice au nu cu, .int .u8 (x : Int), .int .u8 (y : Int), .slice aq nq cq, .string it, .string tx, .bool bad]] w fun e w' => e = .returned (.bool (whoB st (!sz0 it) (!decide (x = 0)) (decide (0 < nq)) (!decide (y = 0)))) ∧ Below w.heap.size w w' := by
  rw [← emp_sz, ← bne_zero, ← bne_zero]
  by_cases h1 : st = 2 ∨ st = 5 ∨ st = 10
  · rw [show ∀ i b q f, whoB st i b q f = i from fun i b q f => by unfold whoB; rw [if_pos h1]]
    rcases h1 with h | h | h
    all_goals
      subst h
      go_enter Tryz.func42, Tryz.ntmps42
      go_wp2
      go_ret
      exact ⟨rfl, below_box _ _⟩
  · have k1 : (st == 2) = false := by simp; omega
    have k2 : (st == 5) = false := by simp; omega
    have k3 : (st == 10) = false := by simp; omega
    by_cases h2 : st = 4 ∨ st = 9
    · rw [show ∀ i b q f, whoB st i b q f = (b || q) from fun i b q f => by unfold whoB; rw [if_neg h1, if_pos h2]]
      clear h1
      rcases h2 with h | h
      all_goals
        subst h
        clear k1 k2 k3
        go_enter Tryz.func42, Tryz.ntmps42
        go_wp2
        all_goals
          go_ret
          refine ⟨?_, below_box _ _⟩
          first
            | (simp_all; done)
            | (simp_all; omega)
    · have k4 : (st == 4) = false := by simp; omega
      have k5 : (st == 9) = false := by simp; omega
      by_cases h3 : st = 11 ∨ st = 12
      · rw [show ∀ i b q f, whoB st i b q f = f from fun i b q f => by unfold whoB; rw [if_neg h1, if_neg h2, if_pos h3]]
        clear h1 h2
        rcases h3 with h | h
        all_goals
          subst h
          clear k1 k2 k3 k4 k5
          go_enter Tryz.func42, Tryz.ntmps42
          go_wp2
          go_ret
          exact ⟨rfl, below_box _ _⟩
      · have k6 : (st == 11) = false := by simp; omega
        have k7 : (st == 12) = false := by simp; omega
        rw [show ∀ i b q f, whoB st i b q f = true from fun i b q f => by unfold whoB; rw [if_neg h1, if_neg h2, if_neg h3]]
        clear h1 h2 h3
        go_enter Tryz.func42, Tryz.ntmps42
        go_wp2
        go_ret
        exact ⟨rfl, below_box _ _⟩
def allB (P : UInt8 → Bool) (s : ByteArray) : Bool := s.data.toList.all P
theorem all_take' {α : Type} (p : α → Bool) (l : List α) (k : Nat) (x : α) (h : l[k]? = some x) : (l.take (k + 1)).all p = ((l.take k).all p && p x) := by
  rw [List.take_add_one, h]; simp
theorem all_miss' {α : Type} (p : α → Bool) (l : List α) (k : Nat) (x : α) (h : l[k]? = some x) (hp : p x = false) : l.all p = false := by
  rw [List.all_eq_false]
  exact ⟨x, List.mem_of_getElem? h, by simp [hp]⟩
set_option maxRecDepth 100000 in
set_option maxHeartbeats 2000000 in
theorem all_isSign (s : ByteArray) (w : World) (hs : s.size ≤ 1000000) :
    Calls Tryz.prog 46 #[.string s, .func (.func 47) #[] #[]] w fun e w' => e = .returned (.bool (allB signB s)) ∧ w = w' := by
  have hlen : s.data.toList.length = s.size := by simp
  have HL := Lib.hid hlen; clear hlen
  go_enter Tryz.func46, Tryz.ntmps46
  go_wp2
  go_loop [8] (fun i => ∃ k : Nat, k ≤ s.size ∧ i = .int .i64 k ∧ Hid ((s.data.toList.take k).all signB = true)) (fun i => s.size - (intOf i).toNat)
  case atStart => exact ⟨0, Nat.zero_le _, rfl, Lib.hid (by simp)⟩
  case round =>
    obtain ⟨k, hk, rfl, hid⟩ := hrel
    by_cases hlt : k < s.size
    · obtain ⟨c, hc⟩ := get_some s.data.toList k (by rw [HL.out]; exact hlt)
      have at1 := fun W => at_str s k c hc W
      have Hc := Lib.hid hc; clear hc
      have i1 : (0 : Int) ≤ (k : Int) := by omega
      have i2 : (k : Int) < (s.size : Int) := by omega
      obtain ⟨t, ht⟩ : ∃ t, signB c = t := ⟨_, rfl⟩
      have HT := Lib.hid ht
      clear ht
      cases t
      · go_wp2_with (go_at_call 47; refine (isSign_any c _).mono ?_; rintro e w1 ⟨rfl, rfl⟩; rw [HT.out])
        go_ret
        refine ⟨?_, rfl⟩
        rw [show allB signB s = false from all_miss' signB _ k c Hc.out HT.out]
        rfl
      · go_wp2_with (go_at_call 47; refine (isSign_any c _).mono ?_; rintro e w1 ⟨rfl, rfl⟩; rw [HT.out])
        go_round
        case rel => exact ⟨k + 1, by omega, by go_num, by rw [all_take' signB _ k c Hc.out, hid.out, HT.out]; rfl⟩
        case measure => simp [intOf]; omega
    · have he := hid.out
      rw [List.take_of_length_le (by rw [HL.out]; omega)] at he
      have HE := Lib.hid he
      clear he
      go_wp2
      go_ret
      exact ⟨by rw [show allB signB s = true from HE.out]; rfl, rfl⟩
set_option maxRecDepth 100000 in
set_option maxHeartbeats 2000000 in
theorem all_isText (s : ByteArray) (w : World) (hs : s.size ≤ 1000000) :
    Calls Tryz.prog 46 #[.string s, .func (.func 49) #[] #[]] w fun e w' => e = .returned (.bool (allB textB s)) ∧ w = w' := by
  have hlen : s.data.toList.length = s.size := by simp
  have HL := Lib.hid hlen; clear hlen
  go_enter Tryz.func46, Tryz.ntmps46
  go_wp2
  go_loop [8] (fun i => ∃ k : Nat, k ≤ s.size ∧ i = .int .i64 k ∧ Hid ((s.data.toList.take k).all textB = true)) (fun i => s.size - (intOf i).toNat)
  case atStart => exact ⟨0, Nat.zero_le _, rfl, Lib.hid (by simp)⟩
  case round =>
    obtain ⟨k, hk, rfl, hid⟩ := hrel
    by_cases hlt : k < s.size
    · obtain ⟨c, hc⟩ := get_some s.data.toList k (by rw [HL.out]; exact hlt)
      have at1 := fun W => at_str s k c hc W
      have Hc := Lib.hid hc; clear hc
      have i1 : (0 : Int) ≤ (k : Int) := by omega
      have i2 : (k : Int) < (s.size : Int) := by omega
      obtain ⟨t, ht⟩ : ∃ t, textB c = t := ⟨_, rfl⟩
      have HT := Lib.hid ht
      clear ht
      cases t
      · go_wp2_with (go_at_call 49; refine (isText_any c _).mono ?_; rintro e w1 ⟨rfl, rfl⟩; rw [HT.out])
        go_ret
        refine ⟨?_, rfl⟩
        rw [show allB textB s = false from all_miss' textB _ k c Hc.out HT.out]
        rfl
      · go_wp2_with (go_at_call 49; refine (isText_any c _).mono ?_; rintro e w1 ⟨rfl, rfl⟩; rw [HT.out])
        go_round
        case rel => exact ⟨k + 1, by omega, by go_num, by rw [all_take' textB _ k c Hc.out, hid.out, HT.out]; rfl⟩
        case measure => simp [intOf]; omega
    · have he := hid.out
      rw [List.take_of_length_le (by rw [HL.out]; omega)] at he
      have HE := Lib.hid he
      clear he
      go_wp2
      go_ret
      exact ⟨by rw [show allB textB s = true from HE.out]; rfl, rfl⟩
end Go.Proofs.YtefkbdmgplfgoaaGreatDoor.Sta
