/-
  ParJ
-/
import Derived.Test.YteepfecplabinaaDoorP2
import Derived.Test.YteepfecplabinaaDoorP10
namespace Go.Proofs.YteepfecplabinaaDoor.Par
open Go.RowKit Go.Shelf Utf

attribute [local go_sem] Oper.semAt_some

theorem sep_any (i j : Nat) (w : World) : Calls Tryd.prog 67 #[.int .i64 (i : Int), .int .i64 (j : Int)] w fun e w' => e = .returned (.string ⟨(sepL i j).toArray⟩) ∧ w = w' := by
  unfold sepL
  by_cases hj : 0 < j
  · have h1 : decide ((0 : Int) < (j : Int)) = true := decide_eq_true (by omega)
    rw [if_pos hj]
    go_enter Tryd.func67, Tryd.ntmps67
    go_wp2
    go_ret
    exact ⟨rfl, rfl⟩
  · have h1 : decide ((0 : Int) < (j : Int)) = false := decide_eq_false (by omega)
    rw [if_neg hj]
    by_cases hi : 0 < i
    · have h2 : decide ((0 : Int) < (i : Int)) = true := decide_eq_true (by omega)
      rw [if_pos hi]
      go_enter Tryd.func67, Tryd.ntmps67
      go_wp2
      go_ret
      exact ⟨rfl, rfl⟩
    · have h2 : decide ((0 : Int) < (i : Int)) = false := decide_eq_false (by omega)
      rw [if_neg hi]
      go_enter Tryd.func67, Tryd.ntmps67
      go_wp2
      go_ret
      exact ⟨rfl, rfl⟩

set_option maxHeartbeats 1000000 in
theorem parts_in (n : Nat) (A : Option Addr) (m c : Nat) (w : World) :
    CallsIn Fence.wide n Tryd.prog 40 #[.slice A m c] w fun e w' => e = .returned (.func (.func 66) #[] #[.pointer (some ⟨w.heap.size, 0, none⟩)]) ∧ w' = w.alloc (.cells #[.slice A m c] 22) := by
  refine callsIn_of_wp Tryd.func40 rfl trivial ?_ rfl
  simp only [Tryd.ntmps40, List.size_toArray, List.length_cons, List.length_nil, Nat.reduceAdd, Nat.reduceSub, Array.replicate_succ, Array.replicate_zero, List.push_toArray, List.append_toArray, List.nil_append, List.cons_append]
  gi_wp2
  go_ret
  exact ⟨rfl, rfl⟩

set_option maxRecDepth 100000 in
set_option maxHeartbeats 2000000 in
theorem iter_in (n l q : Nat) (v : Value) (ls : List (List Int)) (w : World) (h : RL w v ls) (hl : ls.length ≤ 1000000) (hp : ∀ p ∈ ls, p.length ≤ 1000000) (Ok : It → Prop) (hok : ∀ x : It, (∃ p ∈ ls, x.2 ∈ p) → (∃ i j, x.1 = sepL i j) → Ok x) (N : Nat)
    (hN : (itemsL 0 ls).length ≤ N) (Kp : World → World → Prop) (hKp : ∀ A B, Kp A B → Below w.heap.size w A → Below w.heap.size w B) (J : List It → World → Prop) (hJ : ∀ pre A B, J pre A → Below A.heap.size A B → J pre B)
    (hY : ∀ pre x W1, J pre W1 → Ok x → pre.length ≤ N → YieldAt Fence.wide (n - 1) Tryd.prog l (encIt x) W1 fun e W' => e = .returned (.bool true) ∧ J (pre ++ [x]) W' ∧ Kp W1 W')
    (W : World) (hW : Below w.heap.size w W) (hB : Boxed W q 22 v) (h0 : J [] W) :
    CallsIn Fence.wide n Tryd.prog 66 #[.func (.yield l) #[] #[], .pointer (some ⟨q, 0, none⟩)] W fun e W' => (∃ v, e = .returned v) ∧ J (itemsL 0 ls) W' := by
  obtain ⟨A, c, rfl⟩ := h.form
  obtain ⟨k0, hk0⟩ : ∃ k0, k0 = ls.length := ⟨_, rfl⟩
  rw [← hk0] at h hB hl
  have HL := Lib.hid h; clear h
  have Hk := Lib.hid hk0; clear hk0
  have HP := Lib.hid hp; clear hp
  have HO := Lib.hid hok; clear hok
  have HN := Lib.hid hN; clear hN
  have HK := Lib.hid hKp; clear hKp
  have HJ := Lib.hid hJ; clear hJ
  have HY := Lib.hid hY; clear hY
  have HW := Lib.hid hW; clear hW
  have H0 := Lib.hid h0; clear h0
  have hc := hB.cell
  clear hB
  refine callsIn_of_wp Tryd.func66 rfl trivial ?_ rfl
  simp only [Tryd.ntmps66, List.size_toArray, List.length_cons, List.length_nil, Nat.reduceAdd, Nat.reduceSub, Array.replicate_succ, Array.replicate_zero, List.push_toArray, List.append_toArray, List.nil_append, List.cons_append]
  gi_wp2
  gi_loopw [9] (fun i wr => ∃ k : Nat, k ≤ k0 ∧ i = .int .i64 k ∧ Hid (J (itemsL 0 (ls.take k)) wr ∧ Below w.heap.size w wr)) (fun i _ => k0 - (intOf i).toNat)
  case atStart => exact ⟨0, Nat.zero_le _, rfl, H0.out, HW.out⟩
  case round =>
    obtain ⟨k, hk, rfl, hid⟩ := hrel
    by_cases hlt : k < k0
    · obtain ⟨p, hp⟩ := get_some ls k (by rw [← Hk.out]; exact hlt)
      obtain ⟨ad, B, cc, rfl, hal, hc0, hcc, hB1⟩ := HL.out.item hp
      have hc1 := (hid.out.2.cell (p := ad.add k) (by rw [add_block]; exact hal)).trans hc0
      clear hc0
      have HpM := Lib.hid (List.mem_of_getElem? hp)
      obtain ⟨m, hm⟩ : ∃ m, m = p.length := ⟨_, rfl⟩
      have hm2 : m ≤ 1000000 := by rw [hm]; exact HP.out p HpM.out
      have Ht := Lib.hid (itemsL_take 0 ls k p hp)
      have HNk := Lib.hid (fun j => itemsL_in ls k p j hp N HN.out)
      have HB1 := Lib.hid hB1; clear hB1
      have Hm := Lib.hid hm
      rw [← hm] at hc1 hcc
      clear hp hm
      have i1 : (0 : Int) ≤ (k : Int) := by omega
      have i2 : (k : Int) < (k0 : Int) := by omega
      gi_wp2
      gi_loopw [17] (fun i wi => ∃ j : Nat, j ≤ m ∧ i = .int .i64 j ∧ Hid (J (itemsL 0 (ls.take k) ++ itemsP k 0 (p.take j)) wi ∧ Below w.heap.size w wi)) (fun i _ => m - (intOf i).toNat)
      case atStart => exact ⟨0, Nat.zero_le _, rfl, by
        rw [List.take_zero, itemsP, List.append_nil]
        exact ⟨HJ.out _ _ _ hid.out.1 (below_box _ _), up hid.out.2 (below_box _ _)⟩⟩
      case round =>
        obtain ⟨j, hj, rfl, hin⟩ := hrel
        by_cases hjt : j < m
        · obtain ⟨z, hz⟩ := get_some p j (by rw [← Hm.out]; exact hjt)
          obtain ⟨bd, rfl, _, hcz⟩ := (HB1.out.below hin.out.2) j _ (cI_at p j z hz)
          have Hz := Lib.hid hz; clear hz
          have j1 : (0 : Int) ≤ (j : Int) := by omega
          have j2 : (j : Int) < (m : Int) := by omega
          gi_wp2_with fail
          refine ⟨trivial, fun h => (by cases h), (callsIn_wide.2 (sep_any k j _)).mono ?_⟩
          rintro e w1 ⟨rfl, rfl⟩
          obtain ⟨fn, tmps, assign, body, hy, hR⟩ := HY.out _ (sepL k j, z) _ hin.out.1 (HO.out _ ⟨p, HpM.out, List.mem_of_getElem? Hz.out⟩ ⟨k, j, rfl⟩) (HNk.out j)
          dsimp only [encIt] at hy
          gi_wp2_with fail
          refine ⟨fun h => (by cases h), hR.mono ?_⟩
          rintro e W3 ⟨rfl, hJ3, hk3⟩
          have HF := Lib.hid (And.intro hJ3 (HK.out _ _ hk3 hin.out.2))
          clear hJ3 hk3 hy hR
          gi_wp2
          go_roundw
          case rel => exact ⟨j + 1, by omega, by go_num, by rw [itemsP_take k 0 p j z Hz.out, ← List.append_assoc, Nat.zero_add]; exact HF.out.1, HF.out.2⟩
          case measure => simp [intOf]; omega
        · gi_wp2
          have he := Ht.out
          rw [Nat.zero_add] at he
          rw [show p.take j = p from List.take_of_length_le (by rw [← Hm.out]; omega), ← he] at hin
          exact ⟨⟨k + 1, by omega, by go_num, hin.out.1, hin.out.2⟩, by simp [intOf]; omega⟩
    · gi_wp2
      go_end0
      have he := hid.out.1
      rw [List.take_of_length_le (by rw [← Hk.out]; omega)] at he
      exact ⟨⟨_, rfl⟩, he⟩
end Go.Proofs.YteepfecplabinaaDoor.Par
