/-
  OscB OscM
-/
import Derived.Deep.QuietTactic
import Derived.BigQuiet
import Derived.Test.YtoilcigmpeaedaaGreatDoorF6
import Derived.Test.YtoilcigmpeaedaaGreatDoorF10
namespace Go.Proofs.YtoilcigmpeaedaaGreatDoor.Osc
open Go.RowKit Utf

theorem dvl_some (s : List UInt8) (k : Nat) (c : UInt8) (n : Nat) (hc : s[k]? = some c) (h : 48 ≤ c.toNat ∧ c.toNat ≤ 57) : dvl n (s.drop k) = dvl (10 * n + (c.toNat - 48)) (s.drop (k + 1)) := by
  have h2 : k < s.length := (List.getElem?_eq_some_iff.1 hc).1
  have e : s[k] = c := (List.getElem?_eq_some_iff.1 hc).2
  rw [List.drop_eq_getElem_cons h2, e, dvl, if_pos h]
theorem dvl_none (s : List UInt8) (k : Nat) (c : UInt8) (n : Nat) (hc : s[k]? = some c) (h : ¬ (48 ≤ c.toNat ∧ c.toNat ≤ 57)) : dvl n (s.drop k) = none := by
  have h2 : k < s.length := (List.getElem?_eq_some_iff.1 hc).1
  have e : s[k] = c := (List.getElem?_eq_some_iff.1 hc).2
  rw [List.drop_eq_getElem_cons h2, e, dvl, if_neg h]
/-- how entry ends -/
def entE (s : List UInt8) : Ending := match num3 s with
  | some n => .returned (.int .i64 (n : Int))
  | none => .panicked mal
theorem ent_none (s : List UInt8) (h : num3 s = none) : Ending.panicked mal = entE s := by unfold entE; rw [h]
theorem ent_some (s : List UInt8) (n : Nat) (h : num3 s = some n) : Ending.returned (.int .i64 (n : Int)) = entE s := by unfold entE; rw [h]
theorem num3_of (s : List UInt8) (h0 : 0 < s.length) (h3 : s.length ≤ 3) : num3 s = (dvl 0 s).bind fun n => if n ≤ 255 then some n else none := by
  unfold num3
  rw [if_neg]
  rintro (h | h)
  · subst h; simp at h0
  · omega
theorem num3_out (s : List UInt8) (h : ¬ (0 < s.length ∧ s.length ≤ 3)) : num3 s = none := by
  unfold num3
  rw [if_pos]
  rcases (show s.length = 0 ∨ 3 < s.length by omega) with h | h
  · exact .inl (List.length_eq_zero_iff.1 h)
  · exact .inr h
set_option maxRecDepth 100000 in
set_option maxHeartbeats 4000000 in
theorem entry_any (s : ByteArray) (w : World) (hs : s.size ≤ 1000000) : Calls Tryz.prog 67 #[.string s] w fun e w' => e = entE s.data.toList ∧ w' = w := by
  have hlen : s.data.toList.length = s.size := by simp
  by_cases h1 : 1 ≤ s.size
  · by_cases h3 : s.size ≤ 3
    · have HN := Lib.hid (num3_of s.data.toList (by omega) (by omega))
      have d1 : decide ((1 : Int) ≤ (s.size : Int)) = true := decide_eq_true (by omega)
      have d3 : decide ((s.size : Int) ≤ 3) = true := decide_eq_true (by omega)
      go_enter Tryz.func67, Tryz.ntmps67
      go_wp2_with (go_at_call 34; refine (demand_yes _).mono ?_; rintro e w1 ⟨rfl, rfl⟩)
      go_loopw [3, 16] (fun a i wr => ∃ k n : Nat, k ≤ s.size ∧ n < 10 ^ k ∧ i = .int .i64 (k : Int) ∧ a = .int .i64 (n : Int) ∧ Hid (dvl 0 s.data.toList = dvl n (s.data.toList.drop k)) ∧ wr = w1) (fun _ i _ => s.size - (intOf i).toNat)
      case atStart => exact ⟨0, 0, by omega, by omega, rfl, rfl, Lib.hid rfl, rfl⟩
      case round =>
        obtain ⟨k, n, hk, hn, rfl, rfl, hp, rfl⟩ := hrel
        have hn2 : n < 1000 := Nat.lt_of_lt_of_le hn (Nat.pow_le_pow_right (n := 10) (by omega) (show k ≤ 3 by omega))
        by_cases hk2 : k < s.size
        · obtain ⟨c, hc⟩ : ∃ c, s.data.toList[k]? = some c := ⟨s.data.toList[k]'(by omega), List.getElem?_eq_getElem (by omega)⟩
          have hx := fun w => B64.idx_run 9 s k c hc Tryz.underlying9 w
          have hc1 : c.toNat < 256 := c.toNat_lt
          by_cases hd : 48 ≤ c.toNat ∧ c.toNat ≤ 57
          · have hp2 := Lib.hid (hp.out.trans (dvl_some _ k c n hc hd))
            have hn3 : 10 * n + (c.toNat - 48) < 10 ^ (k + 1) := by rw [Nat.pow_succ]; omega
            obtain ⟨v, hv⟩ : ∃ v : Nat, v = c.toNat := ⟨_, rfl⟩
            rw [← hv] at hx hd hp2 hn3
            have e1 : decide ((48 : Int) ≤ (v : Int)) = true := decide_eq_true (by omega)
            have e2 : decide ((v : Int) ≤ 57) = true := decide_eq_true (by omega)
            have e3 : (48 : Int) ≤ v := by omega
            have e4 : (v : Int) ≤ 57 := by omega
            have HN3 := Lib.hid hn3
            have HD := Lib.hid hd
            clear hp hc hv hd hn hn3 hc1 d1 d3
            go_wp2_with (go_at_call 34; refine (demand_yes _).mono ?_; rintro e w2 ⟨rfl, rfl⟩)
            refine ⟨⟨k + 1, 10 * n + (v - 48), by omega, HN3.out, by go_num, ?_, hp2, trivial⟩, ?_⟩
            · rw [show (10 * (n : Int) + ((v : Int) - 48)) = ((10 * n + (v - 48) : Nat) : Int) by have := HD.out; omega]
            · show s.size - ((k : Int) + 1).toNat < s.size - (k : Int).toNat
              omega
          · have hp2 := Lib.hid (ent_none _ (HN.out.trans (by rw [hp.out, dvl_none _ k c n hc hd]; rfl)))
            obtain ⟨v, hv⟩ : ∃ v : Nat, v = c.toNat := ⟨_, rfl⟩
            rw [← hv] at hx hd
            clear hp hc hv hn hc1 d1 d3
            by_cases h48 : 48 ≤ v
            · have e1 : decide ((48 : Int) ≤ (v : Int)) = true := decide_eq_true (by omega)
              have e2 : decide ((v : Int) ≤ 57) = false := decide_eq_false (by omega)
              clear hd h48
              go_wp2_with (go_at_call 34; refine (demand_no _).mono ?_; rintro e w2 ⟨rfl, rfl⟩)
              exact ⟨rfl, hp2.out, rfl⟩
            · have e1 : decide ((48 : Int) ≤ (v : Int)) = false := decide_eq_false (by omega)
              clear hd h48
              go_wp2_with (go_at_call 34; refine (demand_no _).mono ?_; rintro e w2 ⟨rfl, rfl⟩)
              exact ⟨rfl, hp2.out, rfl⟩
        · obtain rfl : k = s.size := by omega
          have hf := hp.out
          rw [List.drop_of_length_le (by omega)] at hf
          have hf2 : dvl 0 s.data.toList = some n := hf
          by_cases h255 : n ≤ 255
          · have hp2 := Lib.hid (ent_some _ n (HN.out.trans (by rw [hf2]; simp [h255])))
            have e1 : decide ((n : Int) ≤ 255) = true := decide_eq_true (by omega)
            clear hp hf hf2 hn d1 d3 h255
            go_wp2_with (go_at_call 34; refine (demand_yes _).mono ?_; rintro e w2 ⟨rfl, rfl⟩)
            go_ret
            exact ⟨hp2.out, rfl⟩
          · have hp2 := Lib.hid (ent_none _ (HN.out.trans (by rw [hf2]; simp [h255])))
            have e1 : decide ((n : Int) ≤ 255) = false := decide_eq_false (by omega)
            clear hp hf hf2 hn d1 d3 h255
            go_wp2_with (go_at_call 34; refine (demand_no _).mono ?_; rintro e w2 ⟨rfl, rfl⟩)
            exact ⟨rfl, hp2.out, rfl⟩
    · have hp2 := Lib.hid (ent_none _ (num3_out s.data.toList (by omega)))
      have d1 : decide ((1 : Int) ≤ (s.size : Int)) = true := decide_eq_true (by omega)
      have d3 : decide ((s.size : Int) ≤ 3) = false := decide_eq_false (by omega)
      clear h3 h1 hlen
      go_enter Tryz.func67, Tryz.ntmps67
      go_wp2_with (go_at_call 34; refine (demand_no _).mono ?_; rintro e w1 ⟨rfl, rfl⟩)
      exact ⟨rfl, hp2.out, rfl⟩
  · have hp2 := Lib.hid (ent_none _ (num3_out s.data.toList (by omega)))
    have d1 : decide ((1 : Int) ≤ (s.size : Int)) = false := decide_eq_false (by omega)
    clear h1 hlen
    go_enter Tryz.func67, Tryz.ntmps67
    go_wp2_with (go_at_call 34; refine (demand_no _).mono ?_; rintro e w1 ⟨rfl, rfl⟩)
    exact ⟨rfl, hp2.out, rfl⟩
end Go.Proofs.YtoilcigmpeaedaaGreatDoor.Osc

namespace Go.Proofs.YtoilcigmpeaedaaGreatDoor.Osc
open Go.RowKit Utf

theorem cutL_none (l : List UInt8) (h : ∀ b ∈ l, b ≠ 59) : cutL l = none := by
  induction l with
  | nil => rfl
  | cons x a ih =>
    have h1 : x ≠ 59 := h x (by simp)
    simp [cutL, h1, ih fun b hb => h b (by simp [hb])]
theorem cutL_at (l : List UInt8) (k : Nat) (hk : l[k]? = some 59) (h : ∀ b ∈ l.take k, b ≠ 59) : cutL l = some (l.take k, l.drop (k + 1)) := by
  have h2 : k < l.length := (List.getElem?_eq_some_iff.1 hk).1
  have e : l[k] = 59 := (List.getElem?_eq_some_iff.1 hk).2
  have := cutL_app (l.take k) (l.drop (k + 1)) h
  rw [← e, ← List.drop_eq_getElem_cons h2, List.take_append_drop] at this
  exact this
theorem no_snoc (l : List UInt8) (k : Nat) (c : UInt8) (hc : l[k]? = some c) (h : ∀ b ∈ l.take k, b ≠ 59) (h9 : c ≠ 59) : ∀ b ∈ l.take (k + 1), b ≠ 59 := by
  rw [List.take_add_one, hc]
  intro b hb
  rw [List.mem_append] at hb
  rcases hb with hb | hb
  · exact h b hb
  · simp at hb; subst hb; exact h9
/-- what the reference's cut answers -/
def rcutV (l : List UInt8) : Value := match cutL l with
  | some p => .tuple #[.string ⟨p.1.toArray⟩, .string ⟨p.2.toArray⟩, .bool true]
  | none => .tuple #[.string ⟨#[]⟩, .string ⟨#[]⟩, .bool false]
set_option maxRecDepth 100000 in
set_option maxHeartbeats 4000000 in
theorem rcut_any (s : ByteArray) (w : World) (hs : s.size ≤ 1000000) : Calls Tryz.prog 37 #[.string s] w fun e w' => e = .returned (rcutV s.data.toList) ∧ Below w.heap.size w w' := by
  have hlen : s.data.toList.length = s.size := by simp
  go_enter Tryz.func37, Tryz.ntmps37
  go_wp2
  go_loopw [5] (fun i wr => ∃ k : Nat, k ≤ s.size ∧ i = .int .i64 (k : Int) ∧ Hid (∀ b ∈ s.data.toList.take k, b ≠ 59) ∧ wr = w) (fun i _ => s.size - (intOf i).toNat)
  case atStart => exact ⟨0, by omega, rfl, Lib.hid (by simp), rfl⟩
  case round =>
    obtain ⟨k, hk, rfl, hp, rfl⟩ := hrel
    by_cases hk2 : k < s.size
    · obtain ⟨c, hc⟩ : ∃ c, s.data.toList[k]? = some c := ⟨s.data.toList[k]'(by omega), List.getElem?_eq_getElem (by omega)⟩
      have hx := fun w => B64.idx_run 9 s k c hc Tryz.underlying9 w
      by_cases h9 : c = 59
      · subst h9
        have hv := Lib.hid (show rcutV s.data.toList = .tuple #[.string (s.extract 0 k), .string (s.extract (k + 1) s.size), .bool true] by
          rw [rcutV, cutL_at _ k hc hp.out, ← ext_front, ← ext_back])
        have hx' : ∀ w, (Instr.index 9 (.string s) (.int .i64 (k : Int))).run Tryz.prog w = .ok (.int .u8 59) w := hx
        have c1 : (0 : Int) ≤ (k : Int) := by omega
        have c2 : (k : Int) ≤ (s.size : Int) := by omega
        have c3 : (0 : Int) ≤ (k : Int) + 1 := by omega
        have c4 : (k : Int) + 1 ≤ (s.size : Int) := by omega
        clear hx hc hp hlen
        go_wp2_with fail
        go_quiet (fail)
        go_wp2
        go_ret3
        exact ⟨by rw [hv.out]; kernel_rfl, below_drewN' (Below.refl _ _) _⟩
      · have hp2 := Lib.hid (no_snoc _ k c hc hp.out h9)
        have e1 : ((c.toNat : Int) == 59) = false := by
          rw [beq_eq_false_iff_ne]; intro e; exact h9 (UInt8.toNat_inj.1 (by show c.toNat = 59; omega))
        clear hp hc h9 hlen
        go_wp2_with fail
        refine ⟨⟨k + 1, by omega, by go_num, hp2, trivial⟩, ?_⟩
        show s.size - ((k : Int) + 1).toNat < s.size - (k : Int).toNat
        omega
    · obtain rfl : k = s.size := by omega
      have hv := Lib.hid (show rcutV s.data.toList = .tuple #[.string ⟨#[]⟩, .string ⟨#[]⟩, .bool false] by
        rw [rcutV, cutL_none _ (by have := hp.out; rwa [List.take_of_length_le (by omega)] at this)])
      clear hp hlen
      go_wp2_with fail
      go_ret3
      exact ⟨by rw [hv.out]; kernel_rfl, Below.refl _ _⟩
def numI (l : List UInt8) : Int := match num3 l with
  | some n => (n : Int)
  | none => -1
theorem num_none (s : List UInt8) (h : num3 s = none) : (-1 : Int) = numI s := by unfold numI; rw [h]
theorem num_some (s : List UInt8) (n : Nat) (h : num3 s = some n) : (n : Int) = numI s := by unfold numI; rw [h]
set_option maxRecDepth 100000 in
set_option maxHeartbeats 4000000 in
theorem rnumber_any (s : ByteArray) (w : World) (hs : s.size ≤ 1000000) : Calls Tryz.prog 39 #[.string s] w fun e w' => e = .returned (.int .i64 (numI s.data.toList)) ∧ w' = w := by
  have hlen : s.data.toList.length = s.size := by simp
  have hl2 : s.toList = s.data.toList := ByteArray.toList_eq s
  by_cases h1 : 1 ≤ s.size
  · have e0 : (s.toList == []) = false := by
      rw [beq_eq_false_iff_ne, hl2]; intro e; rw [e] at hlen; simp at hlen; omega
    by_cases h3 : s.size ≤ 3
    · have HN := Lib.hid (num3_of s.data.toList (by omega) (by omega))
      have d3 : decide (3 < (s.size : Int)) = false := decide_eq_false (by omega)
      clear hl2
      go_enter Tryz.func39, Tryz.ntmps39
      go_wp2
      go_loopw [3, 4] (fun a i wr => ∃ k n : Nat, k ≤ s.size ∧ n < 10 ^ k ∧ i = .int .i64 (k : Int) ∧ a = .int .i64 (n : Int) ∧ Hid (dvl 0 s.data.toList = dvl n (s.data.toList.drop k)) ∧ wr = w) (fun _ i _ => s.size - (intOf i).toNat)
      case atStart => exact ⟨0, 0, by omega, by omega, rfl, rfl, Lib.hid rfl, rfl⟩
      case round =>
        obtain ⟨k, n, hk, hn, rfl, rfl, hp, rfl⟩ := hrel
        have hn2 : n < 1000 := Nat.lt_of_lt_of_le hn (Nat.pow_le_pow_right (n := 10) (by omega) (show k ≤ 3 by omega))
        by_cases hk2 : k < s.size
        · obtain ⟨c, hc⟩ : ∃ c, s.data.toList[k]? = some c := ⟨s.data.toList[k]'(by omega), List.getElem?_eq_getElem (by omega)⟩
          have hx := fun w => B64.idx_run 9 s k c hc Tryz.underlying9 w
          have hc1 : c.toNat < 256 := c.toNat_lt
          by_cases hd : 48 ≤ c.toNat ∧ c.toNat ≤ 57
          · have hp2 := Lib.hid (hp.out.trans (dvl_some _ k c n hc hd))
            have hn3 : 10 * n + (c.toNat - 48) < 10 ^ (k + 1) := by rw [Nat.pow_succ]; omega
            obtain ⟨v, hv⟩ : ∃ v : Nat, v = c.toNat := ⟨_, rfl⟩
            rw [← hv] at hx hd hp2 hn3
            have e1 : decide ((v : Int) < 48) = false := decide_eq_false (by omega)
            have e2 : decide (57 < (v : Int)) = false := decide_eq_false (by omega)
            have e3 : (48 : Int) ≤ v := by omega
            have e4 : (v : Int) ≤ 57 := by omega
            have HN3 := Lib.hid hn3
            have HD := Lib.hid hd
            clear hp hc hv hd hn hn3 hc1 e0
            go_wp2_with fail
            refine ⟨⟨k + 1, 10 * n + (v - 48), by omega, HN3.out, by go_num, ?_, hp2, trivial⟩, ?_⟩
            · rw [show (10 * (n : Int) + ((v : Int) - 48)) = ((10 * n + (v - 48) : Nat) : Int) by have := HD.out; omega]
            · show s.size - ((k : Int) + 1).toNat < s.size - (k : Int).toNat
              omega
          · have hp2 := Lib.hid (num_none _ (HN.out.trans (by rw [hp.out, dvl_none _ k c n hc hd]; rfl)))
            obtain ⟨v, hv⟩ : ∃ v : Nat, v = c.toNat := ⟨_, rfl⟩
            rw [← hv] at hx hd
            clear hp hc hv hn hc1 e0
            by_cases h48 : 48 ≤ v
            · have e1 : decide ((v : Int) < 48) = false := decide_eq_false (by omega)
              have e2 : decide (57 < (v : Int)) = true := decide_eq_true (by omega)
              clear hd h48
              go_wp2_with fail
              go_ret
              exact ⟨by rw [← hp2.out]; rfl, rfl⟩
            · have e1 : decide ((v : Int) < 48) = true := decide_eq_true (by omega)
              clear hd h48
              go_wp2_with fail
              go_ret
              exact ⟨by rw [← hp2.out]; rfl, rfl⟩
        · obtain rfl : k = s.size := by omega
          have hf := hp.out
          rw [List.drop_of_length_le (by omega)] at hf
          have hf2 : dvl 0 s.data.toList = some n := hf
          by_cases h255 : n ≤ 255
          · have hp2 := Lib.hid (num_some _ n (HN.out.trans (by rw [hf2]; simp [h255])))
            have e1 : decide (255 < (n : Int)) = false := decide_eq_false (by omega)
            clear hp hf hf2 hn h255 e0
            go_wp2_with fail
            go_ret
            exact ⟨by rw [← hp2.out]; rfl, rfl⟩
          · have hp2 := Lib.hid (num_none _ (HN.out.trans (by rw [hf2]; simp [h255])))
            have e1 : decide (255 < (n : Int)) = true := decide_eq_true (by omega)
            clear hp hf hf2 hn h255 e0
            go_wp2_with fail
            go_ret
            exact ⟨by rw [← hp2.out]; rfl, rfl⟩
    · have hp2 := Lib.hid (num_none _ (num3_out s.data.toList (by omega)))
      have d3 : decide (3 < (s.size : Int)) = true := decide_eq_true (by omega)
      clear h3 h1 hlen hl2
      go_enter Tryz.func39, Tryz.ntmps39
      go_wp2
      go_ret
      exact ⟨by rw [← hp2.out]; rfl, rfl⟩
  · have hp2 := Lib.hid (num_none _ (num3_out s.data.toList (by omega)))
    have e0 : (s.toList == []) = true := by
      rw [hl2, List.length_eq_zero_iff.1 (show s.data.toList.length = 0 by omega)]; rfl
    clear h1 hlen hl2
    go_enter Tryz.func39, Tryz.ntmps39
    go_wp2
    go_ret
    exact ⟨by rw [← hp2.out]; rfl, rfl⟩
end Go.Proofs.YtoilcigmpeaedaaGreatDoor.Osc
