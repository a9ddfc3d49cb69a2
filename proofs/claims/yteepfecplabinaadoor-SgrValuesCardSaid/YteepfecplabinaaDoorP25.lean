/-
  ParF ParM
-/
import Derived.Laws.IdiomStrings
import Derived.Test.YteepfecplabinaaDoorP10
import Derived.Test.YteepfecplabinaaDoorP24
namespace Go.Proofs.YteepfecplabinaaDoor.Par
open Go.RowKit Utf

theorem bad_cases (l : List (List Int)) : chkV l = 150 ∧ isBad l = true ∨ chkV l = 0 ∧ isBad l = false := by
  unfold chkV
  cases h : isBad l <;> simp
theorem bad_no {l : List (List Int)} (h : isBad l = false) : l.length ≤ 16 ∧ (∀ p ∈ l, 1 ≤ p.length ∧ p.length ≤ 6 ∧ ∀ z ∈ p, -1 ≤ z ∧ z ≤ 9999) ∧ l ≠ [[-1]] := by
  unfold isBad at h
  simp only [Bool.or_eq_false_iff, decide_eq_false_iff_not, List.any_eq_false] at h
  refine ⟨by omega, fun p hp => ?_, h.2⟩
  have := h.1.2 p hp
  unfold wrongP at this
  simp only [Bool.or_eq_true, decide_eq_true_eq, not_or, List.any_eq_true, not_exists, not_and] at this
  refine ⟨by omega, by omega, fun z hz => ?_⟩
  have hw := this.2 z hz
  unfold wrongI at hw
  simp only [Bool.or_eq_true, decide_eq_true_eq, not_or] at hw
  omega
theorem last_of {α : Type} (l : List α) (h : l ≠ []) : ∃ a x, l = a ++ [x] := ⟨l.dropLast, l.getLast h, (List.dropLast_concat_getLast h).symm⟩
/-- sizes that the calls bear -/
def Sz (l : List (List Int)) : Prop := l.length ≤ 1000000 ∧ ∀ p ∈ l, p.length ≤ 1000000
theorem opened_last (l : List (List Int)) (h : isBad l = false) : ∃ ls ps z, opened l = ls ++ [ps ++ [z]] ∧ ls.length ≤ 15 ∧ ps.length ≤ 5 ∧ -1 ≤ z ∧ z ≤ 9999 ∧ (l = [] → ps.length = 0) := by
  unfold opened
  split
  · exact ⟨[], [], -1, rfl, by decide, by decide, by decide, by decide, fun _ => rfl⟩
  · obtain ⟨h1, h2, _⟩ := bad_no h
    obtain ⟨ls, p, rfl⟩ := last_of l (by assumption)
    obtain ⟨k1, k2, k3⟩ := h2 p (by simp)
    obtain ⟨ps, z, rfl⟩ := last_of p (by intro e; subst e; simp at k1)
    have := k3 z (by simp)
    simp at h1 k2
    exact ⟨ls, ps, z, rfl, by omega, by omega, this.1, this.2, fun e => by simp at e⟩
set_option maxHeartbeats 1000000 in
theorem step_anyP (P : Value → Prop) (v : Value) (l : List (List Int)) (c : UInt8) (w : World) (h : RL w v l) (hP : PL P w v) (hF : Fresh P w.heap.size) (hl : Sz l) :
    Calls Tryd.prog 42 #[v, .int .u8 (c.toNat : Int)] w fun e w' => ∃ v', e = .returned (.tuple #[v', .int .i64 (stpV l c).2]) ∧ ROP P w.heap.size w' v' (stpV l c).1 ∧ Below w.heap.size w w' := by
  have hc : c.toNat < 256 := c.toNat_lt
  rcases bad_cases l with ⟨hb, hi⟩ | ⟨hb, hi⟩
  · have e : stpV l c = ([], 150) := by unfold stpV; rw [hi]; rfl
    rw [e]
    exact step_bad P v l c.toNat w h hP hF hl.1 hl.2 (by rintro rfl; revert hb; decide) hb
  · obtain ⟨ls, ps, z, ho, g1, g2, g3, g4, g5⟩ := opened_last l hi
    by_cases k1 : 48 ≤ c.toNat ∧ c.toNat ≤ 57
    · have e : stpV l c = (ls ++ [ps ++ [digI z ((c.toNat : Int) - 48)]], 0) := by
        unfold stpV; rw [hi, if_neg (by decide), if_pos k1, ho]; simp [digL, digP]
      rw [e]
      by_cases he : l = []
      · have ho' : ([[-1]] : List (List Int)) = ls ++ [ps ++ [z]] := by rw [← ho, opened, if_pos he]
        exact step_digitE P v l c.toNat w h hP hF hl.1 hl.2 he hc hb ls ps z ho' (by omega) (by omega) g3 g4 (by omega) (by omega)
      · have ho' : l = ls ++ [ps ++ [z]] := by rw [← ho, opened, if_neg he]
        exact step_digit P v l c.toNat w h hP hF hl.1 hl.2 he hc hb ls ps z ho' (by omega) (by omega) g3 g4 (by omega) (by omega)
    · by_cases k2 : c.toNat = 58
      · by_cases k3 : 6 ≤ (ps ++ [z]).length
        · have e : stpV l c = ([], 3) := by
            unfold stpV; rw [hi, if_neg (by decide), if_neg k1, if_pos k2, ho, if_pos (by simpa using k3)]
          rw [e]
          by_cases he : l = []
          · have := g5 he
            simp at k3
            omega
          · have ho' : l = ls ++ [ps ++ [z]] := by rw [← ho, opened, if_neg he]
            exact step_colonF P v l c.toNat w h hP hF hl.1 hl.2 he hc hb ls (ps ++ [z]) ho' (by omega) (by omega) k2
        · have e : stpV l c = (ls ++ [ps ++ [z] ++ [-1]], 0) := by
            unfold stpV; rw [hi, if_neg (by decide), if_neg k1, if_pos k2, ho, if_neg (by simpa using k3)]; simp [parP]
          rw [e]
          by_cases he : l = []
          · have ho' : ([[-1]] : List (List Int)) = ls ++ [ps ++ [z]] := by rw [← ho, opened, if_pos he]
            exact step_colonRE P v l c.toNat w h hP hF hl.1 hl.2 he hc hb ls (ps ++ [z]) ho' (by omega) (by omega) k2
          · have ho' : l = ls ++ [ps ++ [z]] := by rw [← ho, opened, if_neg he]
            exact step_colonR P v l c.toNat w h hP hF hl.1 hl.2 he hc hb ls (ps ++ [z]) ho' (by omega) (by omega) k2
      · by_cases k3 : c.toNat = 59
        · by_cases k4 : 16 ≤ (opened l).length
          · have e : stpV l c = ([], 3) := by
              unfold stpV; rw [hi, if_neg (by decide), if_neg k1, if_neg k2, if_pos k3, if_pos k4]
            rw [e]
            by_cases he : l = []
            · rw [opened, if_pos he] at k4; simp at k4
            · rw [opened, if_neg he] at k4
              exact step_semiF P v l c.toNat w h hP hF hl.1 hl.2 he hc hb (by omega) k3
          · have e : stpV l c = (opened l ++ [[-1]], 0) := by
              unfold stpV; rw [hi, if_neg (by decide), if_neg k1, if_neg k2, if_pos k3, if_neg k4]
            rw [e]
            by_cases he : l = []
            · rw [opened, if_pos he]
              exact step_semiRE P v l c.toNat w h hP hF hl.1 hl.2 he hc hb k3
            · rw [opened, if_neg he] at k4 ⊢
              exact step_semiR P v l c.toNat w h hP hF hl.1 hl.2 he hc hb (by omega) k3
        · have e : stpV l c = ([], 6) := by
            unfold stpV; rw [hi, if_neg (by decide), if_neg k1, if_neg k2, if_neg k3]
          rw [e]
          by_cases he : l = []
          · exact step_otherE P v l c.toNat w h hP hF hl.1 hl.2 he hc hb (by omega) (by omega) (by omega)
          · exact step_other P v l c.toNat w h hP hF hl.1 hl.2 he hc hb (by omega) (by omega) (by omega)
theorem step_any (v : Value) (l : List (List Int)) (c : UInt8) (w : World) (h : RL w v l) (hl : Sz l) :
    Calls Tryd.prog 42 #[v, .int .u8 (c.toNat : Int)] w fun e w' => ∃ v', e = .returned (.tuple #[v', .int .i64 (stpV l c).2]) ∧ RO w.heap.size w' v' (stpV l c).1 ∧ Below w.heap.size w w' :=
  (step_anyP (fun _ => True) v l c w h (fun _ _ _ _ _ _ _ _ => trivial) (fun _ _ => trivial) hl).mono fun _ _ ⟨v', h1, h2, h3⟩ => ⟨v', h1, h2.lo, h3⟩
theorem stpV_sz (l : List (List Int)) (c : UInt8) : Sz (stpV l c).1 := by
  unfold stpV
  split
  · exact ⟨by simp, by simp⟩
  · rename_i hi
    obtain ⟨ls, ps, z, ho, g1, g2, _, _, _⟩ := opened_last l (by simpa using hi)
    have hm : ∀ p ∈ ls, p.length ≤ 1000000 := fun p hp => by
      have hp' : p ∈ opened l := by rw [ho]; simp [hp]
      unfold opened at hp'
      split at hp'
      · simp at hp'; subst hp'; simp
      · have := (bad_no (show isBad l = false by simpa using hi)).2.1 p hp'; omega
    split
    · rw [ho]
      refine ⟨by simp [digL]; omega, fun p hp => ?_⟩
      simp [digL, digP] at hp
      rcases hp with hp | rfl
      · exact hm p hp
      · simp; omega
    · split
      · split
        · exact ⟨by simp, by simp⟩
        · rw [ho]
          refine ⟨by simp; omega, fun p hp => ?_⟩
          simp [parP] at hp
          rcases hp with hp | rfl
          · exact hm p hp
          · simp; omega
      · split
        · split
          · exact ⟨by simp, by simp⟩
          · rw [ho]
            refine ⟨by simp; omega, fun p hp => ?_⟩
            simp at hp
            rcases hp with hp | rfl | rfl
            · exact hm p hp
            · simp; omega
            · simp
        · exact ⟨by simp, by simp⟩

theorem at_str (s : ByteArray) (i : Nat) (c : UInt8) (hc : s.data.toList[i]? = some c) (w : World) : (Instr.index 9 (.string s) (.int .i64 (i : Int))).run Tryd.prog w = .ok (.int .u8 (c.toNat : Int)) w := by
  have h2 : i < s.data.toList.length := (List.getElem?_eq_some_iff.1 hc).1
  have h3 : i < s.size := by simpa using h2
  have e : s.data.toList[i] = c := (List.getElem?_eq_some_iff.1 hc).2
  rw [run_index_string w 9 s .i64 i Tryd.underlying9, dif_pos ⟨by omega, by omega⟩]
  rw [← e]
  rfl
set_option maxRecDepth 100000 in
set_option maxHeartbeats 2000000 in
theorem parse_any (s : ByteArray) (w : World) :
    Calls Tryd.prog 22 #[.string s] w fun e w' => ∃ v', e = .returned (.tuple #[v', .int .i64 (prsV s.data.toList).2]) ∧ RO w.heap.size w' v' (prsV s.data.toList).1 ∧ Below w.heap.size w w' := by
  have hlen : s.data.toList.length = s.size := by simp
  by_cases hbig : 4096 < s.size
  · have e : prsV s.data.toList = ([], 3) := by unfold prsV; rw [if_pos (by omega)]
    rw [e]
    go_enter Tryd.func22, Tryd.ntmps22
    go_wp2
    go_ret2
    exact ⟨_, rfl, RO.nil _ _, Below.refl _ _⟩
  · have e : prsV s.data.toList = runV [] s.data.toList := by unfold prsV; rw [if_neg (by omega)]
    rw [e]
    have hb0 : decide ((4096 : Int) < (s.size : Int)) = false := by simp; omega
    have Hlen := Lib.hid hlen
    clear e hlen
    go_enter Tryd.func22, Tryd.ntmps22
    go_wp2
    go_loopw [12, 4] (fun i u wr => ∃ (k : Nat) (l : List (List Int)), k ≤ s.size ∧ i = .int .i64 k ∧ Hid (RO w.heap.size wr u l ∧ runV [] (s.data.toList.take k) = (l, 0) ∧ Sz l ∧ Below w.heap.size w wr)) (fun i _ _ => s.size - (intOf i).toNat)
    case atStart => exact ⟨0, [], Nat.zero_le _, rfl, RO.nil _ _, rfl, ⟨by simp, by simp⟩, Below.refl _ _⟩
    case round =>
      obtain ⟨k, l, hk, rfl, hid⟩ := hrel
      by_cases hlt : k < s.size
      · obtain ⟨c, hc⟩ := get_some s.data.toList k (by rw [Hlen.out]; exact hlt)
        have HC := Lib.hid (step_any u4 l c wr hid.out.1.1 hid.out.2.2.1)
        obtain ⟨A, cc, rfl⟩ := hid.out.1.1.none
        obtain ⟨n, hn⟩ : ∃ n, n = l.length := ⟨_, rfl⟩
        rw [← hn] at HC hid ⊢
        have at1 := at_str s k c hc
        have Hc := Lib.hid hc; clear hc
        clear hn
        obtain ⟨r, hr⟩ : ∃ r, r = (stpV l c).2 := ⟨_, rfl⟩
        rw [← hr] at HC
        have Hr := Lib.hid hr; clear hr
        have i1 : (0 : Int) ≤ (k : Int) := by omega
        have i2 : (k : Int) < (s.size : Int) := by omega
        by_cases h0 : r = 0
        · subst h0
          go_wp2_with (go_at_call 42; refine HC.out.mono ?_; rintro e w1 ⟨v1, rfl, h1, hb1⟩; obtain ⟨A1, c1, rfl⟩ := h1.1.none; obtain ⟨m, hm⟩ : ∃ m, m = (stpV l c).1.length := ⟨_, rfl⟩; rw [← hm] at h1 ⊢; have H1 := Lib.hid h1; clear h1 hm)
          go_roundw
          case rel => exact ⟨k + 1, (stpV l c).1, by omega, by go_num, H1.out.mono hid.out.2.2.2.size, by rw [runV_take s.data.toList k c Hc.out [] l hid.out.2.1 Hr.out.symm], stpV_sz l c, up hid.out.2.2.2 hb1⟩
          case measure => simp [intOf]; omega
        · have i4 : (r != (0 : Int)) = true := by simp [h0]
          go_wp2_with (go_at_call 42; refine HC.out.mono ?_; rintro e w1 ⟨v1, rfl, h1, hb1⟩; obtain ⟨A1, c1, rfl⟩ := h1.1.none; clear h1; generalize (stpV l c).1.length = m)
          go_ret2
          have he := runV_bad s.data.toList k c Hc.out [] l hid.out.2.1 (by rw [← Hr.out]; exact h0)
          rw [he]
          exact ⟨_, by rw [Hr.out]; rfl, RO.nil _ _, up hid.out.2.2.2 hb1⟩
      · obtain ⟨A, cc, rfl⟩ := hid.out.1.1.none
        obtain ⟨n, hn⟩ : ∃ n, n = l.length := ⟨_, rfl⟩
        rw [← hn] at hid ⊢
        clear hn
        go_wp2
        go_ret2
        have he := hid.out.2.1
        rw [List.take_of_length_le (by rw [Hlen.out]; omega)] at he
        rw [he]
        exact ⟨_, rfl, hid.out.1, hid.out.2.2.2⟩
end Go.Proofs.YteepfecplabinaaDoor.Par

namespace Go.Proofs.YteepfecplabinaaDoor.Par
open Go.RowKit Utf

theorem get_take {α : Type} (l : List α) (k : Nat) (x : α) (h : l[k]? = some x) : l.take (k + 1) = l.take k ++ [x] := by
  rw [List.take_add_one, h]; rfl
theorem sz_runV (l : List (List Int)) (s : List UInt8) (h : Sz l) : Sz (runV l s).1 := by
  induction s generalizing l with
  | nil => exact h
  | cons c s ih =>
    unfold runV
    split
    · exact ih _ (stpV_sz l c)
    · exact ⟨by simp, by simp⟩
theorem sz_prsV (s : List UInt8) : Sz (prsV s).1 := by
  unfold prsV
  split
  · exact ⟨by simp, by simp⟩
  · exact sz_runV _ _ ⟨by simp, by simp⟩
end Go.Proofs.YteepfecplabinaaDoor.Par
