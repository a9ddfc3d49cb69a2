/-
  The reference's Step whole, and its Parse.
-/
import Derived.Test.YtelglcchcpnfbaaDoorParZ
namespace Go.Proofs.YtelglcchcpnfbaaDoor.Par
open Go.RowKit Utf

/-- sizes that the reference's calls bear -/
def Ks (l : List (List Int)) : Prop := l.length ≤ 1000 ∧ ∀ p ∈ l, p.length ≤ 1000
theorem Ks.of_ok {l : List (List Int)} (h : isBad l = false) : Ks l := ⟨by have := (bad_no h).1; omega, fun p hp => by have := (bad_no h).2.1 p hp; omega⟩
set_option maxHeartbeats 1000000 in
theorem rstep_any (v : Value) (l : List (List Int)) (c : UInt8) (w : World) (h : RL w v l) (hl : Ks l) :
    Calls Tryd.prog 22 #[v, .int .u8 (c.toNat : Int)] w fun e w' => ∃ v', e = .returned (.tuple #[v', .int .i64 (stpV l c).2]) ∧ RL w' v' (stpV l c).1 ∧ Below w.heap.size w w' := by
  have hc : c.toNat < 256 := c.toNat_lt
  rcases bad_cases l with ⟨hb, hi⟩ | ⟨hb, hi⟩
  · have e : stpV l c = ([], 150) := by unfold stpV; rw [hi]; rfl
    rw [e]
    exact rstep_bad v l c.toNat w h hl.1 hb
  · obtain ⟨ls, ps, z, ho, g1, g2, g3, g4, g5⟩ := opened_last l hi
    by_cases k1 : 48 ≤ c.toNat ∧ c.toNat ≤ 57
    · by_cases he : l = []
      · have e : stpV l c = ([[digI (-1) ((c.toNat : Int) - 48)]], 0) := by
          unfold stpV; rw [hi, if_neg (by decide), if_pos k1, he]; simp [digL, digP, opened]
        rw [e]
        subst he
        exact rstep_digitE v c.toNat w h hc (by omega) (by omega)
      · have e : stpV l c = (ls ++ [ps ++ [digI z ((c.toNat : Int) - 48)]], 0) := by
          unfold stpV; rw [hi, if_neg (by decide), if_pos k1, ho]; simp [digL, digP]
        rw [e]
        have ho' : l = ls ++ [ps ++ [z]] := by rw [← ho, opened, if_neg he]
        exact rstep_digit v l c.toNat w h hl.1 hl.2 hc hb ls ps z ho' (by omega) (by omega) g3 g4 (by omega) (by omega)
    · by_cases k2 : c.toNat = 58
      · by_cases he : l = []
        · have e : stpV l c = ([[-1, -1]], 0) := by
            unfold stpV; rw [hi, if_neg (by decide), if_neg k1, if_pos k2, he]; rfl
          rw [e]
          subst he
          exact rstep_colonRE v c.toNat w h k2
        · have ho' : l = ls ++ [ps ++ [z]] := by rw [← ho, opened, if_neg he]
          by_cases k3 : 6 ≤ (ps ++ [z]).length
          · have e : stpV l c = ([], 3) := by
              unfold stpV; rw [hi, if_neg (by decide), if_neg k1, if_pos k2, ho, if_pos (by simpa using k3)]
            rw [e]
            exact rstep_colonF v l c.toNat w h hl.1 hl.2 hc hb ls (ps ++ [z]) ho' (by omega) (by simp at k3 ⊢; omega) k2
          · have e : stpV l c = (ls ++ [ps ++ [z] ++ [-1]], 0) := by
              unfold stpV; rw [hi, if_neg (by decide), if_neg k1, if_pos k2, ho, if_neg (by simpa using k3)]; simp [parP]
            rw [e]
            exact rstep_colonR v l c.toNat w h hl.1 hl.2 hc hb ls (ps ++ [z]) ho' (by omega) (by omega) k2
      · by_cases k3 : c.toNat = 59
        · by_cases he : l = []
          · have e : stpV l c = ([[-1], [-1]], 0) := by
              unfold stpV; rw [hi, if_neg (by decide), if_neg k1, if_neg k2, if_pos k3, he]; rfl
            rw [e]
            subst he
            exact rstep_semiRE v c.toNat w h k3
          · have ho' : l = ls ++ [ps ++ [z]] := by rw [← ho, opened, if_neg he]
            by_cases k4 : 16 ≤ (opened l).length
            · have e : stpV l c = ([], 3) := by
                unfold stpV; rw [hi, if_neg (by decide), if_neg k1, if_neg k2, if_pos k3, if_pos k4]
              rw [e]
              rw [ho] at k4
              exact rstep_semiF v l c.toNat w h hl.1 hl.2 hc hb ls (ps ++ [z]) ho' (by simp at k4; omega) k3
            · have e : stpV l c = (ls ++ [ps ++ [z]] ++ [[-1]], 0) := by
                unfold stpV; rw [hi, if_neg (by decide), if_neg k1, if_neg k2, if_pos k3, if_neg k4, ho]
              rw [e]
              rw [ho] at k4
              exact rstep_semiR v l c.toNat w h hl.1 hl.2 hc hb ls (ps ++ [z]) ho' (by simp at k4; omega) k3
        · have e : stpV l c = ([], 6) := by
            unfold stpV; rw [hi, if_neg (by decide), if_neg k1, if_neg k2, if_neg k3]
          rw [e]
          exact rstep_other v l c.toNat w h hl.1 hc hb (by omega) (by omega) (by omega)
theorem stpV_ks (l : List (List Int)) (c : UInt8) : Ks (stpV l c).1 := by
  unfold stpV
  split
  · exact ⟨by simp, by simp⟩
  · rename_i hi
    obtain ⟨ls, ps, z, ho, g1, g2, _, _, _⟩ := opened_last l (by simpa using hi)
    have hm : ∀ p ∈ ls, p.length ≤ 1000 := fun p hp => by
      have hp' : p ∈ opened l := by rw [ho]; simp [hp]
      unfold opened at hp'
      split at hp'
      · simp at hp'; subst hp'; simp
      · have := (bad_no (show isBad l = false by simpa using hi)).2.1 p hp'; omega
    split
    · rw [ho]
      refine ⟨by simp [digL]; omega, fun p hp => ?_⟩
      simp [digL, digP] at hp
      rcases hp with hp | rfl
      · exact hm p hp
      · simp; omega
    · split
      · split
        · exact ⟨by simp, by simp⟩
        · rw [ho]
          refine ⟨by simp; omega, fun p hp => ?_⟩
          simp [parP] at hp
          rcases hp with hp | rfl
          · exact hm p hp
          · simp; omega
      · split
        · split
          · exact ⟨by simp, by simp⟩
          · rw [ho]
            refine ⟨by simp; omega, fun p hp => ?_⟩
            simp at hp
            rcases hp with hp | rfl | rfl
            · exact hm p hp
            · simp; omega
            · simp
        · exact ⟨by simp, by simp⟩

set_option maxRecDepth 100000 in
set_option maxHeartbeats 2000000 in
theorem rparse_any (s : ByteArray) (w : World) :
    Calls Tryd.prog 24 #[.string s] w fun e w' => ∃ v', e = .returned (.tuple #[v', .int .i64 (prsV s.data.toList).2]) ∧ RL w' v' (prsV s.data.toList).1 ∧ Below w.heap.size w w' := by
  have hlen : s.data.toList.length = s.size := by simp
  by_cases hbig : 4096 < s.size
  · have e : prsV s.data.toList = ([], 3) := by unfold prsV; rw [if_pos (by omega)]
    rw [e]
    go_enter Tryd.func24, Tryd.ntmps24
    go_wp2
    go_ret2
    exact ⟨_, rfl, RL.nil _, Below.refl _ _⟩
  · have e : prsV s.data.toList = runV [] s.data.toList := by unfold prsV; rw [if_neg (by omega)]
    rw [e]
    have hb0 : decide ((4096 : Int) < (s.size : Int)) = false := by simp; omega
    have Hlen := Lib.hid hlen
    clear e hlen
    go_enter Tryd.func24, Tryd.ntmps24
    go_wp2
    go_loopw [5, 4] (fun i u wr => ∃ (k : Nat) (l : List (List Int)), k ≤ s.size ∧ i = .int .i64 k ∧ Hid (RL wr u l ∧ runV [] (s.data.toList.take k) = (l, 0) ∧ Ks l ∧ Below w.heap.size w wr)) (fun i _ _ => s.size - (intOf i).toNat)
    case atStart => exact ⟨0, [], Nat.zero_le _, rfl, RL.nil _, rfl, ⟨by simp, by simp⟩, Below.refl _ _⟩
    case round =>
      obtain ⟨k, l, hk, rfl, hid⟩ := hrel
      by_cases hlt : k < s.size
      · obtain ⟨c, hc⟩ := get_some s.data.toList k (by rw [Hlen.out]; exact hlt)
        have HC := Lib.hid (rstep_any u4 l c wr hid.out.1 hid.out.2.2.1)
        obtain ⟨A, cc, rfl⟩ := hid.out.1.none
        obtain ⟨n, hn⟩ : ∃ n, n = l.length := ⟨_, rfl⟩
        rw [← hn] at HC hid ⊢
        have at1 := at_str s k c hc
        have Hc := Lib.hid hc; clear hc
        clear hn
        obtain ⟨r, hr⟩ : ∃ r, r = (stpV l c).2 := ⟨_, rfl⟩
        rw [← hr] at HC
        have Hr := Lib.hid hr; clear hr
        have i1 : (0 : Int) ≤ (k : Int) := by omega
        have i2 : (k : Int) < (s.size : Int) := by omega
        by_cases h0 : r = 0
        · subst h0
          go_wp2_with (go_at_call 22; refine HC.out.mono ?_; rintro e w1 ⟨v1, rfl, h1, hb1⟩; obtain ⟨A1, c1, rfl⟩ := h1.none; obtain ⟨m, hm⟩ : ∃ m, m = (stpV l c).1.length := ⟨_, rfl⟩; rw [← hm] at h1 ⊢; have H1 := Lib.hid h1; clear h1 hm)
          go_roundw
          case rel => exact ⟨k + 1, (stpV l c).1, by omega, by go_num, H1.out, by rw [runV_take s.data.toList k c Hc.out [] l hid.out.2.1 Hr.out.symm], stpV_ks l c, up hid.out.2.2.2 hb1⟩
          case measure => simp [intOf]; omega
        · have i4 : (r != (0 : Int)) = true := by simp [h0]
          go_wp2_with (go_at_call 22; refine HC.out.mono ?_; rintro e w1 ⟨v1, rfl, h1, hb1⟩; obtain ⟨A1, c1, rfl⟩ := h1.none; clear h1; generalize (stpV l c).1.length = m)
          go_ret2
          have he := runV_bad s.data.toList k c Hc.out [] l hid.out.2.1 (by rw [← Hr.out]; exact h0)
          rw [he]
          exact ⟨_, by rw [Hr.out]; rfl, RL.nil _, up hid.out.2.2.2 hb1⟩
      · obtain ⟨A, cc, rfl⟩ := hid.out.1.none
        obtain ⟨n, hn⟩ : ∃ n, n = l.length := ⟨_, rfl⟩
        rw [← hn] at hid ⊢
        clear hn
        go_wp2
        go_ret2
        have he := hid.out.2.1
        rw [List.take_of_length_le (by rw [Hlen.out]; omega)] at he
        rw [he]
        exact ⟨_, rfl, hid.out.1, hid.out.2.2.2⟩
end Go.Proofs.YtelglcchcpnfbaaDoor.Par
