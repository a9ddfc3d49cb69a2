/-
  ParAa ParAb
-/
import Derived.Deep.RegionLawGrows
import Derived.Test.YtmboekpomjgnnaaGreatDoorF28
namespace Go.Proofs.YtmboekpomjgnnaaGreatDoor.Par
open Go.RowKit Utf

/-- sizes that the reference's calls bear -/
def Ks (l : List (List Int)) : Prop := l.length ≤ 1000 ∧ ∀ p ∈ l, p.length ≤ 1000
theorem Ks.of_ok {l : List (List Int)} (h : isBad l = false) : Ks l := ⟨by have := (bad_no h).1; omega, fun p hp => by have := (bad_no h).2.1 p hp; omega⟩
set_option maxHeartbeats 1000000 in
theorem rstep_own (v : Value) (l : List (List Int)) (c : UInt8) (w : World) (h : RL w v l) (hl : Ks l) :
    Calls Tryz.prog 75 #[v, .int .u8 (c.toNat : Int)] w fun e w' => ∃ v', e = .returned (.tuple #[v', .int .i64 (stpV l c).2]) ∧ OwnL w' w.heap.size v' (stpV l c).1 ∧ Below w.heap.size w w' := by
  have hc : c.toNat < 256 := c.toNat_lt
  rcases bad_cases l with ⟨hb, hi⟩ | ⟨hb, hi⟩
  · have e : stpV l c = ([], 150) := by unfold stpV; rw [hi]; rfl
    rw [e]
    exact rstep_bad v l c.toNat w h hl.1 hb
  · obtain ⟨ls, ps, z, ho, g1, g2, g3, g4, g5⟩ := opened_last l hi
    by_cases k1 : 48 ≤ c.toNat ∧ c.toNat ≤ 57
    · by_cases he : l = []
      · have e : stpV l c = ([[digI (-1) ((c.toNat : Int) - 48)]], 0) := by
          unfold stpV; rw [hi, if_neg (by decide), if_pos k1, he]; simp [digL, digP, opened]
        rw [e]
        subst he
        exact rstep_digitE v c.toNat w h hc (by omega) (by omega)
      · have e : stpV l c = (ls ++ [ps ++ [digI z ((c.toNat : Int) - 48)]], 0) := by
          unfold stpV; rw [hi, if_neg (by decide), if_pos k1, ho]; simp [digL, digP]
        rw [e]
        have ho' : l = ls ++ [ps ++ [z]] := by rw [← ho, opened, if_neg he]
        exact rstep_digit v l c.toNat w h hl.1 hl.2 hc hb ls ps z ho' (by omega) (by omega) g3 g4 (by omega) (by omega)
    · by_cases k2 : c.toNat = 58
      · by_cases he : l = []
        · have e : stpV l c = ([[-1, -1]], 0) := by
            unfold stpV; rw [hi, if_neg (by decide), if_neg k1, if_pos k2, he]; rfl
          rw [e]
          subst he
          exact rstep_colonRE v c.toNat w h k2
        · have ho' : l = ls ++ [ps ++ [z]] := by rw [← ho, opened, if_neg he]
          by_cases k3 : 6 ≤ (ps ++ [z]).length
          · have e : stpV l c = ([], 3) := by
              unfold stpV; rw [hi, if_neg (by decide), if_neg k1, if_pos k2, ho, if_pos (by simpa using k3)]
            rw [e]
            exact rstep_colonF v l c.toNat w h hl.1 hl.2 hc hb ls (ps ++ [z]) ho' (by omega) (by simp at k3 ⊢; omega) k2
          · have e : stpV l c = (ls ++ [ps ++ [z] ++ [-1]], 0) := by
              unfold stpV; rw [hi, if_neg (by decide), if_neg k1, if_pos k2, ho, if_neg (by simpa using k3)]; simp [parP]
            rw [e]
            exact rstep_colonR v l c.toNat w h hl.1 hl.2 hc hb ls (ps ++ [z]) ho' (by omega) (by omega) k2
      · by_cases k3 : c.toNat = 59
        · by_cases he : l = []
          · have e : stpV l c = ([[-1], [-1]], 0) := by
              unfold stpV; rw [hi, if_neg (by decide), if_neg k1, if_neg k2, if_pos k3, he]; rfl
            rw [e]
            subst he
            exact rstep_semiRE v c.toNat w h k3
          · have ho' : l = ls ++ [ps ++ [z]] := by rw [← ho, opened, if_neg he]
            by_cases k4 : 16 ≤ (opened l).length
            · have e : stpV l c = ([], 3) := by
                unfold stpV; rw [hi, if_neg (by decide), if_neg k1, if_neg k2, if_pos k3, if_pos k4]
              rw [e]
              rw [ho] at k4
              exact rstep_semiF v l c.toNat w h hl.1 hl.2 hc hb ls (ps ++ [z]) ho' (by simp at k4; omega) k3
            · have e : stpV l c = (ls ++ [ps ++ [z]] ++ [[-1]], 0) := by
                unfold stpV; rw [hi, if_neg (by decide), if_neg k1, if_neg k2, if_pos k3, if_neg k4, ho]
              rw [e]
              rw [ho] at k4
              exact rstep_semiR v l c.toNat w h hl.1 hl.2 hc hb ls (ps ++ [z]) ho' (by simp at k4; omega) k3
        · have e : stpV l c = ([], 6) := by
            unfold stpV; rw [hi, if_neg (by decide), if_neg k1, if_neg k2, if_neg k3]
          rw [e]
          exact rstep_other v l c.toNat w h hl.1 hc hb (by omega) (by omega) (by omega)
theorem rstep_any (v : Value) (l : List (List Int)) (c : UInt8) (w : World) (h : RL w v l) (hl : Ks l) :
    Calls Tryz.prog 75 #[v, .int .u8 (c.toNat : Int)] w fun e w' => ∃ v', e = .returned (.tuple #[v', .int .i64 (stpV l c).2]) ∧ RL w' v' (stpV l c).1 ∧ Below w.heap.size w w' := by
  refine (rstep_own v l c w h hl).mono ?_
  rintro e w' ⟨v', rfl, h1, h2⟩
  exact ⟨v', rfl, h1.rl, h2⟩
theorem stpV_ks (l : List (List Int)) (c : UInt8) : Ks (stpV l c).1 := by
  unfold stpV
  split
  · exact ⟨by simp, by simp⟩
  · rename_i hi
    obtain ⟨ls, ps, z, ho, g1, g2, _, _, _⟩ := opened_last l (by simpa using hi)
    have hm : ∀ p ∈ ls, p.length ≤ 1000 := fun p hp => by
      have hp' : p ∈ opened l := by rw [ho]; simp [hp]
      unfold opened at hp'
      split at hp'
      · simp at hp'; subst hp'; simp
      · have := (bad_no (show isBad l = false by simpa using hi)).2.1 p hp'; omega
    split
    · rw [ho]
      refine ⟨by simp [digL]; omega, fun p hp => ?_⟩
      simp [digL, digP] at hp
      rcases hp with hp | rfl
      · exact hm p hp
      · simp; omega
    · split
      · split
        · exact ⟨by simp, by simp⟩
        · rw [ho]
          refine ⟨by simp; omega, fun p hp => ?_⟩
          simp [parP] at hp
          rcases hp with hp | rfl
          · exact hm p hp
          · simp; omega
      · split
        · split
          · exact ⟨by simp, by simp⟩
          · rw [ho]
            refine ⟨by simp; omega, fun p hp => ?_⟩
            simp at hp
            rcases hp with hp | rfl | rfl
            · exact hm p hp
            · simp; omega
            · simp
        · exact ⟨by simp, by simp⟩

end Go.Proofs.YtmboekpomjgnnaaGreatDoor.Par

namespace Go.Proofs.YtmboekpomjgnnaaGreatDoor.Par
open Go.RowKit Utf

theorem min_10 (n : Nat) (h : (n : Int) ≤ 10) : (if (10 : Int) < (n : Int) then (10 : Int) else (n : Int)) = (n : Int) := by rw [if_neg (by omega)]
attribute [local go_sem] min_10
def shP (p : List Int) : List Int := p.take 10
def shL (l : List (List Int)) : List (List Int) := (l.take 20).map shP
theorem shL_ks (l : List (List Int)) : Ks (shL l) := by
  refine ⟨by simp [shL]; omega, fun p hp => ?_⟩
  unfold shL at hp
  obtain ⟨q, _, rfl⟩ := List.mem_map.1 hp
  unfold shP
  rw [List.length_take]; omega
/-- a slice of parameters of the call's own, whose parts lie in older memory -/
def ShO (w W : World) (B : Nat) (v : Value) (l : List (List Int)) : Prop := ∃ us, W.ownsRow B 51 1 v l.length us ∧ us.length = l.length ∧ ∀ (j : Nat) (x : Value) (p : List Int), us[j]? = some x → l[j]? = some p → RI w x p
theorem ShO.nil (w W : World) (B : Nat) : ShO w W B (.slice none 0 0) [] := ⟨[], World.ownsRow_nil _ _ _ _, rfl, fun j x p h => by simp at h⟩
theorem ShO.rl {w W : World} {B : Nat} {v : Value} {l : List (List Int)} (h : ShO w W B v l) (hb : Below w.heap.size w W) : RL W v l := by
  obtain ⟨us, h1, h2, h3⟩ := h
  exact RL.grew h1 h2 fun j x p hx hp => (h3 j x p hx hp).keep hb
theorem ShO.snoc {w W : World} {B : Nat} {v x : Value} {us : List Value} {l : List (List Int)} {p : List Int} (h2 : us.length = l.length) (h3 : ∀ (j : Nat) (x : Value) (p : List Int), us[j]? = some x → l[j]? = some p → RI w x p) (hx : RI w x p)
    (h1 : W.ownsRow B 51 1 v (l.length + 1) (us ++ [x])) : ShO w W B v (l ++ [p]) := by
  refine ⟨us ++ [x], by rw [List.length_append, List.length_singleton]; exact h1, by simp [h2], fun j y q hy hq => ?_⟩
  by_cases h : j < us.length
  · rw [List.getElem?_append_left h] at hy
    rw [List.getElem?_append_left (by omega)] at hq
    exact h3 j y q hy hq
  · rw [List.getElem?_append_right (by omega)] at hy
    rw [List.getElem?_append_right (by omega), ← h2] at hq
    obtain h0 | h0 : j - us.length = 0 ∨ 0 < j - us.length := by omega
    · rw [h0] at hy hq
      simp at hy hq
      subst hy; subst hq
      exact hx
    · rw [List.getElem?_eq_none (by simp; omega)] at hy
      cases hy
theorem RL.itemI {w : World} {A : Option Addr} {n c : Nat} {l : List (List Int)} (h : RL w (.slice A n c) l) {k : Nat} {p : List Int} (hp : l[k]? = some p) : ∃ ad B cc, A = some ad ∧ ad.block < w.heap.size ∧ w.cell? (ad.add k) = some (.slice B p.length cc) ∧ p.length ≤ cc ∧ RI w (.slice B p.length cc) p := by
  obtain ⟨A', c', vs, he, h1, h2, h3, h4, h5, h6⟩ := h
  have hk : k < l.length := (List.getElem?_eq_some_iff.1 hp).1
  obtain ⟨x, hx⟩ := get_some vs k (by omega)
  have hr := h6 k x p hx hp
  obtain ⟨B, cc, rfl, g1, g2, g3, g4⟩ := hr
  obtain ⟨ad, rfl, hlt, hc⟩ := h5 k _ hx
  cases he
  exact ⟨ad, B, cc, rfl, hlt, hc, g1, B, cc, rfl, g1, g2, g3, g4⟩
theorem RI.cut {w : World} {B : Option Addr} {cc : Nat} {p : List Int} (h : RI w (.slice B p.length cc) p) (k : Nat) (hk : k = min p.length 10) : RI w (.slice B k cc) (shP p) := by
  obtain ⟨B', c', he, g1, g2, g3, g4⟩ := h
  cases he
  have hl : (shP p).length = k := by unfold shP; rw [List.length_take]; omega
  refine ⟨B, cc, by rw [hl], by omega, g2, g3, fun j u hu => ?_⟩
  refine g4 j u ?_
  have hj : j < (cI (shP p)).length := (List.getElem?_eq_some_iff.1 hu).1
  rw [cI_len, hl] at hj
  rw [← hu]
  unfold cI shP
  simp [show j < 10 by omega]
theorem shL_take (l : List (List Int)) (i : Nat) (p : List Int) (h : l[i]? = some p) : (l.take (i + 1)).map shP = (l.take i).map shP ++ [shP p] := by
  rw [List.take_add_one, h, List.map_append]; rfl
end Go.Proofs.YtmboekpomjgnnaaGreatDoor.Par
