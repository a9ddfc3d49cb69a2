/-
  The maths of OscTitles: a title split at the start of a code point.
-/
import Derived.Test.YtoilcigmpeaedaaGreatDoorOscP
namespace Go.Proofs.YtoilcigmpeaedaaGreatDoor.Osc
open Utf Col

theorem encV_cont (x k : Nat) (b : UInt8) (hk : 0 < k) (hb : (encV x)[k]? = some b) : notc b = false := by
  have h64 : ∀ n : Nat, (UInt8.ofNat (128 + n % 64)).toNat = 128 + n % 64 := fun n => ofNat_toNat _ (by omega)
  have hc : ∀ n : Nat, notc (UInt8.ofNat (128 + n % 64)) = false := fun n => notc_cont _ (by rw [h64]; omega) (by rw [h64]; omega)
  unfold encV at hb
  split at hb
  · match k, hk with
    | 1, _ => simp at hb
    | k + 2, _ => simp at hb
  · split at hb
    · match k, hk with
      | 1, _ => have e := Option.some.inj (show some (UInt8.ofNat (128 + _ % 64)) = some b from hb); rw [← e]; exact hc _
      | k + 2, _ => simp at hb
    · split at hb
      · match k, hk with
        | 1, _ => have e := Option.some.inj (show some (UInt8.ofNat (128 + _ % 64)) = some b from hb); rw [← e]; exact hc _
        | 2, _ => have e := Option.some.inj (show some (UInt8.ofNat (128 + _ % 64)) = some b from hb); rw [← e]; exact hc _
        | k + 3, _ => simp at hb
      · match k, hk with
        | 1, _ => have e := Option.some.inj (show some (UInt8.ofNat (128 + _ % 64)) = some b from hb); rw [← e]; exact hc _
        | 2, _ => have e := Option.some.inj (show some (UInt8.ofNat (128 + _ % 64)) = some b from hb); rw [← e]; exact hc _
        | 3, _ => have e := Option.some.inj (show some (UInt8.ofNat (128 + _ % 64)) = some b from hb); rw [← e]; exact hc _
        | k + 4, _ => simp at hb
theorem encL_cont (c : Int) (k : Nat) (b : UInt8) (hk : 0 < k) (hb : (encL c)[k]? = some b) : notc b = false := by
  unfold encL at hb
  split at hb
  · exact encV_cont c.toNat k b hk hb
  · exact encV_cont 65533 k b hk hb
/-- a text split where a code point starts -/
theorem text_split (zs : List Int) (k : Nat) (h : k = 0 ∨ ∃ b, (textL zs)[k]? = some b ∧ notc b = true) : ∃ j, (textL zs).take k = textL (zs.take j) ∧ (textL zs).drop k = textL (zs.drop j) := by
  induction zs generalizing k with
  | nil => exact ⟨0, by simp [textL], by simp [textL]⟩
  | cons c r ih =>
    rcases h with rfl | ⟨b, hb, hn⟩
    · exact ⟨0, by simp [textL], by simp⟩
    · show ∃ j, (encL c ++ textL r).take k = _ ∧ (encL c ++ textL r).drop k = _
      have hb' : (encL c ++ textL r)[k]? = some b := hb
      by_cases h0 : k = 0
      · subst h0
        exact ⟨0, by simp [textL], by simp [textL]⟩
      · by_cases hk : k < (encL c).length
        · rw [List.getElem?_append_left hk] at hb'
          rw [encL_cont c k b (by omega) hb'] at hn
          cases hn
        · rw [List.getElem?_append_right (by omega)] at hb'
          obtain ⟨j, h1, h2⟩ := ih (k - (encL c).length) (.inr ⟨b, hb', hn⟩)
          refine ⟨j + 1, ?_, ?_⟩
          · rw [List.take_append, h1, List.take_of_length_le (by omega)]; rfl
          · rw [List.drop_append, h2, List.drop_of_length_le (by omega)]; rfl
theorem text_back (zs : List Int) : textL (codesL (textL zs)) = textL zs := by rw [codes_text, textL_rep]
theorem text_first (zs : List Int) : textL zs = [] ∨ ∃ f q, textL zs = f :: q ∧ notc f = true := by
  cases zs with
  | nil => exact .inl rfl
  | cons c r =>
    obtain ⟨f, q, h, hn⟩ := encL_first c
    exact .inr ⟨f, q ++ textL r, by show encL c ++ textL r = _; rw [h]; rfl, hn⟩
theorem cut_c3 (l : List Int) (k : Nat) (h : k = 0 ∨ ∃ b, (titF l)[k]? = some b ∧ notc b = true) : titB ((titF l).take k ++ 195 :: (titF l).drop k) = false := by
  obtain ⟨zs, h1, -, -⟩ := fold_ok (l.take 200)
  have h2 : titF l = textL zs := h1
  rw [h2] at h ⊢
  obtain ⟨j, h3, h4⟩ := text_split zs k h
  rw [h3, h4]
  exact tit_c3 _ _ (text_back _) (text_back _) (text_first _)
theorem par_0 (t : List UInt8) (h : titB t = false) : parO (48 :: 59 :: t) = none := by
  unfold parO
  split
  · rfl
  · rw [show cutL (48 :: 59 :: t) = some ([48], t) from cutL_app [48] t (by decide)]
    simp [parT, h]
theorem par_2 (t : List UInt8) (h : titB t = false) : parO (50 :: 59 :: t) = none := by
  unfold parO
  split
  · rfl
  · rw [show cutL (50 :: 59 :: t) = some ([50], t) from cutL_app [50] t (by decide)]
    simp [parT, h]
theorem par_t (t : List UInt8) (h : titB t = true) : parO (48 :: 59 :: t) = some ⟨44, 0, 0, 0, 0, t⟩ ∧ parO (50 :: 59 :: t) = some ⟨44, 0, 0, 0, 0, t⟩ := by
  have hl : t.length ≤ 510 := by unfold titB at h; simp only [Bool.and_eq_true, decide_eq_true_eq] at h; exact h.1
  constructor
  · unfold parO
    rw [if_neg (by simp only [List.length_cons]; omega), show cutL (48 :: 59 :: t) = some ([48], t) from cutL_app [48] t (by decide)]
    simp [parT, h]
  · unfold parO
    rw [if_neg (by simp only [List.length_cons]; omega), show cutL (50 :: 59 :: t) = some ([50], t) from cutL_app [50] t (by decide)]
    simp [parT, h]
end Go.Proofs.YtoilcigmpeaedaaGreatDoor.Osc
