/-
  Plain facts: decoding resynchronizes at a byte that is no continuation; decoding an encoding gives its code point; pending bytes are a prefix; the encoding of a list is decoded to it.
-/
import Derived.Test.YtoilcigmpeaedaaGreatDoorUtfMath
namespace Go.Proofs.YtoilcigmpeaedaaGreatDoor.Utf

theorem runL_shift (p : List UInt8) (pre : List Int) (l : List UInt8) : runL (p, pre) l = ((runL (p, []) l).1, pre ++ (runL (p, []) l).2) := by
  induction l generalizing p pre with
  | nil => simp [runL]
  | cons b r ih =>
    simp only [runL]
    rw [ih (stepL p b).1 (pre ++ (stepL p b).2), ih (stepL p b).1 ([] ++ (stepL p b).2)]
    simp
theorem runL_app (st : List UInt8 × List Int) (a b : List UInt8) : runL st (a ++ b) = runL (runL st a) b := by
  induction a generalizing st with
  | nil => rfl
  | cons x r ih => exact ih _
theorem begB_notc {p : List UInt8} {f : UInt8} (h : notc f = true) (hp : p ≠ []) : begB (p ++ [f]) = false := by
  cases p with
  | nil => exact absurd rfl hp
  | cons b r => simp [begB, h]
theorem stepL_first (p : List UInt8) (f : UInt8) (h : notc f = true) : stepL p f = ((stepL [] f).1, flushL p ++ (stepL [] f).2) := by
  have h0 : stepL [] f = aloneL f := rfl
  cases hp : preB p with
  | false => rw [h0]; simp [stepL, flushL, hp]
  | true =>
    have hne : p ≠ [] := by rintro rfl; cases hp
    have hb := begB_notc h hne
    rw [h0]
    simp [stepL, flushL, hp, hb]
theorem resync (p : List UInt8) (pre : List Int) (f : UInt8) (r : List UInt8) (h : notc f = true) : runL (p, pre) (f :: r) = runL ([], pre ++ flushL p) (f :: r) := by
  show runL ((stepL p f).1, pre ++ (stepL p f).2) r = runL ((stepL [] f).1, pre ++ flushL p ++ (stepL [] f).2) r
  rw [stepL_first p f h]
  simp
theorem codes_resync (a : List UInt8) (f : UInt8) (r : List UInt8) (h : notc f = true) : codesL (a ++ f :: r) = codesL a ++ codesL (f :: r) := by
  unfold codesL
  rw [runL_app]
  obtain ⟨p, pre⟩ : ∃ st, st = runL ([], []) a := ⟨_, rfl⟩
  rw [show runL ([], []) a = ((runL ([], []) a).1, (runL ([], []) a).2) from rfl, resync _ _ _ _ h, runL_shift]
  simp

theorem fits_of (v n : Nat) (h1 : v ≤ 1114111) (h2 : v < 55296 ∨ 57343 < v) (h3 : cl (v : Int) = (n : Int)) : fitsB (v : Int) (n : Int) = true := by
  have hc : chk (v : Int) = true := by simp [chk]; omega
  simp [fitsB, hc, h3]
theorem cl_1 (v : Nat) (h : v < 128) : cl (v : Int) = ((1 : Nat) : Int) := by rcases cl_cases (v : Int) with ⟨a, b⟩ | ⟨a, c, b⟩ | ⟨a, c, b⟩ | ⟨a, b⟩ <;> first | exact b | omega
theorem cl_2 (v : Nat) (h : 128 ≤ v) (h' : v < 2048) : cl (v : Int) = ((2 : Nat) : Int) := by rcases cl_cases (v : Int) with ⟨a, b⟩ | ⟨a, c, b⟩ | ⟨a, c, b⟩ | ⟨a, b⟩ <;> first | exact b | omega
theorem cl_3 (v : Nat) (h : 2048 ≤ v) (h' : v < 65536) : cl (v : Int) = ((3 : Nat) : Int) := by rcases cl_cases (v : Int) with ⟨a, b⟩ | ⟨a, c, b⟩ | ⟨a, c, b⟩ | ⟨a, b⟩ <;> first | exact b | omega
theorem cl_4 (v : Nat) (h : 65536 ≤ v) : cl (v : Int) = ((4 : Nat) : Int) := by rcases cl_cases (v : Int) with ⟨a, b⟩ | ⟨a, c, b⟩ | ⟨a, c, b⟩ | ⟨a, b⟩ <;> first | exact b | omega
theorem fl_1 (b : UInt8) (h : b.toNat < 192) : fl b = 1 := by unfold fl; rw [if_neg (by omega), if_neg (by omega), if_neg (by omega)]
theorem fl_2 (b : UInt8) (h : 192 ≤ b.toNat) (h' : b.toNat < 224) : fl b = 2 := by unfold fl; rw [if_neg (by omega), if_neg (by omega), if_pos (by omega)]
theorem fl_3 (b : UInt8) (h : 224 ≤ b.toNat) (h' : b.toNat < 240) : fl b = 3 := by unfold fl; rw [if_neg (by omega), if_pos (by omega)]
theorem fl_4 (b : UInt8) (h : 240 ≤ b.toNat) : fl b = 4 := by unfold fl; rw [if_pos (by omega)]
theorem notc_cont (b : UInt8) (h : 128 ≤ b.toNat) (h' : b.toNat < 192) : notc b = false := by simp [notc, h, h']
theorem notc_first (b : UInt8) (h : b.toNat < 128 ∨ 192 ≤ b.toNat) : notc b = true := by
  simp only [notc, Bool.not_eq_true', Bool.and_eq_false_iff, decide_eq_false_iff_not]; omega
theorem ofNat_toNat (n : Nat) (h : n < 256) : (UInt8.ofNat n).toNat = n := by rw [UInt8.toNat_ofNat']; omega

theorem preB_of {b : UInt8} {r : List UInt8} (h1 : r.length + 1 < fl b) (h2 : begB (b :: r) = true) : preB (b :: r) = true := by simp [preB, h1, h2]
theorem begB_of {b : UInt8} {r : List UInt8} (h1 : r.any notc = false) (h2 : fitsB (low (b :: r)) (fl b) = true ∨ fitsB (high (b :: r)) (fl b) = true) : begB (b :: r) = true := by
  simp only [begB, h1]
  rcases h2 with h | h <;> simp [h]
/-- a step that goes on with a prefix -/
theorem step_more {p : List UInt8} {b : UInt8} (h1 : preB p = true) (h2 : begB (p ++ [b]) = true) : stepL p b = takeL (p ++ [b]) := by simp [stepL, h1, h2]
theorem step_begin {b : UInt8} (h : begB [b] = true) : stepL [] b = takeL [b] := by
  show aloneL b = _
  simp [aloneL, h]
theorem take_more {b : UInt8} {r : List UInt8} (h : r.length + 1 < fl b) : takeL (b :: r) = (b :: r, []) := by simp [takeL, h]
theorem take_end {b : UInt8} {r : List UInt8} (h : ¬ r.length + 1 < fl b) : takeL (b :: r) = ([], [(low (b :: r) : Int)]) := by simp [takeL, h]

theorem dec_1 (x : Nat) (h : x < 128) (pre : List Int) : runL ([], pre) [UInt8.ofNat x] = ([], pre ++ [(x : Int)]) := by
  obtain ⟨b, hb⟩ : ∃ b, b = UInt8.ofNat x := ⟨_, rfl⟩
  have hn : b.toNat = x := by rw [hb, ofNat_toNat x (by omega)]
  rw [← hb]
  have f1 := fl_1 b (by omega)
  have hlow : low [b] = x := by simp [low, f1, mk, val, hn]
  have hbg : begB [b] = true := begB_of rfl (.inl (by rw [hlow, f1]; exact fits_of x 1 (by omega) (by omega) (cl_1 x h)))
  show runL ((stepL [] b).1, pre ++ (stepL [] b).2) [] = _
  rw [step_begin hbg, take_end (by simp [f1]), hlow]
  rfl
theorem dec_2 (x : Nat) (h : 128 ≤ x) (h' : x < 2048) (pre : List Int) : runL ([], pre) [UInt8.ofNat (192 + x / 64), UInt8.ofNat (128 + x % 64)] = ([], pre ++ [(x : Int)]) := by
  obtain ⟨b, hb⟩ : ∃ b, b = UInt8.ofNat (192 + x / 64) := ⟨_, rfl⟩
  obtain ⟨c, hc⟩ : ∃ c, c = UInt8.ofNat (128 + x % 64) := ⟨_, rfl⟩
  have hn : b.toNat = 192 + x / 64 := by rw [hb, ofNat_toNat _ (by omega)]
  have hm : c.toNat = 128 + x % 64 := by rw [hc, ofNat_toNat _ (by omega)]
  rw [← hb, ← hc]
  have f1 := fl_2 b (by omega) (by omega)
  have l1 : low [b] = x / 64 * 64 := by simp [low, f1, mk, val, hn]
  have l2 : low [b, c] = x := by simp [low, f1, mk, val, hn, hm]; omega
  have g1 : begB [b] = true := begB_of rfl (.inl (by rw [l1, f1]; exact fits_of _ 2 (by omega) (by omega) (cl_2 _ (by omega) (by omega))))
  have g2 : begB [b, c] = true := begB_of (by simp [notc_cont c (by omega) (by omega)]) (.inl (by rw [l2, f1]; exact fits_of _ 2 (by omega) (by omega) (cl_2 _ (by omega) (by omega))))
  have s1 : stepL [] b = ([b], []) := by rw [step_begin g1, take_more (by simp [f1])]
  have s2 : stepL [b] c = ([], [(x : Int)]) := by rw [step_more (preB_of (by simp [f1]) g1) g2]; show takeL [b, c] = _; rw [take_end (by simp [f1]), l2]
  simp [runL, s1, s2]
theorem dec_3 (x : Nat) (h : 2048 ≤ x) (h' : x < 65536) (hs : x < 55296 ∨ 57343 < x) (pre : List Int) : runL ([], pre) [UInt8.ofNat (224 + x / 4096), UInt8.ofNat (128 + x / 64 % 64), UInt8.ofNat (128 + x % 64)] = ([], pre ++ [(x : Int)]) := by
  obtain ⟨b, hb⟩ : ∃ b, b = UInt8.ofNat (224 + x / 4096) := ⟨_, rfl⟩
  obtain ⟨c, hc⟩ : ∃ c, c = UInt8.ofNat (128 + x / 64 % 64) := ⟨_, rfl⟩
  obtain ⟨d, hd⟩ : ∃ d, d = UInt8.ofNat (128 + x % 64) := ⟨_, rfl⟩
  have hn : b.toNat = 224 + x / 4096 := by rw [hb, ofNat_toNat _ (by omega)]
  have hm : c.toNat = 128 + x / 64 % 64 := by rw [hc, ofNat_toNat _ (by omega)]
  have ho : d.toNat = 128 + x % 64 := by rw [hd, ofNat_toNat _ (by omega)]
  rw [← hb, ← hc, ← hd]
  have f1 := fl_3 b (by omega) (by omega)
  have l1 : low [b] = x / 4096 * 4096 := by simp [low, f1, mk, val, hn]
  have u1 : high [b] = x / 4096 * 4096 + 4095 := by simp only [high, l1, f1]; simp
  have l2 : low [b, c] = x / 64 * 64 := by simp [low, f1, mk, val, hn, hm]; omega
  have l3 : low [b, c, d] = x := by simp [low, f1, mk, val, hn, hm, ho]; omega
  have g1 : begB [b] = true := begB_of rfl (by
    by_cases hx : x / 4096 = 13
    · exact .inl (by rw [l1, f1]; exact fits_of _ 3 (by omega) (by omega) (cl_3 _ (by omega) (by omega)))
    · exact .inr (by rw [u1, f1]; exact fits_of _ 3 (by omega) (by omega) (cl_3 _ (by omega) (by omega))))
  have k1 := notc_cont c (by omega) (by omega)
  have k2 := notc_cont d (by omega) (by omega)
  have g2 : begB [b, c] = true := begB_of (by simp [k1]) (.inl (by rw [l2, f1]; exact fits_of _ 3 (by omega) (by omega) (cl_3 _ (by omega) (by omega))))
  have g3 : begB [b, c, d] = true := begB_of (by simp [k1, k2]) (.inl (by rw [l3, f1]; exact fits_of _ 3 (by omega) (by omega) (cl_3 _ (by omega) (by omega))))
  have s1 : stepL [] b = ([b], []) := by rw [step_begin g1, take_more (by simp [f1])]
  have s2 : stepL [b] c = ([b, c], []) := by rw [step_more (preB_of (by simp [f1]) g1) g2]; show takeL [b, c] = _; rw [take_more (by simp [f1])]
  have s3 : stepL [b, c] d = ([], [(x : Int)]) := by rw [step_more (preB_of (by simp [f1]) g2) g3]; show takeL [b, c, d] = _; rw [take_end (by simp [f1]), l3]
  simp [runL, s1, s2, s3]
theorem dec_4 (x : Nat) (h : 65536 ≤ x) (h' : x ≤ 1114111) (pre : List Int) : runL ([], pre) [UInt8.ofNat (240 + x / 262144), UInt8.ofNat (128 + x / 4096 % 64), UInt8.ofNat (128 + x / 64 % 64), UInt8.ofNat (128 + x % 64)] = ([], pre ++ [(x : Int)]) := by
  obtain ⟨b, hb⟩ : ∃ b, b = UInt8.ofNat (240 + x / 262144) := ⟨_, rfl⟩
  obtain ⟨c, hc⟩ : ∃ c, c = UInt8.ofNat (128 + x / 4096 % 64) := ⟨_, rfl⟩
  obtain ⟨d, hd⟩ : ∃ d, d = UInt8.ofNat (128 + x / 64 % 64) := ⟨_, rfl⟩
  obtain ⟨e, he⟩ : ∃ e, e = UInt8.ofNat (128 + x % 64) := ⟨_, rfl⟩
  have hn : b.toNat = 240 + x / 262144 := by rw [hb, ofNat_toNat _ (by omega)]
  have hm : c.toNat = 128 + x / 4096 % 64 := by rw [hc, ofNat_toNat _ (by omega)]
  have ho : d.toNat = 128 + x / 64 % 64 := by rw [hd, ofNat_toNat _ (by omega)]
  have hq : e.toNat = 128 + x % 64 := by rw [he, ofNat_toNat _ (by omega)]
  rw [← hb, ← hc, ← hd, ← he]
  have f1 := fl_4 b (by omega)
  have l1 : low [b] = x / 262144 * 262144 := by simp [low, f1, mk, val, hn]
  have u1 : high [b] = x / 262144 * 262144 + 262143 := by simp only [high, l1, f1]; simp
  have l2 : low [b, c] = x / 4096 * 4096 := by simp [low, f1, mk, val, hn, hm]; omega
  have l3 : low [b, c, d] = x / 64 * 64 := by simp [low, f1, mk, val, hn, hm, ho]; omega
  have l4 : low [b, c, d, e] = x := by simp [low, f1, mk, val, hn, hm, ho, hq]; omega
  have g1 : begB [b] = true := begB_of rfl (by
    by_cases hx : x / 262144 = 0
    · exact .inr (by rw [u1, f1]; exact fits_of _ 4 (by omega) (by omega) (cl_4 _ (by omega)))
    · exact .inl (by rw [l1, f1]; exact fits_of _ 4 (by omega) (by omega) (cl_4 _ (by omega))))
  have k1 := notc_cont c (by omega) (by omega)
  have k2 := notc_cont d (by omega) (by omega)
  have k3 := notc_cont e (by omega) (by omega)
  have g2 : begB [b, c] = true := begB_of (by simp [k1]) (.inl (by rw [l2, f1]; exact fits_of _ 4 (by omega) (by omega) (cl_4 _ (by omega))))
  have g3 : begB [b, c, d] = true := begB_of (by simp [k1, k2]) (.inl (by rw [l3, f1]; exact fits_of _ 4 (by omega) (by omega) (cl_4 _ (by omega))))
  have g4 : begB [b, c, d, e] = true := begB_of (by simp [k1, k2, k3]) (.inl (by rw [l4, f1]; exact fits_of _ 4 (by omega) (by omega) (cl_4 _ (by omega))))
  have s1 : stepL [] b = ([b], []) := by rw [step_begin g1, take_more (by simp [f1])]
  have s2 : stepL [b] c = ([b, c], []) := by rw [step_more (preB_of (by simp [f1]) g1) g2]; show takeL [b, c] = _; rw [take_more (by simp [f1])]
  have s3 : stepL [b, c] d = ([b, c, d], []) := by rw [step_more (preB_of (by simp [f1]) g2) g3]; show takeL [b, c, d] = _; rw [take_more (by simp [f1])]
  have s4 : stepL [b, c, d] e = ([], [(x : Int)]) := by rw [step_more (preB_of (by simp [f1]) g3) g4]; show takeL [b, c, d, e] = _; rw [take_end (by simp [f1]), l4]
  simp [runL, s1, s2, s3, s4]

/-- what a number is replaced by -/
def rep (c : Int) : Int := if chk c then c else 65533
theorem dec_encV (x : Nat) (h1 : x ≤ 1114111) (h2 : x < 55296 ∨ 57343 < x) (pre : List Int) : runL ([], pre) (encV x) = ([], pre ++ [(x : Int)]) := by
  unfold encV
  by_cases a : x < 128
  · rw [if_pos a]; exact dec_1 x a pre
  · rw [if_neg a]
    by_cases b : x < 2048
    · rw [if_pos b]; exact dec_2 x (by omega) b pre
    · rw [if_neg b]
      by_cases c : x < 65536
      · rw [if_pos c]; exact dec_3 x (by omega) c h2 pre
      · rw [if_neg c]; exact dec_4 x (by omega) h1 pre
theorem dec_encL (c : Int) (pre : List Int) : runL ([], pre) (encL c) = ([], pre ++ [rep c]) := by
  unfold encL rep
  cases hk : chk c with
  | false => simp only [Bool.false_eq_true, if_false]; exact dec_encV 65533 (by omega) (by omega) pre
  | true =>
    have hr : 0 ≤ c ∧ c ≤ 1114111 ∧ (c < 55296 ∨ 57343 < c) := by simp [chk] at hk; exact hk
    simp only [if_true]
    rw [dec_encV c.toNat (by omega) (by omega) pre]
    have : ((c.toNat : Nat) : Int) = c := by omega
    rw [this]
theorem dec_textL (l : List Int) (pre : List Int) : runL ([], pre) (textL l) = ([], pre ++ l.map rep) := by
  induction l generalizing pre with
  | nil => simp [textL, runL]
  | cons c r ih => rw [textL, runL_app, dec_encL, ih]; simp
theorem codes_text (l : List Int) : codesL (textL l) = l.map rep := by
  unfold codesL; rw [dec_textL]; simp [flushL, preB]
theorem encL_rep (c : Int) : encL (rep c) = encL c := by
  unfold rep
  cases hk : chk c with
  | true => simp
  | false =>
    simp only [Bool.false_eq_true, if_false]
    have : chk 65533 = true := by decide +kernel
    simp [encL, hk, this]
theorem textL_rep (l : List Int) : textL (l.map rep) = textL l := by
  induction l with
  | nil => rfl
  | cons c r ih => simp [textL, encL_rep, ih]
theorem text_eq (a b : List Int) : textL a = textL b ↔ a.map rep = b.map rep := by
  constructor
  · intro h; rw [← codes_text a, ← codes_text b, h]
  · intro h; rw [← textL_rep a, ← textL_rep b, h]
theorem encL_first (c : Int) : ∃ f r, encL c = f :: r ∧ notc f = true := by
  have key : ∀ x : Nat, x ≤ 1114111 → ∃ f r, encV x = f :: r ∧ notc f = true := by
    intro x hx
    unfold encV
    by_cases a : x < 128
    · rw [if_pos a]; exact ⟨_, _, rfl, notc_first _ (by rw [ofNat_toNat _ (by omega)]; omega)⟩
    · rw [if_neg a]
      by_cases b : x < 2048
      · rw [if_pos b]; exact ⟨_, _, rfl, notc_first _ (by rw [ofNat_toNat _ (by omega)]; omega)⟩
      · rw [if_neg b]
        by_cases c : x < 65536
        · rw [if_pos c]; exact ⟨_, _, rfl, notc_first _ (by rw [ofNat_toNat _ (by omega)]; omega)⟩
        · rw [if_neg c]; exact ⟨_, _, rfl, notc_first _ (by rw [ofNat_toNat _ (by omega)]; omega)⟩
  unfold encL
  cases hk : chk c with
  | false => exact key 65533 (by omega)
  | true =>
    have hr : 0 ≤ c ∧ c ≤ 1114111 := by simp [chk] at hk; omega
    exact key c.toNat (by omega)
theorem codes_finds (a : List UInt8) (c : Int) (r : List UInt8) : codesL (a ++ encL c ++ r) = codesL a ++ codesL (encL c ++ r) := by
  obtain ⟨f, t, h, hn⟩ := encL_first c
  rw [h, List.append_assoc, List.cons_append]
  exact codes_resync a f (t ++ r) hn
theorem codes_one (c : Int) : codesL (encL c) = [rep c] := by
  unfold codesL; rw [dec_encL]; simp [flushL, preB]

/-- what is pending behind a step is nothing or a prefix -/
theorem take_right {b : UInt8} {r : List UInt8} (h : begB (b :: r) = true) : ((takeL (b :: r)).1.isEmpty || preB (takeL (b :: r)).1) = true := by
  by_cases hl : r.length + 1 < fl b
  · rw [take_more hl]; simp [preB_of hl h]
  · rw [take_end hl]; rfl
theorem alone_right (b : UInt8) : ((aloneL b).1.isEmpty || preB (aloneL b).1) = true := by
  unfold aloneL
  cases h : begB [b] with
  | true => simp only [if_true]; exact take_right h
  | false => rfl
theorem step_right (p : List UInt8) (b : UInt8) : ((stepL p b).1.isEmpty || preB (stepL p b).1) = true := by
  unfold stepL
  cases hp : preB p with
  | false => simp only [Bool.false_eq_true, if_false]; exact alone_right b
  | true =>
    simp only [if_true]
    cases hb : begB (p ++ [b]) with
    | false => simp only [Bool.false_eq_true, if_false]; exact alone_right b
    | true =>
      simp only [if_true]
      cases p with
      | nil => cases hp
      | cons b0 r0 => exact take_right hb
end Go.Proofs.YtoilcigmpeaedaaGreatDoor.Utf
