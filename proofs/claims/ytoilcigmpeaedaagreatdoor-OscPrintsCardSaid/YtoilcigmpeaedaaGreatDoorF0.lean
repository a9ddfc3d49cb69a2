/-
  UtfMath UtfN ColMath ColTxt
-/
import Derived.Calls
namespace Go.Proofs.YtoilcigmpeaedaaGreatDoor.Utf

/-- a code point -/
def chk (c : Int) : Bool := decide (0 ≤ c ∧ c ≤ 1114111 ∧ (c < 55296 ∨ 57343 < c))
/-- the length by three limits -/
def len4 (x a b c : Int) : Int := if c ≤ x then 4 else if b ≤ x then 3 else if a ≤ x then 2 else 1
/-- the length of a code point's encoding -/
def cl (c : Int) : Int := len4 c 128 2048 65536
/-- the length that a first byte announces -/
def fl (b : UInt8) : Nat := if 240 ≤ b.toNat then 4 else if 224 ≤ b.toNat then 3 else if 192 ≤ b.toNat then 2 else 1
/-- what the first byte adds -/
def mk (n : Nat) : Nat := if n = 2 then 192 else if n = 3 then 224 else if n = 4 then 240 else 0
/-- no continuation byte -/
def notc (b : UInt8) : Bool := !(decide (128 ≤ b.toNat) && decide (b.toNat < 192))
def fitsB (x n : Int) : Bool := chk x && decide (cl x = n)
/-- the number that a first part and continuation bytes stand for -/
def val : Nat → List UInt8 → Nat
  | a, [] => a
  | a, b :: r => val (a * 64 + b.toNat % 64) r
/-- the least number that a head can stand for -/
def low (bs : List UInt8) : Nat :=
  match bs with
  | [] => 0
  | b :: r => val (b.toNat - mk (fl b)) r * 64 ^ (fl b - (r.length + 1))
def high (bs : List UInt8) : Nat :=
  match bs with
  | [] => 0
  | b :: r => low (b :: r) + (64 ^ (fl b - (r.length + 1)) - 1)
/-- begins an encoding: a head with no more bytes than announced -/
def begB (bs : List UInt8) : Bool :=
  match bs with
  | [] => false
  | b :: r => !(r.any notc) && (fitsB (low (b :: r)) (fl b) || fitsB (high (b :: r)) (fl b))
def preB (bs : List UInt8) : Bool :=
  match bs with
  | [] => false
  | b :: r => decide (r.length + 1 < fl b) && begB (b :: r)
/-- what a head that begins an encoding comes to -/
def takeL (bs : List UInt8) : List UInt8 × List Int :=
  match bs with
  | [] => ([], [])
  | b :: r => if r.length + 1 < fl b then (b :: r, []) else ([], [(low (b :: r) : Int)])
def aloneL (b : UInt8) : List UInt8 × List Int := if begB [b] then takeL [b] else ([], [65533])
def stepL (p : List UInt8) (b : UInt8) : List UInt8 × List Int :=
  if preB p then
    if begB (p ++ [b]) then takeL (p ++ [b]) else ((aloneL b).1, 65533 :: (aloneL b).2)
  else aloneL b
def flushL (p : List UInt8) : List Int := if preB p then [65533] else []
/-- pending bytes and what has come, over a text -/
def runL : List UInt8 × List Int → List UInt8 → List UInt8 × List Int
  | st, [] => st
  | st, b :: r => runL ((stepL st.1 b).1, st.2 ++ (stepL st.1 b).2) r
def codesL (s : List UInt8) : List Int := (runL ([], []) s).2 ++ flushL (runL ([], []) s).1

/-- the encoding of a code point -/
def encV (x : Nat) : List UInt8 :=
  if x < 128 then [UInt8.ofNat x]
  else if x < 2048 then [UInt8.ofNat (192 + x / 64), UInt8.ofNat (128 + x % 64)]
  else if x < 65536 then [UInt8.ofNat (224 + x / 4096), UInt8.ofNat (128 + x / 64 % 64), UInt8.ofNat (128 + x % 64)]
  else [UInt8.ofNat (240 + x / 262144), UInt8.ofNat (128 + x / 4096 % 64), UInt8.ofNat (128 + x / 64 % 64), UInt8.ofNat (128 + x % 64)]
/-- what any number is encoded as -/
def encL (c : Int) : List UInt8 := if chk c then encV c.toNat else encV 65533
def textL : List Int → List UInt8
  | [] => []
  | c :: r => encL c ++ textL r
theorem textL_snoc (l : List Int) (c : Int) : textL (l ++ [c]) = textL l ++ encL c := by
  induction l with
  | nil => simp [textL]
  | cons x r ih => simp [textL, ih]
theorem encV_len (x : Nat) : (encV x).length ≤ 4 ∧ 1 ≤ (encV x).length := by unfold encV; split <;> (try split) <;> (try split) <;> simp
theorem encL_len (c : Int) : (encL c).length ≤ 4 := by unfold encL; split <;> exact (encV_len _).1
theorem textL_len (l : List Int) : (textL l).length ≤ 4 * l.length := by
  induction l with
  | nil => simp [textL]
  | cons x r ih => have := encL_len x; simp [textL]; omega
theorem cl_cases (c : Int) : (c < 128 ∧ cl c = 1) ∨ (128 ≤ c ∧ c < 2048 ∧ cl c = 2) ∨ (2048 ≤ c ∧ c < 65536 ∧ cl c = 3) ∨ (65536 ≤ c ∧ cl c = 4) := by
  unfold cl len4
  by_cases h1 : 65536 ≤ c
  · simp [h1]
  · by_cases h2 : 2048 ≤ c
    · simp [h1, h2]; omega
    · by_cases h3 : 128 ≤ c
      · simp [h1, h2, h3]; omega
      · simp [h1, h2, h3]; omega
theorem fl_bd (b : UInt8) : 1 ≤ fl b ∧ fl b ≤ 4 := by unfold fl; split <;> (try split) <;> (try split) <;> omega
theorem fl_mk (b : UInt8) : mk (fl b) ≤ b.toNat := by
  unfold fl mk
  by_cases h1 : 240 ≤ b.toNat
  · simp [h1]
  · by_cases h2 : 224 ≤ b.toNat
    · simp [h1, h2]
    · by_cases h3 : 192 ≤ b.toNat
      · simp [h1, h2, h3]
      · simp [h1, h2, h3]
theorem val_snoc (a : Nat) (l : List UInt8) (b : UInt8) : val a (l ++ [b]) = val a l * 64 + b.toNat % 64 := by
  induction l generalizing a with
  | nil => rfl
  | cons x r ih => exact ih _
theorem runL_snoc (st : List UInt8 × List Int) (l : List UInt8) (b : UInt8) : runL st (l ++ [b]) = ((stepL (runL st l).1 b).1, (runL st l).2 ++ (stepL (runL st l).1 b).2) := by
  induction l generalizing st with
  | nil => rfl
  | cons x r ih => exact ih _
theorem takeL_len (bs : List UInt8) (h : bs.length ≤ 4) : (takeL bs).1.length ≤ 3 ∧ (takeL bs).2.length ≤ 1 := by
  unfold takeL
  split
  · simp
  · rename_i b r
    have := fl_bd b
    split <;> simp
    omega
theorem preB_len (p : List UInt8) (h : preB p = true) : p.length ≤ 3 ∧ 1 ≤ p.length := by
  unfold preB at h
  split at h
  · cases h
  · rename_i b r
    have := fl_bd b
    simp at h
    simp; omega
theorem aloneL_len (b : UInt8) : (aloneL b).1.length ≤ 3 ∧ (aloneL b).2.length ≤ 1 := by
  unfold aloneL
  split
  · exact takeL_len _ (by simp)
  · simp
theorem stepL_len (p : List UInt8) (b : UInt8) : (stepL p b).1.length ≤ 3 ∧ (stepL p b).2.length ≤ 2 := by
  unfold stepL
  split
  · rename_i h
    have := preB_len p h
    split
    · have := takeL_len (p ++ [b]) (by simp; omega)
      omega
    · have := aloneL_len b
      simp; omega
  · have := aloneL_len b; omega
theorem flushL_len (p : List UInt8) : (flushL p).length ≤ 1 := by unfold flushL; split <;> simp
theorem runL_len (st : List UInt8 × List Int) (l : List UInt8) : (runL st l).2.length ≤ st.2.length + 2 * l.length := by
  induction l generalizing st with
  | nil => simp [runL]
  | cons x r ih =>
    have h1 := ih ((stepL st.1 x).1, st.2 ++ (stepL st.1 x).2)
    have h2 := stepL_len st.1 x
    simp only [runL, List.length_append, List.length_cons] at h1 ⊢
    omega
end Go.Proofs.YtoilcigmpeaedaaGreatDoor.Utf

namespace Go.Proofs.YtoilcigmpeaedaaGreatDoor.Utf

theorem runL_shift (p : List UInt8) (pre : List Int) (l : List UInt8) : runL (p, pre) l = ((runL (p, []) l).1, pre ++ (runL (p, []) l).2) := by
  induction l generalizing p pre with
  | nil => simp [runL]
  | cons b r ih =>
    simp only [runL]
    rw [ih (stepL p b).1 (pre ++ (stepL p b).2), ih (stepL p b).1 ([] ++ (stepL p b).2)]
    simp
theorem runL_app (st : List UInt8 × List Int) (a b : List UInt8) : runL st (a ++ b) = runL (runL st a) b := by
  induction a generalizing st with
  | nil => rfl
  | cons x r ih => exact ih _
theorem begB_notc {p : List UInt8} {f : UInt8} (h : notc f = true) (hp : p ≠ []) : begB (p ++ [f]) = false := by
  cases p with
  | nil => exact absurd rfl hp
  | cons b r => simp [begB, h]
theorem stepL_first (p : List UInt8) (f : UInt8) (h : notc f = true) : stepL p f = ((stepL [] f).1, flushL p ++ (stepL [] f).2) := by
  have h0 : stepL [] f = aloneL f := rfl
  cases hp : preB p with
  | false => rw [h0]; simp [stepL, flushL, hp]
  | true =>
    have hne : p ≠ [] := by rintro rfl; cases hp
    have hb := begB_notc h hne
    rw [h0]
    simp [stepL, flushL, hp, hb]
theorem resync (p : List UInt8) (pre : List Int) (f : UInt8) (r : List UInt8) (h : notc f = true) : runL (p, pre) (f :: r) = runL ([], pre ++ flushL p) (f :: r) := by
  show runL ((stepL p f).1, pre ++ (stepL p f).2) r = runL ((stepL [] f).1, pre ++ flushL p ++ (stepL [] f).2) r
  rw [stepL_first p f h]
  simp
theorem codes_resync (a : List UInt8) (f : UInt8) (r : List UInt8) (h : notc f = true) : codesL (a ++ f :: r) = codesL a ++ codesL (f :: r) := by
  unfold codesL
  rw [runL_app]
  obtain ⟨p, pre⟩ : ∃ st, st = runL ([], []) a := ⟨_, rfl⟩
  rw [show runL ([], []) a = ((runL ([], []) a).1, (runL ([], []) a).2) from rfl, resync _ _ _ _ h, runL_shift]
  simp

theorem fits_of (v n : Nat) (h1 : v ≤ 1114111) (h2 : v < 55296 ∨ 57343 < v) (h3 : cl (v : Int) = (n : Int)) : fitsB (v : Int) (n : Int) = true := by
  have hc : chk (v : Int) = true := by simp [chk]; omega
  simp [fitsB, hc, h3]
theorem cl_1 (v : Nat) (h : v < 128) : cl (v : Int) = ((1 : Nat) : Int) := by rcases cl_cases (v : Int) with ⟨a, b⟩ | ⟨a, c, b⟩ | ⟨a, c, b⟩ | ⟨a, b⟩ <;> first | exact b | omega
theorem cl_2 (v : Nat) (h : 128 ≤ v) (h' : v < 2048) : cl (v : Int) = ((2 : Nat) : Int) := by rcases cl_cases (v : Int) with ⟨a, b⟩ | ⟨a, c, b⟩ | ⟨a, c, b⟩ | ⟨a, b⟩ <;> first | exact b | omega
theorem cl_3 (v : Nat) (h : 2048 ≤ v) (h' : v < 65536) : cl (v : Int) = ((3 : Nat) : Int) := by rcases cl_cases (v : Int) with ⟨a, b⟩ | ⟨a, c, b⟩ | ⟨a, c, b⟩ | ⟨a, b⟩ <;> first | exact b | omega
theorem cl_4 (v : Nat) (h : 65536 ≤ v) : cl (v : Int) = ((4 : Nat) : Int) := by rcases cl_cases (v : Int) with ⟨a, b⟩ | ⟨a, c, b⟩ | ⟨a, c, b⟩ | ⟨a, b⟩ <;> first | exact b | omega
theorem fl_1 (b : UInt8) (h : b.toNat < 192) : fl b = 1 := by unfold fl; rw [if_neg (by omega), if_neg (by omega), if_neg (by omega)]
theorem fl_2 (b : UInt8) (h : 192 ≤ b.toNat) (h' : b.toNat < 224) : fl b = 2 := by unfold fl; rw [if_neg (by omega), if_neg (by omega), if_pos (by omega)]
theorem fl_3 (b : UInt8) (h : 224 ≤ b.toNat) (h' : b.toNat < 240) : fl b = 3 := by unfold fl; rw [if_neg (by omega), if_pos (by omega)]
theorem fl_4 (b : UInt8) (h : 240 ≤ b.toNat) : fl b = 4 := by unfold fl; rw [if_pos (by omega)]
theorem notc_cont (b : UInt8) (h : 128 ≤ b.toNat) (h' : b.toNat < 192) : notc b = false := by simp [notc, h, h']
theorem notc_first (b : UInt8) (h : b.toNat < 128 ∨ 192 ≤ b.toNat) : notc b = true := by
  simp only [notc, Bool.not_eq_true', Bool.and_eq_false_iff, decide_eq_false_iff_not]; omega
theorem ofNat_toNat (n : Nat) (h : n < 256) : (UInt8.ofNat n).toNat = n := by rw [UInt8.toNat_ofNat']; omega

theorem preB_of {b : UInt8} {r : List UInt8} (h1 : r.length + 1 < fl b) (h2 : begB (b :: r) = true) : preB (b :: r) = true := by simp [preB, h1, h2]
theorem begB_of {b : UInt8} {r : List UInt8} (h1 : r.any notc = false) (h2 : fitsB (low (b :: r)) (fl b) = true ∨ fitsB (high (b :: r)) (fl b) = true) : begB (b :: r) = true := by
  simp only [begB, h1]
  rcases h2 with h | h <;> simp [h]
/-- a step that goes on with a prefix -/
theorem step_more {p : List UInt8} {b : UInt8} (h1 : preB p = true) (h2 : begB (p ++ [b]) = true) : stepL p b = takeL (p ++ [b]) := by simp [stepL, h1, h2]
theorem step_begin {b : UInt8} (h : begB [b] = true) : stepL [] b = takeL [b] := by
  show aloneL b = _
  simp [aloneL, h]
theorem take_more {b : UInt8} {r : List UInt8} (h : r.length + 1 < fl b) : takeL (b :: r) = (b :: r, []) := by simp [takeL, h]
theorem take_end {b : UInt8} {r : List UInt8} (h : ¬ r.length + 1 < fl b) : takeL (b :: r) = ([], [(low (b :: r) : Int)]) := by simp [takeL, h]

theorem dec_1 (x : Nat) (h : x < 128) (pre : List Int) : runL ([], pre) [UInt8.ofNat x] = ([], pre ++ [(x : Int)]) := by
  obtain ⟨b, hb⟩ : ∃ b, b = UInt8.ofNat x := ⟨_, rfl⟩
  have hn : b.toNat = x := by rw [hb, ofNat_toNat x (by omega)]
  rw [← hb]
  have f1 := fl_1 b (by omega)
  have hlow : low [b] = x := by simp [low, f1, mk, val, hn]
  have hbg : begB [b] = true := begB_of rfl (.inl (by rw [hlow, f1]; exact fits_of x 1 (by omega) (by omega) (cl_1 x h)))
  show runL ((stepL [] b).1, pre ++ (stepL [] b).2) [] = _
  rw [step_begin hbg, take_end (by simp [f1]), hlow]
  rfl
theorem dec_2 (x : Nat) (h : 128 ≤ x) (h' : x < 2048) (pre : List Int) : runL ([], pre) [UInt8.ofNat (192 + x / 64), UInt8.ofNat (128 + x % 64)] = ([], pre ++ [(x : Int)]) := by
  obtain ⟨b, hb⟩ : ∃ b, b = UInt8.ofNat (192 + x / 64) := ⟨_, rfl⟩
  obtain ⟨c, hc⟩ : ∃ c, c = UInt8.ofNat (128 + x % 64) := ⟨_, rfl⟩
  have hn : b.toNat = 192 + x / 64 := by rw [hb, ofNat_toNat _ (by omega)]
  have hm : c.toNat = 128 + x % 64 := by rw [hc, ofNat_toNat _ (by omega)]
  rw [← hb, ← hc]
  have f1 := fl_2 b (by omega) (by omega)
  have l1 : low [b] = x / 64 * 64 := by simp [low, f1, mk, val, hn]
  have l2 : low [b, c] = x := by simp [low, f1, mk, val, hn, hm]; omega
  have g1 : begB [b] = true := begB_of rfl (.inl (by rw [l1, f1]; exact fits_of _ 2 (by omega) (by omega) (cl_2 _ (by omega) (by omega))))
  have g2 : begB [b, c] = true := begB_of (by simp [notc_cont c (by omega) (by omega)]) (.inl (by rw [l2, f1]; exact fits_of _ 2 (by omega) (by omega) (cl_2 _ (by omega) (by omega))))
  have s1 : stepL [] b = ([b], []) := by rw [step_begin g1, take_more (by simp [f1])]
  have s2 : stepL [b] c = ([], [(x : Int)]) := by rw [step_more (preB_of (by simp [f1]) g1) g2]; show takeL [b, c] = _; rw [take_end (by simp [f1]), l2]
  simp [runL, s1, s2]
theorem dec_3 (x : Nat) (h : 2048 ≤ x) (h' : x < 65536) (hs : x < 55296 ∨ 57343 < x) (pre : List Int) : runL ([], pre) [UInt8.ofNat (224 + x / 4096), UInt8.ofNat (128 + x / 64 % 64), UInt8.ofNat (128 + x % 64)] = ([], pre ++ [(x : Int)]) := by
  obtain ⟨b, hb⟩ : ∃ b, b = UInt8.ofNat (224 + x / 4096) := ⟨_, rfl⟩
  obtain ⟨c, hc⟩ : ∃ c, c = UInt8.ofNat (128 + x / 64 % 64) := ⟨_, rfl⟩
  obtain ⟨d, hd⟩ : ∃ d, d = UInt8.ofNat (128 + x % 64) := ⟨_, rfl⟩
  have hn : b.toNat = 224 + x / 4096 := by rw [hb, ofNat_toNat _ (by omega)]
  have hm : c.toNat = 128 + x / 64 % 64 := by rw [hc, ofNat_toNat _ (by omega)]
  have ho : d.toNat = 128 + x % 64 := by rw [hd, ofNat_toNat _ (by omega)]
  rw [← hb, ← hc, ← hd]
  have f1 := fl_3 b (by omega) (by omega)
  have l1 : low [b] = x / 4096 * 4096 := by simp [low, f1, mk, val, hn]
  have u1 : high [b] = x / 4096 * 4096 + 4095 := by simp only [high, l1, f1]; simp
  have l2 : low [b, c] = x / 64 * 64 := by simp [low, f1, mk, val, hn, hm]; omega
  have l3 : low [b, c, d] = x := by simp [low, f1, mk, val, hn, hm, ho]; omega
  have g1 : begB [b] = true := begB_of rfl (by
    by_cases hx : x / 4096 = 13
    · exact .inl (by rw [l1, f1]; exact fits_of _ 3 (by omega) (by omega) (cl_3 _ (by omega) (by omega)))
    · exact .inr (by rw [u1, f1]; exact fits_of _ 3 (by omega) (by omega) (cl_3 _ (by omega) (by omega))))
  have k1 := notc_cont c (by omega) (by omega)
  have k2 := notc_cont d (by omega) (by omega)
  have g2 : begB [b, c] = true := begB_of (by simp [k1]) (.inl (by rw [l2, f1]; exact fits_of _ 3 (by omega) (by omega) (cl_3 _ (by omega) (by omega))))
  have g3 : begB [b, c, d] = true := begB_of (by simp [k1, k2]) (.inl (by rw [l3, f1]; exact fits_of _ 3 (by omega) (by omega) (cl_3 _ (by omega) (by omega))))
  have s1 : stepL [] b = ([b], []) := by rw [step_begin g1, take_more (by simp [f1])]
  have s2 : stepL [b] c = ([b, c], []) := by rw [step_more (preB_of (by simp [f1]) g1) g2]; show takeL [b, c] = _; rw [take_more (by simp [f1])]
  have s3 : stepL [b, c] d = ([], [(x : Int)]) := by rw [step_more (preB_of (by simp [f1]) g2) g3]; show takeL [b, c, d] = _; rw [take_end (by simp [f1]), l3]
  simp [runL, s1, s2, s3]
theorem dec_4 (x : Nat) (h : 65536 ≤ x) (h' : x ≤ 1114111) (pre : List Int) : runL ([], pre) [UInt8.ofNat (240 + x / 262144), UInt8.ofNat (128 + x / 4096 % 64), UInt8.ofNat (128 + x / 64 % 64), UInt8.ofNat (128 + x % 64)] = ([], pre ++ [(x : Int)]) := by
  obtain ⟨b, hb⟩ : ∃ b, b = UInt8.ofNat (240 + x / 262144) := ⟨_, rfl⟩
  obtain ⟨c, hc⟩ : ∃ c, c = UInt8.ofNat (128 + x / 4096 % 64) := ⟨_, rfl⟩
  obtain ⟨d, hd⟩ : ∃ d, d = UInt8.ofNat (128 + x / 64 % 64) := ⟨_, rfl⟩
  obtain ⟨e, he⟩ : ∃ e, e = UInt8.ofNat (128 + x % 64) := ⟨_, rfl⟩
  have hn : b.toNat = 240 + x / 262144 := by rw [hb, ofNat_toNat _ (by omega)]
  have hm : c.toNat = 128 + x / 4096 % 64 := by rw [hc, ofNat_toNat _ (by omega)]
  have ho : d.toNat = 128 + x / 64 % 64 := by rw [hd, ofNat_toNat _ (by omega)]
  have hq : e.toNat = 128 + x % 64 := by rw [he, ofNat_toNat _ (by omega)]
  rw [← hb, ← hc, ← hd, ← he]
  have f1 := fl_4 b (by omega)
  have l1 : low [b] = x / 262144 * 262144 := by simp [low, f1, mk, val, hn]
  have u1 : high [b] = x / 262144 * 262144 + 262143 := by simp only [high, l1, f1]; simp
  have l2 : low [b, c] = x / 4096 * 4096 := by simp [low, f1, mk, val, hn, hm]; omega
  have l3 : low [b, c, d] = x / 64 * 64 := by simp [low, f1, mk, val, hn, hm, ho]; omega
  have l4 : low [b, c, d, e] = x := by simp [low, f1, mk, val, hn, hm, ho, hq]; omega
  have g1 : begB [b] = true := begB_of rfl (by
    by_cases hx : x / 262144 = 0
    · exact .inr (by rw [u1, f1]; exact fits_of _ 4 (by omega) (by omega) (cl_4 _ (by omega)))
    · exact .inl (by rw [l1, f1]; exact fits_of _ 4 (by omega) (by omega) (cl_4 _ (by omega))))
  have k1 := notc_cont c (by omega) (by omega)
  have k2 := notc_cont d (by omega) (by omega)
  have k3 := notc_cont e (by omega) (by omega)
  have g2 : begB [b, c] = true := begB_of (by simp [k1]) (.inl (by rw [l2, f1]; exact fits_of _ 4 (by omega) (by omega) (cl_4 _ (by omega))))
  have g3 : begB [b, c, d] = true := begB_of (by simp [k1, k2]) (.inl (by rw [l3, f1]; exact fits_of _ 4 (by omega) (by omega) (cl_4 _ (by omega))))
  have g4 : begB [b, c, d, e] = true := begB_of (by simp [k1, k2, k3]) (.inl (by rw [l4, f1]; exact fits_of _ 4 (by omega) (by omega) (cl_4 _ (by omega))))
  have s1 : stepL [] b = ([b], []) := by rw [step_begin g1, take_more (by simp [f1])]
  have s2 : stepL [b] c = ([b, c], []) := by rw [step_more (preB_of (by simp [f1]) g1) g2]; show takeL [b, c] = _; rw [take_more (by simp [f1])]
  have s3 : stepL [b, c] d = ([b, c, d], []) := by rw [step_more (preB_of (by simp [f1]) g2) g3]; show takeL [b, c, d] = _; rw [take_more (by simp [f1])]
  have s4 : stepL [b, c, d] e = ([], [(x : Int)]) := by rw [step_more (preB_of (by simp [f1]) g3) g4]; show takeL [b, c, d, e] = _; rw [take_end (by simp [f1]), l4]
  simp [runL, s1, s2, s3, s4]

/-- what a number is replaced by -/
def rep (c : Int) : Int := if chk c then c else 65533
theorem dec_encV (x : Nat) (h1 : x ≤ 1114111) (h2 : x < 55296 ∨ 57343 < x) (pre : List Int) : runL ([], pre) (encV x) = ([], pre ++ [(x : Int)]) := by
  unfold encV
  by_cases a : x < 128
  · rw [if_pos a]; exact dec_1 x a pre
  · rw [if_neg a]
    by_cases b : x < 2048
    · rw [if_pos b]; exact dec_2 x (by omega) b pre
    · rw [if_neg b]
      by_cases c : x < 65536
      · rw [if_pos c]; exact dec_3 x (by omega) c h2 pre
      · rw [if_neg c]; exact dec_4 x (by omega) h1 pre
theorem dec_encL (c : Int) (pre : List Int) : runL ([], pre) (encL c) = ([], pre ++ [rep c]) := by
  unfold encL rep
  cases hk : chk c with
  | false => simp only [Bool.false_eq_true, if_false]; exact dec_encV 65533 (by omega) (by omega) pre
  | true =>
    have hr : 0 ≤ c ∧ c ≤ 1114111 ∧ (c < 55296 ∨ 57343 < c) := by simp [chk] at hk; exact hk
    simp only [if_true]
    rw [dec_encV c.toNat (by omega) (by omega) pre]
    have : ((c.toNat : Nat) : Int) = c := by omega
    rw [this]
theorem dec_textL (l : List Int) (pre : List Int) : runL ([], pre) (textL l) = ([], pre ++ l.map rep) := by
  induction l generalizing pre with
  | nil => simp [textL, runL]
  | cons c r ih => rw [textL, runL_app, dec_encL, ih]; simp
theorem codes_text (l : List Int) : codesL (textL l) = l.map rep := by
  unfold codesL; rw [dec_textL]; simp [flushL, preB]
theorem encL_rep (c : Int) : encL (rep c) = encL c := by
  unfold rep
  cases hk : chk c with
  | true => simp
  | false =>
    simp only [Bool.false_eq_true, if_false]
    have : chk 65533 = true := by decide +kernel
    simp [encL, hk, this]
theorem textL_rep (l : List Int) : textL (l.map rep) = textL l := by
  induction l with
  | nil => rfl
  | cons c r ih => simp [textL, encL_rep, ih]
theorem text_eq (a b : List Int) : textL a = textL b ↔ a.map rep = b.map rep := by
  constructor
  · intro h; rw [← codes_text a, ← codes_text b, h]
  · intro h; rw [← textL_rep a, ← textL_rep b, h]
theorem encL_first (c : Int) : ∃ f r, encL c = f :: r ∧ notc f = true := by
  have key : ∀ x : Nat, x ≤ 1114111 → ∃ f r, encV x = f :: r ∧ notc f = true := by
    intro x hx
    unfold encV
    by_cases a : x < 128
    · rw [if_pos a]; exact ⟨_, _, rfl, notc_first _ (by rw [ofNat_toNat _ (by omega)]; omega)⟩
    · rw [if_neg a]
      by_cases b : x < 2048
      · rw [if_pos b]; exact ⟨_, _, rfl, notc_first _ (by rw [ofNat_toNat _ (by omega)]; omega)⟩
      · rw [if_neg b]
        by_cases c : x < 65536
        · rw [if_pos c]; exact ⟨_, _, rfl, notc_first _ (by rw [ofNat_toNat _ (by omega)]; omega)⟩
        · rw [if_neg c]; exact ⟨_, _, rfl, notc_first _ (by rw [ofNat_toNat _ (by omega)]; omega)⟩
  unfold encL
  cases hk : chk c with
  | false => exact key 65533 (by omega)
  | true =>
    have hr : 0 ≤ c ∧ c ≤ 1114111 := by simp [chk] at hk; omega
    exact key c.toNat (by omega)
theorem codes_finds (a : List UInt8) (c : Int) (r : List UInt8) : codesL (a ++ encL c ++ r) = codesL a ++ codesL (encL c ++ r) := by
  obtain ⟨f, t, h, hn⟩ := encL_first c
  rw [h, List.append_assoc, List.cons_append]
  exact codes_resync a f (t ++ r) hn
theorem codes_one (c : Int) : codesL (encL c) = [rep c] := by
  unfold codesL; rw [dec_encL]; simp [flushL, preB]

/-- what is pending behind a step is nothing or a prefix -/
theorem take_right {b : UInt8} {r : List UInt8} (h : begB (b :: r) = true) : ((takeL (b :: r)).1.isEmpty || preB (takeL (b :: r)).1) = true := by
  by_cases hl : r.length + 1 < fl b
  · rw [take_more hl]; simp [preB_of hl h]
  · rw [take_end hl]; rfl
theorem alone_right (b : UInt8) : ((aloneL b).1.isEmpty || preB (aloneL b).1) = true := by
  unfold aloneL
  cases h : begB [b] with
  | true => simp only [if_true]; exact take_right h
  | false => rfl
theorem step_right (p : List UInt8) (b : UInt8) : ((stepL p b).1.isEmpty || preB (stepL p b).1) = true := by
  unfold stepL
  cases hp : preB p with
  | false => simp only [Bool.false_eq_true, if_false]; exact alone_right b
  | true =>
    simp only [if_true]
    cases hb : begB (p ++ [b]) with
    | false => simp only [Bool.false_eq_true, if_false]; exact alone_right b
    | true =>
      simp only [if_true]
      cases p with
      | nil => cases hp
      | cons b0 r0 => exact take_right hb
end Go.Proofs.YtoilcigmpeaedaaGreatDoor.Utf

namespace Go.Proofs.YtoilcigmpeaedaaGreatDoor.Col

/-- the greatest N of each Kind -/
def limT : List Int := [0, 255, 16777215]
def basT : List Int := [0, 13434880, 52480, 13487360, 238, 13435085, 52685, 15066597, 8355711, 16711680, 65280, 16776960, 6053119, 16711935, 65535, 16777215]
def levT : List Int := [0, 95, 135, 175, 215, 255]
def lev (n : Nat) : Int := levT[n]?.getD 0
/-- the palette -/
def pal (n : Nat) : Int :=
  if n < 16 then basT[n]?.getD 0
  else if n < 232 then lev ((n - 16) / 36) * 65536 + lev ((n - 16) / 6 % 6) * 256 + lev ((n - 16) % 6)
  else (8 + 10 * ((n : Int) - 232)) * 65793
theorem pal_all : ∀ n : Fin 256, 0 ≤ pal n.val ∧ pal n.val ≤ 16777215 := by decide +kernel
theorem pal_bd (n : Nat) (h : n < 256) : 0 ≤ pal n ∧ pal n ≤ 16777215 := pal_all ⟨n, h⟩
/-- a valid color -/
def okC (k n : Int) : Bool := decide ((k = 0 ∧ n = 0) ∨ (k = 1 ∧ 0 ≤ n ∧ n ≤ 255) ∨ (k = 2 ∧ 0 ≤ n ∧ n ≤ 16777215))
def errC (k n : Int) : Int := if okC k n then 0 else 130
/-- the RGB value -/
def rgbC (k n : Int) : Option Int := if okC k n then (if k = 0 then none else if k = 1 then some (pal n.toNat) else some n) else none
theorem rgbC_bd (k n x : Int) (h : rgbC k n = some x) : 0 ≤ x ∧ x ≤ 16777215 := by
  unfold rgbC at h
  split at h
  · rename_i ho
    simp only [okC, decide_eq_true_eq] at ho
    split at h
    · cases h
    · split at h
      · cases h; exact pal_bd _ (by omega)
      · cases h; omega
  · cases h
/-- the distance of two RGB values -/
def dst (a b : Int) : Int := (a / 65536 - b / 65536) * (a / 65536 - b / 65536) + (a / 256 % 256 - b / 256 % 256) * (a / 256 % 256 - b / 256 % 256) + (a % 256 - b % 256) * (a % 256 - b % 256)
theorem sq_comm (a b : Int) : (a - b) * (a - b) = (b - a) * (b - a) := by
  rw [show a - b = -(b - a) by omega, Int.neg_mul_neg]
theorem dst_comm (a b : Int) : dst a b = dst b a := by
  unfold dst
  rw [sq_comm (a / 65536), sq_comm (a / 256 % 256), sq_comm (a % 256)]
theorem sq_bd (x : Int) (h1 : -255 ≤ x) (h2 : x ≤ 255) : 0 ≤ x * x ∧ x * x ≤ 65025 := by
  refine ⟨?_, ?_⟩
  · rcases Int.le_total 0 x with h | h
    · exact Int.mul_nonneg h h
    · exact Int.mul_nonneg_of_nonpos_of_nonpos h h
  · rcases Int.le_total 0 x with h | h
    · exact Int.le_trans (Int.mul_le_mul h2 h2 h (by omega)) (by omega)
    · rw [show x * x = (-x) * (-x) from (Int.neg_mul_neg x x).symm]
      exact Int.le_trans (Int.mul_le_mul (show -x ≤ 255 by omega) (show -x ≤ 255 by omega) (by omega) (by omega)) (by omega)
theorem dst_bd (a b : Int) (ha : 0 ≤ a ∧ a ≤ 16777215) (hb : 0 ≤ b ∧ b ≤ 16777215) : 0 ≤ dst a b ∧ dst a b ≤ 195075 := by
  have h1 := sq_bd (a / 65536 - b / 65536) (by omega) (by omega)
  have h2 := sq_bd (a / 256 % 256 - b / 256 % 256) (by omega) (by omega)
  have h3 := sq_bd (a % 256 - b % 256) (by omega) (by omega)
  unfold dst
  omega
/-- the nearest of the indices 0 to n -/
def nearL (x : Int) : Nat → Nat
  | 0 => 0
  | n + 1 => if dst x (pal (n + 1)) < dst x (pal (nearL x n)) then n + 1 else nearL x n
theorem nearL_le (x : Int) (n : Nat) : nearL x n ≤ n := by
  induction n with
  | zero => exact Nat.le_refl _
  | succ n ih => unfold nearL; split <;> omega
/-- none of the indices is closer, none of the smaller ones as close -/
theorem nearL_best (x : Int) (n : Nat) : ∀ j, j ≤ n → dst x (pal (nearL x n)) ≤ dst x (pal j) ∧ (j < nearL x n → dst x (pal (nearL x n)) < dst x (pal j)) := by
  induction n with
  | zero => intro j hj; obtain rfl : j = 0 := by omega
            exact ⟨Int.le_refl _, fun h => by simp [nearL] at h⟩
  | succ n ih =>
    intro j hj
    by_cases hlt : dst x (pal (n + 1)) < dst x (pal (nearL x n))
    · rw [show nearL x (n + 1) = n + 1 by rw [nearL, if_pos hlt]]
      by_cases hj2 : j = n + 1
      · subst hj2; exact ⟨Int.le_refl _, fun h => by omega⟩
      · have := (ih j (by omega)).1
        exact ⟨by omega, fun _ => by omega⟩
    · rw [show nearL x (n + 1) = nearL x n by rw [nearL, if_neg hlt]]
      by_cases hj2 : j = n + 1
      · subst hj2
        exact ⟨by omega, fun h => by have := nearL_le x n; omega⟩
      · exact ih j (by omega)
def nearC (x : Int) : Int := if 0 ≤ x ∧ x ≤ 16777215 then (nearL x 255 : Int) else 0
def nearE (x : Int) : Int := if 0 ≤ x ∧ x ≤ 16777215 then 0 else 2

/-- a hexadecimal digit as it is written -/
def hexT : List UInt8 := [48, 49, 50, 51, 52, 53, 54, 55, 56, 57, 97, 98, 99, 100, 101, 102]
def hexD (d : Nat) : UInt8 := hexT[d]?.getD 0
/-- the text of an RGB value -/
def txt (n : Nat) : List UInt8 := [114, 103, 98, 58, hexD (n / 1048576 % 16), hexD (n / 65536 % 16), 47, hexD (n / 4096 % 16), hexD (n / 256 % 16), 47, hexD (n / 16 % 16), hexD (n % 16)]
/-- a hexadecimal digit as it is read -/
def dig (b : UInt8) : Option Nat :=
  if 48 ≤ b.toNat ∧ b.toNat ≤ 57 then some (b.toNat - 48)
  else if 97 ≤ b.toNat ∧ b.toNat ≤ 102 then some (b.toNat - 97 + 10)
  else if 65 ≤ b.toNat ∧ b.toNat ≤ 70 then some (b.toNat - 65 + 10)
  else none
theorem dig_bd (b : UInt8) (d : Nat) (h : dig b = some d) : d < 16 := by
  unfold dig at h
  split at h
  · cases h; omega
  · split at h
    · cases h; omega
    · split at h
      · cases h; omega
      · cases h
def formL : List UInt8 := [114, 103, 98, 58, 104, 104, 47, 104, 104, 47, 104, 104]
/-- reading the digits where the form has an h, the form's own bytes elsewhere -/
def prs : List UInt8 → List UInt8 → Nat → Option Nat
  | f :: fs, c :: cs, a => if f = 104 then (match dig c with | none => none | some d => prs fs cs (a * 16 + d)) else if c = f then prs fs cs a else none
  | _, _, a => some a
def parseL (s : List UInt8) : Option Nat := if s.length = 12 then prs formL s 0 else none
end Go.Proofs.YtoilcigmpeaedaaGreatDoor.Col

namespace Go.Proofs.YtoilcigmpeaedaaGreatDoor.Col

/-- what is left of the number behind the last m bytes of the form -/
def remN (n : Nat) : Nat → Nat
  | 0 => n
  | m + 1 => if formL[11 - m]? = some 104 then remN n m / 16 else remN n m
/-- the text with its last m bytes laid -/
def stL (n : Nat) : Nat → List UInt8
  | 0 => formL
  | m + 1 => if formL[11 - m]? = some 104 then (stL n m).set (11 - m) (hexD (remN n m % 16)) else stL n m
theorem stL_at (n : Nat) (m q : Nat) (h : m + q ≤ 11) : (stL n m)[q]? = formL[q]? := by
  induction m with
  | zero => rfl
  | succ m ih =>
    unfold stL
    split
    · rw [List.getElem?_set_ne (by omega)]
      exact ih (by omega)
    · exact ih (by omega)
theorem stL_len (n m : Nat) : (stL n m).length = 12 := by
  induction m with
  | zero => rfl
  | succ m ih =>
    unfold stL
    split
    · rw [List.length_set]; exact ih
    · exact ih
theorem stL_end (n : Nat) : stL n 12 = txt n := by
  have e : ∀ m, stL n (m + 1) = if formL[11 - m]? = some 104 then (stL n m).set (11 - m) (hexD (remN n m % 16)) else stL n m := fun _ => rfl
  have f : ∀ m, remN n (m + 1) = if formL[11 - m]? = some 104 then remN n m / 16 else remN n m := fun _ => rfl
  have r0 : remN n 0 = n := rfl
  have r1 : remN n 1 = n / 16 := (f 0).trans (by rw [if_pos (by decide), r0])
  have r2 : remN n 2 = n / 256 := (f 1).trans (by rw [if_pos (by decide), r1, Nat.div_div_eq_div_mul])
  have r3 : remN n 3 = n / 256 := (f 2).trans (by rw [if_neg (by decide), r2])
  have r4 : remN n 4 = n / 4096 := (f 3).trans (by rw [if_pos (by decide), r3, Nat.div_div_eq_div_mul])
  have r5 : remN n 5 = n / 65536 := (f 4).trans (by rw [if_pos (by decide), r4, Nat.div_div_eq_div_mul])
  have r6 : remN n 6 = n / 65536 := (f 5).trans (by rw [if_neg (by decide), r5])
  have r7 : remN n 7 = n / 1048576 := (f 6).trans (by rw [if_pos (by decide), r6, Nat.div_div_eq_div_mul])
  have s0 : stL n 0 = formL := rfl
  have s1 : stL n 1 = (stL n 0).set 11 (hexD (remN n 0 % 16)) := (e 0).trans (if_pos (by decide))
  have s2 : stL n 2 = (stL n 1).set 10 (hexD (remN n 1 % 16)) := (e 1).trans (if_pos (by decide))
  have s3 : stL n 3 = stL n 2 := (e 2).trans (if_neg (by decide))
  have s4 : stL n 4 = (stL n 3).set 8 (hexD (remN n 3 % 16)) := (e 3).trans (if_pos (by decide))
  have s5 : stL n 5 = (stL n 4).set 7 (hexD (remN n 4 % 16)) := (e 4).trans (if_pos (by decide))
  have s6 : stL n 6 = stL n 5 := (e 5).trans (if_neg (by decide))
  have s7 : stL n 7 = (stL n 6).set 5 (hexD (remN n 6 % 16)) := (e 6).trans (if_pos (by decide))
  have s8 : stL n 8 = (stL n 7).set 4 (hexD (remN n 7 % 16)) := (e 7).trans (if_pos (by decide))
  have s9 : stL n 9 = stL n 8 := (e 8).trans (if_neg (by decide))
  have s10 : stL n 10 = stL n 9 := (e 9).trans (if_neg (by decide))
  have s11 : stL n 11 = stL n 10 := (e 10).trans (if_neg (by decide))
  have s12 : stL n 12 = stL n 11 := (e 11).trans (if_neg (by decide))
  rw [s12, s11, s10, s9, s8, s7, s6, s5, s4, s3, s2, s1, s0, r0, r1, r3, r4, r6, r7]
  rfl
theorem remN_le (n m : Nat) : remN n m ≤ n := by
  induction m with
  | zero => exact Nat.le_refl _
  | succ m ih =>
    unfold remN
    split
    · exact Nat.le_trans (Nat.div_le_self _ _) ih
    · exact ih
/-- the text of a color, and the error -/
def txtC (k n : Int) : ByteArray := match rgbC k n with | some x => ⟨(txt x.toNat).toArray⟩ | none => ⟨#[]⟩
def txtE (k n : Int) : Int := if okC k n then (if k = 0 then 2 else 0) else 130

theorem hex_dig : ∀ d : Fin 16, dig (hexD d.val) = some d.val := by decide +kernel
theorem dig_hex (d : Nat) (h : d < 16) : dig (hexD d) = some d := hex_dig ⟨d, h⟩
/-- reading a text in the form, digit by digit -/
theorem parse_form (a b c d e f : UInt8) (x1 x2 x3 x4 x5 x6 : Nat) (h1 : dig a = some x1) (h2 : dig b = some x2) (h3 : dig c = some x3) (h4 : dig d = some x4) (h5 : dig e = some x5) (h6 : dig f = some x6) :
    parseL [114, 103, 98, 58, a, b, 47, c, d, 47, e, f] = some (((((x1 * 16 + x2) * 16 + x3) * 16 + x4) * 16 + x5) * 16 + x6) := by
  simp [parseL, prs, formL, h1, h2, h3, h4, h5, h6]
theorem parse_txt (n : Nat) (h : n < 16777216) : parseL (txt n) = some n := by
  unfold txt
  rw [parse_form _ _ _ _ _ _ _ _ _ _ _ _ (dig_hex _ (by omega)) (dig_hex _ (by omega)) (dig_hex _ (by omega)) (dig_hex _ (by omega)) (dig_hex _ (by omega)) (dig_hex _ (by omega))]
  congr 1
  omega
end Go.Proofs.YtoilcigmpeaedaaGreatDoor.Col
