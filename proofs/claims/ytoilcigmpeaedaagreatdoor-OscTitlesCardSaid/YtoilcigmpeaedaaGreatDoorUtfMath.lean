/-
  Plain facts on numbers and lists of bytes for the UTF-8 layer: what the encoder and the decoder compute, as functions of lists; no program is named here.
-/
import Derived.Calls
namespace Go.Proofs.YtoilcigmpeaedaaGreatDoor.Utf

/-- a code point -/
def chk (c : Int) : Bool := decide (0 ≤ c ∧ c ≤ 1114111 ∧ (c < 55296 ∨ 57343 < c))
/-- the length by three limits -/
def len4 (x a b c : Int) : Int := if c ≤ x then 4 else if b ≤ x then 3 else if a ≤ x then 2 else 1
/-- the length of a code point's encoding -/
def cl (c : Int) : Int := len4 c 128 2048 65536
/-- the length that a first byte announces -/
def fl (b : UInt8) : Nat := if 240 ≤ b.toNat then 4 else if 224 ≤ b.toNat then 3 else if 192 ≤ b.toNat then 2 else 1
/-- what the first byte adds -/
def mk (n : Nat) : Nat := if n = 2 then 192 else if n = 3 then 224 else if n = 4 then 240 else 0
/-- no continuation byte -/
def notc (b : UInt8) : Bool := !(decide (128 ≤ b.toNat) && decide (b.toNat < 192))
def fitsB (x n : Int) : Bool := chk x && decide (cl x = n)
/-- the number that a first part and continuation bytes stand for -/
def val : Nat → List UInt8 → Nat
  | a, [] => a
  | a, b :: r => val (a * 64 + b.toNat % 64) r
/-- the least number that a head can stand for -/
def low (bs : List UInt8) : Nat :=
  match bs with
  | [] => 0
  | b :: r => val (b.toNat - mk (fl b)) r * 64 ^ (fl b - (r.length + 1))
def high (bs : List UInt8) : Nat :=
  match bs with
  | [] => 0
  | b :: r => low (b :: r) + (64 ^ (fl b - (r.length + 1)) - 1)
/-- begins an encoding: a head with no more bytes than announced -/
def begB (bs : List UInt8) : Bool :=
  match bs with
  | [] => false
  | b :: r => !(r.any notc) && (fitsB (low (b :: r)) (fl b) || fitsB (high (b :: r)) (fl b))
def preB (bs : List UInt8) : Bool :=
  match bs with
  | [] => false
  | b :: r => decide (r.length + 1 < fl b) && begB (b :: r)
/-- what a head that begins an encoding comes to -/
def takeL (bs : List UInt8) : List UInt8 × List Int :=
  match bs with
  | [] => ([], [])
  | b :: r => if r.length + 1 < fl b then (b :: r, []) else ([], [(low (b :: r) : Int)])
def aloneL (b : UInt8) : List UInt8 × List Int := if begB [b] then takeL [b] else ([], [65533])
def stepL (p : List UInt8) (b : UInt8) : List UInt8 × List Int :=
  if preB p then
    if begB (p ++ [b]) then takeL (p ++ [b]) else ((aloneL b).1, 65533 :: (aloneL b).2)
  else aloneL b
def flushL (p : List UInt8) : List Int := if preB p then [65533] else []
/-- pending bytes and what has come, over a text -/
def runL : List UInt8 × List Int → List UInt8 → List UInt8 × List Int
  | st, [] => st
  | st, b :: r => runL ((stepL st.1 b).1, st.2 ++ (stepL st.1 b).2) r
def codesL (s : List UInt8) : List Int := (runL ([], []) s).2 ++ flushL (runL ([], []) s).1

/-- the encoding of a code point -/
def encV (x : Nat) : List UInt8 :=
  if x < 128 then [UInt8.ofNat x]
  else if x < 2048 then [UInt8.ofNat (192 + x / 64), UInt8.ofNat (128 + x % 64)]
  else if x < 65536 then [UInt8.ofNat (224 + x / 4096), UInt8.ofNat (128 + x / 64 % 64), UInt8.ofNat (128 + x % 64)]
  else [UInt8.ofNat (240 + x / 262144), UInt8.ofNat (128 + x / 4096 % 64), UInt8.ofNat (128 + x / 64 % 64), UInt8.ofNat (128 + x % 64)]
/-- what any number is encoded as -/
def encL (c : Int) : List UInt8 := if chk c then encV c.toNat else encV 65533
def textL : List Int → List UInt8
  | [] => []
  | c :: r => encL c ++ textL r
theorem textL_snoc (l : List Int) (c : Int) : textL (l ++ [c]) = textL l ++ encL c := by
  induction l with
  | nil => simp [textL]
  | cons x r ih => simp [textL, ih]
theorem encV_len (x : Nat) : (encV x).length ≤ 4 ∧ 1 ≤ (encV x).length := by unfold encV; split <;> (try split) <;> (try split) <;> simp
theorem encL_len (c : Int) : (encL c).length ≤ 4 := by unfold encL; split <;> exact (encV_len _).1
theorem textL_len (l : List Int) : (textL l).length ≤ 4 * l.length := by
  induction l with
  | nil => simp [textL]
  | cons x r ih => have := encL_len x; simp [textL]; omega
theorem cl_cases (c : Int) : (c < 128 ∧ cl c = 1) ∨ (128 ≤ c ∧ c < 2048 ∧ cl c = 2) ∨ (2048 ≤ c ∧ c < 65536 ∧ cl c = 3) ∨ (65536 ≤ c ∧ cl c = 4) := by
  unfold cl len4
  by_cases h1 : 65536 ≤ c
  · simp [h1]
  · by_cases h2 : 2048 ≤ c
    · simp [h1, h2]; omega
    · by_cases h3 : 128 ≤ c
      · simp [h1, h2, h3]; omega
      · simp [h1, h2, h3]; omega
theorem fl_bd (b : UInt8) : 1 ≤ fl b ∧ fl b ≤ 4 := by unfold fl; split <;> (try split) <;> (try split) <;> omega
theorem fl_mk (b : UInt8) : mk (fl b) ≤ b.toNat := by
  unfold fl mk
  by_cases h1 : 240 ≤ b.toNat
  · simp [h1]
  · by_cases h2 : 224 ≤ b.toNat
    · simp [h1, h2]
    · by_cases h3 : 192 ≤ b.toNat
      · simp [h1, h2, h3]
      · simp [h1, h2, h3]
theorem val_snoc (a : Nat) (l : List UInt8) (b : UInt8) : val a (l ++ [b]) = val a l * 64 + b.toNat % 64 := by
  induction l generalizing a with
  | nil => rfl
  | cons x r ih => exact ih _
theorem runL_snoc (st : List UInt8 × List Int) (l : List UInt8) (b : UInt8) : runL st (l ++ [b]) = ((stepL (runL st l).1 b).1, (runL st l).2 ++ (stepL (runL st l).1 b).2) := by
  induction l generalizing st with
  | nil => rfl
  | cons x r ih => exact ih _
theorem takeL_len (bs : List UInt8) (h : bs.length ≤ 4) : (takeL bs).1.length ≤ 3 ∧ (takeL bs).2.length ≤ 1 := by
  unfold takeL
  split
  · simp
  · rename_i b r
    have := fl_bd b
    split <;> simp
    omega
theorem preB_len (p : List UInt8) (h : preB p = true) : p.length ≤ 3 ∧ 1 ≤ p.length := by
  unfold preB at h
  split at h
  · cases h
  · rename_i b r
    have := fl_bd b
    simp at h
    simp; omega
theorem aloneL_len (b : UInt8) : (aloneL b).1.length ≤ 3 ∧ (aloneL b).2.length ≤ 1 := by
  unfold aloneL
  split
  · exact takeL_len _ (by simp)
  · simp
theorem stepL_len (p : List UInt8) (b : UInt8) : (stepL p b).1.length ≤ 3 ∧ (stepL p b).2.length ≤ 2 := by
  unfold stepL
  split
  · rename_i h
    have := preB_len p h
    split
    · have := takeL_len (p ++ [b]) (by simp; omega)
      omega
    · have := aloneL_len b
      simp; omega
  · have := aloneL_len b; omega
theorem flushL_len (p : List UInt8) : (flushL p).length ≤ 1 := by unfold flushL; split <;> simp
theorem runL_len (st : List UInt8 × List Int) (l : List UInt8) : (runL st l).2.length ≤ st.2.length + 2 * l.length := by
  induction l generalizing st with
  | nil => simp [runL]
  | cons x r ih =>
    have h1 := ih ((stepL st.1 x).1, st.2 ++ (stepL st.1 x).2)
    have h2 := stepL_len st.1 x
    simp only [runL, List.length_append, List.length_cons] at h1 ⊢
    omega
end Go.Proofs.YtoilcigmpeaedaaGreatDoor.Utf
