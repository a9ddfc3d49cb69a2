/-
  UtfMath ColMath
-/
import Derived.Calls
namespace Go.Proofs.YteepfecplabinaaDoor.Utf

/-- a code point -/
def chk (c : Int) : Bool := decide (0 ≤ c ∧ c ≤ 1114111 ∧ (c < 55296 ∨ 57343 < c))
/-- the length by three limits -/
def len4 (x a b c : Int) : Int := if c ≤ x then 4 else if b ≤ x then 3 else if a ≤ x then 2 else 1
/-- the length of a code point's encoding -/
def cl (c : Int) : Int := len4 c 128 2048 65536
/-- the length that a first byte announces -/
def fl (b : UInt8) : Nat := if 240 ≤ b.toNat then 4 else if 224 ≤ b.toNat then 3 else if 192 ≤ b.toNat then 2 else 1
/-- what the first byte adds -/
def mk (n : Nat) : Nat := if n = 2 then 192 else if n = 3 then 224 else if n = 4 then 240 else 0
/-- no continuation byte -/
def notc (b : UInt8) : Bool := !(decide (128 ≤ b.toNat) && decide (b.toNat < 192))
def fitsB (x n : Int) : Bool := chk x && decide (cl x = n)
/-- the number that a first part and continuation bytes stand for -/
def val : Nat → List UInt8 → Nat
  | a, [] => a
  | a, b :: r => val (a * 64 + b.toNat % 64) r
/-- the least number that a head can stand for -/
def low (bs : List UInt8) : Nat :=
  match bs with
  | [] => 0
  | b :: r => val (b.toNat - mk (fl b)) r * 64 ^ (fl b - (r.length + 1))
def high (bs : List UInt8) : Nat :=
  match bs with
  | [] => 0
  | b :: r => low (b :: r) + (64 ^ (fl b - (r.length + 1)) - 1)
/-- begins an encoding: a head with no more bytes than announced -/
def begB (bs : List UInt8) : Bool :=
  match bs with
  | [] => false
  | b :: r => !(r.any notc) && (fitsB (low (b :: r)) (fl b) || fitsB (high (b :: r)) (fl b))
def preB (bs : List UInt8) : Bool :=
  match bs with
  | [] => false
  | b :: r => decide (r.length + 1 < fl b) && begB (b :: r)
/-- what a head that begins an encoding comes to -/
def takeL (bs : List UInt8) : List UInt8 × List Int :=
  match bs with
  | [] => ([], [])
  | b :: r => if r.length + 1 < fl b then (b :: r, []) else ([], [(low (b :: r) : Int)])
def aloneL (b : UInt8) : List UInt8 × List Int := if begB [b] then takeL [b] else ([], [65533])
def stepL (p : List UInt8) (b : UInt8) : List UInt8 × List Int :=
  if preB p then
    if begB (p ++ [b]) then takeL (p ++ [b]) else ((aloneL b).1, 65533 :: (aloneL b).2)
  else aloneL b
def flushL (p : List UInt8) : List Int := if preB p then [65533] else []
/-- pending bytes and what has come, over a text -/
def runL : List UInt8 × List Int → List UInt8 → List UInt8 × List Int
  | st, [] => st
  | st, b :: r => runL ((stepL st.1 b).1, st.2 ++ (stepL st.1 b).2) r
def codesL (s : List UInt8) : List Int := (runL ([], []) s).2 ++ flushL (runL ([], []) s).1

/-- the encoding of a code point -/
def encV (x : Nat) : List UInt8 :=
  if x < 128 then [UInt8.ofNat x]
  else if x < 2048 then [UInt8.ofNat (192 + x / 64), UInt8.ofNat (128 + x % 64)]
  else if x < 65536 then [UInt8.ofNat (224 + x / 4096), UInt8.ofNat (128 + x / 64 % 64), UInt8.ofNat (128 + x % 64)]
  else [UInt8.ofNat (240 + x / 262144), UInt8.ofNat (128 + x / 4096 % 64), UInt8.ofNat (128 + x / 64 % 64), UInt8.ofNat (128 + x % 64)]
/-- what any number is encoded as -/
def encL (c : Int) : List UInt8 := if chk c then encV c.toNat else encV 65533
def textL : List Int → List UInt8
  | [] => []
  | c :: r => encL c ++ textL r
theorem textL_snoc (l : List Int) (c : Int) : textL (l ++ [c]) = textL l ++ encL c := by
  induction l with
  | nil => simp [textL]
  | cons x r ih => simp [textL, ih]
theorem encV_len (x : Nat) : (encV x).length ≤ 4 ∧ 1 ≤ (encV x).length := by unfold encV; split <;> (try split) <;> (try split) <;> simp
theorem encL_len (c : Int) : (encL c).length ≤ 4 := by unfold encL; split <;> exact (encV_len _).1
theorem textL_len (l : List Int) : (textL l).length ≤ 4 * l.length := by
  induction l with
  | nil => simp [textL]
  | cons x r ih => have := encL_len x; simp [textL]; omega
theorem cl_cases (c : Int) : (c < 128 ∧ cl c = 1) ∨ (128 ≤ c ∧ c < 2048 ∧ cl c = 2) ∨ (2048 ≤ c ∧ c < 65536 ∧ cl c = 3) ∨ (65536 ≤ c ∧ cl c = 4) := by
  unfold cl len4
  by_cases h1 : 65536 ≤ c
  · simp [h1]
  · by_cases h2 : 2048 ≤ c
    · simp [h1, h2]; omega
    · by_cases h3 : 128 ≤ c
      · simp [h1, h2, h3]; omega
      · simp [h1, h2, h3]; omega
theorem fl_bd (b : UInt8) : 1 ≤ fl b ∧ fl b ≤ 4 := by unfold fl; split <;> (try split) <;> (try split) <;> omega
theorem fl_mk (b : UInt8) : mk (fl b) ≤ b.toNat := by
  unfold fl mk
  by_cases h1 : 240 ≤ b.toNat
  · simp [h1]
  · by_cases h2 : 224 ≤ b.toNat
    · simp [h1, h2]
    · by_cases h3 : 192 ≤ b.toNat
      · simp [h1, h2, h3]
      · simp [h1, h2, h3]
theorem val_snoc (a : Nat) (l : List UInt8) (b : UInt8) : val a (l ++ [b]) = val a l * 64 + b.toNat % 64 := by
  induction l generalizing a with
  | nil => rfl
  | cons x r ih => exact ih _
theorem runL_snoc (st : List UInt8 × List Int) (l : List UInt8) (b : UInt8) : runL st (l ++ [b]) = ((stepL (runL st l).1 b).1, (runL st l).2 ++ (stepL (runL st l).1 b).2) := by
  induction l generalizing st with
  | nil => rfl
  | cons x r ih => exact ih _
theorem takeL_len (bs : List UInt8) (h : bs.length ≤ 4) : (takeL bs).1.length ≤ 3 ∧ (takeL bs).2.length ≤ 1 := by
  unfold takeL
  split
  · simp
  · rename_i b r
    have := fl_bd b
    split <;> simp
    omega
theorem preB_len (p : List UInt8) (h : preB p = true) : p.length ≤ 3 ∧ 1 ≤ p.length := by
  unfold preB at h
  split at h
  · cases h
  · rename_i b r
    have := fl_bd b
    simp at h
    simp; omega
theorem aloneL_len (b : UInt8) : (aloneL b).1.length ≤ 3 ∧ (aloneL b).2.length ≤ 1 := by
  unfold aloneL
  split
  · exact takeL_len _ (by simp)
  · simp
theorem stepL_len (p : List UInt8) (b : UInt8) : (stepL p b).1.length ≤ 3 ∧ (stepL p b).2.length ≤ 2 := by
  unfold stepL
  split
  · rename_i h
    have := preB_len p h
    split
    · have := takeL_len (p ++ [b]) (by simp; omega)
      omega
    · have := aloneL_len b
      simp; omega
  · have := aloneL_len b; omega
theorem flushL_len (p : List UInt8) : (flushL p).length ≤ 1 := by unfold flushL; split <;> simp
theorem runL_len (st : List UInt8 × List Int) (l : List UInt8) : (runL st l).2.length ≤ st.2.length + 2 * l.length := by
  induction l generalizing st with
  | nil => simp [runL]
  | cons x r ih =>
    have h1 := ih ((stepL st.1 x).1, st.2 ++ (stepL st.1 x).2)
    have h2 := stepL_len st.1 x
    simp only [runL, List.length_append, List.length_cons] at h1 ⊢
    omega
end Go.Proofs.YteepfecplabinaaDoor.Utf

namespace Go.Proofs.YteepfecplabinaaDoor.Col

/-- the greatest N of each Kind -/
def limT : List Int := [0, 255, 16777215]
def basT : List Int := [0, 13434880, 52480, 13487360, 238, 13435085, 52685, 15066597, 8355711, 16711680, 65280, 16776960, 6053119, 16711935, 65535, 16777215]
def levT : List Int := [0, 95, 135, 175, 215, 255]
def lev (n : Nat) : Int := levT[n]?.getD 0
/-- the palette -/
def pal (n : Nat) : Int :=
  if n < 16 then basT[n]?.getD 0
  else if n < 232 then lev ((n - 16) / 36) * 65536 + lev ((n - 16) / 6 % 6) * 256 + lev ((n - 16) % 6)
  else (8 + 10 * ((n : Int) - 232)) * 65793
theorem pal_all : ∀ n : Fin 256, 0 ≤ pal n.val ∧ pal n.val ≤ 16777215 := by decide +kernel
theorem pal_bd (n : Nat) (h : n < 256) : 0 ≤ pal n ∧ pal n ≤ 16777215 := pal_all ⟨n, h⟩
/-- a valid color -/
def okC (k n : Int) : Bool := decide ((k = 0 ∧ n = 0) ∨ (k = 1 ∧ 0 ≤ n ∧ n ≤ 255) ∨ (k = 2 ∧ 0 ≤ n ∧ n ≤ 16777215))
def errC (k n : Int) : Int := if okC k n then 0 else 130
/-- the RGB value -/
def rgbC (k n : Int) : Option Int := if okC k n then (if k = 0 then none else if k = 1 then some (pal n.toNat) else some n) else none
theorem rgbC_bd (k n x : Int) (h : rgbC k n = some x) : 0 ≤ x ∧ x ≤ 16777215 := by
  unfold rgbC at h
  split at h
  · rename_i ho
    simp only [okC, decide_eq_true_eq] at ho
    split at h
    · cases h
    · split at h
      · cases h; exact pal_bd _ (by omega)
      · cases h; omega
  · cases h
/-- the distance of two RGB values -/
def dst (a b : Int) : Int := (a / 65536 - b / 65536) * (a / 65536 - b / 65536) + (a / 256 % 256 - b / 256 % 256) * (a / 256 % 256 - b / 256 % 256) + (a % 256 - b % 256) * (a % 256 - b % 256)
theorem sq_comm (a b : Int) : (a - b) * (a - b) = (b - a) * (b - a) := by
  rw [show a - b = -(b - a) by omega, Int.neg_mul_neg]
theorem dst_comm (a b : Int) : dst a b = dst b a := by
  unfold dst
  rw [sq_comm (a / 65536), sq_comm (a / 256 % 256), sq_comm (a % 256)]
theorem sq_bd (x : Int) (h1 : -255 ≤ x) (h2 : x ≤ 255) : 0 ≤ x * x ∧ x * x ≤ 65025 := by
  refine ⟨?_, ?_⟩
  · rcases Int.le_total 0 x with h | h
    · exact Int.mul_nonneg h h
    · exact Int.mul_nonneg_of_nonpos_of_nonpos h h
  · rcases Int.le_total 0 x with h | h
    · exact Int.le_trans (Int.mul_le_mul h2 h2 h (by omega)) (by omega)
    · rw [show x * x = (-x) * (-x) from (Int.neg_mul_neg x x).symm]
      exact Int.le_trans (Int.mul_le_mul (show -x ≤ 255 by omega) (show -x ≤ 255 by omega) (by omega) (by omega)) (by omega)
theorem dst_bd (a b : Int) (ha : 0 ≤ a ∧ a ≤ 16777215) (hb : 0 ≤ b ∧ b ≤ 16777215) : 0 ≤ dst a b ∧ dst a b ≤ 195075 := by
  have h1 := sq_bd (a / 65536 - b / 65536) (by omega) (by omega)
  have h2 := sq_bd (a / 256 % 256 - b / 256 % 256) (by omega) (by omega)
  have h3 := sq_bd (a % 256 - b % 256) (by omega) (by omega)
  unfold dst
  omega
/-- the nearest of the indices 0 to n -/
def nearL (x : Int) : Nat → Nat
  | 0 => 0
  | n + 1 => if dst x (pal (n + 1)) < dst x (pal (nearL x n)) then n + 1 else nearL x n
theorem nearL_le (x : Int) (n : Nat) : nearL x n ≤ n := by
  induction n with
  | zero => exact Nat.le_refl _
  | succ n ih => unfold nearL; split <;> omega
/-- none of the indices is closer, none of the smaller ones as close -/
theorem nearL_best (x : Int) (n : Nat) : ∀ j, j ≤ n → dst x (pal (nearL x n)) ≤ dst x (pal j) ∧ (j < nearL x n → dst x (pal (nearL x n)) < dst x (pal j)) := by
  induction n with
  | zero => intro j hj; obtain rfl : j = 0 := by omega
            exact ⟨Int.le_refl _, fun h => by simp [nearL] at h⟩
  | succ n ih =>
    intro j hj
    by_cases hlt : dst x (pal (n + 1)) < dst x (pal (nearL x n))
    · rw [show nearL x (n + 1) = n + 1 by rw [nearL, if_pos hlt]]
      by_cases hj2 : j = n + 1
      · subst hj2; exact ⟨Int.le_refl _, fun h => by omega⟩
      · have := (ih j (by omega)).1
        exact ⟨by omega, fun _ => by omega⟩
    · rw [show nearL x (n + 1) = nearL x n by rw [nearL, if_neg hlt]]
      by_cases hj2 : j = n + 1
      · subst hj2
        exact ⟨by omega, fun h => by have := nearL_le x n; omega⟩
      · exact ih j (by omega)
def nearC (x : Int) : Int := if 0 ≤ x ∧ x ≤ 16777215 then (nearL x 255 : Int) else 0
def nearE (x : Int) : Int := if 0 ≤ x ∧ x ≤ 16777215 then 0 else 2

/-- a hexadecimal digit as it is written -/
def hexT : List UInt8 := [48, 49, 50, 51, 52, 53, 54, 55, 56, 57, 97, 98, 99, 100, 101, 102]
def hexD (d : Nat) : UInt8 := hexT[d]?.getD 0
/-- the text of an RGB value -/
def txt (n : Nat) : List UInt8 := [114, 103, 98, 58, hexD (n / 1048576 % 16), hexD (n / 65536 % 16), 47, hexD (n / 4096 % 16), hexD (n / 256 % 16), 47, hexD (n / 16 % 16), hexD (n % 16)]
/-- a hexadecimal digit as it is read -/
def dig (b : UInt8) : Option Nat :=
  if 48 ≤ b.toNat ∧ b.toNat ≤ 57 then some (b.toNat - 48)
  else if 97 ≤ b.toNat ∧ b.toNat ≤ 102 then some (b.toNat - 97 + 10)
  else if 65 ≤ b.toNat ∧ b.toNat ≤ 70 then some (b.toNat - 65 + 10)
  else none
theorem dig_bd (b : UInt8) (d : Nat) (h : dig b = some d) : d < 16 := by
  unfold dig at h
  split at h
  · cases h; omega
  · split at h
    · cases h; omega
    · split at h
      · cases h; omega
      · cases h
def formL : List UInt8 := [114, 103, 98, 58, 104, 104, 47, 104, 104, 47, 104, 104]
/-- reading the digits where the form has an h, the form's own bytes elsewhere -/
def prs : List UInt8 → List UInt8 → Nat → Option Nat
  | f :: fs, c :: cs, a => if f = 104 then (match dig c with | none => none | some d => prs fs cs (a * 16 + d)) else if c = f then prs fs cs a else none
  | _, _, a => some a
def parseL (s : List UInt8) : Option Nat := if s.length = 12 then prs formL s 0 else none
end Go.Proofs.YteepfecplabinaaDoor.Col
