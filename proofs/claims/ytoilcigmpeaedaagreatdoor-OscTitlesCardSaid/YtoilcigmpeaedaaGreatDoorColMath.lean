/-
  Plain facts on numbers and lists of bytes for the color layer: the palette, the distance, the nearest index, the text of a color, as functions of numbers and lists; no program is named here.
-/
import Derived.Calls
namespace Go.Proofs.YtoilcigmpeaedaaGreatDoor.Col

/-- the greatest N of each Kind -/
def limT : List Int := [0, 255, 16777215]
def basT : List Int := [0, 13434880, 52480, 13487360, 238, 13435085, 52685, 15066597, 8355711, 16711680, 65280, 16776960, 6053119, 16711935, 65535, 16777215]
def levT : List Int := [0, 95, 135, 175, 215, 255]
def lev (n : Nat) : Int := levT[n]?.getD 0
/-- the palette -/
def pal (n : Nat) : Int :=
  if n < 16 then basT[n]?.getD 0
  else if n < 232 then lev ((n - 16) / 36) * 65536 + lev ((n - 16) / 6 % 6) * 256 + lev ((n - 16) % 6)
  else (8 + 10 * ((n : Int) - 232)) * 65793
theorem pal_all : ∀ n : Fin 256, 0 ≤ pal n.val ∧ pal n.val ≤ 16777215 := by decide +kernel
theorem pal_bd (n : Nat) (h : n < 256) : 0 ≤ pal n ∧ pal n ≤ 16777215 := pal_all ⟨n, h⟩
/-- a valid color -/
def okC (k n : Int) : Bool := decide ((k = 0 ∧ n = 0) ∨ (k = 1 ∧ 0 ≤ n ∧ n ≤ 255) ∨ (k = 2 ∧ 0 ≤ n ∧ n ≤ 16777215))
def errC (k n : Int) : Int := if okC k n then 0 else 130
/-- the RGB value -/
def rgbC (k n : Int) : Option Int := if okC k n then (if k = 0 then none else if k = 1 then some (pal n.toNat) else some n) else none
theorem rgbC_bd (k n x : Int) (h : rgbC k n = some x) : 0 ≤ x ∧ x ≤ 16777215 := by
  unfold rgbC at h
  split at h
  · rename_i ho
    simp only [okC, decide_eq_true_eq] at ho
    split at h
    · cases h
    · split at h
      · cases h; exact pal_bd _ (by omega)
      · cases h; omega
  · cases h
/-- the distance of two RGB values -/
def dst (a b : Int) : Int := (a / 65536 - b / 65536) * (a / 65536 - b / 65536) + (a / 256 % 256 - b / 256 % 256) * (a / 256 % 256 - b / 256 % 256) + (a % 256 - b % 256) * (a % 256 - b % 256)
theorem sq_comm (a b : Int) : (a - b) * (a - b) = (b - a) * (b - a) := by
  rw [show a - b = -(b - a) by omega, Int.neg_mul_neg]
theorem dst_comm (a b : Int) : dst a b = dst b a := by
  unfold dst
  rw [sq_comm (a / 65536), sq_comm (a / 256 % 256), sq_comm (a % 256)]
theorem sq_bd (x : Int) (h1 : -255 ≤ x) (h2 : x ≤ 255) : 0 ≤ x * x ∧ x * x ≤ 65025 := by
  refine ⟨?_, ?_⟩
  · rcases Int.le_total 0 x with h | h
    · exact Int.mul_nonneg h h
    · exact Int.mul_nonneg_of_nonpos_of_nonpos h h
  · rcases Int.le_total 0 x with h | h
    · exact Int.le_trans (Int.mul_le_mul h2 h2 h (by omega)) (by omega)
    · rw [show x * x = (-x) * (-x) from (Int.neg_mul_neg x x).symm]
      exact Int.le_trans (Int.mul_le_mul (show -x ≤ 255 by omega) (show -x ≤ 255 by omega) (by omega) (by omega)) (by omega)
theorem dst_bd (a b : Int) (ha : 0 ≤ a ∧ a ≤ 16777215) (hb : 0 ≤ b ∧ b ≤ 16777215) : 0 ≤ dst a b ∧ dst a b ≤ 195075 := by
  have h1 := sq_bd (a / 65536 - b / 65536) (by omega) (by omega)
  have h2 := sq_bd (a / 256 % 256 - b / 256 % 256) (by omega) (by omega)
  have h3 := sq_bd (a % 256 - b % 256) (by omega) (by omega)
  unfold dst
  omega
/-- the nearest of the indices 0 to n -/
def nearL (x : Int) : Nat → Nat
  | 0 => 0
  | n + 1 => if dst x (pal (n + 1)) < dst x (pal (nearL x n)) then n + 1 else nearL x n
theorem nearL_le (x : Int) (n : Nat) : nearL x n ≤ n := by
  induction n with
  | zero => exact Nat.le_refl _
  | succ n ih => unfold nearL; split <;> omega
/-- none of the indices is closer, none of the smaller ones as close -/
theorem nearL_best (x : Int) (n : Nat) : ∀ j, j ≤ n → dst x (pal (nearL x n)) ≤ dst x (pal j) ∧ (j < nearL x n → dst x (pal (nearL x n)) < dst x (pal j)) := by
  induction n with
  | zero => intro j hj; obtain rfl : j = 0 := by omega
            exact ⟨Int.le_refl _, fun h => by simp [nearL] at h⟩
  | succ n ih =>
    intro j hj
    by_cases hlt : dst x (pal (n + 1)) < dst x (pal (nearL x n))
    · rw [show nearL x (n + 1) = n + 1 by rw [nearL, if_pos hlt]]
      by_cases hj2 : j = n + 1
      · subst hj2; exact ⟨Int.le_refl _, fun h => by omega⟩
      · have := (ih j (by omega)).1
        exact ⟨by omega, fun _ => by omega⟩
    · rw [show nearL x (n + 1) = nearL x n by rw [nearL, if_neg hlt]]
      by_cases hj2 : j = n + 1
      · subst hj2
        exact ⟨by omega, fun h => by have := nearL_le x n; omega⟩
      · exact ih j (by omega)
def nearC (x : Int) : Int := if 0 ≤ x ∧ x ≤ 16777215 then (nearL x 255 : Int) else 0
def nearE (x : Int) : Int := if 0 ≤ x ∧ x ≤ 16777215 then 0 else 2

/-- a hexadecimal digit as it is written -/
def hexT : List UInt8 := [48, 49, 50, 51, 52, 53, 54, 55, 56, 57, 97, 98, 99, 100, 101, 102]
def hexD (d : Nat) : UInt8 := hexT[d]?.getD 0
/-- the text of an RGB value -/
def txt (n : Nat) : List UInt8 := [114, 103, 98, 58, hexD (n / 1048576 % 16), hexD (n / 65536 % 16), 47, hexD (n / 4096 % 16), hexD (n / 256 % 16), 47, hexD (n / 16 % 16), hexD (n % 16)]
/-- a hexadecimal digit as it is read -/
def dig (b : UInt8) : Option Nat :=
  if 48 ≤ b.toNat ∧ b.toNat ≤ 57 then some (b.toNat - 48)
  else if 97 ≤ b.toNat ∧ b.toNat ≤ 102 then some (b.toNat - 97 + 10)
  else if 65 ≤ b.toNat ∧ b.toNat ≤ 70 then some (b.toNat - 65 + 10)
  else none
theorem dig_bd (b : UInt8) (d : Nat) (h : dig b = some d) : d < 16 := by
  unfold dig at h
  split at h
  · cases h; omega
  · split at h
    · cases h; omega
    · split at h
      · cases h; omega
      · cases h
def formL : List UInt8 := [114, 103, 98, 58, 104, 104, 47, 104, 104, 47, 104, 104]
/-- reading the digits where the form has an h, the form's own bytes elsewhere -/
def prs : List UInt8 → List UInt8 → Nat → Option Nat
  | f :: fs, c :: cs, a => if f = 104 then (match dig c with | none => none | some d => prs fs cs (a * 16 + d)) else if c = f then prs fs cs a else none
  | _, _, a => some a
def parseL (s : List UInt8) : Option Nat := if s.length = 12 then prs formL s 0 else none
end Go.Proofs.YtoilcigmpeaedaaGreatDoor.Col
