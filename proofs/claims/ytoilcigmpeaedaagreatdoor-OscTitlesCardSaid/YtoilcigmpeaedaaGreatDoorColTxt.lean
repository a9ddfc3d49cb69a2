/-
  Plain facts on the text of a color: how it is laid from its end, and that reading it gives the number back; no program is named here.
-/
import Derived.Test.YtoilcigmpeaedaaGreatDoorColMath
namespace Go.Proofs.YtoilcigmpeaedaaGreatDoor.Col

/-- what is left of the number behind the last m bytes of the form -/
def remN (n : Nat) : Nat → Nat
  | 0 => n
  | m + 1 => if formL[11 - m]? = some 104 then remN n m / 16 else remN n m
/-- the text with its last m bytes laid -/
def stL (n : Nat) : Nat → List UInt8
  | 0 => formL
  | m + 1 => if formL[11 - m]? = some 104 then (stL n m).set (11 - m) (hexD (remN n m % 16)) else stL n m
theorem stL_at (n : Nat) (m q : Nat) (h : m + q ≤ 11) : (stL n m)[q]? = formL[q]? := by
  induction m with
  | zero => rfl
  | succ m ih =>
    unfold stL
    split
    · rw [List.getElem?_set_ne (by omega)]
      exact ih (by omega)
    · exact ih (by omega)
theorem stL_len (n m : Nat) : (stL n m).length = 12 := by
  induction m with
  | zero => rfl
  | succ m ih =>
    unfold stL
    split
    · rw [List.length_set]; exact ih
    · exact ih
theorem stL_end (n : Nat) : stL n 12 = txt n := by
  have e : ∀ m, stL n (m + 1) = if formL[11 - m]? = some 104 then (stL n m).set (11 - m) (hexD (remN n m % 16)) else stL n m := fun _ => rfl
  have f : ∀ m, remN n (m + 1) = if formL[11 - m]? = some 104 then remN n m / 16 else remN n m := fun _ => rfl
  have r0 : remN n 0 = n := rfl
  have r1 : remN n 1 = n / 16 := (f 0).trans (by rw [if_pos (by decide), r0])
  have r2 : remN n 2 = n / 256 := (f 1).trans (by rw [if_pos (by decide), r1, Nat.div_div_eq_div_mul])
  have r3 : remN n 3 = n / 256 := (f 2).trans (by rw [if_neg (by decide), r2])
  have r4 : remN n 4 = n / 4096 := (f 3).trans (by rw [if_pos (by decide), r3, Nat.div_div_eq_div_mul])
  have r5 : remN n 5 = n / 65536 := (f 4).trans (by rw [if_pos (by decide), r4, Nat.div_div_eq_div_mul])
  have r6 : remN n 6 = n / 65536 := (f 5).trans (by rw [if_neg (by decide), r5])
  have r7 : remN n 7 = n / 1048576 := (f 6).trans (by rw [if_pos (by decide), r6, Nat.div_div_eq_div_mul])
  have s0 : stL n 0 = formL := rfl
  have s1 : stL n 1 = (stL n 0).set 11 (hexD (remN n 0 % 16)) := (e 0).trans (if_pos (by decide))
  have s2 : stL n 2 = (stL n 1).set 10 (hexD (remN n 1 % 16)) := (e 1).trans (if_pos (by decide))
  have s3 : stL n 3 = stL n 2 := (e 2).trans (if_neg (by decide))
  have s4 : stL n 4 = (stL n 3).set 8 (hexD (remN n 3 % 16)) := (e 3).trans (if_pos (by decide))
  have s5 : stL n 5 = (stL n 4).set 7 (hexD (remN n 4 % 16)) := (e 4).trans (if_pos (by decide))
  have s6 : stL n 6 = stL n 5 := (e 5).trans (if_neg (by decide))
  have s7 : stL n 7 = (stL n 6).set 5 (hexD (remN n 6 % 16)) := (e 6).trans (if_pos (by decide))
  have s8 : stL n 8 = (stL n 7).set 4 (hexD (remN n 7 % 16)) := (e 7).trans (if_pos (by decide))
  have s9 : stL n 9 = stL n 8 := (e 8).trans (if_neg (by decide))
  have s10 : stL n 10 = stL n 9 := (e 9).trans (if_neg (by decide))
  have s11 : stL n 11 = stL n 10 := (e 10).trans (if_neg (by decide))
  have s12 : stL n 12 = stL n 11 := (e 11).trans (if_neg (by decide))
  rw [s12, s11, s10, s9, s8, s7, s6, s5, s4, s3, s2, s1, s0, r0, r1, r3, r4, r6, r7]
  rfl
theorem remN_le (n m : Nat) : remN n m ≤ n := by
  induction m with
  | zero => exact Nat.le_refl _
  | succ m ih =>
    unfold remN
    split
    · exact Nat.le_trans (Nat.div_le_self _ _) ih
    · exact ih
/-- the text of a color, and the error -/
def txtC (k n : Int) : ByteArray := match rgbC k n with | some x => ⟨(txt x.toNat).toArray⟩ | none => ⟨#[]⟩
def txtE (k n : Int) : Int := if okC k n then (if k = 0 then 2 else 0) else 130

theorem hex_dig : ∀ d : Fin 16, dig (hexD d.val) = some d.val := by decide +kernel
theorem dig_hex (d : Nat) (h : d < 16) : dig (hexD d) = some d := hex_dig ⟨d, h⟩
/-- reading a text in the form, digit by digit -/
theorem parse_form (a b c d e f : UInt8) (x1 x2 x3 x4 x5 x6 : Nat) (h1 : dig a = some x1) (h2 : dig b = some x2) (h3 : dig c = some x3) (h4 : dig d = some x4) (h5 : dig e = some x5) (h6 : dig f = some x6) :
    parseL [114, 103, 98, 58, a, b, 47, c, d, 47, e, f] = some (((((x1 * 16 + x2) * 16 + x3) * 16 + x4) * 16 + x5) * 16 + x6) := by
  simp [parseL, prs, formL, h1, h2, h3, h4, h5, h6]
theorem parse_txt (n : Nat) (h : n < 16777216) : parseL (txt n) = some n := by
  unfold txt
  rw [parse_form _ _ _ _ _ _ _ _ _ _ _ _ (dig_hex _ (by omega)) (dig_hex _ (by omega)) (dig_hex _ (by omega)) (dig_hex _ (by omega)) (dig_hex _ (by omega)) (dig_hex _ (by omega))]
  congr 1
  omega
end Go.Proofs.YtoilcigmpeaedaaGreatDoor.Col
