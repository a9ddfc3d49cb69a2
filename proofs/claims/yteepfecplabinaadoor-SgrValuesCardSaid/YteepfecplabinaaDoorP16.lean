/-
  StyBits
-/
import Derived.OpenShut
import Derived.Test.YteepfecplabinaaDoorP3
namespace Go.Proofs.YteepfecplabinaaDoor.Sty
open Col
theorem wrap_if (n : Int) : IntKind.i64.wrap n = if 9223372036854775808 ≤ n % 18446744073709551616 then n % 18446744073709551616 - 18446744073709551616 else n % 18446744073709551616 := by
  simp [IntKind.wrap, IntKind.bits, IntKind.signed]
theorem wrapN (x : BitVec 64) : IntKind.i64.wrap (x.toNat : Int) = x.toInt := by
  have h := x.isLt
  rw [BitVec.toInt_eq_toNat_cond, wrap_if]
  split <;> split <;> omega
theorem wrapI (n : Int) : IntKind.i64.wrap n = (BitVec.ofInt 64 n).toInt := by
  rw [BitVec.toInt_ofInt, wrap_if, Int.bmod]
  split <;> split <;> omega
theorem xor64 (a b : Int) : bits .xor .i64 a b = (BitVec.ofInt 64 a ^^^ BitVec.ofInt 64 b).toInt := wrapN _
theorem and64 (a b : Int) : bits .and .i64 a b = (BitVec.ofInt 64 a &&& BitVec.ofInt 64 b).toInt := wrapN _
theorem xor_back (a : Int) (h : (Lit.int .i64 a).wf = true) : bits .xor .i64 (bits .xor .i64 a 16) 16 = a := by
  have hb := bounds_i64 h
  rw [xor64, xor64, BitVec.ofInt_toInt, BitVec.xor_assoc, BitVec.xor_self, BitVec.xor_zero]
  exact BitVec.toInt_ofInt_eq_self (by decide) (by omega) (by omega)
theorem and_zero (x y : BitVec 64) : (((x &&& y).toInt) != 0) = ((x &&& y) != 0#64) := by
  by_cases h : x &&& y = 0#64
  · simp [h]
  · have : (x &&& y).toInt ≠ 0 := fun e => h (BitVec.eq_of_toInt_eq (by rw [e]; rfl))
    rw [bne_iff_ne.2 this, bne_iff_ne.2 h]
theorem bit_cases (x : BitVec 64) (i : Nat) : (x &&& BitVec.twoPow 64 i = 0#64) ∨ (x &&& BitVec.twoPow 64 i = BitVec.twoPow 64 i) := by
  rw [BitVec.and_twoPow]
  split
  · exact .inr rfl
  · exact .inl rfl
theorem sixteen : BitVec.ofInt 64 16 = BitVec.twoPow 64 4 := by decide
theorem thirtytwo : BitVec.ofInt 64 32 = BitVec.twoPow 64 5 := by decide
theorem two_ne : (BitVec.twoPow 64 4 != 0#64) = true ∧ (BitVec.twoPow 64 5 != 0#64) = true := by decide
theorem bit_ne (x : BitVec 64) (i : Nat) (h : (BitVec.twoPow 64 i != 0#64) = true) : (x &&& BitVec.twoPow 64 i != 0#64) = x.getLsbD i := by
  rw [BitVec.and_twoPow]
  split
  · rename_i h1; rw [h1, h]
  · rename_i h1; simp at h1; simp [h1]
theorem flip_and (a : Int) : (bits .and .i64 (bits .xor .i64 a 16) 16 != 0) = !(bits .and .i64 a 16 != 0) := by
  rw [and64, and64, xor64, BitVec.ofInt_toInt, and_zero, and_zero, sixteen, bit_ne _ _ two_ne.1, bit_ne _ _ two_ne.1]
  simp
theorem keep_and (a : Int) : (bits .and .i64 (bits .xor .i64 a 16) 32 != 0) = (bits .and .i64 a 32 != 0) := by
  rw [and64, and64, xor64, BitVec.ofInt_toInt, and_zero, and_zero, sixteen, thirtytwo, bit_ne _ _ two_ne.2, bit_ne _ _ two_ne.2]
  simp
/-- a bit that is off is set by adding it, one that is on is cleared by taking it away -/
theorem xor_add (x y : BitVec 64) (h : x &&& y = 0#64) : x ^^^ y = x + y := by
  rw [BitVec.add_eq_or_of_and_eq_zero x y h]
  apply BitVec.eq_of_getLsbD_eq
  intro i hi
  have := congrArg (fun z => z.getLsbD i) h
  simp at this
  simp only [BitVec.getLsbD_xor, BitVec.getLsbD_or]
  cases hx : x.getLsbD i <;> cases hy : y.getLsbD i <;> simp_all
theorem xor_plus (a : Int) (h : (bits .and .i64 a 16 != 0) = false) : bits .xor .i64 a 16 = IntKind.i64.wrap (a + 16) := by
  rw [and64, and_zero] at h
  have h0 : BitVec.ofInt 64 a &&& BitVec.ofInt 64 16 = 0#64 := by simpa using h
  rw [xor64, xor_add _ _ h0, wrapI, BitVec.ofInt_add]
theorem xor_minus (a : Int) (h : (bits .and .i64 a 16 != 0) = true) : bits .xor .i64 a 16 = IntKind.i64.wrap (a - 16) := by
  have h1 := flip_and a
  rw [h, and64, and_zero] at h1
  have h0 : BitVec.ofInt 64 (bits .xor .i64 a 16) &&& BitVec.ofInt 64 16 = 0#64 := by simpa using h1
  have h2 := xor_add _ _ h0
  rw [xor64, BitVec.ofInt_toInt, BitVec.xor_assoc, BitVec.xor_self, BitVec.xor_zero] at h2
  rw [xor64, wrapI, Int.sub_eq_add_neg, BitVec.ofInt_add]
  generalize BitVec.ofInt 64 a ^^^ BitVec.ofInt 64 16 = y at h2
  rw [h2, BitVec.add_assoc, show BitVec.ofInt 64 16 + BitVec.ofInt 64 (-16) = 0#64 by decide, BitVec.add_zero]
theorem xor_ne (a : Int) : bits .xor .i64 a 16 ≠ a := by
  intro e
  have h := flip_and a
  rw [e] at h
  revert h
  cases (bits .and .i64 a 16 != 0) <;> simp
end Go.Proofs.YteepfecplabinaaDoor.Sty
