/-
  UtfG
-/
import Derived.Deep.RegionHeld3
import Derived.Test.YtmboekpomjgnnaaGreatDoorF13
namespace Go.Proofs.YtmboekpomjgnnaaGreatDoor.Utf
open Go.RowKit

theorem and_i64 (a : Nat) (ha : a < 9223372036854775808) : bits .and .i64 (a : Int) 63 = ((a % 64 : Nat) : Int) := by
  show IntKind.i64.wrap ((BitVec.ofInt 64 (a : Int) &&& BitVec.ofInt 64 ((63 : Nat) : Int)).toNat : Int) = _
  rw [BitVec.toNat_and, ofInt64 a ha, ofInt64 63 (by omega), IntKind.wrap_i64, show a &&& 63 = a % 64 from Nat.and_two_pow_sub_one_eq_mod a 6]
  omega
theorem or_lit (m q v k : Nat) (hm : m = v * 2 ^ k) (hq : q < 2 ^ k) (h1 : m < 1000) (h2 : q < 1000) : bits .or .i64 (m : Int) (q : Int) = ((m + q : Nat) : Int) := by
  rw [or_i64 m q (by omega) (by omega)]
  subst hm
  rw [or_add v q k hq]
theorem wrap_u8 (b : UInt8) : IntKind.u8.wrap (b.toNat : Int) = (b.toNat : Int) := by
  have := b.toNat_lt
  rw [IntKind.wrap_u8]; omega
theorem u8_of (n : Nat) (h : n < 256) : ((UInt8.ofNat n).toNat : Int) = (n : Int) := by rw [UInt8.toNat_ofNat']; omega
theorem cB_snoc (a : List UInt8) (b : UInt8) : cB a ++ [.int .u8 (b.toNat : Int)] = cB (a ++ [b]) := by simp [cB]

end Go.Proofs.YtmboekpomjgnnaaGreatDoor.Utf
