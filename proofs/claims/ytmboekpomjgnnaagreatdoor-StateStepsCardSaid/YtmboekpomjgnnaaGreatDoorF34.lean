/-
  UtfH
-/
import Derived.Laws.IdiomStrings
import Derived.Test.YtmboekpomjgnnaaGreatDoorF33
namespace Go.Proofs.YtmboekpomjgnnaaGreatDoor.Utf
open Go.RowKit

theorem run_str {P : Program} (w : World) (src dst e : TypeId) (A : Option Addr) (c : Nat) (l : List UInt8) (hs : P.underlying src = some (.slice e)) (he : P.underlying e = some (.int .u8)) (hd : P.underlying dst = some .string)
    (h : Rd w A (cB l)) : (convert src dst (.slice A l.length c)).run P w = .ok (.string ⟨l.toArray⟩) w := by
  cases A with
  | none =>
    have hl : l = [] := by
      cases l with
      | nil => rfl
      | cons x r => obtain ⟨_, h, _⟩ := h 0 _ rfl; cases h
    subst hl
    rw [List.length_nil, run_convert_bytes_string w src dst e none 0 c hs he hd]
    simp [Conv.bytesToString, Sem.run_pure]
    rfl
  | some a =>
    refine run_convert_bytes_back w src dst e a c l hs he hd fun j hj => ?_
    obtain ⟨ad, e, _, hc⟩ := h j _ (cB_at l j l[j] (by simp [hj]))
    cases e
    exact hc

theorem textL_take (zs : List Int) (k : Nat) (z : Int) (h : zs[k]? = some z) : textL (zs.take (k + 1)) = textL (zs.take k) ++ encL z := by
  rw [List.take_add_one, h]; exact textL_snoc _ _
end Go.Proofs.YtmboekpomjgnnaaGreatDoor.Utf
