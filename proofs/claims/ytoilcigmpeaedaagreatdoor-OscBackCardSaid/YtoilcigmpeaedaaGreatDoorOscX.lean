/-
  The maths of OscBack: a text has no control characters; equal texts are of equal actions.
-/
import Derived.Test.YtoilcigmpeaedaaGreatDoorOscP
namespace Go.Proofs.YtoilcigmpeaedaaGreatDoor.Osc
open Utf Col

/-- no control character -/
def okB (b : UInt8) : Bool := decide (32 ≤ b.toNat) && decide (b.toNat ≠ 127)
theorem okB_hi (n : Nat) (h : 128 ≤ n) (h2 : n < 256) : okB (UInt8.ofNat n) = true := by
  unfold okB
  rw [ofNat_toNat n h2]
  simp
  omega
theorem encV_ok (x : Nat) (h : badC (x : Int) = false) (h2 : x ≤ 1114111) : ∀ b ∈ encV x, okB b = true := by
  have h64 : ∀ n : Nat, okB (UInt8.ofNat (128 + n % 64)) = true := fun n => okB_hi _ (by omega) (by omega)
  unfold encV
  split
  · intro b hb
    obtain rfl := List.mem_singleton.1 hb
    unfold badC at h
    simp at h
    unfold okB
    rw [ofNat_toNat x (by omega)]
    simp
    omega
  · split
    · intro b hb
      rcases List.mem_cons.1 hb with rfl | hb
      · exact okB_hi _ (by omega) (by omega)
      · obtain rfl := List.mem_singleton.1 hb; exact h64 _
    · split
      · intro b hb
        rcases List.mem_cons.1 hb with rfl | hb
        · exact okB_hi _ (by omega) (by omega)
        · rcases List.mem_cons.1 hb with rfl | hb
          · exact h64 _
          · obtain rfl := List.mem_singleton.1 hb; exact h64 _
      · intro b hb
        rcases List.mem_cons.1 hb with rfl | hb
        · exact okB_hi _ (by omega) (by omega)
        · rcases List.mem_cons.1 hb with rfl | hb
          · exact h64 _
          · rcases List.mem_cons.1 hb with rfl | hb
            · exact h64 _
            · obtain rfl := List.mem_singleton.1 hb; exact h64 _
theorem encL_ok (c : Int) (h : badC c = false) : ∀ b ∈ encL c, okB b = true := by
  unfold encL
  split
  · rename_i hc
    unfold chk at hc
    simp at hc
    exact encV_ok c.toNat (by rw [Int.toNat_of_nonneg hc.1]; exact h) (by omega)
  · decide +kernel
theorem textL_ok (zs : List Int) (h : zs.all (fun c => !badC c) = true) : ∀ b ∈ textL zs, okB b = true := by
  induction zs with
  | nil => intro b hb; cases hb
  | cons c r ih =>
    rw [List.all_cons, Bool.and_eq_true] at h
    intro b hb
    rcases List.mem_append.1 (show b ∈ encL c ++ textL r from hb) with hb | hb
    · exact encL_ok c (by simpa using h.1) b hb
    · exact ih h.2 b hb
theorem tit_ok (s : List UInt8) (h : titB s = true) : ∀ b ∈ s, okB b = true := by
  unfold titB at h
  simp only [Bool.and_eq_true, decide_eq_true_eq] at h
  have := textL_ok (codesL s) h.2.1
  rwa [h.2.2] at this
theorem ch_ok : ∀ v : Fin 64, okB (B64.ch v.val) = true := by decide +kernel
theorem enc64_ok (t : List UInt8) : ∀ b ∈ B64.encL t, okB b = true := by
  intro b hb
  rcases List.mem_append.1 (show b ∈ B64.bareL t ++ B64.padL (B64.bareL t).length from hb) with hb | hb
  · obtain ⟨v, hv, rfl⟩ := List.mem_map.1 (show b ∈ (B64.encV 0 0 t).map B64.ch from hb)
    exact ch_ok ⟨v, (B64.enc_lt t).1 v hv⟩
  · rw [(List.mem_replicate.1 (show b ∈ List.replicate _ 61 from hb)).2]
    decide
theorem txt_ok (x : Nat) : ∀ b ∈ txt x, okB b = true := by
  have h : ∀ d : Fin 16, okB (hexD d.val) = true := by decide +kernel
  have h2 : ∀ n : Nat, okB (hexD (n % 16)) = true := fun n => h ⟨n % 16, by omega⟩
  intro b hb
  unfold txt at hb
  simp only [List.mem_cons, List.not_mem_nil, or_false] at hb
  rcases hb with rfl | rfl | rfl | rfl | rfl | rfl | rfl | rfl | rfl | rfl | rfl | rfl <;> first | exact h2 _ | decide
theorem decN_ok (n : Nat) (h : n < 256) : ∀ b ∈ decN n, okB b = true := by
  have := (decN_all ⟨n, h⟩).2.2
  intro b hb
  have := List.all_eq_true.1 this b hb
  simp only [Bool.and_eq_true, decide_eq_true_eq] at this
  unfold okB
  simp
  omega
theorem prt_ok (a : A6) (u : List UInt8) (h : prtO a = some u) : ∀ b ∈ u, okB b = true := by
  unfold prtO at h
  split at h
  · rename_i hc
    injection h with h; subst h
    intro b hb
    rcases List.mem_cons.1 hb with rfl | hb
    · decide
    · rcases List.mem_cons.1 hb with rfl | hb
      · decide
      · exact tit_ok _ hc.2.2.2.2.2 b hb
  · split at h
    · rename_i hc
      injection h with h; subst h
      intro b hb
      rcases List.mem_cons.1 hb with rfl | hb
      · decide
      · rcases List.mem_cons.1 hb with rfl | hb
        · decide
        · rcases List.mem_append.1 hb with hb | hb
          · exact decN_ok _ (by omega) b hb
          · rcases List.mem_cons.1 hb with rfl | hb
            · decide
            · exact txt_ok _ b hb
    · split at h
      · injection h with h; subst h
        intro b hb
        have h5 : ∀ b ∈ ([53, 50, 59, 99, 59] : List UInt8), okB b = true := by decide
        rcases List.mem_append.1 (show b ∈ [53, 50, 59, 99, 59] ++ B64.encL a.t from hb) with hb | hb
        · exact h5 b hb
        · exact enc64_ok _ b hb
      · cases h
theorem prt_eq (a b : A6) (u v : List UInt8) (h : prtO a = some u) (g : prtO b = some v) : decide (u = v) = decide (a = b) := by
  by_cases e : a = b
  · subst e
    rw [h] at g
    injection g with g
    simp [g]
  · rw [decide_eq_false e, decide_eq_false]
    intro h2
    subst h2
    exact e (inj h g)
end Go.Proofs.YtoilcigmpeaedaaGreatDoor.Osc
