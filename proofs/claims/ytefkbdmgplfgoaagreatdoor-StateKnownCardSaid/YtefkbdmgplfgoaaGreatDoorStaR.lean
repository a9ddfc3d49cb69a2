/-
  The program's step is the chapter's at every valid parse; a valid parse stays valid; the codes of a byte: a control comes last, and leaves nothing pending.
-/
import Derived.Test.YtefkbdmgplfgoaaGreatDoorStaQ
namespace Go.Proofs.YtefkbdmgplfgoaaGreatDoor.Sta
open Utf Par

theorem end_same {p : PS} (b : UInt8) (h : Good p) (h0 : b.toNat ≠ 24) (h1 : b.toNat ≠ 26) (h2 : b.toNat ≠ 27) : post (endD p b) = endS p b := by
  have hpr : (p.st = 7 → p.pr = 0 ∧ p.ps = [] ∧ p.it = nos) := fun e => by
    have a1 := h.psn; have a2 := h.pr; have a5 := h.itm
    unfold mostS at a5
    rw [e] at a5
    refine ⟨?_, ?_, ba_nil _ ?_⟩
    · rcases a2 with x | x; exact x; omega
    · rcases a1 with x | x; exact x; omega
    · simp at a5; rw [a5]; rfl
  unfold endD endS
  by_cases k : b.toNat ≠ 92
  · rw [if_pos k, if_pos k, tke_same, if_neg (by omega), if_neg h2]
    refine post_ok ?_
    unfold escB
    split
    · exact prt_bad _ _
    · split
      · rfl
      · split
        · rfl
        · unfold escS
          repeat' split
          all_goals rfl
  · rw [if_neg k, if_neg k]
    by_cases e : p.st = 7
    · rw [if_pos e, if_pos e, post_ok (dsp_bad _ _ _)]
      obtain ⟨x1, x2, x3⟩ := hpr e
      unfold dspD tolS osE evD
      rw [x1, x2, x3]
    · rw [if_neg e, if_neg e]
      by_cases e2 : p.st = 12
      · rw [if_pos e2, if_pos e2, post_ok (dsp_bad _ _ _)]; rfl
      · rw [if_neg e2, if_neg e2]; rfl
theorem wit_same {p : PS} (b : UInt8) (h : Good p) (hs : p.st = 6 ∨ p.st = 11 ∨ p.st = 13) : post (rulD p b) = witS p b := by
  have hbad := h.bad
  have txt : p.st ≠ 13 → post (texD p b, []) = (if b.toNat < 32 ∨ b.toNat = 127 ∨ p.st = 13 ∨ p.bad = true then (p, []) else if p.tx.size = 512 then (spoS p.st, []) else ({ p with tx := p.tx ++ bs1 b }, [])) := fun hn => by
    unfold texD
    by_cases k : textB b = true
    · have k' := k
      unfold textB at k'
      simp at k'
      rw [if_pos k, if_neg (c := b.toNat < 32 ∨ b.toNat = 127 ∨ p.st = 13 ∨ p.bad = true) (by rw [hbad]; simp; omega)]
      by_cases z : p.tx.size = 512
      · rw [if_pos z, if_pos z]; rfl
      · rw [if_neg z, if_neg z]; exact post_ok hbad
    · have k' := k
      unfold textB at k'
      simp at k'
      rw [if_neg k, if_pos (by omega)]
      exact post_ok hbad
  rcases hs with e | e | e
  · have hr : rulD p b = oscD p b := by unfold rulD; simp [e]
    rw [hr]
    unfold oscD witS
    by_cases k : b.toNat = 7
    · rw [if_pos k, if_pos ⟨e, k⟩, post_ok (dsp_bad _ _ _)]
      have a1 := h.psn; have a2 := h.pr; have a5 := h.itm
      unfold mostS at a5
      rw [e] at a5
      have x1 : p.pr = 0 := by rcases a2 with x | x; exact x; omega
      have x2 : p.ps = [] := by rcases a1 with x | x; exact x; omega
      have x3 : p.it = nos := ba_nil _ (by simp at a5; rw [a5]; rfl)
      unfold dspD tolS osE evD
      rw [x1, x2, x3]
    · rw [if_neg k, if_neg (by rintro ⟨_, x⟩; exact k x)]
      exact txt (by omega)
  · have hr : rulD p b = (texD p b, []) := by unfold rulD; simp [e]
    rw [hr]
    unfold witS
    rw [if_neg (by rintro ⟨x, _⟩; omega)]
    exact txt (by omega)
  · have hr : rulD p b = (p, []) := by unfold rulD; simp [e]
    rw [hr]
    unfold witS
    rw [if_neg (by rintro ⟨x, _⟩; omega), if_pos (.inr (.inr (.inl e)))]
    exact post_ok hbad
theorem str_iff (n : Int) : strB n = true ↔ n = 6 ∨ n = 7 ∨ n = 11 ∨ n = 12 ∨ n = 13 ∨ n = 14 := by unfold strB; simp; omega
theorem tak_good {p : PS} (b : UInt8) (h : Good p) : takD p b = oneS p b := by
  have hbad := h.bad
  rw [tak_post]
  unfold rawD oneS
  by_cases u : p.utf ≠ []
  · have hs : p.st = 0 := by rcases h.utf with x | x; exact absurd x u; exact x.2
    rw [if_pos u, if_pos ⟨hs, .inl u⟩]
    exact post_ok (prt_bad _ _)
  · have u' : p.utf = [] := by simpa using u
    rw [if_neg u]
    by_cases g : p.st = 0 ∧ (p.utf ≠ [] ∨ 128 ≤ b.toNat)
    · have g1 : 128 ≤ b.toNat := by rcases g.2 with x | x; exact absurd u' x; exact x
      rw [if_neg (by omega), if_neg (by omega), if_neg (by rw [g.1]; unfold strB prnbB; simp; omega), if_pos g1, if_pos g, u']
      exact post_ok (prt_bad _ _)
    · rw [if_neg g]
      by_cases k1 : b.toNat = 24 ∨ b.toNat = 26
      · rw [if_pos k1, if_pos k1]; rfl
      · rw [if_neg k1, if_neg k1]
        by_cases k2 : b.toNat = 27
        · rw [if_pos k2, if_pos k2]
          split
          · exact post_ok hbad
          · rfl
        · rw [if_neg k2, if_neg k2]
          by_cases s1 : p.st = 7 ∨ p.st = 12 ∨ p.st = 14
          · rw [if_pos (by rw [(str_iff _).2 (by omega)]; rfl), if_pos s1]
            have : rulD p b = endD p b := by unfold rulD; rcases s1 with e | e | e <;> simp [e]
            rw [this]
            exact end_same b h (by omega) (by omega) k2
          · rw [if_neg s1]
            by_cases s2 : p.st = 6 ∨ p.st = 11 ∨ p.st = 13
            · rw [if_pos (by rw [(str_iff _).2 (by omega)]; rfl), if_pos s2]
              exact wit_same b h s2
            · rw [if_neg s2]
              have s3 : strB p.st = false := by
                cases x : strB p.st with
                | false => rfl
                | true => have := (str_iff _).1 x; omega
              rw [s3, Bool.false_or]
              by_cases k3 : 128 ≤ b.toNat
              · rw [if_neg (by unfold prnbB; simp; omega), if_pos k3, if_pos k3]
                exact post_ok (prt_bad _ _)
              · rw [if_neg k3]
                by_cases k4 : b.toNat < 32
                · rw [if_neg (by unfold prnbB; simp; omega), if_neg k3, if_pos k4]
                  by_cases k5 : p.st ≤ 5
                  · rw [if_pos ⟨by omega, k5⟩, if_pos k5]; exact post_ok hbad
                  · rw [if_neg (by rintro ⟨_, x⟩; exact k5 x), if_neg k5]; exact post_ok hbad
                · rw [if_neg k4]
                  by_cases k5 : b.toNat = 127
                  · rw [if_neg (by unfold prnbB; simp; omega), if_neg k3, if_neg (by rintro ⟨x, _⟩; exact x k5), if_pos k5]; exact post_ok hbad
                  · rw [if_pos (by unfold prnbB; simp; omega), if_neg k3, if_neg k5]
                    exact goe_same b h u' s3 (by omega) (by omega)
end Go.Proofs.YtefkbdmgplfgoaaGreatDoor.Sta
