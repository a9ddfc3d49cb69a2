/-
  The program's decoder is the chapter's wherever the parse is valid; a valid parse stays valid.
-/
import Derived.Test.YtefkbdmgplfgoaaGreatDoorStaP
namespace Go.Proofs.YtefkbdmgplfgoaaGreatDoor.Sta
open Utf Par

def post (r : PS × List EV) : PS × List EV := if r.1.bad = true then (spoS r.1.st, r.2) else r
theorem tak_post (p : PS) (b : UInt8) : takD p b = post (rawD p b) := rfl
theorem post_ok {r : PS × List EV} (h : r.1.bad = false) : post r = r := by unfold post; rw [if_neg (by rw [h]; decide)]
theorem post_sp (n : Int) (l : List EV) : post (spoS n, l) = (spoS n, l) := rfl
theorem prt_bad (u : List UInt8) (b : UInt8) : (prtS u b).1.bad = false := by
  unfold prtS
  have : ∀ (cs : List Int) (r : PS × List EV), r.1.bad = false → (cs.foldl codS r).1.bad = false := by
    intro cs
    induction cs with
    | nil => intro r h; exact h
    | cons c cs ih =>
      intro r h
      refine ih _ ?_
      unfold codS
      split
      · unfold grdS; repeat' split
        all_goals rfl
      · split <;> exact h
  exact this _ _ rfl
theorem dsp_bad (p : PS) (k : Int) (fi : UInt8) : (dspD p k fi).1.bad = false := by unfold dspD; split <;> rfl
theorem add_post (p : PS) (b : UInt8) (l : List EV) (h : p.bad = false) : post (addD p b, l) = (addD p b, l) := by
  unfold addD
  split
  · rfl
  · exact post_ok h
theorem par_post (p : PS) (b : UInt8) (l : List EV) (h : p.bad = false) : post (parD p b, l) = (parD p b, l) := by
  unfold parD
  split
  · rfl
  · exact post_ok h
theorem esc_same (b : UInt8) (h : 32 ≤ b.toNat) (h2 : b.toNat < 127) : escD (begS 1) b = escS b := by
  unfold escD escS
  by_cases h1 : b.toNat ≤ 47
  · rw [if_pos (by unfold signB; simp [h, h1]), if_neg (by omega), if_neg (by omega), if_neg (by omega), if_neg (by omega), if_pos h1]
    rfl
  · rw [if_neg (by unfold signB; simp [h1]), if_neg h1]
    split
    · rfl
    · split
      · rfl
      · split
        · rfl
        · split
          · rfl
          · rfl
theorem tke_same (b : UInt8) : tkeD b = if b.toNat = 24 ∨ b.toNat = 26 then (begS 0, []) else if b.toNat = 27 then (begS 1, []) else escB b := by
  unfold tkeD escB
  split
  · rfl
  · split
    · rfl
    · by_cases h : prnbB b = true
      · rw [if_pos h]
        unfold prnbB at h
        simp only [Bool.and_eq_true, decide_eq_true_eq] at h
        rw [if_neg (by omega), if_neg (by omega), if_neg (by omega), esc_same b h.1 h.2]
      · rw [if_neg h]
        unfold prnbB at h
        simp only [Bool.and_eq_true, decide_eq_true_eq] at h
        by_cases h1 : 128 ≤ b.toNat
        · rw [if_pos h1, if_pos h1]
        · rw [if_neg h1, if_neg h1]
          by_cases h2 : b.toNat < 32
          · rw [if_pos (by omega), if_pos h2]
          · rw [if_neg (by omega), if_neg h2, if_pos (by omega)]
theorem Good.eta (p : PS) : p = ⟨p.st, p.utf, p.pr, p.fi, p.ps, p.it, p.tx, p.bad⟩ := rfl
theorem fin_same {p : PS} (b : UInt8) (h : Good p) (hs : p.st = 3 ∨ p.st = 4 ∨ p.st = 5 ∨ p.st = 8 ∨ p.st = 9 ∨ p.st = 10) : finD p b = finS p b := by
  have ht : p.tx = nos := ba_nil _ (by have := h.txn; omega)
  unfold finD finS
  split
  · unfold dspD tolS csE evD
    rw [ht]
  · rw [if_neg (by rw [h.bad]; decide)]
theorem stp_nil (b : UInt8) (h1 : 48 ≤ b.toNat) (h2 : b.toNat ≤ 59) : (stpV [] b).2 = 0 := by
  unfold stpV
  rw [if_neg (by decide)]
  split
  · rfl
  · split
    · rw [if_neg (by decide)]
    · split
      · rw [if_neg (by decide)]
      · omega
theorem fin_post (q : PS) (b : UInt8) (h : q.bad = false) : post (finD q b) = finD q b := by
  unfold finD
  split
  · exact post_ok (dsp_bad _ _ _)
  · exact post_ok h
theorem classB (b : UInt8) (h1 : 32 ≤ b.toNat) (h2 : b.toNat < 127) : signB b = decide (b.toNat ≤ 47) ∧ privB b = (decide (60 ≤ b.toNat) && decide (b.toNat ≤ 63)) ∧ finlB b = decide (64 ≤ b.toNat) := by
  unfold signB privB finlB; simp [h1, h2]
theorem parm_same {p : PS} (b : UInt8) (h : Good p) (hs : p.st = 4 ∨ p.st = 9) (h1 : 32 ≤ b.toNat) (h2 : b.toNat < 127) : post (rulD p b) = goeS p b := by
  have hbad := h.bad
  obtain ⟨c1, c2, c3⟩ := classB b h1 h2
  have hr : rulD p b = parmD p b := by
    unfold rulD
    rcases hs with e | e <;> simp [e]
  have hg : goeS p b = if 60 ≤ b.toNat ∧ b.toNat ≤ 63 then (spoS p.st, [])
    else if 48 ≤ b.toNat ∧ b.toNat ≤ 59 then if (stpV p.ps b).2 ≠ 0 ∨ p.bad = true then (spoS p.st, []) else ({ p with ps := (stpV p.ps b).1 }, [])
    else if b.toNat ≤ 47 then (sigS { p with st := p.st + 1 } b, [])
    else finS p b := by
    unfold goeS
    rcases hs with e | e <;> simp [e]
  have hit : p.it = nos := ba_nil _ (by have := h.itm; unfold mostS at this; rcases hs with e | e <;> simp [e] at this <;> rw [this] <;> rfl)
  rw [hr, hg]
  unfold parmD
  rw [c1, c2, c3]
  by_cases k1 : b.toNat ≤ 47
  · rw [if_pos (by simpa using k1), if_neg (by omega), if_neg (by omega), if_pos k1, add_post { p with st := p.st + 1 } _ _ hbad]
    unfold addD sigS
    dsimp only
    rw [hit, if_neg (by decide), if_neg (by rw [hbad]; decide)]
  · rw [if_neg (by simpa using k1)]
    by_cases k2 : 60 ≤ b.toNat ∧ b.toNat ≤ 63
    · rw [if_pos (by simpa using k2), if_pos k2]; rfl
    · rw [if_neg (by simpa using k2), if_neg k2]
      by_cases k3 : 64 ≤ b.toNat
      · rw [if_pos (by simpa using k3), if_neg (by omega), if_neg k1, fin_post _ _ hbad, fin_same b h (by omega)]
      · rw [if_neg (by simpa using k3), if_pos (by omega), par_post _ _ _ hbad]
        unfold parD
        by_cases k4 : (stpV p.ps b).2 ≠ 0
        · rw [if_pos k4, if_pos (.inl k4)]
        · rw [if_neg k4, if_neg (by rintro (x | x); exact k4 x; rw [hbad] at x; cases x)]
theorem int_same {p : PS} (b : UInt8) (h : Good p) (hs : p.st = 5 ∨ p.st = 10) (h1 : 32 ≤ b.toNat) (h2 : b.toNat < 127) : post (rulD p b) = goeS p b := by
  have hbad := h.bad
  obtain ⟨c1, c2, c3⟩ := classB b h1 h2
  have hr : rulD p b = intD p b := by
    unfold rulD
    rcases hs with e | e <;> simp [e]
  have hg : goeS p b = if 48 ≤ b.toNat ∧ b.toNat ≤ 63 then (spoS p.st, [])
    else if b.toNat ≤ 47 then (sigS p b, [])
    else finS p b := by
    unfold goeS
    rcases hs with e | e <;> simp [e]
  rw [hr, hg]
  unfold intD
  rw [c1, c3]
  by_cases k1 : b.toNat ≤ 47
  · rw [if_pos (by simpa using k1), if_neg (by omega), if_pos k1, add_post _ _ _ hbad]
    unfold addD sigS
    by_cases hz : p.it.size = 2
    · rw [if_pos hz, if_pos (.inr hz)]
    · rw [if_neg hz, if_neg (by rintro (x | x); rw [hbad] at x; cases x; exact hz x)]
  · rw [if_neg (by simpa using k1)]
    by_cases k3 : 64 ≤ b.toNat
    · rw [if_pos (by simpa using k3), if_neg (by omega), if_neg k1, fin_post _ _ hbad, fin_same b h (by omega)]
    · rw [if_neg (by simpa using k3), if_pos (by omega)]; rfl
theorem ent_same {p : PS} (b : UInt8) (h : Good p) (hu : p.utf = []) (hs : p.st = 3 ∨ p.st = 8) (h1 : 32 ≤ b.toNat) (h2 : b.toNat < 127) : post (rulD p b) = goeS p b := by
  obtain ⟨c1, c2, c3⟩ := classB b h1 h2
  have hp : p = begS p.st := by
    obtain ⟨st, utf, pr, fi, ps, it, tx, bad⟩ := p
    have hbad := h.bad
    dsimp only at hu hs hbad ⊢
    have a1 := h.psn; have a2 := h.pr; have a3 := h.fi; have a4 := h.txn; have a5 := h.itm
    unfold mostS at a5
    dsimp only at a1 a2 a3 a4 a5
    have b1 : ps = [] := by rcases a1 with x | x; exact x; omega
    have b2 : pr = 0 := by rcases a2 with x | x; exact x; omega
    have b3 : fi = 0 := by rcases a3 with x | x; omega; exact x.2.2
    have b4 : tx = nos := ba_nil _ (by omega)
    have b5 : it = nos := ba_nil _ (by rw [if_neg (by omega)] at a5; omega)
    rw [hu, b1, b2, b3, b4, b5, hbad]; rfl
  have hr : rulD p b = entD p b := by
    unfold rulD
    rcases hs with e | e <;> simp [e]
  have hg : goeS p b = if 60 ≤ b.toNat ∧ b.toNat ≤ 63 then ({ begS (p.st + 1) with pr := b }, [])
    else if 48 ≤ b.toNat ∧ b.toNat ≤ 59 then ({ begS (p.st + 1) with ps := (stpV [] b).1 }, [])
    else if b.toNat ≤ 47 then ({ begS (p.st + 2) with it := bs1 b }, [])
    else finS p b := by
    unfold goeS
    rcases hs with e | e <;> simp [e]
  rw [hr, hg]
  generalize p.st = n at *
  subst hp
  unfold entD
  rw [c2]
  by_cases k2 : 60 ≤ b.toNat ∧ b.toNat ≤ 63
  · rw [if_pos (by simpa using k2), if_pos k2]; rfl
  · rw [if_neg (by simpa using k2), if_neg k2]
    unfold parmD
    rw [c1, c2, c3]
    by_cases k1 : b.toNat ≤ 47
    · rw [if_pos (by simpa using k1), if_neg (by omega), if_pos k1, add_post _ _ _ rfl]
      rw [show n + 2 = n + 1 + 1 by omega]
      rfl
    · rw [if_neg (by simpa using k1), if_neg (by simpa using k2)]
      by_cases k3 : 64 ≤ b.toNat
      · rw [if_pos (by simpa using k3), if_neg (by omega), if_neg k1, fin_post _ _ rfl]
        rcases hs with e | e <;> subst e <;> rfl
      · rw [if_neg (by simpa using k3), if_pos (by omega), par_post _ _ _ rfl]
        unfold parD
        rw [if_neg (by show ¬ (stpV [] b).2 ≠ 0; rw [stp_nil b (by omega) (by omega)]; decide)]
        rfl
theorem goe_same {p : PS} (b : UInt8) (h : Good p) (hu : p.utf = []) (hs : strB p.st = false) (h1 : 32 ≤ b.toNat) (h2 : b.toNat < 127) : post (rulD p b) = goeS p b := by
  have hbad := h.bad
  have hlo := h.lo
  have hhi := h.hi
  have hst : p.st = 0 ∨ p.st = 1 ∨ p.st = 2 ∨ p.st = 3 ∨ p.st = 4 ∨ p.st = 5 ∨ p.st = 8 ∨ p.st = 9 ∨ p.st = 10 := by
    unfold strB at hs; simp at hs; omega
  have nb : ∀ x, p.bad = true → x := fun x h => by rw [hbad] at h; cases h
  have hsg : signB b = decide (b.toNat ≤ 47) := by unfold signB; simp [h1]
  have ndg : ∀ q : PS, q.bad = false → (post (finD q b)) = finD q b := fun q hq => by
    unfold finD
    split
    · exact post_ok (dsp_bad _ _ _)
    · exact post_ok hq
  rcases hst with e | e | e | e | e | e | e | e | e
  · unfold rulD goeS; rw [if_pos e, if_pos e]; exact post_ok hbad
  · have hp : p = begS 1 := by
      obtain ⟨st, utf, pr, fi, ps, it, tx, bad⟩ := p
      dsimp only at *
      subst e
      have a1 := h.psn; have a2 := h.pr; have a3 := h.fi; have a4 := h.txn; have a5 := h.itm
      simp [mostS] at a1 a2 a3 a4 a5
      subst a1; subst a2; subst a3; subst hu; subst hbad; subst a4; subst a5
      rfl
    unfold rulD goeS
    rw [if_neg (by omega), if_pos e, if_neg (by omega), if_pos e, hp, esc_same b h1 h2]
    unfold escS
    repeat' split
    all_goals rfl
  · unfold rulD goeS
    rw [if_neg (by omega), if_neg (by omega), if_pos e, if_neg (by omega), if_neg (by omega), if_pos e]
    unfold sgnD
    rw [hsg]
    by_cases hb : b.toNat ≤ 47
    · rw [if_pos (by simpa using hb), if_pos hb, add_post _ _ _ hbad]
      unfold addD sigS
      by_cases hz : p.it.size = 2
      · rw [if_pos hz, if_pos (.inr hz)]
      · rw [if_neg hz, if_neg (by rintro (x | x); exact nb _ x; exact hz x)]
    · rw [if_neg (by simpa using hb), if_neg hb, post_ok (dsp_bad _ _ _)]
      have a1 := h.psn; have a2 := h.pr; have a4 := h.txn
      have b1 : p.ps = [] := by rcases a1 with x | x; exact x; omega
      have b2 : p.pr = 0 := by rcases a2 with x | x; exact x; omega
      have b4 : p.tx = nos := ba_nil _ (by omega)
      unfold dspD tolS esE evD
      rw [b1, b2, b4]
  · exact ent_same b h hu (.inl e) h1 h2
  · exact parm_same b h (.inl e) h1 h2
  · exact int_same b h (.inl e) h1 h2
  · exact ent_same b h hu (.inr e) h1 h2
  · exact parm_same b h (.inr e) h1 h2
  · exact int_same b h (.inr e) h1 h2
end Go.Proofs.YtefkbdmgplfgoaaGreatDoor.Sta
