/-
  A valid parse stays valid; the program's step at spoiled parses.
-/
import Derived.Test.YtefkbdmgplfgoaaGreatDoorStaR
import Derived.Test.YtefkbdmgplfgoaaGreatDoorParF
namespace Go.Proofs.YtefkbdmgplfgoaaGreatDoor.Sta
open Utf Par

theorem good_bad {o : List (List Int)} (h1 : o.length ≤ 16) (h2 : ∀ p ∈ o, 1 ≤ p.length ∧ p.length ≤ 6 ∧ ∀ z ∈ p, -1 ≤ z ∧ z ≤ 9999) (h3 : o ≠ [[-1]]) : isBad o = false := by
  unfold isBad
  simp only [Bool.or_eq_false_iff, decide_eq_false_iff_not, List.any_eq_false]
  refine ⟨⟨by omega, fun p hp => ?_⟩, h3⟩
  have := h2 p hp
  unfold wrongP
  simp only [Bool.or_eq_true, decide_eq_true_eq, not_or, List.any_eq_true, not_exists, not_and]
  refine ⟨⟨by omega, by omega⟩, fun z hz => ?_⟩
  have hw := this.2.2 z hz
  unfold wrongI
  simp only [Bool.or_eq_true, decide_eq_true_eq, not_or]
  omega
theorem stp_good {l : List (List Int)} {c : UInt8} (h : isBad l = false) (he : (stpV l c).2 = 0) : isBad (stpV l c).1 = false ∧ (stpV l c).1 ≠ [] := by
  obtain ⟨ls, ps, z, ho, g1, g2, g3, g4, g5⟩ := opened_last l h
  have hop : ∀ p ∈ opened l, 1 ≤ p.length ∧ p.length ≤ 6 ∧ ∀ z ∈ p, -1 ≤ z ∧ z ≤ 9999 := fun p hp => by
    unfold opened at hp
    split at hp
    · simp at hp; subst hp; simp
    · exact (bad_no h).2.1 p hp
  have hls : ∀ p ∈ ls, 1 ≤ p.length ∧ p.length ≤ 6 ∧ ∀ z ∈ p, -1 ≤ z ∧ z ≤ 9999 := fun p hp => hop p (by rw [ho]; simp [hp])
  have hps : ∀ y ∈ ps, -1 ≤ y ∧ y ≤ 9999 := fun y hy => (hop (ps ++ [z]) (by rw [ho]; simp)).2.2 y (by simp [hy])
  unfold stpV at he ⊢
  rw [if_neg (by rw [h]; decide)] at he ⊢
  split
  · rename_i hd
    rw [ho]
    have hz : 0 ≤ digI z ((c.toNat : Int) - 48) ∧ digI z ((c.toNat : Int) - 48) ≤ 9999 := by unfold digI; omega
    have e : digL (ls ++ [ps ++ [z]]) ((c.toNat : Int) - 48) = ls ++ [ps ++ [digI z ((c.toNat : Int) - 48)]] := by simp [digL, digP]
    show isBad (digL (ls ++ [ps ++ [z]]) ((c.toNat : Int) - 48)) = false ∧ digL (ls ++ [ps ++ [z]]) ((c.toNat : Int) - 48) ≠ []
    rw [e]
    refine ⟨good_bad (by simp; omega) (fun p hp => ?_) ?_, by simp⟩
    · simp at hp
      rcases hp with hp | rfl
      · exact hls p hp
      · refine ⟨by simp, by simp; omega, fun y hy => ?_⟩
        simp at hy
        rcases hy with hy | rfl
        · exact hps y hy
        · omega
    · intro e
      have hlen := congrArg List.length e
      simp at hlen
      subst hlen
      simp at e
      rw [List.append_eq_singleton_iff] at e
      simp at e
      omega
  · rename_i hd
    rw [if_neg hd] at he
    split
    · rename_i hc
      rw [if_pos hc] at he
      split
      · rename_i k; rw [if_pos k] at he; cases he
      · rename_i k
        rw [ho] at k ⊢
        simp at k
        show isBad ((ls ++ [ps ++ [z]]).dropLast ++ [parP ((ls ++ [ps ++ [z]]).getLastD [])]) = false ∧ (ls ++ [ps ++ [z]]).dropLast ++ [parP ((ls ++ [ps ++ [z]]).getLastD [])] ≠ []
        have e : (ls ++ [ps ++ [z]]).dropLast ++ [parP ((ls ++ [ps ++ [z]]).getLastD [])] = ls ++ [ps ++ [z] ++ [-1]] := by simp [parP]
        rw [e]
        refine ⟨good_bad (by simp; omega) (fun p hp => ?_) ?_, by simp⟩
        · simp at hp
          rcases hp with hp | rfl
          · exact hls p hp
          · refine ⟨by simp, by simp; omega, fun y hy => ?_⟩
            simp at hy
            rcases hy with hy | rfl | rfl
            · exact hps y hy
            · omega
            · omega
        · intro e
          have := congrArg (fun x => (x.getLastD []).length) e
          simp at this
    · rename_i hc
      rw [if_neg hc] at he
      split
      · rename_i h9
        rw [if_pos h9] at he
        split
        · rename_i k; rw [if_pos k] at he; cases he
        · rename_i k
          refine ⟨good_bad (by simp; omega) (fun p hp => ?_) ?_, by simp⟩
          · simp at hp
            rcases hp with hp | rfl
            · exact hop p hp
            · simp
          · intro e
            have := congrArg List.length e
            rw [ho] at this
            simp at this
      · rename_i h9
        rw [if_neg h9] at he; cases he
theorem wit_keep {p : PS} (h : Good p) (hs : p.st = 6 ∨ p.st = 11 ∨ p.st = 13) : Good { p with st := p.st + 1 } := by
  refine ⟨by show (0 : Int) ≤ p.st + 1; omega, by show p.st + 1 < 15; omega, h.bad, ?_, h.ps, h.its, ?_, ?_, ?_, ?_, ?_, ?_, h.txs, h.txl, ?_⟩
  · rcases h.utf with e | ⟨_, e⟩
    · exact .inl e
    · omega
  · have := h.itl; show leastS (p.st + 1) ≤ p.it.size; unfold leastS at this ⊢; rcases hs with e | e | e <;> simp [e]
  · have := h.itm; show p.it.size ≤ mostS (p.st + 1); unfold mostS at this ⊢; rcases hs with e | e | e <;> simp [e] at this ⊢ <;> omega
  · have := h.psn; show p.ps = [] ∨ _; rcases this with x | x
    · exact .inl x
    · right; show p.st + 1 = 4 ∨ p.st + 1 = 5 ∨ p.st + 1 = 9 ∨ p.st + 1 = 10 ∨ p.st + 1 = 11 ∨ p.st + 1 = 12; omega
  · intro e; have e' : p.st + 1 = 4 ∨ p.st + 1 = 9 := e; omega
  · have := h.pr
    rcases this with x | ⟨x, y, z⟩
    · exact .inl x
    · right; exact ⟨x, y, by show p.st + 1 = 4 ∨ p.st + 1 = 5 ∨ p.st + 1 = 9 ∨ p.st + 1 = 10 ∨ p.st + 1 = 11 ∨ p.st + 1 = 12; omega⟩
  · have := h.fi
    rcases this with ⟨x, y, z⟩ | ⟨x, y, z⟩
    · left; exact ⟨by show p.st + 1 = 11 ∨ p.st + 1 = 12; omega, y, z⟩
    · right; exact ⟨by show p.st + 1 ≠ 11; omega, by show p.st + 1 ≠ 12; omega, z⟩
  · have := h.txn
    rcases this with x | x
    · exact .inl x
    · right; show p.st + 1 = 6 ∨ p.st + 1 = 7 ∨ p.st + 1 = 11 ∨ p.st + 1 = 12; omega
theorem all_bs1 (f : UInt8 → Bool) (s : ByteArray) (b : UInt8) : (s ++ bs1 b).data.toList.all f = (s.data.toList.all f && f b) := by
  simp [bs1]
theorem sig_keep {p : PS} {b : UInt8} (h : Good p) (hs : p.st = 2 ∨ p.st = 5 ∨ p.st = 10) (h1 : 32 ≤ b.toNat) (h2 : b.toNat ≤ 47) (hz : p.it.size ≠ 2) : Good { p with it := p.it ++ bs1 b } := by
  have hm := h.itm
  refine ⟨h.lo, h.hi, h.bad, h.utf, h.ps, ?_, ?_, ?_, h.psn, h.ent, h.pr, h.fi, h.txs, h.txl, h.txn⟩
  · show (p.it ++ bs1 b).data.toList.all _ = true
    rw [all_bs1, h.its]; simp [h1, h2]
  · show leastS p.st ≤ (p.it ++ bs1 b).size
    have := h.itl
    rw [ba_size]; omega
  · show (p.it ++ bs1 b).size ≤ mostS p.st
    unfold mostS at hm ⊢
    rw [if_pos (by omega)] at hm ⊢
    rw [ba_size]; omega
theorem good_may {p : PS} (h : Good p) : mayS p = true := (may_good h.bad).2 h
theorem entry_is {p : PS} (h : Good p) (hu : p.utf = []) (hs : p.st = 0 ∨ p.st = 1 ∨ p.st = 3 ∨ p.st = 8 ∨ p.st = 13 ∨ p.st = 14) : p = begS p.st := by
  obtain ⟨st, utf, pr, fi, ps, it, tx, bad⟩ := p
  have hbad := h.bad
  have a1 := h.psn; have a2 := h.pr; have a3 := h.fi; have a4 := h.txn; have a5 := h.itm
  dsimp only at hu hs hbad a1 a2 a3 a4 a5 ⊢
  unfold mostS at a5
  have b1 : ps = [] := by rcases a1 with x | x; exact x; omega
  have b2 : pr = 0 := by rcases a2 with x | x; exact x; omega
  have b3 : fi = 0 := by rcases a3 with x | x; omega; exact x.2.2
  have b4 : tx = nos := ba_nil _ (by omega)
  have b5 : it = nos := ba_nil _ (by rw [if_neg (by omega)] at a5; omega)
  rw [hu, b1, b2, b3, b4, b5, hbad]; rfl
theorem beg_may (n : Int) (h : n = 0 ∨ n = 1 ∨ n = 3 ∨ n = 6 ∨ n = 8 ∨ n = 13) : mayS (begS n) = true := by
  rcases h with e | e | e | e | e | e <;> subst e <;> decide +kernel
theorem spo_may (n : Int) (h : n = 2 ∨ n = 4 ∨ n = 5 ∨ n = 6 ∨ n = 7 ∨ n = 9 ∨ n = 10 ∨ n = 11 ∨ n = 12) : mayS (spoS n) = true := by
  rcases h with e | e | e | e | e | e | e | e | e <;> subst e <;> decide +kernel
theorem bs1_sig {b : UInt8} (h1 : 32 ≤ b.toNat) (h2 : b.toNat ≤ 47) : (bs1 b).data.toList.all (fun c => decide (32 ≤ c.toNat) && decide (c.toNat ≤ 47)) = true := by
  simp [bs1, h1, h2]
theorem bs1_size (b : UInt8) : (bs1 b).size = 1 := rfl
theorem sg1_may (n : Int) (b : UInt8) (h : n = 2 ∨ n = 5 ∨ n = 10) (h1 : 32 ≤ b.toNat) (h2 : b.toNat ≤ 47) : mayS { begS n with it := bs1 b } = true := by
  refine good_may ⟨by show 0 ≤ n; omega, by show n < 15; omega, rfl, .inl rfl, by show isBad [] = false; decide, bs1_sig h1 h2, ?_, ?_, .inl rfl, ?_, .inl rfl, .inr ⟨by show n ≠ 11; omega, by show n ≠ 12; omega, rfl⟩, rfl, by show 0 ≤ 512; omega, .inl rfl⟩
  · show leastS n ≤ 1; unfold leastS; split <;> omega
  · show 1 ≤ mostS n; unfold mostS; rw [if_pos (by omega)]; omega
  · intro e; have e' : n = 4 ∨ n = 9 := e; omega
theorem esc_may (b : UInt8) (h1 : 32 ≤ b.toNat) : mayS (escS b).1 = true := by
  unfold escS
  repeat' split
  · exact beg_may 3 (by omega)
  · exact beg_may 6 (by omega)
  · exact beg_may 8 (by omega)
  · exact beg_may 13 (by omega)
  · exact sg1_may 2 b (by omega) h1 (by omega)
  · exact beg_may 0 (by omega)
theorem utf_may (u : List UInt8) (h : u = [] ∨ preB u = true) : mayS { begS 0 with utf := u } = true := by
  refine good_may ⟨by show (0 : Int) ≤ 0; omega, by show (0 : Int) < 15; omega, rfl, ?_, by show isBad [] = false; decide, rfl, ?_, ?_, .inl rfl, ?_, .inl rfl, .inr ⟨by show (0 : Int) ≠ 11; omega, by show (0 : Int) ≠ 12; omega, rfl⟩, rfl, by show 0 ≤ 512; omega, .inl rfl⟩
  · rcases h with x | x
    · exact .inl x
    · exact .inr ⟨x, rfl⟩
  · show leastS 0 ≤ 0; decide
  · show 0 ≤ mostS 0; decide
  · intro e; have e' : (0 : Int) = 4 ∨ (0 : Int) = 9 := e; omega
theorem take_pre (bs : List UInt8) (h : begB bs = true) : (takeL bs).1 = [] ∨ preB (takeL bs).1 = true := by
  cases bs with
  | nil => exact .inl rfl
  | cons b r =>
    show (if r.length + 1 < fl b then (b :: r, []) else ([], [(low (b :: r) : Int)])).1 = [] ∨ preB (if r.length + 1 < fl b then (b :: r, []) else ([], [(low (b :: r) : Int)])).1 = true
    split
    · right
      show (decide (r.length + 1 < fl b) && begB (b :: r)) = true
      rw [h, decide_eq_true (by assumption)]; rfl
    · exact .inl rfl
theorem alone_pre (b : UInt8) : (aloneL b).1 = [] ∨ preB (aloneL b).1 = true := by
  unfold aloneL
  split
  · exact take_pre _ (by assumption)
  · exact .inl rfl
theorem step_pre (u : List UInt8) (b : UInt8) : (stepL u b).1 = [] ∨ preB (stepL u b).1 = true := by
  unfold stepL
  split
  · split
    · exact take_pre _ (by assumption)
    · exact alone_pre b
  · exact alone_pre b
theorem grd_may (b : UInt8) : mayS (grdS b).1 = true := by
  unfold grdS
  repeat' split
  all_goals first | exact beg_may 0 (by omega) | exact beg_may 1 (by omega)
theorem prt_may (u : List UInt8) (b : UInt8) : mayS (prtS u b).1 = true := by
  unfold prtS
  have : ∀ (cs : List Int) (r : PS × List EV), mayS r.1 = true → mayS (cs.foldl codS r).1 = true := by
    intro cs
    induction cs with
    | nil => intro r h; exact h
    | cons c cs ih =>
      intro r h
      refine ih _ ?_
      unfold codS
      split
      · exact grd_may _
      · split <;> exact h
  exact this _ _ (utf_may _ (step_pre u b))
theorem escB_may (b : UInt8) : mayS (escB b).1 = true := by
  unfold escB
  split
  · exact prt_may _ _
  · split
    · exact beg_may 1 (by omega)
    · split
      · exact beg_may 1 (by omega)
      · exact esc_may b (by omega)
theorem tol_may (p : PS) (e : EV) : mayS (tolS p e).1 = true := by
  unfold tolS; split <;> exact beg_may 0 (by omega)
theorem end_may (p : PS) (b : UInt8) : mayS (endS p b).1 = true := by
  unfold endS
  repeat' split
  · exact escB_may b
  · exact tol_may _ _
  · exact tol_may _ _
  · exact beg_may 0 (by omega)
theorem tx_may {p : PS} {b : UInt8} (h : Good p) (hs : p.st = 6 ∨ p.st = 11) (h1 : 32 ≤ b.toNat) (h2 : b.toNat ≠ 127) (hz : p.tx.size ≠ 512) : Good { p with tx := p.tx ++ bs1 b } := by
  have hm := h.txl
  refine ⟨h.lo, h.hi, h.bad, h.utf, h.ps, h.its, h.itl, h.itm, h.psn, h.ent, h.pr, h.fi, ?_, ?_, ?_⟩
  · show (p.tx ++ bs1 b).data.toList.all _ = true
    rw [all_bs1, h.txs]; simp [h1, h2]
  · show (p.tx ++ bs1 b).size ≤ 512
    rw [ba_size]; omega
  · right; show p.st = 6 ∨ p.st = 7 ∨ p.st = 11 ∨ p.st = 12; omega
theorem wit_may {p : PS} (b : UInt8) (h : Good p) (hs : p.st = 6 ∨ p.st = 11 ∨ p.st = 13) : mayS (witS p b).1 = true := by
  unfold witS
  split
  · exact tol_may _ _
  · split
    · exact good_may h
    · rename_i k
      have k1 : p.st ≠ 13 := fun e => k (.inr (.inr (.inl e)))
      split
      · exact spo_may _ (by omega)
      · exact good_may (tx_may h (by omega) (by have : ¬ b.toNat < 32 := fun e => k (.inl e); omega) (fun e => k (.inr (.inl e))) (by assumption))
theorem fin_may {p : PS} (b : UInt8) (h : Good p) (h1 : 64 ≤ b.toNat) (h2 : b.toNat < 127) : mayS (finS p b).1 = true := by
  unfold finS
  split
  · exact tol_may _ _
  · rename_i k
    rw [if_neg (by rw [h.bad]; decide)]
    have hu : p.utf = [] := by rcases h.utf with e | ⟨_, e⟩; exact e; omega
    refine good_may ⟨by show (0 : Int) ≤ 11; omega, by show (11 : Int) < 15; omega, h.bad, .inl hu, h.ps, h.its, ?_, ?_, .inr ?_, ?_, ?_, .inl ⟨.inl rfl, h1, by show b.toNat ≤ 126; omega⟩, h.txs, h.txl, .inr ?_⟩
    · show leastS 11 ≤ p.it.size; unfold leastS; simp
    · have := h.itm; show p.it.size ≤ mostS 11; unfold mostS at this ⊢; simp; split at this <;> omega
    · show (11 : Int) = 4 ∨ (11 : Int) = 5 ∨ (11 : Int) = 9 ∨ (11 : Int) = 10 ∨ (11 : Int) = 11 ∨ (11 : Int) = 12; omega
    · intro e; have e' : (11 : Int) = 4 ∨ (11 : Int) = 9 := e; omega
    · rcases h.pr with x | ⟨x, y, z⟩
      · exact .inl x
      · exact .inr ⟨x, y, by show (11 : Int) = 4 ∨ (11 : Int) = 5 ∨ (11 : Int) = 9 ∨ (11 : Int) = 10 ∨ (11 : Int) = 11 ∨ (11 : Int) = 12; omega⟩
    · show (11 : Int) = 6 ∨ (11 : Int) = 7 ∨ (11 : Int) = 11 ∨ (11 : Int) = 12; omega
theorem goe_may {p : PS} (b : UInt8) (h : Good p) (h1 : 32 ≤ b.toNat) (h2 : b.toNat < 127) (hs : strB p.st = false) (hu : p.utf = []) : mayS (goeS p b).1 = true := by
  have hlo := h.lo
  have hhi := h.hi
  have hst : p.st = 0 ∨ p.st = 1 ∨ p.st = 2 ∨ p.st = 3 ∨ p.st = 4 ∨ p.st = 5 ∨ p.st = 8 ∨ p.st = 9 ∨ p.st = 10 := by
    unfold strB at hs; simp at hs; omega
  have hm : mayS p = true := good_may h
  have hfs : ∀ q : PS, q = { p with st := p.st + 1 } → True := fun _ _ => trivial
  unfold goeS
  split
  · exact hm
  · split
    · exact esc_may b h1
    · split
      · split
        · unfold sigS
          split
          · exact spo_may _ (by omega)
          · rename_i k
            exact good_may (sig_keep h (by omega) h1 (by assumption) (fun e => k (.inr e)))
        · exact tol_may _ _
      · split
        · rename_i k
          split
          · refine good_may ⟨by show 0 ≤ p.st + 1; omega, by show p.st + 1 < 15; omega, rfl, .inl rfl, by show isBad [] = false; decide, rfl, ?_, ?_, .inl rfl, ?_, .inr ⟨by show 60 ≤ b.toNat; omega, by show b.toNat ≤ 63; omega, by show p.st + 1 = 4 ∨ p.st + 1 = 5 ∨ p.st + 1 = 9 ∨ p.st + 1 = 10 ∨ p.st + 1 = 11 ∨ p.st + 1 = 12; omega⟩, .inr ⟨by show p.st + 1 ≠ 11; omega, by show p.st + 1 ≠ 12; omega, rfl⟩, rfl, by show 0 ≤ 512; omega, .inl rfl⟩
            · show leastS (p.st + 1) ≤ 0; unfold leastS; rw [if_neg (by omega)]; omega
            · exact Nat.zero_le _
            · intro _ _ e
              have e' : b = 0 := e
              subst e'
              rename_i hp _ _
              exact absurd hp.1 (by decide)
          · split
            · rename_i hd
              have := stp_good (l := []) (c := b) (by decide) (stp_nil b hd.1 hd.2)
              refine good_may ⟨by show 0 ≤ p.st + 1; omega, by show p.st + 1 < 15; omega, rfl, .inl rfl, this.1, rfl, ?_, ?_, .inr ?_, ?_, .inl rfl, .inr ⟨by show p.st + 1 ≠ 11; omega, by show p.st + 1 ≠ 12; omega, rfl⟩, rfl, by show 0 ≤ 512; omega, .inl rfl⟩
              · show leastS (p.st + 1) ≤ 0; unfold leastS; rw [if_neg (by omega)]; omega
              · exact Nat.zero_le _
              · show p.st + 1 = 4 ∨ p.st + 1 = 5 ∨ p.st + 1 = 9 ∨ p.st + 1 = 10 ∨ p.st + 1 = 11 ∨ p.st + 1 = 12; omega
              · intro _ e; exact absurd e this.2
            · split
              · exact sg1_may _ b (by omega) h1 (by assumption)
              · exact fin_may b h (by omega) h2
        · split
          · rename_i k
            split
            · exact spo_may _ (by omega)
            · split
              · split
                · exact spo_may _ (by omega)
                · rename_i hd k2
                  have k3 : (stpV p.ps b).2 = 0 := Classical.byContradiction fun e => k2 (.inl e)
                  have := stp_good h.ps k3
                  exact good_may ⟨h.lo, h.hi, h.bad, h.utf, this.1, h.its, h.itl, h.itm, .inr (by show p.st = 4 ∨ p.st = 5 ∨ p.st = 9 ∨ p.st = 10 ∨ p.st = 11 ∨ p.st = 12; omega), fun _ e => absurd e this.2, h.pr, h.fi, h.txs, h.txl, h.txn⟩
              · split
                · rename_i k4
                  have hit : p.it = nos := ba_nil _ (by have := h.itm; unfold mostS at this; rw [if_neg (by omega)] at this; omega)
                  unfold sigS
                  dsimp only
                  rw [if_neg (by rw [h.bad, hit]; decide), hit, nos_app]
                  refine good_may ⟨by show 0 ≤ p.st + 1; omega, by show p.st + 1 < 15; omega, h.bad, .inl hu, h.ps, bs1_sig h1 k4, ?_, ?_, .inr ?_, ?_, ?_, ?_, h.txs, h.txl, .inl ?_⟩
                  · show leastS (p.st + 1) ≤ 1; unfold leastS; split <;> omega
                  · show 1 ≤ mostS (p.st + 1); unfold mostS; rw [if_pos (by omega)]; omega
                  · show p.st + 1 = 4 ∨ p.st + 1 = 5 ∨ p.st + 1 = 9 ∨ p.st + 1 = 10 ∨ p.st + 1 = 11 ∨ p.st + 1 = 12; omega
                  · intro e; have e' : p.st + 1 = 4 ∨ p.st + 1 = 9 := e; omega
                  · rcases h.pr with x | ⟨x, y, z⟩
                    · exact .inl x
                    · exact .inr ⟨x, y, by show p.st + 1 = 4 ∨ p.st + 1 = 5 ∨ p.st + 1 = 9 ∨ p.st + 1 = 10 ∨ p.st + 1 = 11 ∨ p.st + 1 = 12; omega⟩
                  · rcases h.fi with ⟨x, _⟩ | ⟨x, y, z⟩
                    · omega
                    · exact .inr ⟨by show p.st + 1 ≠ 11; omega, by show p.st + 1 ≠ 12; omega, z⟩
                  · have := h.txn; show p.tx.size = 0; omega
                · exact fin_may b h (by omega) h2
          · split
            · rename_i k
              split
              · exact spo_may _ (by omega)
              · split
                · rename_i k4
                  unfold sigS
                  split
                  · exact spo_may _ (by omega)
                  · rename_i k5
                    exact good_may (sig_keep h (by omega) h1 k4 (fun e => k5 (.inr e)))
                · exact fin_may b h (by omega) h2
            · omega
end Go.Proofs.YtefkbdmgplfgoaaGreatDoor.Sta
