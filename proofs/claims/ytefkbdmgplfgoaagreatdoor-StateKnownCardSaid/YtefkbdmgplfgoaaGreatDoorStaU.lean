/-
  Both together: the program's step is the chapter's at every valid parse, and a valid parse stays valid.
-/
import Derived.Test.YtefkbdmgplfgoaaGreatDoorStaT
namespace Go.Proofs.YtefkbdmgplfgoaaGreatDoor.Sta
open Utf Par

theorem spo_post (p : PS) (l : List EV) (h : p.bad = true) : post (p, l) = (spoS p.st, l) := by unfold post; rw [if_pos h]
theorem add_bad (p : PS) (b : UInt8) (l : List EV) (h : p.bad = true) : post (addD p b, l) = (spoS p.st, l) := by
  unfold addD
  split
  · rfl
  · exact spo_post _ _ h
theorem tol_bad (p : PS) (e : EV) (h : p.bad = true) : tolS p e = (begS 0, []) := by unfold tolS; rw [if_pos h]
theorem dsp_spo (p : PS) (k : Int) (fi : UInt8) (h : p.bad = true) : dspD p k fi = (begS 0, []) := by unfold dspD; rw [if_pos h]
def spoilable (n : Int) : Prop := n = 2 ∨ n = 4 ∨ n = 5 ∨ n = 6 ∨ n = 7 ∨ n = 9 ∨ n = 10 ∨ n = 11 ∨ n = 12
theorem goe_spo (n : Int) (b : UInt8) (h1 : 32 ≤ b.toNat) (h2 : b.toNat < 127) (hs : n = 2 ∨ n = 4 ∨ n = 5 ∨ n = 9 ∨ n = 10) : post (rulD (spoS n) b) = goeS (spoS n) b ∧ mayS (goeS (spoS n) b).1 = true := by
  obtain ⟨c1, c2, c3⟩ := classB b h1 h2
  have sg : ∀ m : Int, sigS { spoS n with st := m } b = spoS m := fun m => by unfold sigS; rw [if_pos (.inl rfl)]
  have sg0 : sigS (spoS n) b = spoS n := sg n
  have hfin : post (finD (spoS n) b) = finS (spoS n) b ∧ mayS (finS (spoS n) b).1 = true := by
    by_cases k : n ≤ 5
    · have e1 : finD (spoS n) b = (begS 0, []) := by unfold finD; rw [if_pos (show (spoS n).st ≤ 5 from k)]; rfl
      have e2 : finS (spoS n) b = (begS 0, []) := by unfold finS; rw [if_pos (show (spoS n).st ≤ 5 from k)]; rfl
      rw [e1, e2]
      exact ⟨rfl, beg_may 0 (by omega)⟩
    · have e1 : post (finD (spoS n) b) = (spoS 11, []) := by unfold finD; rw [if_neg (show ¬ (spoS n).st ≤ 5 from k)]; rfl
      have e2 : finS (spoS n) b = (spoS 11, []) := by unfold finS; rw [if_neg (show ¬ (spoS n).st ≤ 5 from k)]; rfl
      rw [e1, e2]
      exact ⟨rfl, spo_may 11 (by omega)⟩
  by_cases e2 : n = 2
  · have hr : rulD (spoS n) b = sgnD (spoS n) b := by subst e2; rfl
    have hg : goeS (spoS n) b = if b.toNat ≤ 47 then (sigS (spoS n) b, []) else tolS (spoS n) (esE (spoS n).it b) := by subst e2; rfl
    rw [hr, hg]
    unfold sgnD
    rw [c1]
    by_cases k : b.toNat ≤ 47
    · rw [if_pos (by simpa using k), if_pos k, add_bad _ _ _ rfl, sg0]
      exact ⟨rfl, spo_may n (by omega)⟩
    · rw [if_neg (by simpa using k), if_neg k, dsp_spo _ _ _ rfl, tol_bad _ _ rfl]
      exact ⟨rfl, beg_may 0 (by omega)⟩
  · by_cases e4 : n = 4 ∨ n = 9
    · have hr : rulD (spoS n) b = parmD (spoS n) b := by rcases e4 with e | e <;> subst e <;> rfl
      have hg : goeS (spoS n) b = if 60 ≤ b.toNat ∧ b.toNat ≤ 63 then (spoS n, [])
        else if 48 ≤ b.toNat ∧ b.toNat ≤ 59 then if (stpV [] b).2 ≠ 0 ∨ (spoS n).bad = true then (spoS n, []) else ({ spoS n with ps := (stpV [] b).1 }, [])
        else if b.toNat ≤ 47 then (sigS { spoS n with st := n + 1 } b, [])
        else finS (spoS n) b := by rcases e4 with e | e <;> subst e <;> rfl
      rw [hr, hg]
      unfold parmD
      rw [c1, c2, c3]
      by_cases k1 : b.toNat ≤ 47
      · rw [if_pos (by simpa using k1), if_neg (by omega), if_neg (by omega), if_pos k1, add_bad _ _ _ rfl, sg]
        exact ⟨rfl, spo_may (n + 1) (by omega)⟩
      · rw [if_neg (by simpa using k1)]
        by_cases k2 : 60 ≤ b.toNat ∧ b.toNat ≤ 63
        · rw [if_pos (by simpa using k2), if_pos k2]
          exact ⟨rfl, spo_may n (by omega)⟩
        · rw [if_neg (by simpa using k2), if_neg k2]
          by_cases k3 : 64 ≤ b.toNat
          · rw [if_pos (by simpa using k3), if_neg (by omega), if_neg k1]; exact hfin
          · rw [if_neg (by simpa using k3), if_pos (by omega), if_pos (.inr rfl)]
            refine ⟨?_, spo_may n (by omega)⟩
            unfold parD
            split
            · rfl
            · exact spo_post _ _ rfl
    · have e5 : n = 5 ∨ n = 10 := by omega
      have hr : rulD (spoS n) b = intD (spoS n) b := by rcases e5 with e | e <;> subst e <;> rfl
      have hg : goeS (spoS n) b = if 48 ≤ b.toNat ∧ b.toNat ≤ 63 then (spoS n, [])
        else if b.toNat ≤ 47 then (sigS (spoS n) b, [])
        else finS (spoS n) b := by rcases e5 with e | e <;> subst e <;> rfl
      rw [hr, hg]
      unfold intD
      rw [c1, c3]
      by_cases k1 : b.toNat ≤ 47
      · rw [if_pos (by simpa using k1), if_neg (by omega), if_pos k1, add_bad _ _ _ rfl, sg0]
        exact ⟨rfl, spo_may n (by omega)⟩
      · rw [if_neg (by simpa using k1)]
        by_cases k3 : 64 ≤ b.toNat
        · rw [if_pos (by simpa using k3), if_neg (by omega), if_neg k1]; exact hfin
        · rw [if_neg (by simpa using k3), if_pos (by omega)]
          exact ⟨rfl, spo_may n (by omega)⟩
theorem end_spo (n : Int) (b : UInt8) (hs : n = 7 ∨ n = 12) (h0 : b.toNat ≠ 24) (h1 : b.toNat ≠ 26) (h2 : b.toNat ≠ 27) : post (rulD (spoS n) b) = endS (spoS n) b := by
  have hr : rulD (spoS n) b = endD (spoS n) b := by rcases hs with e | e <;> subst e <;> rfl
  rw [hr]
  unfold endD endS
  by_cases k : b.toNat ≠ 92
  · rw [if_pos k, if_pos k, tke_same, if_neg (by omega), if_neg h2]
    refine post_ok ?_
    unfold escB
    split
    · exact prt_bad _ _
    · split
      · rfl
      · split
        · rfl
        · unfold escS
          repeat' split
          all_goals rfl
  · rw [if_neg k, if_neg k]
    rcases hs with e | e <;> subst e <;> rfl
theorem wit_spo (n : Int) (b : UInt8) (hs : n = 6 ∨ n = 11) : post (rulD (spoS n) b) = witS (spoS n) b ∧ mayS (witS (spoS n) b).1 = true := by
  have tx : post (texD (spoS n) b, []) = (spoS n, []) := by
    unfold texD
    split
    · rw [if_neg (by show ¬ (0 : Nat) = 512; omega)]; exact spo_post _ _ rfl
    · exact spo_post _ _ rfl
  rcases hs with e | e
  · subst e
    show post (oscD (spoS 6) b) = _ ∧ _
    unfold oscD witS
    by_cases k : b.toNat = 7
    · rw [if_pos k, if_pos ⟨rfl, k⟩]
      exact ⟨rfl, beg_may 0 (by omega)⟩
    · rw [if_neg k, if_neg (by rintro ⟨_, x⟩; exact k x), if_pos (.inr (.inr (.inr rfl)))]
      exact ⟨tx, spo_may 6 (by omega)⟩
  · subst e
    show post (texD (spoS 11) b, []) = _ ∧ _
    unfold witS
    rw [if_neg (by rintro ⟨x, _⟩; exact absurd x (by decide)), if_pos (.inr (.inr (.inr rfl)))]
    exact ⟨tx, spo_may 11 (by omega)⟩
theorem tak_spo (p : PS) (b : UInt8) (he : p = spoS p.st) (hs : spoilable p.st) : takD p b = oneS p b ∧ mayS (oneS p b).1 = true := by
  have hu : p.utf = [] := by rw [he]; rfl
  have hbad : p.bad = true := by rw [he]; rfl
  have e6 : ({ p with st := p.st + 1 } : PS) = spoS (p.st + 1) := by rw [he]; rfl
  have hm : mayS p = true := by rw [he]; exact spo_may _ hs
  have hp : ∀ l, post (p, l) = (p, l) := fun l => by rw [spo_post _ _ hbad, ← he]
  have g1 := goe_spo p.st b
  have g2 := end_spo p.st b
  have g3 := wit_spo p.st b
  rw [← he] at g1 g2 g3
  clear he
  unfold spoilable at hs
  rw [tak_post]
  unfold rawD oneS
  rw [if_neg (show ¬ p.utf ≠ [] by rw [hu]; simp), if_neg (show ¬ (p.st = 0 ∧ (p.utf ≠ [] ∨ 128 ≤ b.toNat)) by omega)]
  by_cases k1 : b.toNat = 24 ∨ b.toNat = 26
  · rw [if_pos k1, if_pos k1]; exact ⟨rfl, beg_may 0 (by omega)⟩
  · rw [if_neg k1, if_neg k1]
    by_cases k2 : b.toNat = 27
    · rw [if_pos k2, if_pos k2]
      by_cases k3 : p.st = 6 ∨ p.st = 11 ∨ p.st = 13
      · rw [if_pos k3, e6]; exact ⟨rfl, spo_may (p.st + 1) (by omega)⟩
      · rw [if_neg k3]; exact ⟨rfl, beg_may 1 (by omega)⟩
    · rw [if_neg k2, if_neg k2]
      by_cases s1 : p.st = 7 ∨ p.st = 12 ∨ p.st = 14
      · rw [if_pos (by rw [(str_iff _).2 (by omega)]; rfl), if_pos s1]
        exact ⟨g2 (by omega) (by omega) (by omega) k2, end_may _ _⟩
      · rw [if_neg s1]
        by_cases s2 : p.st = 6 ∨ p.st = 11 ∨ p.st = 13
        · rw [if_pos (by rw [(str_iff _).2 (by omega)]; rfl), if_pos s2]
          exact g3 (by omega)
        · rw [if_neg s2]
          have s3 : strB p.st = false := by
            cases x : strB p.st with
            | false => rfl
            | true => have := (str_iff _).1 x; omega
          rw [s3, Bool.false_or]
          by_cases k3 : 128 ≤ b.toNat
          · rw [if_neg (by unfold prnbB; simp; omega), if_pos k3, if_pos k3]
            exact ⟨post_ok (prt_bad _ _), prt_may _ _⟩
          · rw [if_neg k3]
            by_cases k4 : b.toNat < 32
            · rw [if_neg (by unfold prnbB; simp; omega), if_neg k3, if_pos k4]
              by_cases k5 : p.st ≤ 5
              · rw [if_pos ⟨by omega, k5⟩, if_pos k5]; exact ⟨hp _, hm⟩
              · rw [if_neg (by rintro ⟨_, x⟩; exact k5 x), if_neg k5]; exact ⟨hp _, hm⟩
            · rw [if_neg k4]
              by_cases k5 : b.toNat = 127
              · rw [if_neg (by unfold prnbB; simp; omega), if_neg k3, if_neg (by rintro ⟨x, _⟩; exact x k5), if_pos k5]; exact ⟨hp _, hm⟩
              · rw [if_pos (by unfold prnbB; simp; omega), if_neg k3, if_neg k5]
                exact g1 (by omega) (by omega) (by omega)
theorem one_good {p : PS} (b : UInt8) (h : Good p) : mayS (oneS p b).1 = true := by
  unfold oneS
  by_cases g : p.st = 0 ∧ (p.utf ≠ [] ∨ 128 ≤ b.toNat)
  · rw [if_pos g]; exact prt_may _ _
  · rw [if_neg g]
    have hu : p.utf = [] := by
      rcases h.utf with e | ⟨_, e⟩
      · exact e
      · exact Classical.byContradiction fun x => g ⟨e, .inl x⟩
    split
    · exact beg_may 0 (by omega)
    · split
      · split
        · exact good_may (wit_keep h (by assumption))
        · exact beg_may 1 (by omega)
      · split
        · exact end_may _ _
        · split
          · exact wit_may b h (by assumption)
          · rename_i s1 s2
            split
            · exact prt_may _ _
            · split
              · split <;> exact good_may h
              · split
                · exact good_may h
                · refine goe_may b h (by omega) (by omega) ?_ hu
                  cases x : strB p.st with
                  | false => rfl
                  | true => have := (str_iff _).1 x; omega
theorem tak_is {p : PS} (b : UInt8) (h : mayS p = true) : takD p b = oneS p b ∧ mayS (oneS p b).1 = true := by
  cases hb : p.bad with
  | false => exact ⟨tak_good b ((may_good hb).1 h), one_good b ((may_good hb).1 h)⟩
  | true =>
    obtain ⟨e, hs⟩ := may_bad h hb
    exact tak_spo p b e hs
theorem run_may (s : List UInt8) : ∀ r : PS × List EV, mayS r.1 = true → mayS (runS r s).1 = true := by
  induction s with
  | nil => intro r h; exact h
  | cons b s ih => intro r h; exact ih _ (tak_is b h).2
theorem runS_snoc (r : PS × List EV) (s : List UInt8) (b : UInt8) : runS r (s ++ [b]) = ((oneS (runS r s).1 b).1, (runS r s).2 ++ (oneS (runS r s).1 b).2) := by
  rw [runS_app]; rfl
/-- where a code of a byte is a control, it is the last, and nothing is pending -/
def ctlB (c : Int) : Prop := c < 32 ∨ c = 127
theorem stepL_shape (u : List UInt8) (b : UInt8) : ∃ cs0 x, (stepL u b).2 = cs0 ++ x ∧ (∀ c ∈ cs0, c = 65533) ∧ (x = [] ∨ ∃ c, x = [c] ∧ (stepL u b).1 = []) := by
  have tk : ∀ bs, (takeL bs).2 = [] ∨ ∃ c, (takeL bs).2 = [c] ∧ (takeL bs).1 = [] := fun bs => by
    cases bs with
    | nil => exact .inl rfl
    | cons b r =>
      show (if r.length + 1 < fl b then (b :: r, []) else ([], [(low (b :: r) : Int)])).2 = [] ∨ ∃ c, (if r.length + 1 < fl b then (b :: r, []) else ([], [(low (b :: r) : Int)])).2 = [c] ∧ (if r.length + 1 < fl b then (b :: r, []) else ([], [(low (b :: r) : Int)])).1 = []
      split
      · exact .inl rfl
      · exact .inr ⟨_, rfl, rfl⟩
  have al : (aloneL b).2 = [] ∨ ∃ c, (aloneL b).2 = [c] ∧ (aloneL b).1 = [] := by
    unfold aloneL
    split
    · exact tk _
    · exact .inr ⟨_, rfl, rfl⟩
  unfold stepL
  split
  · split
    · exact ⟨[], _, rfl, by simp, tk _⟩
    · exact ⟨[65533], _, rfl, by simp, al⟩
  · exact ⟨[], _, rfl, by simp, al⟩
theorem cod_rep (r : PS × List EV) (c : Int) (h : c = 65533) : (codS r c).1 = r.1 := by
  subst h; unfold codS; rw [if_neg (by omega), if_pos (by omega)]
theorem fold_rep (cs : List Int) (h : ∀ c ∈ cs, c = 65533) : ∀ r : PS × List EV, (cs.foldl codS r).1 = r.1 := by
  induction cs with
  | nil => intro r; rfl
  | cons c cs ih => intro r; rw [List.foldl_cons, ih (fun x hx => h x (by simp [hx])), cod_rep r c (h c (by simp))]
theorem ctl_last (u : List UInt8) (b : UInt8) (k : Nat) (c : Int) (h : (stepL u b).2[k]? = some c) (hc : ctlB c) (l0 : List EV) : (((stepL u b).2.take k).foldl codS ({ begS 0 with utf := (stepL u b).1 }, l0)).1 = begS 0 := by
  obtain ⟨cs0, x, h1, h2, h3⟩ := stepL_shape u b
  have hk : cs0.length ≤ k := Classical.byContradiction fun hlt => by
    rw [h1, List.getElem?_append_left (by omega)] at h
    have := h2 c (List.mem_of_getElem? h)
    subst this
    unfold ctlB at hc
    omega
  rw [h1, List.getElem?_append_right hk] at h
  rcases h3 with e | ⟨c', e, h4⟩
  · rw [e] at h; simp at h
  · rw [e] at h
    have hk2 : k = cs0.length := by
      have := (List.getElem?_eq_some_iff.1 h).1
      simp at this
      omega
    rw [h1, h4, hk2, List.take_left', fold_rep cs0 h2]
    · rfl
    · rfl
theorem fold_take {α β : Type} (f : β → α → β) (l : List α) (k : Nat) (x : α) (r : β) (h : l[k]? = some x) : (l.take (k + 1)).foldl f r = f ((l.take k).foldl f r) x := by
  rw [List.take_add_one, h, List.foldl_append]; rfl
end Go.Proofs.YtefkbdmgplfgoaaGreatDoor.Sta
