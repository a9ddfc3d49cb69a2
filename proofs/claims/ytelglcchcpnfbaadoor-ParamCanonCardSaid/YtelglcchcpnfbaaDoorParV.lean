/-
  The maths of strings of digits, colons and semicolons: they are read, or there are too many parts; what was read has a text that is not longer and has as many signs.
-/
import Derived.Test.YtelglcchcpnfbaaDoorParT
import Derived.Lib.Bytealg
namespace Go.Proofs.YtelglcchcpnfbaaDoor.Par
open Go.RowKit Utf

theorem itemsP_app (i j : Nat) (p q : List Int) : itemsP i j (p ++ q) = itemsP i j p ++ itemsP i (j + p.length) q := by
  induction p generalizing j with
  | nil => rfl
  | cons z r ih => rw [List.cons_append, itemsP, itemsP, ih, List.length_cons, List.cons_append, show j + 1 + r.length = j + (r.length + 1) by omega]
theorem itemsL_app (i : Nat) (a b : List (List Int)) : itemsL i (a ++ b) = itemsL i a ++ itemsL (i + a.length) b := by
  induction a generalizing i with
  | nil => rfl
  | cons p r ih => rw [List.cons_append, itemsL, itemsL, ih, List.length_cons, List.append_assoc, show i + 1 + r.length = i + (r.length + 1) by omega]
def pre (ls : List (List Int)) (ps : List Int) : List UInt8 := (itemsL 0 ls).flatMap prtI ++ (itemsP (0 + ls.length) 0 ps).flatMap prtI ++ sepL (0 + ls.length) (0 + ps.length)
theorem prt_last (ls : List (List Int)) (ps : List Int) (y : Int) : prtL (ls ++ [ps ++ [y]]) = pre ls ps ++ num y := by
  unfold prtL pre
  rw [itemsL_app, List.flatMap_append]
  show _ ++ (itemsP (0 + ls.length) 0 (ps ++ [y]) ++ []).flatMap prtI = _
  rw [List.append_nil, itemsP_app, List.flatMap_append]
  show _ ++ (_ ++ (prtI (sepL (0 + ls.length) (0 + ps.length), y) ++ [])) = _
  rw [List.append_nil]
  unfold prtI num
  simp only [List.append_assoc]
theorem prt_colon (ls : List (List Int)) (ps : List Int) (hp : ps ≠ []) : prtL (ls ++ [ps ++ [-1]]) = prtL (ls ++ [ps]) ++ [58] := by
  rw [prt_last]
  unfold prtL pre num
  rw [itemsL_app, List.flatMap_append]
  show _ = _ ++ (itemsP (0 + ls.length) 0 ps ++ []).flatMap prtI ++ [58]
  have : 0 < ps.length := List.length_pos_iff.2 hp
  rw [List.append_nil, if_pos rfl, List.append_nil]
  unfold sepL
  rw [if_pos (by omega)]
theorem prt_semi (ls : List (List Int)) (h : ls ≠ []) : prtL (ls ++ [[-1]]) = prtL ls ++ [59] := by
  have := prt_last ls [] (-1)
  rw [List.nil_append] at this
  rw [this]
  unfold prtL pre num
  have : 0 < ls.length := List.length_pos_iff.2 h
  rw [if_pos rfl, List.append_nil]
  unfold sepL
  rw [if_neg (by simp), if_pos (by omega)]
  show _ ++ [] ++ _ = _
  rw [List.append_nil]
theorem dec_signs (u : Nat) : ∀ b ∈ Lib.decDigits u, 48 ≤ b.toNat ∧ b.toNat ≤ 57 := by
  induction u using Nat.strongRecOn with
  | _ u ih =>
    intro b hb
    by_cases hs : u < 10
    · rw [Lib.decDigits_one hs] at hb
      simp only [List.mem_singleton] at hb
      subst hb
      rw [UInt8.toNat_ofNat']; omega
    · rw [Lib.decDigits, dif_neg hs, List.mem_append] at hb
      rcases hb with hb | hb
      · exact ih (u / 10) (by omega) b hb
      · simp only [List.mem_singleton] at hb
        subst hb
        rw [UInt8.toNat_ofNat']; omega
theorem num_count (z : Int) (hz : -1 ≤ z) (c : UInt8) (hc : c = 58 ∨ c = 59) : (num z).count c = 0 := by
  unfold num
  split
  · rfl
  · unfold Lib.itoa
    rw [if_neg (by omega)]
    refine List.count_eq_zero.2 (fun hm => ?_)
    have := dec_signs _ c hm
    rcases hc with rfl | rfl
    · have e : (58 : UInt8).toNat = 58 := by decide
      omega
    · have e : (59 : UInt8).toNat = 59 := by decide
      omega
theorem num_len (y d : Int) (hy : -1 ≤ y ∧ y ≤ 9999) (hd : 0 ≤ d ∧ d ≤ 9) : (num (digI y d)).length ≤ (num y).length + 1 := by
  have e0 : digI y d ≠ -1 := by unfold digI; omega
  have h1 : num (digI y d) = Lib.decDigits (digI y d).toNat := by
    unfold num Lib.itoa
    rw [if_neg e0, if_neg (by unfold digI; omega)]
  rw [h1]
  by_cases hy1 : y = -1
  · subst hy1
    have : (digI (-1) d).toNat = d.toNat := by unfold digI; omega
    rw [this, Lib.decDigits_one (by omega)]
    simp
  · have h2 : num y = Lib.decDigits y.toNat := by
      unfold num Lib.itoa
      rw [if_neg hy1, if_neg (by omega)]
    rw [h2]
    by_cases hb : 10 * y + d ≤ 9999
    · have : (digI y d).toNat = 10 * y.toNat + d.toNat := by unfold digI; omega
      rw [this]
      by_cases hs : 10 * y.toNat + d.toNat < 10
      · rw [Lib.decDigits_one hs]; simp
      · rw [Lib.decDigits, dif_neg hs, List.length_append, List.length_singleton, show (10 * y.toNat + d.toNat) / 10 = y.toNat by omega]
        exact Nat.le_refl _
    · have : (digI y d).toNat = 9999 := by unfold digI; omega
      rw [this, Lib.decDigits_length, Lib.decDigits_length, Lib.nDigits_unique 3 9999 (by decide) (by decide)]
      by_cases hk : 1000 ≤ y.toNat
      · rw [Lib.nDigits_unique 3 y.toNat (by omega) (by omega)]; omega
      · have : y.toNat = 999 := by omega
        omega
theorem prt_shut (o : List (List Int)) : prtL (shut o) = prtL o := by
  unfold shut
  split
  · rename_i e; subst e; rfl
  · rfl
/-- what one run over such signs leaves -/
def Ran (o : List (List Int)) (s : List UInt8) (o' : List (List Int)) : Prop :=
  OkL o' ∧ o' ≠ [] ∧ (prtL o').length ≤ (prtL o).length + s.length ∧ (prtL o').count 59 = (prtL o).count 59 + s.count 59 ∧ (prtL o').count 58 = (prtL o).count 58 + s.count 58
theorem step_signs (o : List (List Int)) (ho : OkL o) (hne : o ≠ []) (c : UInt8) (h1 : 48 ≤ c.toNat) (h2 : c.toNat ≤ 59) :
    (∃ o', stpV (shut o) c = (shut o', 0) ∧ Ran o [c] o') ∨ stpV (shut o) c = ([], 3) := by
  obtain ⟨ls, p, rfl⟩ := last_of o hne
  have hp := ho.2 p (by simp)
  obtain ⟨ps, y, rfl⟩ := last_of p (by intro e; subst e; have := hp.1; simp at this)
  have hy := hp.2.2 y (by simp)
  by_cases hd : c.toNat ≤ 57
  · left
    have hk : OkL (ls ++ [ps ++ [digI y ((c.toNat : Int) - 48)]]) := ok_last ho (by unfold digI; omega)
    have hn : digI y ((c.toNat : Int) - 48) ≠ -1 := by unfold digI; omega
    refine ⟨_, by rw [stp_digit ho h1 hd, shut_big (ne_one hn)], hk, by simp, ?_, ?_, ?_⟩
    · rw [prt_last, prt_last, List.length_append, List.length_append, List.length_singleton]
      have := num_len y ((c.toNat : Int) - 48) hy (by omega)
      omega
    · rw [prt_last, prt_last, List.count_append, List.count_append, num_count _ (by unfold digI; omega) _ (.inr rfl), num_count _ hy.1 _ (.inr rfl)]
      have : List.count 59 [c] = 0 := List.count_eq_zero.2 (fun hm => by simp at hm; subst hm; revert hd; decide)
      omega
    · rw [prt_last, prt_last, List.count_append, List.count_append, num_count _ (by unfold digI; omega) _ (.inl rfl), num_count _ hy.1 _ (.inl rfl)]
      have : List.count 58 [c] = 0 := List.count_eq_zero.2 (fun hm => by simp at hm; subst hm; revert hd; decide)
      omega
  · by_cases hc : c.toNat = 58
    · obtain rfl : c = 58 := UInt8.toNat_inj.1 (by rw [hc]; rfl)
      by_cases hl : (ps ++ [y]).length < 6
      · left
        have k1 : OkL (ls ++ [ps ++ [y] ++ [-1]]) := ok_parts ho (okp_app hp hl (by omega))
        have hb : ls ++ [ps ++ [y] ++ [-1]] ≠ [[-1]] := by
          intro e
          have h1 := congrArg List.length e
          simp at h1
          subst h1
          have h3 := congrArg (fun l => (l.headD []).length) e
          simp at h3
        refine ⟨_, by rw [stp_colon ho hl, shut_big hb], k1, by simp, ?_, ?_, ?_⟩
        · rw [prt_colon ls (ps ++ [y]) (by simp), List.length_append]; simp
        · rw [prt_colon ls (ps ++ [y]) (by simp), List.count_append]
        · rw [prt_colon ls (ps ++ [y]) (by simp), List.count_append]
      · right
        unfold stpV
        rw [shut_good ho, if_neg (by decide), if_neg (by decide), if_pos (by decide), shut_open (by simp), if_pos (by simp at hl ⊢; omega)]
    · obtain rfl : c = 59 := UInt8.toNat_inj.1 (by show c.toNat = 59; omega)
      by_cases hl : (ls ++ [ps ++ [y]]).length < 16
      · left
        have k1 : OkL (ls ++ [ps ++ [y]] ++ [[-1]]) := ⟨by simp at hl ⊢; omega, fun x hx => by
          rcases List.mem_append.1 hx with hx | hx
          · exact ho.2 x hx
          · simp at hx; subst hx; exact ⟨by simp, by simp, fun u hu => by simp at hu; subst hu; omega⟩⟩
        have hb : ls ++ [ps ++ [y]] ++ [[-1]] ≠ [[-1]] := by
          intro e
          have h1 := congrArg List.length e
          simp at h1
        refine ⟨_, by rw [stp_semi ho hne hl, shut_big hb], k1, by simp, ?_, ?_, ?_⟩
        · rw [prt_semi _ hne, List.length_append]; simp
        · rw [prt_semi _ hne, List.count_append]
        · rw [prt_semi _ hne, List.count_append]
      · right
        unfold stpV
        rw [shut_good ho, if_neg (by decide), if_neg (by decide), if_neg (by decide), if_pos (by decide), shut_open (by simp), if_pos (by omega)]
theorem run_signs (s : List UInt8) (hs : ∀ c ∈ s, 48 ≤ c.toNat ∧ c.toNat ≤ 59) (o : List (List Int)) (ho : OkL o) (hne : o ≠ []) :
    (∃ o', runV (shut o) s = (shut o', 0) ∧ Ran o s o') ∨ runV (shut o) s = ([], 3) := by
  induction s generalizing o with
  | nil => exact .inl ⟨o, rfl, ho, hne, by simp, by simp, by simp⟩
  | cons c s ih =>
    have hc := hs c (by simp)
    rcases step_signs o ho hne c hc.1 hc.2 with ⟨o1, e1, r1, r2, r3, r4, r5⟩ | e1
    · rcases ih (fun x hx => hs x (by simp [hx])) o1 r1 r2 with ⟨o2, e2, q1, q2, q3, q4, q5⟩ | e2
      · refine .inl ⟨o2, by rw [runV, e1, if_pos rfl]; exact e2, q1, q2, ?_, ?_, ?_⟩
        · rw [List.length_cons]; rw [List.length_singleton] at r3; omega
        · rw [show c :: s = [c] ++ s from rfl, List.count_append]; omega
        · rw [show c :: s = [c] ++ s from rfl, List.count_append]; omega
      · exact .inr (by rw [runV, e1, if_pos rfl]; exact e2)
    · exact .inr (by rw [runV, e1]; rfl)
theorem run_take (s : List UInt8) (l x : List (List Int)) (h : runV l s = (x, 0)) (n : Nat) : ∃ y, runV l (s.take n) = (y, 0) := by
  induction s generalizing l n with
  | nil => exact ⟨l, by simp [runV]⟩
  | cons c s ih =>
    cases n with
    | zero => exact ⟨l, by simp [runV]⟩
    | succ n =>
      rw [runV] at h
      split at h
      · obtain ⟨y, hy⟩ := ih _ h n
        exact ⟨y, by rw [List.take_succ_cons, runV, if_pos (by assumption)]; exact hy⟩
      · exact absurd (congrArg Prod.snd h) (by assumption)
/-- such signs are read, or there are too many parts -/
theorem prs_signs (s : List UInt8) (hs : ∀ c ∈ s, 48 ≤ c.toNat ∧ c.toNat ≤ 59) (hl : s.length ≤ 100) :
    (∃ x, prsV s = (x, 0) ∧ isBad x = false ∧ (prtL x).length ≤ s.length ∧ (prtL x).count 59 = s.count 59 ∧ (prtL x).count 58 = s.count 58 ∧ ∀ n, ∃ y, prsV (s.take n) = (y, 0)) ∨ prsV s = ([], 3) := by
  have k0 : OkL [[-1]] := ⟨by simp, fun x hx => by simp at hx; subst hx; exact ⟨by simp, by simp, fun u hu => by simp at hu; subst hu; omega⟩⟩
  have e0 : prtL [[-1]] = [] := by decide
  have es : shut [[-1]] = [] := by decide
  have ep : ∀ t : List UInt8, t.length ≤ 100 → prsV t = runV [] t := fun t ht => by unfold prsV; rw [if_neg (by omega)]
  rw [ep s hl]
  rcases run_signs s hs [[-1]] k0 (by simp) with ⟨o', e1, r1, r2, r3, r4, r5⟩ | e1
  · rw [es] at e1
    rw [e0] at r3 r4 r5
    refine .inl ⟨shut o', e1, shut_good r1, ?_, ?_, ?_, fun n => ?_⟩
    · rw [prt_shut]; simpa using r3
    · rw [prt_shut]; simpa using r4
    · rw [prt_shut]; simpa using r5
    · rw [ep _ (by rw [List.length_take]; omega)]
      exact run_take s [] _ e1 n
  · rw [es] at e1
    exact .inr e1
end Go.Proofs.YtelglcchcpnfbaaDoor.Par
