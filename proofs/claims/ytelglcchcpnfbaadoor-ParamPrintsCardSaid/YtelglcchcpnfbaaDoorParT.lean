/-
  The maths of the text: reading what was printed yields what was printed.
-/
import Derived.Test.YtelglcchcpnfbaaDoorParK
namespace Go.Proofs.YtelglcchcpnfbaaDoor.Par
open Go.RowKit Utf

def Okp (p : List Int) : Prop := 1 ≤ p.length ∧ p.length ≤ 6 ∧ ∀ z ∈ p, -1 ≤ z ∧ z ≤ 9999
def OkL (o : List (List Int)) : Prop := o.length ≤ 16 ∧ ∀ p ∈ o, Okp p
def shut (o : List (List Int)) : List (List Int) := if o = [[-1]] then [] else o
def num (z : Int) : List UInt8 := if z = -1 then [] else Lib.itoa z
theorem okL_bad {o : List (List Int)} (h : OkL o) (hne : o ≠ [[-1]]) : isBad o = false := by
  unfold isBad
  simp only [Bool.or_eq_false_iff, decide_eq_false_iff_not, List.any_eq_false]
  refine ⟨⟨by have := h.1; omega, fun p hp => ?_⟩, hne⟩
  obtain ⟨h1, h2, h3⟩ := h.2 p hp
  unfold wrongP
  simp only [Bool.or_eq_true, decide_eq_true_eq, not_or, List.any_eq_true, not_exists, not_and]
  refine ⟨⟨by omega, by omega⟩, fun z hz => ?_⟩
  have := h3 z hz
  unfold wrongI
  simp only [Bool.or_eq_true, decide_eq_true_eq, not_or]
  omega
theorem okL_of {o : List (List Int)} (h : isBad o = false) : OkL o := ⟨(bad_no h).1, (bad_no h).2.1⟩
theorem shut_good {o : List (List Int)} (h : OkL o) : isBad (shut o) = false := by
  unfold shut
  split
  · decide
  · exact okL_bad h (by assumption)
theorem shut_open {o : List (List Int)} (h : o ≠ []) : opened (shut o) = o := by
  by_cases e : o = [[-1]]
  · subst e; rfl
  · unfold shut opened
    rw [if_neg e, if_neg h]
theorem runV_append {l l' : List (List Int)} {a b : List UInt8} (h : runV l a = (l', 0)) : runV l (a ++ b) = runV l' b := by
  induction a generalizing l with
  | nil => simp [runV] at h; subst h; rfl
  | cons c a ih =>
    rw [List.cons_append, runV]
    rw [runV] at h
    split at h
    · rw [if_pos (by assumption)]; exact ih h
    · exact absurd (congrArg Prod.snd h) (by assumption)
theorem stp_digit {ls : List (List Int)} {ps : List Int} {y : Int} {c : UInt8} (h : OkL (ls ++ [ps ++ [y]])) (h1 : 48 ≤ c.toNat) (h2 : c.toNat ≤ 57) : stpV (shut (ls ++ [ps ++ [y]])) c = (ls ++ [ps ++ [digI y ((c.toNat : Int) - 48)]], 0) := by
  unfold stpV
  rw [shut_good h, if_neg (by decide), if_pos ⟨h1, h2⟩, shut_open (by simp)]
  simp [digL, digP]
theorem stp_colon {ls : List (List Int)} {p : List Int} (h : OkL (ls ++ [p])) (hp : p.length < 6) : stpV (shut (ls ++ [p])) 58 = (ls ++ [p ++ [-1]], 0) := by
  unfold stpV
  rw [shut_good h, if_neg (by decide), if_neg (by decide), if_pos (by decide), shut_open (by simp), if_neg (by simp; omega)]
  simp [parP]
theorem stp_semi {ls : List (List Int)} (h : OkL ls) (hne : ls ≠ []) (hp : ls.length < 16) : stpV (shut ls) 59 = (ls ++ [[-1]], 0) := by
  unfold stpV
  rw [shut_good h, if_neg (by decide), if_neg (by decide), if_neg (by decide), if_pos (by decide), shut_open hne, if_neg (by omega)]
theorem shut_big {o : List (List Int)} (h : o ≠ [[-1]]) : shut o = o := by unfold shut; rw [if_neg h]
theorem ok_last {ls : List (List Int)} {ps : List Int} {y z : Int} (h : OkL (ls ++ [ps ++ [y]])) (hz : -1 ≤ z ∧ z ≤ 9999) : OkL (ls ++ [ps ++ [z]]) := by
  refine ⟨by have := h.1; simpa using this, fun p hp => ?_⟩
  rcases List.mem_append.1 hp with hp | hp
  · exact h.2 p (by simp [hp])
  · simp at hp; subst hp
    obtain ⟨_, h2, h3⟩ := h.2 (ps ++ [y]) (by simp)
    refine ⟨by simp, by simpa using h2, fun x hx => ?_⟩
    rcases List.mem_append.1 hx with hx | hx
    · exact h3 x (by simp [hx])
    · simp at hx; subst hx; exact hz
theorem ne_one {ls : List (List Int)} {ps : List Int} {z : Int} (hz : z ≠ -1) : ls ++ [ps ++ [z]] ≠ [[-1]] := by
  intro e
  have := congrArg (fun l => (l.getLastD []).getLastD 0) e
  simp at this
  exact hz this
theorem run_digits (u : Nat) (hu : u ≤ 9999) (ls : List (List Int)) (ps : List Int) (h : OkL (ls ++ [ps ++ [-1]])) : runV (shut (ls ++ [ps ++ [-1]])) (Lib.decDigits u) = (ls ++ [ps ++ [(u : Int)]], 0) := by
  induction u using Nat.strongRecOn with
  | _ u ih =>
    by_cases hs : u < 10
    · rw [Lib.decDigits, dif_pos hs, runV]
      have hc : (UInt8.ofNat (48 + u)).toNat = 48 + u := by rw [UInt8.toNat_ofNat']; omega
      rw [stp_digit h (by rw [hc]; omega) (by rw [hc]; omega), hc]
      rw [if_pos rfl, runV]
      have : digI (-1) (((48 + u : Nat) : Int) - 48) = (u : Int) := by unfold digI; omega
      rw [this]
    · rw [Lib.decDigits, dif_neg hs]
      have ih' := ih (u / 10) (by omega) (by omega)
      rw [runV_append ih', runV]
      have hc : (UInt8.ofNat (48 + u % 10)).toNat = 48 + u % 10 := by rw [UInt8.toNat_ofNat']; omega
      have hk : OkL (ls ++ [ps ++ [((u / 10 : Nat) : Int)]]) := ok_last h (by omega)
      have e : shut (ls ++ [ps ++ [((u / 10 : Nat) : Int)]]) = ls ++ [ps ++ [((u / 10 : Nat) : Int)]] := shut_big (ne_one (by omega))
      have := stp_digit (c := UInt8.ofNat (48 + u % 10)) hk (by rw [hc]; omega) (by rw [hc]; omega)
      rw [e, hc] at this
      rw [this, if_pos rfl, runV]
      have : digI ((u / 10 : Nat) : Int) (((48 + u % 10 : Nat) : Int) - 48) = (u : Int) := by unfold digI; omega
      rw [this]
theorem run_num (z : Int) (hz : -1 ≤ z ∧ z ≤ 9999) (ls : List (List Int)) (ps : List Int) (h : OkL (ls ++ [ps ++ [-1]])) : runV (shut (ls ++ [ps ++ [-1]])) (num z) = (shut (ls ++ [ps ++ [z]]), 0) := by
  unfold num
  split
  · rename_i e; subst e; rfl
  · rename_i e
    unfold Lib.itoa
    rw [if_neg (by omega)]
    have := run_digits z.toNat (by omega) ls ps h
    rw [this, shut_big (ne_one e), show ((z.toNat : Nat) : Int) = z by omega]
theorem ok_parts {ls : List (List Int)} {p q : List Int} (h : OkL (ls ++ [p])) (hq : Okp q) : OkL (ls ++ [q]) := by
  refine ⟨by have := h.1; simpa using this, fun x hx => ?_⟩
  rcases List.mem_append.1 hx with hx | hx
  · exact h.2 x (by simp [hx])
  · simp at hx; subst hx; exact hq
theorem okp_app {p : List Int} {z : Int} (h : Okp p) (hl : p.length < 6) (hz : -1 ≤ z ∧ z ≤ 9999) : Okp (p ++ [z]) := by
  refine ⟨by simp, by simp; omega, fun x hx => ?_⟩
  rcases List.mem_append.1 hx with hx | hx
  · exact h.2.2 x hx
  · simp at hx; subst hx; exact hz
theorem run_parts (i : Nat) (r : List Int) (hr : ∀ z ∈ r, -1 ≤ z ∧ z ≤ 9999) (j : Nat) (hj : 0 < j) (ls : List (List Int)) (ps : List Int) (h : OkL (ls ++ [ps])) (hl : ps.length + r.length ≤ 6) :
    runV (shut (ls ++ [ps])) ((itemsP i j r).flatMap prtI) = (shut (ls ++ [ps ++ r]), 0) := by
  induction r generalizing j ps with
  | nil => rw [List.append_nil]; rfl
  | cons z r ih =>
    rw [itemsP, List.flatMap_cons]
    have hz := hr z (by simp)
    simp only [List.length_cons] at hl
    have e : prtI (sepL i j, z) = [58] ++ num z := by
      unfold prtI num sepL
      rw [if_pos hj]
    have hp := h.2 ps (by simp)
    have k1 : OkL (ls ++ [ps ++ [-1]]) := ok_parts h (okp_app hp (by omega) (by omega))
    have s1 : runV (shut (ls ++ [ps])) [58] = (ls ++ [ps ++ [-1]], 0) := by
      rw [runV, stp_colon h (by omega), if_pos rfl]; rfl
    have hb : ls ++ [ps ++ [-1]] ≠ [[-1]] := by
      intro e
      have h1 := congrArg List.length e
      simp at h1
      subst h1
      have h2 := hp.1
      simp at e
      rw [e] at h2; simp at h2
    rw [← shut_big hb] at s1
    have s2 := run_num z hz ls ps k1
    rw [e, List.append_assoc, runV_append s1, runV_append s2]
    have k2 : OkL (ls ++ [ps ++ [z]]) := ok_parts h (okp_app hp (by omega) hz)
    have := ih (fun x hx => hr x (by simp [hx])) (j + 1) (by omega) (ps ++ [z]) k2 (by simp; omega)
    rw [this, List.append_assoc]; rfl
theorem run_param (i : Nat) (hi : 0 < i) (p : List Int) (hp : Okp p) (ls : List (List Int)) (h : OkL ls) (hne : ls ≠ []) (hl : ls.length < 16) :
    runV (shut ls) ((itemsP i 0 p).flatMap prtI) = (shut (ls ++ [p]), 0) := by
  cases p with
  | nil => have := hp.1; simp at this
  | cons z r =>
    have hz := hp.2.2 z (by simp)
    rw [itemsP, List.flatMap_cons]
    have e : prtI (sepL i 0, z) = [59] ++ num z := by
      unfold prtI num sepL
      rw [if_neg (by omega), if_pos hi]
    have s1 : runV (shut ls) [59] = (ls ++ [[-1]], 0) := by
      rw [runV, stp_semi h hne hl, if_pos rfl]; rfl
    have hb : ls ++ [[] ++ [-1]] ≠ [[-1]] := by
      intro e
      have h1 := congrArg List.length e
      simp at h1
      exact hne h1
    have k0 : ∀ y : Int, -1 ≤ y ∧ y ≤ 9999 → OkL (ls ++ [[] ++ [y]]) := fun y hy => ⟨by simp; omega, fun x hx => by
      rcases List.mem_append.1 hx with hx | hx
      · exact h.2 x hx
      · simp at hx; subst hx; exact ⟨by simp, by simp, fun u hu => by simp at hu; subst hu; exact hy⟩⟩
    have s1' : runV (shut ls) [59] = (shut (ls ++ [[] ++ [-1]]), 0) := by rw [shut_big hb]; exact s1
    have s2 := run_num z hz ls [] (k0 (-1) (by omega))
    rw [e, List.append_assoc, runV_append s1', runV_append s2]
    have := run_parts i r (fun x hx => hp.2.2 x (by simp [hx])) 1 (by omega) ls ([] ++ [z]) (k0 z hz) (by have := hp.2.1; simp at this ⊢; omega)
    rw [this]; rfl
theorem run_first (p : List Int) (hp : Okp p) : runV [] ((itemsP 0 0 p).flatMap prtI) = (shut [p], 0) := by
  cases p with
  | nil => have := hp.1; simp at this
  | cons z r =>
    have hz := hp.2.2 z (by simp)
    rw [itemsP, List.flatMap_cons]
    have e : prtI (sepL 0 0, z) = num z := by
      unfold prtI num sepL
      rw [if_neg (by omega), if_neg (by omega)]; rfl
    have k0 : ∀ y : Int, -1 ≤ y ∧ y ≤ 9999 → OkL ([] ++ [[] ++ [y]]) := fun y hy => ⟨by simp, fun x hx => by
      simp at hx; subst hx; exact ⟨by simp, by simp, fun u hu => by simp at hu; subst hu; exact hy⟩⟩
    have s2 := run_num z hz [] [] (k0 (-1) (by omega))
    have e0 : shut ([] ++ [[] ++ [-1]]) = [] := by decide
    rw [e0] at s2
    rw [e, runV_append s2]
    have := run_parts 0 r (fun x hx => hp.2.2 x (by simp [hx])) 1 (by omega) [] ([] ++ [z]) (k0 z hz) (by have := hp.2.1; simp at this ⊢; omega)
    rw [this]; rfl
theorem run_rest (i : Nat) (hi : 0 < i) (r : List (List Int)) (hr : ∀ p ∈ r, Okp p) (ls : List (List Int)) (h : OkL ls) (hne : ls ≠ []) (hl : ls.length + r.length ≤ 16) :
    runV (shut ls) ((itemsL i r).flatMap prtI) = (shut (ls ++ r), 0) := by
  induction r generalizing i ls with
  | nil => rw [List.append_nil]; rfl
  | cons p r ih =>
    have hp := hr p (by simp)
    simp only [List.length_cons] at hl
    rw [itemsL, List.flatMap_append, runV_append (run_param i hi p hp ls h hne (by omega))]
    have k : OkL (ls ++ [p]) := ⟨by simp; omega, fun x hx => by
      rcases List.mem_append.1 hx with hx | hx
      · exact h.2 x hx
      · simp at hx; subst hx; exact hp⟩
    have := ih (i + 1) (by omega) (fun q hq => hr q (by simp [hq])) (ls ++ [p]) k (by simp) (by simp; omega)
    rw [this, List.append_assoc]; rfl
theorem run_print (l : List (List Int)) (h : isBad l = false) : runV [] (prtL l) = (l, 0) := by
  have hk := okL_of h
  unfold prtL
  cases l with
  | nil => rfl
  | cons p r =>
    have hp := hk.2 p (by simp)
    have hl := hk.1
    simp only [List.length_cons] at hl
    rw [itemsL, List.flatMap_append, runV_append (run_first p hp)]
    have := run_rest (0 + 1) (by omega) r (fun q hq => hk.2 q (by simp [hq])) [p] ⟨by simp, fun x hx => by simp at hx; subst hx; exact hp⟩ (by simp) (by simp; omega)
    rw [this]
    rw [shut_big (by intro e; have := (bad_no h).2.2; exact this e)]; rfl
theorem flat_le {α β : Type} (f : α → List β) (m : Nat) : ∀ l : List α, (∀ x ∈ l, (f x).length ≤ m) → (l.flatMap f).length ≤ m * l.length
  | [], _ => by simp
  | x :: r, h => by
    have h1 := h x (by simp)
    have h2 := flat_le f m r (fun y hy => h y (by simp [hy]))
    rw [List.flatMap_cons, List.length_append, List.length_cons, Nat.mul_succ]
    omega
theorem itemsP_in (i : Nat) (p : List Int) (hp : ∀ z ∈ p, -1 ≤ z ∧ z ≤ 9999) (j : Nat) : ∀ x ∈ itemsP i j p, OkIt x := by
  induction p generalizing j with
  | nil => simp [itemsP]
  | cons z r ih =>
    intro x hx
    rw [itemsP, List.mem_cons] at hx
    rcases hx with rfl | hx
    · refine ⟨?_, hp z (by simp)⟩
      unfold sepL
      split
      · simp
      · split <;> simp
    · exact ih (fun y hy => hp y (by simp [hy])) (j + 1) x hx
theorem itemsL_ok (i : Nat) (l : List (List Int)) (h : ∀ p ∈ l, Okp p) : ∀ x ∈ itemsL i l, OkIt x := by
  induction l generalizing i with
  | nil => simp [itemsL]
  | cons p r ih =>
    intro x hx
    rw [itemsL, List.mem_append] at hx
    rcases hx with hx | hx
    · exact itemsP_in i p (h p (by simp)).2.2 0 x hx
    · exact ih (i + 1) (fun q hq => h q (by simp [hq])) x hx
theorem prtL_len (l : List (List Int)) (h : isBad l = false) : (prtL l).length ≤ 480 := by
  have hk := okL_of h
  have h1 := flat_le prtI 5 (itemsL 0 l) (fun x hx => prtI_len x (itemsL_ok 0 l hk.2 x hx))
  have h2 := itemsL_len 0 l 6 (fun p hp => (hk.2 p hp).2.1)
  have := hk.1
  unfold prtL
  omega
theorem of_arr (l : List UInt8) : (⟨l.toArray⟩ : ByteArray).data.toList = l := by simp
/-- Parse inverts Print -/
theorem prs_prt (l : List (List Int)) (h : isBad l = false) : prsV (prtL l) = (l, 0) := by
  unfold prsV
  rw [if_neg (by have := prtL_len l h; omega)]
  exact run_print l h
theorem prt_inj {a b : List (List Int)} (ha : isBad a = false) (hb : isBad b = false) : prtL a = prtL b ↔ a = b :=
  ⟨fun e => by have h1 := prs_prt a ha; rw [e, prs_prt b hb] at h1; exact (congrArg Prod.fst h1).symm, fun e => by rw [e]⟩
theorem good_is {a : List (List Int)} (h : isBad a = false) : Sz a ∧ prtV a = ⟨(prtL a).toArray⟩ ∧ chkV a = 0 ∧ prsV (⟨(prtL a).toArray⟩ : ByteArray).data.toList = (a, 0) := by
  obtain ⟨h1, h2, _⟩ := bad_no h
  refine ⟨⟨by omega, fun p hp => by have := h2 p hp; omega⟩, by unfold prtV; rw [h]; rfl, by unfold chkV; rw [h]; rfl, ?_⟩
  rw [of_arr]; exact prs_prt a h
end Go.Proofs.YtelglcchcpnfbaaDoor.Par
