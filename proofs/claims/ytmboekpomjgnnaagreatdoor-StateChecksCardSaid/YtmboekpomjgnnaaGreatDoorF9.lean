/-
  ParF StaT StaU ParM
-/
import Derived.Laws.IdiomStrings
import Derived.Test.YtmboekpomjgnnaaGreatDoorF2
import Derived.Test.YtmboekpomjgnnaaGreatDoorF5
import Derived.Test.YtmboekpomjgnnaaGreatDoorF8
namespace Go.Proofs.YtmboekpomjgnnaaGreatDoor.Par
open Go.RowKit Utf

theorem bad_cases (l : List (List Int)) : chkV l = 150 ∧ isBad l = true ∨ chkV l = 0 ∧ isBad l = false := by
  unfold chkV
  cases h : isBad l <;> simp
theorem bad_no {l : List (List Int)} (h : isBad l = false) : l.length ≤ 16 ∧ (∀ p ∈ l, 1 ≤ p.length ∧ p.length ≤ 6 ∧ ∀ z ∈ p, -1 ≤ z ∧ z ≤ 9999) ∧ l ≠ [[-1]] := by
  unfold isBad at h
  simp only [Bool.or_eq_false_iff, decide_eq_false_iff_not, List.any_eq_false] at h
  refine ⟨by omega, fun p hp => ?_, h.2⟩
  have := h.1.2 p hp
  unfold wrongP at this
  simp only [Bool.or_eq_true, decide_eq_true_eq, not_or, List.any_eq_true, not_exists, not_and] at this
  refine ⟨by omega, by omega, fun z hz => ?_⟩
  have hw := this.2 z hz
  unfold wrongI at hw
  simp only [Bool.or_eq_true, decide_eq_true_eq, not_or] at hw
  omega
theorem last_of {α : Type} (l : List α) (h : l ≠ []) : ∃ a x, l = a ++ [x] := ⟨l.dropLast, l.getLast h, (List.dropLast_concat_getLast h).symm⟩
/-- sizes that the calls bear -/
def Sz (l : List (List Int)) : Prop := l.length ≤ 1000000 ∧ ∀ p ∈ l, p.length ≤ 1000000
theorem opened_last (l : List (List Int)) (h : isBad l = false) : ∃ ls ps z, opened l = ls ++ [ps ++ [z]] ∧ ls.length ≤ 15 ∧ ps.length ≤ 5 ∧ -1 ≤ z ∧ z ≤ 9999 ∧ (l = [] → ps.length = 0) := by
  unfold opened
  split
  · exact ⟨[], [], -1, rfl, by decide, by decide, by decide, by decide, fun _ => rfl⟩
  · obtain ⟨h1, h2, _⟩ := bad_no h
    obtain ⟨ls, p, rfl⟩ := last_of l (by assumption)
    obtain ⟨k1, k2, k3⟩ := h2 p (by simp)
    obtain ⟨ps, z, rfl⟩ := last_of p (by intro e; subst e; simp at k1)
    have := k3 z (by simp)
    simp at h1 k2
    exact ⟨ls, ps, z, rfl, by omega, by omega, this.1, this.2, fun e => by simp at e⟩
set_option maxHeartbeats 1000000 in
theorem step_anyP (P : Value → Prop) (v : Value) (l : List (List Int)) (c : UInt8) (w : World) (h : RL w v l) (hP : PL P w v) (hF : Fresh P w.heap.size) (hl : Sz l) :
    Calls Tryz.prog 107 #[v, .int .u8 (c.toNat : Int)] w fun e w' => ∃ v', e = .returned (.tuple #[v', .int .i64 (stpV l c).2]) ∧ ROP P w.heap.size w' v' (stpV l c).1 ∧ Below w.heap.size w w' := by
  have hc : c.toNat < 256 := c.toNat_lt
  rcases bad_cases l with ⟨hb, hi⟩ | ⟨hb, hi⟩
  · have e : stpV l c = ([], 150) := by unfold stpV; rw [hi]; rfl
    rw [e]
    exact step_bad P v l c.toNat w h hP hF hl.1 hl.2 (by rintro rfl; revert hb; decide) hb
  · obtain ⟨ls, ps, z, ho, g1, g2, g3, g4, g5⟩ := opened_last l hi
    by_cases k1 : 48 ≤ c.toNat ∧ c.toNat ≤ 57
    · have e : stpV l c = (ls ++ [ps ++ [digI z ((c.toNat : Int) - 48)]], 0) := by
        unfold stpV; rw [hi, if_neg (by decide), if_pos k1, ho]; simp [digL, digP]
      rw [e]
      by_cases he : l = []
      · have ho' : ([[-1]] : List (List Int)) = ls ++ [ps ++ [z]] := by rw [← ho, opened, if_pos he]
        exact step_digitE P v l c.toNat w h hP hF hl.1 hl.2 he hc hb ls ps z ho' (by omega) (by omega) g3 g4 (by omega) (by omega)
      · have ho' : l = ls ++ [ps ++ [z]] := by rw [← ho, opened, if_neg he]
        exact step_digit P v l c.toNat w h hP hF hl.1 hl.2 he hc hb ls ps z ho' (by omega) (by omega) g3 g4 (by omega) (by omega)
    · by_cases k2 : c.toNat = 58
      · by_cases k3 : 6 ≤ (ps ++ [z]).length
        · have e : stpV l c = ([], 3) := by
            unfold stpV; rw [hi, if_neg (by decide), if_neg k1, if_pos k2, ho, if_pos (by simpa using k3)]
          rw [e]
          by_cases he : l = []
          · have := g5 he
            simp at k3
            omega
          · have ho' : l = ls ++ [ps ++ [z]] := by rw [← ho, opened, if_neg he]
            exact step_colonF P v l c.toNat w h hP hF hl.1 hl.2 he hc hb ls (ps ++ [z]) ho' (by omega) (by omega) k2
        · have e : stpV l c = (ls ++ [ps ++ [z] ++ [-1]], 0) := by
            unfold stpV; rw [hi, if_neg (by decide), if_neg k1, if_pos k2, ho, if_neg (by simpa using k3)]; simp [parP]
          rw [e]
          by_cases he : l = []
          · have ho' : ([[-1]] : List (List Int)) = ls ++ [ps ++ [z]] := by rw [← ho, opened, if_pos he]
            exact step_colonRE P v l c.toNat w h hP hF hl.1 hl.2 he hc hb ls (ps ++ [z]) ho' (by omega) (by omega) k2
          · have ho' : l = ls ++ [ps ++ [z]] := by rw [← ho, opened, if_neg he]
            exact step_colonR P v l c.toNat w h hP hF hl.1 hl.2 he hc hb ls (ps ++ [z]) ho' (by omega) (by omega) k2
      · by_cases k3 : c.toNat = 59
        · by_cases k4 : 16 ≤ (opened l).length
          · have e : stpV l c = ([], 3) := by
              unfold stpV; rw [hi, if_neg (by decide), if_neg k1, if_neg k2, if_pos k3, if_pos k4]
            rw [e]
            by_cases he : l = []
            · rw [opened, if_pos he] at k4; simp at k4
            · rw [opened, if_neg he] at k4
              exact step_semiF P v l c.toNat w h hP hF hl.1 hl.2 he hc hb (by omega) k3
          · have e : stpV l c = (opened l ++ [[-1]], 0) := by
              unfold stpV; rw [hi, if_neg (by decide), if_neg k1, if_neg k2, if_pos k3, if_neg k4]
            rw [e]
            by_cases he : l = []
            · rw [opened, if_pos he]
              exact step_semiRE P v l c.toNat w h hP hF hl.1 hl.2 he hc hb k3
            · rw [opened, if_neg he] at k4 ⊢
              exact step_semiR P v l c.toNat w h hP hF hl.1 hl.2 he hc hb (by omega) k3
        · have e : stpV l c = ([], 6) := by
            unfold stpV; rw [hi, if_neg (by decide), if_neg k1, if_neg k2, if_neg k3]
          rw [e]
          by_cases he : l = []
          · exact step_otherE P v l c.toNat w h hP hF hl.1 hl.2 he hc hb (by omega) (by omega) (by omega)
          · exact step_other P v l c.toNat w h hP hF hl.1 hl.2 he hc hb (by omega) (by omega) (by omega)
theorem step_any (v : Value) (l : List (List Int)) (c : UInt8) (w : World) (h : RL w v l) (hl : Sz l) :
    Calls Tryz.prog 107 #[v, .int .u8 (c.toNat : Int)] w fun e w' => ∃ v', e = .returned (.tuple #[v', .int .i64 (stpV l c).2]) ∧ RO w.heap.size w' v' (stpV l c).1 ∧ Below w.heap.size w w' :=
  (step_anyP (fun _ => True) v l c w h (fun _ _ _ _ _ _ _ _ => trivial) (fun _ _ => trivial) hl).mono fun _ _ ⟨v', h1, h2, h3⟩ => ⟨v', h1, h2.lo, h3⟩
theorem stpV_sz (l : List (List Int)) (c : UInt8) : Sz (stpV l c).1 := by
  unfold stpV
  split
  · exact ⟨by simp, by simp⟩
  · rename_i hi
    obtain ⟨ls, ps, z, ho, g1, g2, _, _, _⟩ := opened_last l (by simpa using hi)
    have hm : ∀ p ∈ ls, p.length ≤ 1000000 := fun p hp => by
      have hp' : p ∈ opened l := by rw [ho]; simp [hp]
      unfold opened at hp'
      split at hp'
      · simp at hp'; subst hp'; simp
      · have := (bad_no (show isBad l = false by simpa using hi)).2.1 p hp'; omega
    split
    · rw [ho]
      refine ⟨by simp [digL]; omega, fun p hp => ?_⟩
      simp [digL, digP] at hp
      rcases hp with hp | rfl
      · exact hm p hp
      · simp; omega
    · split
      · split
        · exact ⟨by simp, by simp⟩
        · rw [ho]
          refine ⟨by simp; omega, fun p hp => ?_⟩
          simp [parP] at hp
          rcases hp with hp | rfl
          · exact hm p hp
          · simp; omega
      · split
        · split
          · exact ⟨by simp, by simp⟩
          · rw [ho]
            refine ⟨by simp; omega, fun p hp => ?_⟩
            simp at hp
            rcases hp with hp | rfl | rfl
            · exact hm p hp
            · simp; omega
            · simp
        · exact ⟨by simp, by simp⟩

theorem at_str (s : ByteArray) (i : Nat) (c : UInt8) (hc : s.data.toList[i]? = some c) (w : World) : (Instr.index 9 (.string s) (.int .i64 (i : Int))).run Tryz.prog w = .ok (.int .u8 (c.toNat : Int)) w := by
  have h2 : i < s.data.toList.length := (List.getElem?_eq_some_iff.1 hc).1
  have h3 : i < s.size := by simpa using h2
  have e : s.data.toList[i] = c := (List.getElem?_eq_some_iff.1 hc).2
  rw [run_index_string w 9 s .i64 i Tryz.underlying9, dif_pos ⟨by omega, by omega⟩]
  rw [← e]
  rfl
end Go.Proofs.YtmboekpomjgnnaaGreatDoor.Par

namespace Go.Proofs.YtmboekpomjgnnaaGreatDoor.Sta
open Utf Par

theorem good_bad {o : List (List Int)} (h1 : o.length ≤ 16) (h2 : ∀ p ∈ o, 1 ≤ p.length ∧ p.length ≤ 6 ∧ ∀ z ∈ p, -1 ≤ z ∧ z ≤ 9999) (h3 : o ≠ [[-1]]) : isBad o = false := by
  unfold isBad
  simp only [Bool.or_eq_false_iff, decide_eq_false_iff_not, List.any_eq_false]
  refine ⟨⟨by omega, fun p hp => ?_⟩, h3⟩
  have := h2 p hp
  unfold wrongP
  simp only [Bool.or_eq_true, decide_eq_true_eq, not_or, List.any_eq_true, not_exists, not_and]
  refine ⟨⟨by omega, by omega⟩, fun z hz => ?_⟩
  have hw := this.2.2 z hz
  unfold wrongI
  simp only [Bool.or_eq_true, decide_eq_true_eq, not_or]
  omega
theorem stp_good {l : List (List Int)} {c : UInt8} (h : isBad l = false) (he : (stpV l c).2 = 0) : isBad (stpV l c).1 = false ∧ (stpV l c).1 ≠ [] := by
  obtain ⟨ls, ps, z, ho, g1, g2, g3, g4, g5⟩ := opened_last l h
  have hop : ∀ p ∈ opened l, 1 ≤ p.length ∧ p.length ≤ 6 ∧ ∀ z ∈ p, -1 ≤ z ∧ z ≤ 9999 := fun p hp => by
    unfold opened at hp
    split at hp
    · simp at hp; subst hp; simp
    · exact (bad_no h).2.1 p hp
  have hls : ∀ p ∈ ls, 1 ≤ p.length ∧ p.length ≤ 6 ∧ ∀ z ∈ p, -1 ≤ z ∧ z ≤ 9999 := fun p hp => hop p (by rw [ho]; simp [hp])
  have hps : ∀ y ∈ ps, -1 ≤ y ∧ y ≤ 9999 := fun y hy => (hop (ps ++ [z]) (by rw [ho]; simp)).2.2 y (by simp [hy])
  unfold stpV at he ⊢
  rw [if_neg (by rw [h]; decide)] at he ⊢
  split
  · rename_i hd
    rw [ho]
    have hz : 0 ≤ digI z ((c.toNat : Int) - 48) ∧ digI z ((c.toNat : Int) - 48) ≤ 9999 := by unfold digI; omega
    have e : digL (ls ++ [ps ++ [z]]) ((c.toNat : Int) - 48) = ls ++ [ps ++ [digI z ((c.toNat : Int) - 48)]] := by simp [digL, digP]
    show isBad (digL (ls ++ [ps ++ [z]]) ((c.toNat : Int) - 48)) = false ∧ digL (ls ++ [ps ++ [z]]) ((c.toNat : Int) - 48) ≠ []
    rw [e]
    refine ⟨good_bad (by simp; omega) (fun p hp => ?_) ?_, by simp⟩
    · simp at hp
      rcases hp with hp | rfl
      · exact hls p hp
      · refine ⟨by simp, by simp; omega, fun y hy => ?_⟩
        simp at hy
        rcases hy with hy | rfl
        · exact hps y hy
        · omega
    · intro e
      have hlen := congrArg List.length e
      simp at hlen
      subst hlen
      simp at e
      rw [List.append_eq_singleton_iff] at e
      simp at e
      omega
  · rename_i hd
    rw [if_neg hd] at he
    split
    · rename_i hc
      rw [if_pos hc] at he
      split
      · rename_i k; rw [if_pos k] at he; cases he
      · rename_i k
        rw [ho] at k ⊢
        simp at k
        show isBad ((ls ++ [ps ++ [z]]).dropLast ++ [parP ((ls ++ [ps ++ [z]]).getLastD [])]) = false ∧ (ls ++ [ps ++ [z]]).dropLast ++ [parP ((ls ++ [ps ++ [z]]).getLastD [])] ≠ []
        have e : (ls ++ [ps ++ [z]]).dropLast ++ [parP ((ls ++ [ps ++ [z]]).getLastD [])] = ls ++ [ps ++ [z] ++ [-1]] := by simp [parP]
        rw [e]
        refine ⟨good_bad (by simp; omega) (fun p hp => ?_) ?_, by simp⟩
        · simp at hp
          rcases hp with hp | rfl
          · exact hls p hp
          · refine ⟨by simp, by simp; omega, fun y hy => ?_⟩
            simp at hy
            rcases hy with hy | rfl | rfl
            · exact hps y hy
            · omega
            · omega
        · intro e
          have := congrArg (fun x => (x.getLastD []).length) e
          simp at this
    · rename_i hc
      rw [if_neg hc] at he
      split
      · rename_i h9
        rw [if_pos h9] at he
        split
        · rename_i k; rw [if_pos k] at he; cases he
        · rename_i k
          refine ⟨good_bad (by simp; omega) (fun p hp => ?_) ?_, by simp⟩
          · simp at hp
            rcases hp with hp | rfl
            · exact hop p hp
            · simp
          · intro e
            have := congrArg List.length e
            rw [ho] at this
            simp at this
      · rename_i h9
        rw [if_neg h9] at he; cases he
theorem wit_keep {p : PS} (h : Good p) (hs : p.st = 6 ∨ p.st = 11 ∨ p.st = 13) : Good { p with st := p.st + 1 } := by
  refine ⟨by show (0 : Int) ≤ p.st + 1; omega, by show p.st + 1 < 15; omega, h.bad, ?_, h.ps, h.its, ?_, ?_, ?_, ?_, ?_, ?_, h.txs, h.txl, ?_⟩
  · rcases h.utf with e | ⟨_, e⟩
    · exact .inl e
    · omega
  · have := h.itl; show leastS (p.st + 1) ≤ p.it.size; unfold leastS at this ⊢; rcases hs with e | e | e <;> simp [e]
  · have := h.itm; show p.it.size ≤ mostS (p.st + 1); unfold mostS at this ⊢; rcases hs with e | e | e <;> simp [e] at this ⊢ <;> omega
  · have := h.psn; show p.ps = [] ∨ _; rcases this with x | x
    · exact .inl x
    · right; show p.st + 1 = 4 ∨ p.st + 1 = 5 ∨ p.st + 1 = 9 ∨ p.st + 1 = 10 ∨ p.st + 1 = 11 ∨ p.st + 1 = 12; omega
  · intro e; have e' : p.st + 1 = 4 ∨ p.st + 1 = 9 := e; omega
  · have := h.pr
    rcases this with x | ⟨x, y, z⟩
    · exact .inl x
    · right; exact ⟨x, y, by show p.st + 1 = 4 ∨ p.st + 1 = 5 ∨ p.st + 1 = 9 ∨ p.st + 1 = 10 ∨ p.st + 1 = 11 ∨ p.st + 1 = 12; omega⟩
  · have := h.fi
    rcases this with ⟨x, y, z⟩ | ⟨x, y, z⟩
    · left; exact ⟨by show p.st + 1 = 11 ∨ p.st + 1 = 12; omega, y, z⟩
    · right; exact ⟨by show p.st + 1 ≠ 11; omega, by show p.st + 1 ≠ 12; omega, z⟩
  · have := h.txn
    rcases this with x | x
    · exact .inl x
    · right; show p.st + 1 = 6 ∨ p.st + 1 = 7 ∨ p.st + 1 = 11 ∨ p.st + 1 = 12; omega
theorem all_bs1 (f : UInt8 → Bool) (s : ByteArray) (b : UInt8) : (s ++ bs1 b).data.toList.all f = (s.data.toList.all f && f b) := by
  simp [bs1]
theorem sig_keep {p : PS} {b : UInt8} (h : Good p) (hs : p.st = 2 ∨ p.st = 5 ∨ p.st = 10) (h1 : 32 ≤ b.toNat) (h2 : b.toNat ≤ 47) (hz : p.it.size ≠ 2) : Good { p with it := p.it ++ bs1 b } := by
  have hm := h.itm
  refine ⟨h.lo, h.hi, h.bad, h.utf, h.ps, ?_, ?_, ?_, h.psn, h.ent, h.pr, h.fi, h.txs, h.txl, h.txn⟩
  · show (p.it ++ bs1 b).data.toList.all _ = true
    rw [all_bs1, h.its]; simp [h1, h2]
  · show leastS p.st ≤ (p.it ++ bs1 b).size
    have := h.itl
    rw [ba_size]; omega
  · show (p.it ++ bs1 b).size ≤ mostS p.st
    unfold mostS at hm ⊢
    rw [if_pos (by omega)] at hm ⊢
    rw [ba_size]; omega
theorem good_may {p : PS} (h : Good p) : mayS p = true := (may_good h.bad).2 h
theorem entry_is {p : PS} (h : Good p) (hu : p.utf = []) (hs : p.st = 0 ∨ p.st = 1 ∨ p.st = 3 ∨ p.st = 8 ∨ p.st = 13 ∨ p.st = 14) : p = begS p.st := by
  obtain ⟨st, utf, pr, fi, ps, it, tx, bad⟩ := p
  have hbad := h.bad
  have a1 := h.psn; have a2 := h.pr; have a3 := h.fi; have a4 := h.txn; have a5 := h.itm
  dsimp only at hu hs hbad a1 a2 a3 a4 a5 ⊢
  unfold mostS at a5
  have b1 : ps = [] := by rcases a1 with x | x; exact x; omega
  have b2 : pr = 0 := by rcases a2 with x | x; exact x; omega
  have b3 : fi = 0 := by rcases a3 with x | x; omega; exact x.2.2
  have b4 : tx = nos := ba_nil _ (by omega)
  have b5 : it = nos := ba_nil _ (by rw [if_neg (by omega)] at a5; omega)
  rw [hu, b1, b2, b3, b4, b5, hbad]; rfl
theorem beg_may (n : Int) (h : n = 0 ∨ n = 1 ∨ n = 3 ∨ n = 6 ∨ n = 8 ∨ n = 13) : mayS (begS n) = true := by
  rcases h with e | e | e | e | e | e <;> subst e <;> decide +kernel
theorem spo_may (n : Int) (h : n = 2 ∨ n = 4 ∨ n = 5 ∨ n = 6 ∨ n = 7 ∨ n = 9 ∨ n = 10 ∨ n = 11 ∨ n = 12) : mayS (spoS n) = true := by
  rcases h with e | e | e | e | e | e | e | e | e <;> subst e <;> decide +kernel
theorem bs1_sig {b : UInt8} (h1 : 32 ≤ b.toNat) (h2 : b.toNat ≤ 47) : (bs1 b).data.toList.all (fun c => decide (32 ≤ c.toNat) && decide (c.toNat ≤ 47)) = true := by
  simp [bs1, h1, h2]
theorem bs1_size (b : UInt8) : (bs1 b).size = 1 := rfl
theorem sg1_may (n : Int) (b : UInt8) (h : n = 2 ∨ n = 5 ∨ n = 10) (h1 : 32 ≤ b.toNat) (h2 : b.toNat ≤ 47) : mayS { begS n with it := bs1 b } = true := by
  refine good_may ⟨by show 0 ≤ n; omega, by show n < 15; omega, rfl, .inl rfl, by show isBad [] = false; decide, bs1_sig h1 h2, ?_, ?_, .inl rfl, ?_, .inl rfl, .inr ⟨by show n ≠ 11; omega, by show n ≠ 12; omega, rfl⟩, rfl, by show 0 ≤ 512; omega, .inl rfl⟩
  · show leastS n ≤ 1; unfold leastS; split <;> omega
  · show 1 ≤ mostS n; unfold mostS; rw [if_pos (by omega)]; omega
  · intro e; have e' : n = 4 ∨ n = 9 := e; omega
theorem esc_may (b : UInt8) (h1 : 32 ≤ b.toNat) : mayS (escS b).1 = true := by
  unfold escS
  repeat' split
  · exact beg_may 3 (by omega)
  · exact beg_may 6 (by omega)
  · exact beg_may 8 (by omega)
  · exact beg_may 13 (by omega)
  · exact sg1_may 2 b (by omega) h1 (by omega)
  · exact beg_may 0 (by omega)
theorem utf_may (u : List UInt8) (h : u = [] ∨ preB u = true) : mayS { begS 0 with utf := u } = true := by
  refine good_may ⟨by show (0 : Int) ≤ 0; omega, by show (0 : Int) < 15; omega, rfl, ?_, by show isBad [] = false; decide, rfl, ?_, ?_, .inl rfl, ?_, .inl rfl, .inr ⟨by show (0 : Int) ≠ 11; omega, by show (0 : Int) ≠ 12; omega, rfl⟩, rfl, by show 0 ≤ 512; omega, .inl rfl⟩
  · rcases h with x | x
    · exact .inl x
    · exact .inr ⟨x, rfl⟩
  · show leastS 0 ≤ 0; decide
  · show 0 ≤ mostS 0; decide
  · intro e; have e' : (0 : Int) = 4 ∨ (0 : Int) = 9 := e; omega
theorem take_pre (bs : List UInt8) (h : begB bs = true) : (takeL bs).1 = [] ∨ preB (takeL bs).1 = true := by
  cases bs with
  | nil => exact .inl rfl
  | cons b r =>
    show (if r.length + 1 < fl b then (b :: r, []) else ([], [(low (b :: r) : Int)])).1 = [] ∨ preB (if r.length + 1 < fl b then (b :: r, []) else ([], [(low (b :: r) : Int)])).1 = true
    split
    · right
      show (decide (r.length + 1 < fl b) && begB (b :: r)) = true
      rw [h, decide_eq_true (by assumption)]; rfl
    · exact .inl rfl
theorem alone_pre (b : UInt8) : (aloneL b).1 = [] ∨ preB (aloneL b).1 = true := by
  unfold aloneL
  split
  · exact take_pre _ (by assumption)
  · exact .inl rfl
theorem step_pre (u : List UInt8) (b : UInt8) : (stepL u b).1 = [] ∨ preB (stepL u b).1 = true := by
  unfold stepL
  split
  · split
    · exact take_pre _ (by assumption)
    · exact alone_pre b
  · exact alone_pre b
theorem grd_may (b : UInt8) : mayS (grdS b).1 = true := by
  unfold grdS
  repeat' split
  all_goals first | exact beg_may 0 (by omega) | exact beg_may 1 (by omega)
theorem prt_may (u : List UInt8) (b : UInt8) : mayS (prtS u b).1 = true := by
  unfold prtS
  have : ∀ (cs : List Int) (r : PS × List EV), mayS r.1 = true → mayS (cs.foldl codS r).1 = true := by
    intro cs
    induction cs with
    | nil => intro r h; exact h
    | cons c cs ih =>
      intro r h
      refine ih _ ?_
      unfold codS
      split
      · exact grd_may _
      · split <;> exact h
  exact this _ _ (utf_may _ (step_pre u b))
theorem escB_may (b : UInt8) : mayS (escB b).1 = true := by
  unfold escB
  split
  · exact prt_may _ _
  · split
    · exact beg_may 1 (by omega)
    · split
      · exact beg_may 1 (by omega)
      · exact esc_may b (by omega)
theorem tol_may (p : PS) (e : EV) : mayS (tolS p e).1 = true := by
  unfold tolS; split <;> exact beg_may 0 (by omega)
theorem end_may (p : PS) (b : UInt8) : mayS (endS p b).1 = true := by
  unfold endS
  repeat' split
  · exact escB_may b
  · exact tol_may _ _
  · exact tol_may _ _
  · exact beg_may 0 (by omega)
theorem tx_may {p : PS} {b : UInt8} (h : Good p) (hs : p.st = 6 ∨ p.st = 11) (h1 : 32 ≤ b.toNat) (h2 : b.toNat ≠ 127) (hz : p.tx.size ≠ 512) : Good { p with tx := p.tx ++ bs1 b } := by
  have hm := h.txl
  refine ⟨h.lo, h.hi, h.bad, h.utf, h.ps, h.its, h.itl, h.itm, h.psn, h.ent, h.pr, h.fi, ?_, ?_, ?_⟩
  · show (p.tx ++ bs1 b).data.toList.all _ = true
    rw [all_bs1, h.txs]; simp [h1, h2]
  · show (p.tx ++ bs1 b).size ≤ 512
    rw [ba_size]; omega
  · right; show p.st = 6 ∨ p.st = 7 ∨ p.st = 11 ∨ p.st = 12; omega
theorem wit_may {p : PS} (b : UInt8) (h : Good p) (hs : p.st = 6 ∨ p.st = 11 ∨ p.st = 13) : mayS (witS p b).1 = true := by
  unfold witS
  split
  · exact tol_may _ _
  · split
    · exact good_may h
    · rename_i k
      have k1 : p.st ≠ 13 := fun e => k (.inr (.inr (.inl e)))
      split
      · exact spo_may _ (by omega)
      · exact good_may (tx_may h (by omega) (by have : ¬ b.toNat < 32 := fun e => k (.inl e); omega) (fun e => k (.inr (.inl e))) (by assumption))
theorem fin_may {p : PS} (b : UInt8) (h : Good p) (h1 : 64 ≤ b.toNat) (h2 : b.toNat < 127) : mayS (finS p b).1 = true := by
  unfold finS
  split
  · exact tol_may _ _
  · rename_i k
    rw [if_neg (by rw [h.bad]; decide)]
    have hu : p.utf = [] := by rcases h.utf with e | ⟨_, e⟩; exact e; omega
    refine good_may ⟨by show (0 : Int) ≤ 11; omega, by show (11 : Int) < 15; omega, h.bad, .inl hu, h.ps, h.its, ?_, ?_, .inr ?_, ?_, ?_, .inl ⟨.inl rfl, h1, by show b.toNat ≤ 126; omega⟩, h.txs, h.txl, .inr ?_⟩
    · show leastS 11 ≤ p.it.size; unfold leastS; simp
    · have := h.itm; show p.it.size ≤ mostS 11; unfold mostS at this ⊢; simp; split at this <;> omega
    · show (11 : Int) = 4 ∨ (11 : Int) = 5 ∨ (11 : Int) = 9 ∨ (11 : Int) = 10 ∨ (11 : Int) = 11 ∨ (11 : Int) = 12; omega
    · intro e; have e' : (11 : Int) = 4 ∨ (11 : Int) = 9 := e; omega
    · rcases h.pr with x | ⟨x, y, z⟩
      · exact .inl x
      · exact .inr ⟨x, y, by show (11 : Int) = 4 ∨ (11 : Int) = 5 ∨ (11 : Int) = 9 ∨ (11 : Int) = 10 ∨ (11 : Int) = 11 ∨ (11 : Int) = 12; omega⟩
    · show (11 : Int) = 6 ∨ (11 : Int) = 7 ∨ (11 : Int) = 11 ∨ (11 : Int) = 12; omega
theorem goe_may {p : PS} (b : UInt8) (h : Good p) (h1 : 32 ≤ b.toNat) (h2 : b.toNat < 127) (hs : strB p.st = false) (hu : p.utf = []) : mayS (goeS p b).1 = true := by
  have hlo := h.lo
  have hhi := h.hi
  have hst : p.st = 0 ∨ p.st = 1 ∨ p.st = 2 ∨ p.st = 3 ∨ p.st = 4 ∨ p.st = 5 ∨ p.st = 8 ∨ p.st = 9 ∨ p.st = 10 := by
    unfold strB at hs; simp at hs; omega
  have hm : mayS p = true := good_may h
  have hfs : ∀ q : PS, q = { p with st := p.st + 1 } → True := fun _ _ => trivial
  unfold goeS
  split
  · exact hm
  · split
    · exact esc_may b h1
    · split
      · split
        · unfold sigS
          split
          · exact spo_may _ (by omega)
          · rename_i k
            exact good_may (sig_keep h (by omega) h1 (by assumption) (fun e => k (.inr e)))
        · exact tol_may _ _
      · split
        · rename_i k
          split
          · refine good_may ⟨by show 0 ≤ p.st + 1; omega, by show p.st + 1 < 15; omega, rfl, .inl rfl, by show isBad [] = false; decide, rfl, ?_, ?_, .inl rfl, ?_, .inr ⟨by show 60 ≤ b.toNat; omega, by show b.toNat ≤ 63; omega, by show p.st + 1 = 4 ∨ p.st + 1 = 5 ∨ p.st + 1 = 9 ∨ p.st + 1 = 10 ∨ p.st + 1 = 11 ∨ p.st + 1 = 12; omega⟩, .inr ⟨by show p.st + 1 ≠ 11; omega, by show p.st + 1 ≠ 12; omega, rfl⟩, rfl, by show 0 ≤ 512; omega, .inl rfl⟩
            · show leastS (p.st + 1) ≤ 0; unfold leastS; rw [if_neg (by omega)]; omega
            · exact Nat.zero_le _
            · intro _ _ e
              have e' : b = 0 := e
              subst e'
              rename_i hp _ _
              exact absurd hp.1 (by decide)
          · split
            · rename_i hd
              have := stp_good (l := []) (c := b) (by decide) (stp_nil b hd.1 hd.2)
              refine good_may ⟨by show 0 ≤ p.st + 1; omega, by show p.st + 1 < 15; omega, rfl, .inl rfl, this.1, rfl, ?_, ?_, .inr ?_, ?_, .inl rfl, .inr ⟨by show p.st + 1 ≠ 11; omega, by show p.st + 1 ≠ 12; omega, rfl⟩, rfl, by show 0 ≤ 512; omega, .inl rfl⟩
              · show leastS (p.st + 1) ≤ 0; unfold leastS; rw [if_neg (by omega)]; omega
              · exact Nat.zero_le _
              · show p.st + 1 = 4 ∨ p.st + 1 = 5 ∨ p.st + 1 = 9 ∨ p.st + 1 = 10 ∨ p.st + 1 = 11 ∨ p.st + 1 = 12; omega
              · intro _ e; exact absurd e this.2
            · split
              · exact sg1_may _ b (by omega) h1 (by assumption)
              · exact fin_may b h (by omega) h2
        · split
          · rename_i k
            split
            · exact spo_may _ (by omega)
            · split
              · split
                · exact spo_may _ (by omega)
                · rename_i hd k2
                  have k3 : (stpV p.ps b).2 = 0 := Classical.byContradiction fun e => k2 (.inl e)
                  have := stp_good h.ps k3
                  exact good_may ⟨h.lo, h.hi, h.bad, h.utf, this.1, h.its, h.itl, h.itm, .inr (by show p.st = 4 ∨ p.st = 5 ∨ p.st = 9 ∨ p.st = 10 ∨ p.st = 11 ∨ p.st = 12; omega), fun _ e => absurd e this.2, h.pr, h.fi, h.txs, h.txl, h.txn⟩
              · split
                · rename_i k4
                  have hit : p.it = nos := ba_nil _ (by have := h.itm; unfold mostS at this; rw [if_neg (by omega)] at this; omega)
                  unfold sigS
                  dsimp only
                  rw [if_neg (by rw [h.bad, hit]; decide), hit, nos_app]
                  refine good_may ⟨by show 0 ≤ p.st + 1; omega, by show p.st + 1 < 15; omega, h.bad, .inl hu, h.ps, bs1_sig h1 k4, ?_, ?_, .inr ?_, ?_, ?_, ?_, h.txs, h.txl, .inl ?_⟩
                  · show leastS (p.st + 1) ≤ 1; unfold leastS; split <;> omega
                  · show 1 ≤ mostS (p.st + 1); unfold mostS; rw [if_pos (by omega)]; omega
                  · show p.st + 1 = 4 ∨ p.st + 1 = 5 ∨ p.st + 1 = 9 ∨ p.st + 1 = 10 ∨ p.st + 1 = 11 ∨ p.st + 1 = 12; omega
                  · intro e; have e' : p.st + 1 = 4 ∨ p.st + 1 = 9 := e; omega
                  · rcases h.pr with x | ⟨x, y, z⟩
                    · exact .inl x
                    · exact .inr ⟨x, y, by show p.st + 1 = 4 ∨ p.st + 1 = 5 ∨ p.st + 1 = 9 ∨ p.st + 1 = 10 ∨ p.st + 1 = 11 ∨ p.st + 1 = 12; omega⟩
                  · rcases h.fi with ⟨x, _⟩ | ⟨x, y, z⟩
                    · omega
                    · exact .inr ⟨by show p.st + 1 ≠ 11; omega, by show p.st + 1 ≠ 12; omega, z⟩
                  · have := h.txn; show p.tx.size = 0; omega
                · exact fin_may b h (by omega) h2
          · split
            · rename_i k
              split
              · exact spo_may _ (by omega)
              · split
                · rename_i k4
                  unfold sigS
                  split
                  · exact spo_may _ (by omega)
                  · rename_i k5
                    exact good_may (sig_keep h (by omega) h1 k4 (fun e => k5 (.inr e)))
                · exact fin_may b h (by omega) h2
            · omega
end Go.Proofs.YtmboekpomjgnnaaGreatDoor.Sta

namespace Go.Proofs.YtmboekpomjgnnaaGreatDoor.Sta
open Utf Par

theorem spo_post (p : PS) (l : List EV) (h : p.bad = true) : post (p, l) = (spoS p.st, l) := by unfold post; rw [if_pos h]
theorem add_bad (p : PS) (b : UInt8) (l : List EV) (h : p.bad = true) : post (addD p b, l) = (spoS p.st, l) := by
  unfold addD
  split
  · rfl
  · exact spo_post _ _ h
theorem tol_bad (p : PS) (e : EV) (h : p.bad = true) : tolS p e = (begS 0, []) := by unfold tolS; rw [if_pos h]
theorem dsp_spo (p : PS) (k : Int) (fi : UInt8) (h : p.bad = true) : dspD p k fi = (begS 0, []) := by unfold dspD; rw [if_pos h]
def spoilable (n : Int) : Prop := n = 2 ∨ n = 4 ∨ n = 5 ∨ n = 6 ∨ n = 7 ∨ n = 9 ∨ n = 10 ∨ n = 11 ∨ n = 12
theorem goe_spo (n : Int) (b : UInt8) (h1 : 32 ≤ b.toNat) (h2 : b.toNat < 127) (hs : n = 2 ∨ n = 4 ∨ n = 5 ∨ n = 9 ∨ n = 10) : post (rulD (spoS n) b) = goeS (spoS n) b ∧ mayS (goeS (spoS n) b).1 = true := by
  obtain ⟨c1, c2, c3⟩ := classB b h1 h2
  have sg : ∀ m : Int, sigS { spoS n with st := m } b = spoS m := fun m => by unfold sigS; rw [if_pos (.inl rfl)]
  have sg0 : sigS (spoS n) b = spoS n := sg n
  have hfin : post (finD (spoS n) b) = finS (spoS n) b ∧ mayS (finS (spoS n) b).1 = true := by
    by_cases k : n ≤ 5
    · have e1 : finD (spoS n) b = (begS 0, []) := by unfold finD; rw [if_pos (show (spoS n).st ≤ 5 from k)]; rfl
      have e2 : finS (spoS n) b = (begS 0, []) := by unfold finS; rw [if_pos (show (spoS n).st ≤ 5 from k)]; rfl
      rw [e1, e2]
      exact ⟨rfl, beg_may 0 (by omega)⟩
    · have e1 : post (finD (spoS n) b) = (spoS 11, []) := by unfold finD; rw [if_neg (show ¬ (spoS n).st ≤ 5 from k)]; rfl
      have e2 : finS (spoS n) b = (spoS 11, []) := by unfold finS; rw [if_neg (show ¬ (spoS n).st ≤ 5 from k)]; rfl
      rw [e1, e2]
      exact ⟨rfl, spo_may 11 (by omega)⟩
  by_cases e2 : n = 2
  · have hr : rulD (spoS n) b = sgnD (spoS n) b := by subst e2; rfl
    have hg : goeS (spoS n) b = if b.toNat ≤ 47 then (sigS (spoS n) b, []) else tolS (spoS n) (esE (spoS n).it b) := by subst e2; rfl
    rw [hr, hg]
    unfold sgnD
    rw [c1]
    by_cases k : b.toNat ≤ 47
    · rw [if_pos (by simpa using k), if_pos k, add_bad _ _ _ rfl, sg0]
      exact ⟨rfl, spo_may n (by omega)⟩
    · rw [if_neg (by simpa using k), if_neg k, dsp_spo _ _ _ rfl, tol_bad _ _ rfl]
      exact ⟨rfl, beg_may 0 (by omega)⟩
  · by_cases e4 : n = 4 ∨ n = 9
    · have hr : rulD (spoS n) b = parmD (spoS n) b := by rcases e4 with e | e <;> subst e <;> rfl
      have hg : goeS (spoS n) b = if 60 ≤ b.toNat ∧ b.toNat ≤ 63 then (spoS n, [])
        else if 48 ≤ b.toNat ∧ b.toNat ≤ 59 then if (stpV [] b).2 ≠ 0 ∨ (spoS n).bad = true then (spoS n, []) else ({ spoS n with ps := (stpV [] b).1 }, [])
        else if b.toNat ≤ 47 then (sigS { spoS n with st := n + 1 } b, [])
        else finS (spoS n) b := by rcases e4 with e | e <;> subst e <;> rfl
      rw [hr, hg]
      unfold parmD
      rw [c1, c2, c3]
      by_cases k1 : b.toNat ≤ 47
      · rw [if_pos (by simpa using k1), if_neg (by omega), if_neg (by omega), if_pos k1, add_bad _ _ _ rfl, sg]
        exact ⟨rfl, spo_may (n + 1) (by omega)⟩
      · rw [if_neg (by simpa using k1)]
        by_cases k2 : 60 ≤ b.toNat ∧ b.toNat ≤ 63
        · rw [if_pos (by simpa using k2), if_pos k2]
          exact ⟨rfl, spo_may n (by omega)⟩
        · rw [if_neg (by simpa using k2), if_neg k2]
          by_cases k3 : 64 ≤ b.toNat
          · rw [if_pos (by simpa using k3), if_neg (by omega), if_neg k1]; exact hfin
          · rw [if_neg (by simpa using k3), if_pos (by omega), if_pos (.inr rfl)]
            refine ⟨?_, spo_may n (by omega)⟩
            unfold parD
            split
            · rfl
            · exact spo_post _ _ rfl
    · have e5 : n = 5 ∨ n = 10 := by omega
      have hr : rulD (spoS n) b = intD (spoS n) b := by rcases e5 with e | e <;> subst e <;> rfl
      have hg : goeS (spoS n) b = if 48 ≤ b.toNat ∧ b.toNat ≤ 63 then (spoS n, [])
        else if b.toNat ≤ 47 then (sigS (spoS n) b, [])
        else finS (spoS n) b := by rcases e5 with e | e <;> subst e <;> rfl
      rw [hr, hg]
      unfold intD
      rw [c1, c3]
      by_cases k1 : b.toNat ≤ 47
      · rw [if_pos (by simpa using k1), if_neg (by omega), if_pos k1, add_bad _ _ _ rfl, sg0]
        exact ⟨rfl, spo_may n (by omega)⟩
      · rw [if_neg (by simpa using k1)]
        by_cases k3 : 64 ≤ b.toNat
        · rw [if_pos (by simpa using k3), if_neg (by omega), if_neg k1]; exact hfin
        · rw [if_neg (by simpa using k3), if_pos (by omega)]
          exact ⟨rfl, spo_may n (by omega)⟩
theorem end_spo (n : Int) (b : UInt8) (hs : n = 7 ∨ n = 12) (h0 : b.toNat ≠ 24) (h1 : b.toNat ≠ 26) (h2 : b.toNat ≠ 27) : post (rulD (spoS n) b) = endS (spoS n) b := by
  have hr : rulD (spoS n) b = endD (spoS n) b := by rcases hs with e | e <;> subst e <;> rfl
  rw [hr]
  unfold endD endS
  by_cases k : b.toNat ≠ 92
  · rw [if_pos k, if_pos k, tke_same, if_neg (by omega), if_neg h2]
    refine post_ok ?_
    unfold escB
    split
    · exact prt_bad _ _
    · split
      · rfl
      · split
        · rfl
        · unfold escS
          repeat' split
          all_goals rfl
  · rw [if_neg k, if_neg k]
    rcases hs with e | e <;> subst e <;> rfl
theorem wit_spo (n : Int) (b : UInt8) (hs : n = 6 ∨ n = 11) : post (rulD (spoS n) b) = witS (spoS n) b ∧ mayS (witS (spoS n) b).1 = true := by
  have tx : post (texD (spoS n) b, []) = (spoS n, []) := by
    unfold texD
    split
    · rw [if_neg (by show ¬ (0 : Nat) = 512; omega)]; exact spo_post _ _ rfl
    · exact spo_post _ _ rfl
  rcases hs with e | e
  · subst e
    show post (oscD (spoS 6) b) = _ ∧ _
    unfold oscD witS
    by_cases k : b.toNat = 7
    · rw [if_pos k, if_pos ⟨rfl, k⟩]
      exact ⟨rfl, beg_may 0 (by omega)⟩
    · rw [if_neg k, if_neg (by rintro ⟨_, x⟩; exact k x), if_pos (.inr (.inr (.inr rfl)))]
      exact ⟨tx, spo_may 6 (by omega)⟩
  · subst e
    show post (texD (spoS 11) b, []) = _ ∧ _
    unfold witS
    rw [if_neg (by rintro ⟨x, _⟩; exact absurd x (by decide)), if_pos (.inr (.inr (.inr rfl)))]
    exact ⟨tx, spo_may 11 (by omega)⟩
theorem tak_spo (p : PS) (b : UInt8) (he : p = spoS p.st) (hs : spoilable p.st) : takD p b = oneS p b ∧ mayS (oneS p b).1 = true := by
  have hu : p.utf = [] := by rw [he]; rfl
  have hbad : p.bad = true := by rw [he]; rfl
  have e6 : ({ p with st := p.st + 1 } : PS) = spoS (p.st + 1) := by rw [he]; rfl
  have hm : mayS p = true := by rw [he]; exact spo_may _ hs
  have hp : ∀ l, post (p, l) = (p, l) := fun l => by rw [spo_post _ _ hbad, ← he]
  have g1 := goe_spo p.st b
  have g2 := end_spo p.st b
  have g3 := wit_spo p.st b
  rw [← he] at g1 g2 g3
  clear he
  unfold spoilable at hs
  rw [tak_post]
  unfold rawD oneS
  rw [if_neg (show ¬ p.utf ≠ [] by rw [hu]; simp), if_neg (show ¬ (p.st = 0 ∧ (p.utf ≠ [] ∨ 128 ≤ b.toNat)) by omega)]
  by_cases k1 : b.toNat = 24 ∨ b.toNat = 26
  · rw [if_pos k1, if_pos k1]; exact ⟨rfl, beg_may 0 (by omega)⟩
  · rw [if_neg k1, if_neg k1]
    by_cases k2 : b.toNat = 27
    · rw [if_pos k2, if_pos k2]
      by_cases k3 : p.st = 6 ∨ p.st = 11 ∨ p.st = 13
      · rw [if_pos k3, e6]; exact ⟨rfl, spo_may (p.st + 1) (by omega)⟩
      · rw [if_neg k3]; exact ⟨rfl, beg_may 1 (by omega)⟩
    · rw [if_neg k2, if_neg k2]
      by_cases s1 : p.st = 7 ∨ p.st = 12 ∨ p.st = 14
      · rw [if_pos (by rw [(str_iff _).2 (by omega)]; rfl), if_pos s1]
        exact ⟨g2 (by omega) (by omega) (by omega) k2, end_may _ _⟩
      · rw [if_neg s1]
        by_cases s2 : p.st = 6 ∨ p.st = 11 ∨ p.st = 13
        · rw [if_pos (by rw [(str_iff _).2 (by omega)]; rfl), if_pos s2]
          exact g3 (by omega)
        · rw [if_neg s2]
          have s3 : strB p.st = false := by
            cases x : strB p.st with
            | false => rfl
            | true => have := (str_iff _).1 x; omega
          rw [s3, Bool.false_or]
          by_cases k3 : 128 ≤ b.toNat
          · rw [if_neg (by unfold prnbB; simp; omega), if_pos k3, if_pos k3]
            exact ⟨post_ok (prt_bad _ _), prt_may _ _⟩
          · rw [if_neg k3]
            by_cases k4 : b.toNat < 32
            · rw [if_neg (by unfold prnbB; simp; omega), if_neg k3, if_pos k4]
              by_cases k5 : p.st ≤ 5
              · rw [if_pos ⟨by omega, k5⟩, if_pos k5]; exact ⟨hp _, hm⟩
              · rw [if_neg (by rintro ⟨_, x⟩; exact k5 x), if_neg k5]; exact ⟨hp _, hm⟩
            · rw [if_neg k4]
              by_cases k5 : b.toNat = 127
              · rw [if_neg (by unfold prnbB; simp; omega), if_neg k3, if_neg (by rintro ⟨x, _⟩; exact x k5), if_pos k5]; exact ⟨hp _, hm⟩
              · rw [if_pos (by unfold prnbB; simp; omega), if_neg k3, if_neg k5]
                exact g1 (by omega) (by omega) (by omega)
theorem one_good {p : PS} (b : UInt8) (h : Good p) : mayS (oneS p b).1 = true := by
  unfold oneS
  by_cases g : p.st = 0 ∧ (p.utf ≠ [] ∨ 128 ≤ b.toNat)
  · rw [if_pos g]; exact prt_may _ _
  · rw [if_neg g]
    have hu : p.utf = [] := by
      rcases h.utf with e | ⟨_, e⟩
      · exact e
      · exact Classical.byContradiction fun x => g ⟨e, .inl x⟩
    split
    · exact beg_may 0 (by omega)
    · split
      · split
        · exact good_may (wit_keep h (by assumption))
        · exact beg_may 1 (by omega)
      · split
        · exact end_may _ _
        · split
          · exact wit_may b h (by assumption)
          · rename_i s1 s2
            split
            · exact prt_may _ _
            · split
              · split <;> exact good_may h
              · split
                · exact good_may h
                · refine goe_may b h (by omega) (by omega) ?_ hu
                  cases x : strB p.st with
                  | false => rfl
                  | true => have := (str_iff _).1 x; omega
theorem tak_is {p : PS} (b : UInt8) (h : mayS p = true) : takD p b = oneS p b ∧ mayS (oneS p b).1 = true := by
  cases hb : p.bad with
  | false => exact ⟨tak_good b ((may_good hb).1 h), one_good b ((may_good hb).1 h)⟩
  | true =>
    obtain ⟨e, hs⟩ := may_bad h hb
    exact tak_spo p b e hs
theorem run_may (s : List UInt8) : ∀ r : PS × List EV, mayS r.1 = true → mayS (runS r s).1 = true := by
  induction s with
  | nil => intro r h; exact h
  | cons b s ih => intro r h; exact ih _ (tak_is b h).2
theorem runS_snoc (r : PS × List EV) (s : List UInt8) (b : UInt8) : runS r (s ++ [b]) = ((oneS (runS r s).1 b).1, (runS r s).2 ++ (oneS (runS r s).1 b).2) := by
  rw [runS_app]; rfl
/-- where a code of a byte is a control, it is the last, and nothing is pending -/
def ctlB (c : Int) : Prop := c < 32 ∨ c = 127
theorem stepL_shape (u : List UInt8) (b : UInt8) : ∃ cs0 x, (stepL u b).2 = cs0 ++ x ∧ (∀ c ∈ cs0, c = 65533) ∧ (x = [] ∨ ∃ c, x = [c] ∧ (stepL u b).1 = []) := by
  have tk : ∀ bs, (takeL bs).2 = [] ∨ ∃ c, (takeL bs).2 = [c] ∧ (takeL bs).1 = [] := fun bs => by
    cases bs with
    | nil => exact .inl rfl
    | cons b r =>
      show (if r.length + 1 < fl b then (b :: r, []) else ([], [(low (b :: r) : Int)])).2 = [] ∨ ∃ c, (if r.length + 1 < fl b then (b :: r, []) else ([], [(low (b :: r) : Int)])).2 = [c] ∧ (if r.length + 1 < fl b then (b :: r, []) else ([], [(low (b :: r) : Int)])).1 = []
      split
      · exact .inl rfl
      · exact .inr ⟨_, rfl, rfl⟩
  have al : (aloneL b).2 = [] ∨ ∃ c, (aloneL b).2 = [c] ∧ (aloneL b).1 = [] := by
    unfold aloneL
    split
    · exact tk _
    · exact .inr ⟨_, rfl, rfl⟩
  unfold stepL
  split
  · split
    · exact ⟨[], _, rfl, by simp, tk _⟩
    · exact ⟨[65533], _, rfl, by simp, al⟩
  · exact ⟨[], _, rfl, by simp, al⟩
theorem cod_rep (r : PS × List EV) (c : Int) (h : c = 65533) : (codS r c).1 = r.1 := by
  subst h; unfold codS; rw [if_neg (by omega), if_pos (by omega)]
theorem fold_rep (cs : List Int) (h : ∀ c ∈ cs, c = 65533) : ∀ r : PS × List EV, (cs.foldl codS r).1 = r.1 := by
  induction cs with
  | nil => intro r; rfl
  | cons c cs ih => intro r; rw [List.foldl_cons, ih (fun x hx => h x (by simp [hx])), cod_rep r c (h c (by simp))]
theorem ctl_last (u : List UInt8) (b : UInt8) (k : Nat) (c : Int) (h : (stepL u b).2[k]? = some c) (hc : ctlB c) (l0 : List EV) : (((stepL u b).2.take k).foldl codS ({ begS 0 with utf := (stepL u b).1 }, l0)).1 = begS 0 := by
  obtain ⟨cs0, x, h1, h2, h3⟩ := stepL_shape u b
  have hk : cs0.length ≤ k := Classical.byContradiction fun hlt => by
    rw [h1, List.getElem?_append_left (by omega)] at h
    have := h2 c (List.mem_of_getElem? h)
    subst this
    unfold ctlB at hc
    omega
  rw [h1, List.getElem?_append_right hk] at h
  rcases h3 with e | ⟨c', e, h4⟩
  · rw [e] at h; simp at h
  · rw [e] at h
    have hk2 : k = cs0.length := by
      have := (List.getElem?_eq_some_iff.1 h).1
      simp at this
      omega
    rw [h1, h4, hk2, List.take_left', fold_rep cs0 h2]
    · rfl
    · rfl
theorem fold_take {α β : Type} (f : β → α → β) (l : List α) (k : Nat) (x : α) (r : β) (h : l[k]? = some x) : (l.take (k + 1)).foldl f r = f ((l.take k).foldl f r) x := by
  rw [List.take_add_one, h, List.foldl_append]; rfl
end Go.Proofs.YtmboekpomjgnnaaGreatDoor.Sta

namespace Go.Proofs.YtmboekpomjgnnaaGreatDoor.Par
open Go.RowKit Utf

theorem get_take {α : Type} (l : List α) (k : Nat) (x : α) (h : l[k]? = some x) : l.take (k + 1) = l.take k ++ [x] := by
  rw [List.take_add_one, h]; rfl
theorem sz_runV (l : List (List Int)) (s : List UInt8) (h : Sz l) : Sz (runV l s).1 := by
  induction s generalizing l with
  | nil => exact h
  | cons c s ih =>
    unfold runV
    split
    · exact ih _ (stpV_sz l c)
    · exact ⟨by simp, by simp⟩
theorem sz_prsV (s : List UInt8) : Sz (prsV s).1 := by
  unfold prsV
  split
  · exact ⟨by simp, by simp⟩
  · exact sz_runV _ _ ⟨by simp, by simp⟩
end Go.Proofs.YtmboekpomjgnnaaGreatDoor.Par
