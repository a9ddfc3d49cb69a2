/-
  Contract of the width package's within: it tells whether a number is in one of the ranges of a slice, and makes memory of its own alone.
-/
import Derived.Test.YtneikcpejejagaaDoorWidMath
import Derived.Test.YtneikcpejejagaaDoorUtfWords
import Derived.Test.YtneikcpejejagaaDoorProg
import Derived.WalkKit
import Derived.WalkLawsBesides
import Derived.WalkSpells
import Derived.Deep.QuietTactic
import Derived.BigQuiet
import Derived.Deep.Slices
namespace Go.Proofs.YtneikcpejejagaaDoor.Wid
open Go.RowKit Utf

/-- the cells of a list of ranges -/
def cS : List (Int × Int) → List Value
  | [] => []
  | p :: r => .int .i64 p.1 :: .int .i64 p.2 :: cS r
theorem cS_at (l : List (Int × Int)) (k : Nat) (p : Int × Int) (h : l[k]? = some p) : (cS l)[2 * k]? = some (.int .i64 p.1) ∧ (cS l)[2 * k + 1]? = some (.int .i64 p.2) := by
  induction l generalizing k with
  | nil => simp at h
  | cons q r ih =>
    cases k with
    | zero => simp at h; subst h; simp [cS]
    | succ k =>
      have := ih k (by simpa using h)
      simp only [cS, show 2 * (k + 1) = 2 * k + 1 + 1 by omega, List.getElem?_cons_succ]
      exact this
theorem inR_drop (l : List (Int × Int)) (k : Nat) (p : Int × Int) (c : Int) (h : l[k]? = some p) : inR (l.drop k) c = ((decide (p.1 ≤ c) && decide (c ≤ p.2)) || inR (l.drop (k + 1)) c) := by
  have hn : k < l.length := (List.getElem?_eq_some_iff.1 h).1
  have hg : l[k] = p := (List.getElem?_eq_some_iff.1 h).2
  rw [List.drop_eq_getElem_cons hn, hg]
  rfl

set_option maxRecDepth 100000 in
set_option maxHeartbeats 1000000 in
theorem within_any (ad : Addr) (cap : Nat) (l : List (Int × Int)) (c : Int) (w : World) (h : Rd w (some ad) (cS l)) (hl : l.length ≤ 1000) :
    Calls Tryd.prog 19 #[.int .i64 c, .slice (some ad) l.length cap] w fun e w' => e = .returned (.bool (inR l c)) ∧ Below w.heap.size w w' := by
  have H := Lib.hid h; clear h
  go_enter Tryd.func19, Tryd.ntmps19
  go_wp2
  go_loopw [9] (fun i wr => ∃ k : Nat, k ≤ l.length ∧ i = .int .i64 k ∧ Hid (inR l c = inR (l.drop k) c) ∧ Below w.heap.size w wr) (fun i _ => l.length - (intOf i).toNat)
  case atStart => exact ⟨0, Nat.zero_le _, rfl, rfl, Below.refl _ _⟩
  case round =>
    obtain ⟨k, hk, rfl, hd, hb⟩ := hrel
    by_cases hlt : k < l.length
    · obtain ⟨p, hp⟩ : ∃ p, l[k]? = some p := ⟨l[k], by simp [hlt]⟩
      obtain ⟨_, e0, _, hc0⟩ := ((H.out).below hb) _ _ (cS_at l k p hp).1
      obtain ⟨_, e1, _, hc1⟩ := ((H.out).below hb) _ _ (cS_at l k p hp).2
      cases e0
      cases e1
      rw [show 2 * k = k * 2 by omega] at hc0 hc1
      have hc2 : wr.cell? ⟨(ad.add (k * 2)).block, (ad.add (k * 2)).off + 1, none⟩ = some (.int .i64 p.2) := by rw [← hc1, ← Deep.add_add]; rfl
      clear hc1
      have Hp := Lib.hid hp; clear hp
      by_cases h1 : p.1 ≤ c
      · by_cases h2 : c ≤ p.2
        · go_wp2
          go_ret
          exact ⟨by rw [hd.out, inR_drop l k p c Hp.out, decide_eq_true h1, decide_eq_true h2]; rfl, hb.alloc hb.size _⟩
        · go_wp2
          go_roundw
          case rel => exact ⟨k + 1, by omega, by go_num, by show _ = _; rw [hd.out, inR_drop l k p c Hp.out, decide_eq_false h2]; simp, hb.alloc hb.size _⟩
          case measure => simp [intOf]; omega
      · go_wp2
        go_roundw
        case rel => exact ⟨k + 1, by omega, by go_num, by show _ = _; rw [hd.out, inR_drop l k p c Hp.out, decide_eq_false h1]; simp, hb.alloc hb.size _⟩
        case measure => simp [intOf]; omega
    · go_wp2
      go_ret
      exact ⟨by rw [hd.out, List.drop_of_length_le (by omega)]; rfl, hb⟩
end Go.Proofs.YtneikcpejejagaaDoor.Wid
