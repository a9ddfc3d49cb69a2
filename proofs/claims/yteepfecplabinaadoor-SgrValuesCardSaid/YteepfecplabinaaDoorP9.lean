/-
  ParA
-/
import Derived.WalkKit
import Derived.WalkLawsBesides
import Derived.WalkSpells
import Derived.Deep.QuietTactic
import Derived.BigQuiet
import Derived.IntWalk
import Derived.ArgAppend
import Derived.Test.YteepfecplabinaaDoorProg
import Derived.Test.YteepfecplabinaaDoorP1
import Derived.Test.YteepfecplabinaaDoorP4
namespace Go.Proofs.YteepfecplabinaaDoor.Par
open Go.RowKit Utf

/-- a slice of numbers -/
def RI (w : World) (v : Value) (zs : List Int) : Prop := ∃ A c, v = .slice A zs.length c ∧ zs.length ≤ c ∧ c ≤ maxLen ∧ (A = none → c = 0) ∧ Rd w A (cI zs)
theorem RI.keep {w w' : World} {v : Value} {zs : List Int} (h : RI w v zs) (hb : Below w.heap.size w w') : RI w' v zs := by
  obtain ⟨A, c, h1, h2, h3, h4, h5⟩ := h
  exact ⟨A, c, h1, h2, h3, h4, h5.below hb⟩
/-- a slice of parameters -/
def RL (w : World) (v : Value) (l : List (List Int)) : Prop := ∃ A c vs, v = .slice A l.length c ∧ l.length ≤ c ∧ c ≤ maxLen ∧ (A = none → c = 0) ∧ vs.length = l.length ∧ Rd w A vs ∧ ∀ (j : Nat) (x : Value) (p : List Int), vs[j]? = some x → l[j]? = some p → RI w x p
theorem RL.keep {w w' : World} {v : Value} {l : List (List Int)} (h : RL w v l) (hb : Below w.heap.size w w') : RL w' v l := by
  obtain ⟨A, c, vs, h1, h2, h3, h4, h5, h6, h7⟩ := h
  exact ⟨A, c, vs, h1, h2, h3, h4, h5, h6.below hb, fun j x p hx hp => (h7 j x p hx hp).keep hb⟩
theorem RI.nil (w : World) : RI w (.slice none 0 0) [] := ⟨none, 0, rfl, Nat.le_refl _, Nat.zero_le _, fun _ => rfl, Rd.nil _ _⟩
theorem RL.nil (w : World) : RL w (.slice none 0 0) [] := ⟨none, 0, [], rfl, Nat.le_refl _, Nat.zero_le _, fun _ => rfl, rfl, Rd.nil _ _, fun j x p h => by simp at h⟩
/-- one number of a slice -/
theorem RI.at {w : World} {A : Option Addr} {zs : List Int} (h : Rd w A (cI zs)) {k : Nat} {z : Int} (hz : zs[k]? = some z) : ∃ ad, A = some ad ∧ ad.block < w.heap.size ∧ w.cell? (ad.add k) = some (.int .i64 z) := h k _ (cI_at zs k z hz)
theorem get_some {α : Type} (l : List α) (k : Nat) (h : k < l.length) : ∃ x, l[k]? = some x := ⟨l[k], by simp⟩

theorem up {B W W' : World} (h : Below B.heap.size B W) (hb : Below W.heap.size W W') : Below B.heap.size B W' := h.trans (hb.mono h.size)
theorem below_box (w : World) (o : Obj) : Below w.heap.size w (w.alloc o) := (Below.refl _ w).alloc (Nat.le_refl _) _

theorem outside_any (z : Int) (w : World) : Calls Tryd.prog 74 #[.int .i64 z] w fun e w' => e = .returned (.bool (wrongI z)) ∧ w = w' := by
  go_enter Tryd.func74, Tryd.ntmps74
  go_wp2
  all_goals
    go_ret
    refine ⟨?_, rfl⟩
    simp_all [wrongI]

set_option maxRecDepth 100000 in
set_option maxHeartbeats 1000000 in
theorem indexI_any (A : Option Addr) (n c : Nat) (zs : List Int) (w : World) (hn : n = zs.length) (hx : Rd w A (cI zs)) (hl : n ≤ 1000000) :
    Calls Tryd.prog 106 #[.slice A n c, .func (.func 74) #[] #[]] w fun e w' => (∃ k : Int, e = .returned (.int .i64 k) ∧ decide (0 ≤ k) = zs.any wrongI) ∧ Below w.heap.size w w' := by
  have HX := Lib.hid hx; clear hx
  have Hn := Lib.hid hn; clear hn
  go_enter Tryd.func106, Tryd.ntmps106
  go_wp2
  go_loopw [8] (fun i wr => ∃ k : Nat, k ≤ n ∧ i = .int .i64 k ∧ Hid ((zs.take k).any wrongI = false ∧ Below w.heap.size w wr)) (fun i _ => n - (intOf i).toNat)
  case atStart => exact ⟨0, Nat.zero_le _, rfl, by simp [Hid]; exact Below.refl _ _⟩
  case round =>
    obtain ⟨k, hk, rfl, hid⟩ := hrel
    by_cases hlt : k < n
    · obtain ⟨z, hz⟩ := get_some zs k (by rw [← Hn.out]; exact hlt)
      obtain ⟨ad, rfl, _, hc⟩ := (HX.out.below hid.out.2) k _ (cI_at zs k z hz)
      have Hz := Lib.hid hz; clear hz
      have i1 : (0 : Int) ≤ (k : Int) := by omega
      have i2 : (k : Int) < (n : Int) := by omega
      go_wp2_with (go_at_call 74; refine (outside_any _ _).mono ?_; rintro e w1 ⟨rfl, rfl⟩)
      · have hh : wrongI z = true := by assumption
        go_ret
        refine ⟨⟨_, rfl, ?_⟩, hid.out.2⟩
        rw [any_hit wrongI zs k z Hz.out hh]
        simp
      · have hh : wrongI z = false := by assumption
        go_roundw
        case rel => exact ⟨k + 1, by omega, by go_num, by rw [any_take wrongI zs k z Hz.out, hid.out.1, hh]; rfl, hid.out.2⟩
        case measure => simp [intOf]; omega
    · go_wp2
      go_ret
      have he := hid.out.1
      rw [List.take_of_length_le (by rw [← Hn.out]; omega)] at he
      exact ⟨⟨_, rfl, by rw [he]; decide⟩, hid.out.2⟩

theorem containsI_any (A : Option Addr) (n c : Nat) (zs : List Int) (w : World) (hn : n = zs.length) (hx : Rd w A (cI zs)) (hl : n ≤ 1000000) :
    Calls Tryd.prog 73 #[.slice A n c, .func (.func 74) #[] #[]] w fun e w' => e = .returned (.bool (zs.any wrongI)) ∧ Below w.heap.size w w' := by
  have HC := Lib.hid (indexI_any A n c zs w hn hx hl); clear hx hn
  go_enter Tryd.func73, Tryd.ntmps73
  go_wp2_with (go_at_call 106; refine HC.out.mono ?_; rintro e w1 ⟨⟨k, rfl, hk⟩, hb⟩)
  go_ret
  exact ⟨by rw [← hk]; rfl, hb⟩

set_option maxRecDepth 100000 in
set_option maxHeartbeats 1000000 in
theorem wrong_any (v : Value) (p : List Int) (w : World) (h : RI w v p) (hl : p.length ≤ 1000000) :
    Calls Tryd.prog 44 #[.agg #[v]] w fun e w' => e = .returned (.bool (wrongP p)) ∧ Below w.heap.size w w' := by
  obtain ⟨A, c, rfl, hc, hc2, hA, hr⟩ := h
  obtain ⟨n, hn⟩ : ∃ n, n = p.length := ⟨_, rfl⟩
  rw [← hn] at hl hc ⊢
  have hb0 := below_box w (.cells #[.slice A n c] 41)
  have HC := Lib.hid (containsI_any A n c p _ hn (hr.below hb0) hl)
  have HB := Lib.hid hb0
  have Hw := Lib.hid (show wrongP p = (decide ((n : Int) < 1) || decide (6 < (n : Int)) || p.any wrongI) by
    rw [hn, wrongP, show (decide (p.length < 1)) = decide ((p.length : Int) < 1) from decide_eq_decide.2 (by omega), show (decide (6 < p.length)) = decide (6 < (p.length : Int)) from decide_eq_decide.2 (by omega)])
  clear hr hA hc hc2 hn hb0
  go_enter Tryd.func44, Tryd.ntmps44
  go_wp2_with (go_at_call 73; refine HC.out.mono ?_; rintro e w1 ⟨rfl, hb⟩)
  · go_ret
    exact ⟨by rw [Hw.out]; rfl, up HB.out hb⟩
  all_goals
    go_ret
    refine ⟨?_, HB.out⟩
    rw [Hw.out]
    simp_all

set_option maxRecDepth 100000 in
set_option maxHeartbeats 1000000 in
theorem indexP_any (v : Value) (l : List (List Int)) (w : World) (h : RL w v l) (hl : l.length ≤ 1000000) (hp : ∀ p ∈ l, p.length ≤ 1000000) :
    Calls Tryd.prog 72 #[v, .func (.func 44) #[] #[]] w fun e w' => (∃ k : Int, e = .returned (.int .i64 k) ∧ decide (0 ≤ k) = l.any wrongP) ∧ Below w.heap.size w w' := by
  obtain ⟨A, c, vs, rfl, hc, hc2, hA, hv, hr, hi⟩ := h
  obtain ⟨n, hn⟩ : ∃ n, n = l.length := ⟨_, rfl⟩
  rw [← hn] at hl hc hv ⊢
  have HX := Lib.hid hr; clear hr
  have HI := Lib.hid hi; clear hi
  have HP := Lib.hid hp; clear hp
  have Hn := Lib.hid hn; clear hn
  have Hv := Lib.hid hv; clear hv
  clear hA hc hc2
  go_enter Tryd.func72, Tryd.ntmps72
  go_wp2
  go_loopw [8] (fun i wr => ∃ k : Nat, k ≤ n ∧ i = .int .i64 k ∧ Hid ((l.take k).any wrongP = false ∧ Below w.heap.size w wr)) (fun i _ => n - (intOf i).toNat)
  case atStart => exact ⟨0, Nat.zero_le _, rfl, by simp [Hid]; exact Below.refl _ _⟩
  case round =>
    obtain ⟨k, hk, rfl, hid⟩ := hrel
    by_cases hlt : k < n
    · obtain ⟨p, hp⟩ := get_some l k (by rw [← Hn.out]; exact hlt)
      obtain ⟨x, hx⟩ := get_some vs k (by rw [Hv.out]; exact hlt)
      obtain ⟨ad, rfl, _, hc⟩ := (HX.out.below hid.out.2) k _ hx
      have HC := Lib.hid (wrong_any x p wr ((HI.out k x p hx hp).keep hid.out.2) (HP.out p (List.mem_of_getElem? hp)))
      have Hp := Lib.hid hp; clear hp hx
      have i1 : (0 : Int) ≤ (k : Int) := by omega
      have i2 : (k : Int) < (n : Int) := by omega
      go_wp2_with (go_at_call 44; refine HC.out.mono ?_; rintro e w1 ⟨rfl, hb1⟩)
      · have hh : wrongP p = true := by assumption
        go_ret
        refine ⟨⟨_, rfl, ?_⟩, up hid.out.2 hb1⟩
        rw [any_hit wrongP l k p Hp.out hh]
        simp
      · have hh : wrongP p = false := by assumption
        go_roundw
        case rel => exact ⟨k + 1, by omega, by go_num, by rw [any_take wrongP l k p Hp.out, hid.out.1, hh]; rfl, up hid.out.2 hb1⟩
        case measure => simp [intOf]; omega
    · go_wp2
      go_ret
      have he := hid.out.1
      rw [List.take_of_length_le (by rw [← Hn.out]; omega)] at he
      exact ⟨⟨_, rfl, by rw [he]; decide⟩, hid.out.2⟩

theorem containsP_any (v : Value) (l : List (List Int)) (w : World) (h : RL w v l) (hl : l.length ≤ 1000000) (hp : ∀ p ∈ l, p.length ≤ 1000000) :
    Calls Tryd.prog 43 #[v, .func (.func 44) #[] #[]] w fun e w' => e = .returned (.bool (l.any wrongP)) ∧ Below w.heap.size w w' := by
  have HC := Lib.hid (indexP_any v l w h hl hp)
  obtain ⟨A, c, vs, rfl, _⟩ := h
  clear hp
  go_enter Tryd.func43, Tryd.ntmps43
  go_wp2_with (go_at_call 72; refine HC.out.mono ?_; rintro e w1 ⟨⟨k, rfl, hk⟩, hb⟩)
  go_ret
  exact ⟨by rw [← hk]; rfl, hb⟩

end Go.Proofs.YteepfecplabinaaDoor.Par
