/-
  Contract of the law's short.
-/
import Derived.Test.YtelglcchcpnfbaaDoorParAa
import Derived.Deep.RegionLawGrows
namespace Go.Proofs.YtelglcchcpnfbaaDoor.Par
open Go.RowKit Utf

theorem min_10 (n : Nat) (h : (n : Int) ≤ 10) : (if (10 : Int) < (n : Int) then (10 : Int) else (n : Int)) = (n : Int) := by rw [if_neg (by omega)]
attribute [local go_sem] min_10
def shP (p : List Int) : List Int := p.take 10
def shL (l : List (List Int)) : List (List Int) := (l.take 20).map shP
theorem shL_ks (l : List (List Int)) : Ks (shL l) := by
  refine ⟨by simp [shL]; omega, fun p hp => ?_⟩
  unfold shL at hp
  obtain ⟨q, _, rfl⟩ := List.mem_map.1 hp
  unfold shP
  rw [List.length_take]; omega
/-- a slice of parameters of the call's own, whose parts lie in older memory -/
def ShO (w W : World) (B : Nat) (v : Value) (l : List (List Int)) : Prop := ∃ us, W.ownsRow B 31 1 v l.length us ∧ us.length = l.length ∧ ∀ (j : Nat) (x : Value) (p : List Int), us[j]? = some x → l[j]? = some p → RI w x p
theorem ShO.nil (w W : World) (B : Nat) : ShO w W B (.slice none 0 0) [] := ⟨[], World.ownsRow_nil _ _ _ _, rfl, fun j x p h => by simp at h⟩
theorem ShO.rl {w W : World} {B : Nat} {v : Value} {l : List (List Int)} (h : ShO w W B v l) (hb : Below w.heap.size w W) : RL W v l := by
  obtain ⟨us, h1, h2, h3⟩ := h
  exact RL.grew h1 h2 fun j x p hx hp => (h3 j x p hx hp).keep hb
theorem ShO.snoc {w W : World} {B : Nat} {v x : Value} {us : List Value} {l : List (List Int)} {p : List Int} (h2 : us.length = l.length) (h3 : ∀ (j : Nat) (x : Value) (p : List Int), us[j]? = some x → l[j]? = some p → RI w x p) (hx : RI w x p)
    (h1 : W.ownsRow B 31 1 v (l.length + 1) (us ++ [x])) : ShO w W B v (l ++ [p]) := by
  refine ⟨us ++ [x], by rw [List.length_append, List.length_singleton]; exact h1, by simp [h2], fun j y q hy hq => ?_⟩
  by_cases h : j < us.length
  · rw [List.getElem?_append_left h] at hy
    rw [List.getElem?_append_left (by omega)] at hq
    exact h3 j y q hy hq
  · rw [List.getElem?_append_right (by omega)] at hy
    rw [List.getElem?_append_right (by omega), ← h2] at hq
    obtain h0 | h0 : j - us.length = 0 ∨ 0 < j - us.length := by omega
    · rw [h0] at hy hq
      simp at hy hq
      subst hy; subst hq
      exact hx
    · rw [List.getElem?_eq_none (by simp; omega)] at hy
      cases hy
theorem RL.itemI {w : World} {A : Option Addr} {n c : Nat} {l : List (List Int)} (h : RL w (.slice A n c) l) {k : Nat} {p : List Int} (hp : l[k]? = some p) : ∃ ad B cc, A = some ad ∧ ad.block < w.heap.size ∧ w.cell? (ad.add k) = some (.slice B p.length cc) ∧ p.length ≤ cc ∧ RI w (.slice B p.length cc) p := by
  obtain ⟨A', c', vs, he, h1, h2, h3, h4, h5, h6⟩ := h
  have hk : k < l.length := (List.getElem?_eq_some_iff.1 hp).1
  obtain ⟨x, hx⟩ := get_some vs k (by omega)
  have hr := h6 k x p hx hp
  obtain ⟨B, cc, rfl, g1, g2, g3, g4⟩ := hr
  obtain ⟨ad, rfl, hlt, hc⟩ := h5 k _ hx
  cases he
  exact ⟨ad, B, cc, rfl, hlt, hc, g1, B, cc, rfl, g1, g2, g3, g4⟩
theorem RI.cut {w : World} {B : Option Addr} {cc : Nat} {p : List Int} (h : RI w (.slice B p.length cc) p) (k : Nat) (hk : k = min p.length 10) : RI w (.slice B k cc) (shP p) := by
  obtain ⟨B', c', he, g1, g2, g3, g4⟩ := h
  cases he
  have hl : (shP p).length = k := by unfold shP; rw [List.length_take]; omega
  refine ⟨B, cc, by rw [hl], by omega, g2, g3, fun j u hu => ?_⟩
  refine g4 j u ?_
  have hj : j < (cI (shP p)).length := (List.getElem?_eq_some_iff.1 hu).1
  rw [cI_len, hl] at hj
  rw [← hu]
  unfold cI shP
  simp [show j < 10 by omega]
theorem shL_take (l : List (List Int)) (i : Nat) (p : List Int) (h : l[i]? = some p) : (l.take (i + 1)).map shP = (l.take i).map shP ++ [shP p] := by
  rw [List.take_add_one, h, List.map_append]; rfl
set_option maxRecDepth 100000 in
set_option maxHeartbeats 8000000 in
theorem short_own (v : Value) (l : List (List Int)) (w : World) (h : RL w v l) :
    Calls Tryd.prog 10 #[v] w fun e w' => ∃ v', e = .returned v' ∧ ShO w w' w.heap.size v' (shL l) ∧ Below w.heap.size w w' := by
  obtain ⟨A, c, rfl⟩ := h.form
  obtain ⟨n, hn⟩ : ∃ n, n = l.length := ⟨_, rfl⟩
  rw [← hn] at h ⊢
  have HL := Lib.hid h; clear h
  have Hn := Lib.hid hn; clear hn
  obtain ⟨t1, hi1, hy0, hy1, hy2⟩ := info_parts infoP
  go_enter Tryd.func10, Tryd.ntmps10
  go_wp2
  go_loopw [4, 3] (fun iv ov wr => ∃ i : Nat, i ≤ n ∧ i ≤ 20 ∧ iv = .int .i64 i ∧ Hid (ShO w wr w.heap.size ov ((l.take i).map shP) ∧ Below w.heap.size w wr)) (fun iv _ _ => n - (intOf iv).toNat)
  case atStart => exact ⟨0, Nat.zero_le _, Nat.zero_le _, rfl, ShO.nil _ _ _, Below.refl _ _⟩
  case round =>
    obtain ⟨i, hin, hi20, rfl, hid⟩ := hrel
    have hlt0 : (l.take i).length = i := by rw [List.length_take, ← Hn.out]; omega
    obtain ⟨us, hu1, hu2, hu3⟩ := hid.out.1
    rw [List.length_map, hlt0] at hu1
    obtain ⟨AO, co, rfl, _, _⟩ := own_slice hu1
    by_cases hlt : i < n ∧ i < 20
    · obtain ⟨hlt, hlt2⟩ := hlt
      obtain ⟨p, hp⟩ := get_some l i (by rw [← Hn.out]; exact hlt)
      obtain ⟨ad, XA, xc, rfl, hal, hcx, hxc, hrx⟩ := HL.out.itemI hp
      have hcx1 := (hid.out.2.cell (p := ad.add i) (by rw [add_block]; exact hal)).trans hcx
      obtain ⟨m, hm⟩ : ∃ m, m = p.length := ⟨_, rfl⟩
      rw [← hm] at hcx1 hxc
      have U1 := Lib.hid hu1; clear hu1
      have HX := Lib.hid hrx
      have HP := Lib.hid hp
      have HM := Lib.hid hm
      clear hcx hp hm hrx
      have hsz := hid.out.2.size
      have i1 : (0 : Int) ≤ (i : Int) := by omega
      have i2 : (i : Int) < (n : Int) := by omega
      by_cases hm10 : m ≤ 10
      · have m1 : (m : Int) ≤ 10 := by omega
        have m2 : (m : Int) ≤ (xc : Int) := by omega
        go_upto_region 5 with fail
        go_region_law (refine step_app _ rfl (.tmp 15) (.tmp 30) 22 rfl w.heap.size 31 t1 _ 24 Tryd.underlying22 hi1 hy0 hy1 hy2 rfl (.slice AO i co) i us (by simp [Act.eval]) (own_below U1.out ((below_box wr (.cells #[.slice XA m xc] 31)).drew)) (some ⟨wr.heap.size, 0, none⟩) 1 1 [.slice XA m xc] (by simp [Act.eval]) rfl ((Rd.one wr (.slice XA m xc) 31).below ((Below.refl _ _).drew)) (by intro u hu; simp at hu; subst hu; rfl) (by omega) (by decide) (by simp; omega) ?_; intro v' w' hown hgrow)
        all_goals
          obtain ⟨A6, c6, rfl, _, _⟩ := own_slice hown
          have hol : ShO w w' w.heap.size (.slice A6 (i + 1) c6) ((l.take i).map shP ++ [shP p]) := by
            refine ShO.snoc hu2 hu3 (HX.out.cut m (by rw [← HM.out]; omega)) ?_
            rw [List.length_map, hlt0]
            exact hown
          rw [← shL_take l i p HP.out] at hol
          have hbe : Below w.heap.size w w' := (up hid.out.2 ((below_box wr (.cells #[.slice XA m xc] 31)).drew)).grown hgrow (by simp; omega) (fun q hq => (U1.out.lt q hq).1)
          have G := Lib.hid (And.intro hol hbe)
          clear hol hbe hgrow hown
          go_wp2
          go_roundw
          case rel => exact ⟨i + 1, by omega, by omega, by go_num, G.out.1, G.out.2⟩
          case measure => simp [intOf]; omega
      · have m1 : (10 : Int) < (m : Int) := by omega
        have m2 : (10 : Int) ≤ (xc : Int) := by omega
        go_upto_region 5 with fail
        go_region_law (refine step_app _ rfl (.tmp 15) (.tmp 30) 22 rfl w.heap.size 31 t1 _ 24 Tryd.underlying22 hi1 hy0 hy1 hy2 rfl (.slice AO i co) i us (by simp [Act.eval]) (own_below U1.out ((below_box wr (.cells #[.slice XA 10 xc] 31)).drew)) (some ⟨wr.heap.size, 0, none⟩) 1 1 [.slice XA 10 xc] (by simp [Act.eval]) rfl ((Rd.one wr (.slice XA 10 xc) 31).below ((Below.refl _ _).drew)) (by intro u hu; simp at hu; subst hu; rfl) (by omega) (by decide) (by simp; omega) ?_; intro v' w' hown hgrow)
        all_goals
          obtain ⟨A6, c6, rfl, _, _⟩ := own_slice hown
          have hol : ShO w w' w.heap.size (.slice A6 (i + 1) c6) ((l.take i).map shP ++ [shP p]) := by
            refine ShO.snoc hu2 hu3 (HX.out.cut 10 (by rw [← HM.out]; omega)) ?_
            rw [List.length_map, hlt0]
            exact hown
          rw [← shL_take l i p HP.out] at hol
          have hbe : Below w.heap.size w w' := (up hid.out.2 ((below_box wr (.cells #[.slice XA 10 xc] 31)).drew)).grown hgrow (by simp; omega) (fun q hq => (U1.out.lt q hq).1)
          have G := Lib.hid (And.intro hol hbe)
          clear hol hbe hgrow hown
          go_wp2
          go_roundw
          case rel => exact ⟨i + 1, by omega, by omega, by go_num, G.out.1, G.out.2⟩
          case measure => simp [intOf]; omega
    · have ho : ShO w wr w.heap.size (.slice AO i co) (shL l) := by
        have := hid.out.1
        rwa [show (l.take i).map shP = shL l by
          unfold shL
          rcases (show i = n ∨ i = 20 by omega) with h | h
          · rw [List.take_of_length_le (by rw [← Hn.out, h]; exact Nat.le_refl _), List.take_of_length_le (by rw [← Hn.out]; omega)]
          · rw [h]] at this
      have G := Lib.hid ho
      clear ho hu1 hu2 hu3
      rcases (show i = n ∨ (i < n ∧ i = 20) by omega) with h | ⟨h, h2⟩
      · subst h
        go_wp2
        go_ret
        exact ⟨_, rfl, G.out, hid.out.2⟩
      · subst h2
        have i2 : (20 : Int) < (n : Int) := by omega
        go_wp2
        go_ret
        exact ⟨_, rfl, G.out, hid.out.2⟩
theorem short_any (v : Value) (l : List (List Int)) (w : World) (h : RL w v l) :
    Calls Tryd.prog 10 #[v] w fun e w' => ∃ v', e = .returned v' ∧ RL w' v' (shL l) ∧ Below w.heap.size w w' := by
  refine (short_own v l w h).mono ?_
  rintro e w' ⟨v', rfl, h1, h2⟩
  exact ⟨v', rfl, h1.rl h2, h2⟩
end Go.Proofs.YtelglcchcpnfbaaDoor.Par
