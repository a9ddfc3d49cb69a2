/-
  ParB ParG ParL ParW
-/
import Derived.Deep.RegionHeld3
import Derived.Deep.RegionWith
import Derived.Test.YteepfecplabinaaDoorP9
namespace Go.Proofs.YteepfecplabinaaDoor.Par
open Go.RowKit Utf

theorem add_block (a : Addr) (k : Nat) : (a.add k).block = a.block := by unfold Addr.add; split <;> rfl
theorem Rd.lit (w : World) (cs : List Value) (t : TypeId) : Rd (w.alloc (.cells cs.toArray t)) (some ⟨w.heap.size, 0, none⟩) cs := fun j u hu =>
  ⟨_, rfl, by simp, by
    rw [Addr.add_lit, Nat.zero_add]
    unfold World.cell?
    rw [heap_alloc_new]
    simp [hu]⟩
/-- a literal of numbers -/
theorem RI.lit (w : World) (zs : List Int) (n : Nat) (hn : n = zs.length) (hl : n ≤ maxLen) (t : TypeId) : RI (w.alloc (.cells (cI zs).toArray t)) (.slice (some ⟨w.heap.size, 0, none⟩) n n) zs := by
  subst hn
  exact ⟨_, _, rfl, Nat.le_refl _, hl, (fun h => by cases h), Rd.lit w (cI zs) t⟩
/-- a literal of parameters -/
theorem RL.lit (w : World) (vs : List Value) (l : List (List Int)) (n : Nat) (hn : n = l.length) (hv : vs.length = l.length) (hl : n ≤ maxLen) (t : TypeId) (h : ∀ (j : Nat) (x : Value) (p : List Int), vs[j]? = some x → l[j]? = some p → RI w x p) :
    RL (w.alloc (.cells vs.toArray t)) (.slice (some ⟨w.heap.size, 0, none⟩) n n) l := by
  subst hn
  exact ⟨_, _, vs, rfl, Nat.le_refl _, hl, (fun h => by cases h), hv, Rd.lit w vs t, fun j x p hx hp => (h j x p hx hp).keep (below_box _ _)⟩
theorem unset_any (w : World) : Calls Tryd.prog 46 #[] w fun e w' => ∃ v, e = .returned v ∧ RL w' v [[-1]] ∧ Below w.heap.size w w' := by
  go_enter Tryd.func46, Tryd.ntmps46
  go_wp2
  go_ret
  have h1 := RI.lit w [-1] 1 rfl (by decide) 3
  have h2 := RL.lit (w.alloc (.cells #[.int .i64 (-1)] 3)) [.slice (some ⟨w.heap.size, 0, none⟩) 1 1] [[-1]] 1 rfl rfl (by decide) 41 (fun j x p hx hp => by
    cases j with
    | zero => simp at hx hp; subst hx; subst hp; exact h1
    | succ j => simp at hx)
  rw [World.size_alloc] at h2
  exact ⟨_, rfl, h2, up (below_box _ _) (below_box _ _)⟩

set_option maxRecDepth 100000 in
set_option maxHeartbeats 1000000 in
theorem equalI_any (u v : Value) (p q : List Int) (w : World) (hp : RI w u p) (hq : RI w v q) (hl : p.length ≤ 9223372036854775807) :
    Calls Tryd.prog 77 #[u, v] w fun e w' => e = .returned (.bool (decide (p = q))) ∧ Below w.heap.size w w' := by
  obtain ⟨A, c, rfl, -, -, -, hx⟩ := hp
  obtain ⟨B, d, rfl, -, -, -, hy⟩ := hq
  have HX := Lib.hid hx; clear hx
  have HY := Lib.hid hy; clear hy
  by_cases hne : p.length = q.length
  · have Hne := Lib.hid hne; clear hne
    obtain ⟨n, hn⟩ : ∃ n, n = p.length := ⟨_, rfl⟩
    have hn2 : n = q.length := hn.trans Hne.out
    rw [← hn2]
    rw [← hn] at hl ⊢
    have Hn := Lib.hid hn; clear hn
    have Hn2 := Lib.hid hn2; clear hn2
    have hb1 : ((n : Int) != (n : Int)) = false := by simp
    go_enter Tryd.func77, Tryd.ntmps77
    go_wp2
    go_loopw [13] (fun i wr => ∃ k : Nat, k ≤ n ∧ i = .int .i64 k ∧ Hid (p.take k = q.take k ∧ Below w.heap.size w wr)) (fun i _ => n - (intOf i).toNat)
    case atStart => exact ⟨0, Nat.zero_le _, rfl, by simp [Hid]; exact Below.refl _ _⟩
    case round =>
      obtain ⟨k, hk, rfl, hid⟩ := hrel
      by_cases hlt : k < n
      · obtain ⟨x, hxk⟩ := get_some p k (by rw [← Hn.out]; exact hlt)
        obtain ⟨y, hyk⟩ := get_some q k (by rw [← Hn2.out]; exact hlt)
        obtain ⟨ad, rfl, _, hcx⟩ := (HX.out.below hid.out.2) k _ (cI_at p k x hxk)
        obtain ⟨bd, rfl, _, hcy⟩ := (HY.out.below hid.out.2) k _ (cI_at q k y hyk)
        have HxK := Lib.hid hxk; clear hxk
        have HyK := Lib.hid hyk; clear hyk
        have i1 : (0 : Int) ≤ (k : Int) := by omega
        have i2 : (k : Int) < (n : Int) := by omega
        by_cases hxy : x = y
        · subst hxy
          have hq : (x != x) = false := by simp
          go_wp2
          go_quiet (fail)
          go_wp2
          go_roundw
          case rel => exact ⟨k + 1, by omega, by go_num, by rw [List.take_add_one, List.take_add_one, HxK.out, HyK.out, hid.out.1], below_drewN' hid.out.2 _⟩
          case measure => simp [intOf]; omega
        · have hq : (x != y) = true := by simp [hxy]
          have Hxy := Lib.hid hxy; clear hxy
          go_wp2
          go_quiet (fail)
          go_wp2
          go_ret
          refine ⟨?_, below_drewN' hid.out.2 _⟩
          rw [decide_eq_false (fun e : p = q => Hxy.out (by have h1 := HxK.out; rw [e, HyK.out] at h1; simpa using h1.symm))]; rfl
      · go_wp2
        go_ret
        have he : p = q := by
          have := hid.out.1
          rw [List.take_of_length_le (by rw [← Hn.out]; omega), List.take_of_length_le (by rw [← Hn2.out]; omega)] at this
          exact this
        exact ⟨by rw [decide_eq_true he]; rfl, hid.out.2⟩
  · have Hne := Lib.hid hne
    have hb1 : ((p.length : Int) != (q.length : Int)) = true := by rw [bne_iff_ne]; omega
    clear hne HX HY
    go_enter Tryd.func77, Tryd.ntmps77
    go_wp2
    go_ret
    exact ⟨by rw [decide_eq_false (fun e : p = q => Hne.out (by rw [e]))]; rfl, Below.refl _ _⟩

theorem same1_any (u v : Value) (p q : List Int) (w : World) (hp : RI w u p) (hq : RI w v q) (hl : p.length ≤ 9223372036854775807) :
    Calls Tryd.prog 76 #[.agg #[u], .agg #[v]] w fun e w' => e = .returned (.bool (decide (p = q))) ∧ Below w.heap.size w w' := by
  have hb : Below w.heap.size w ((w.alloc (.cells #[u] 41)).alloc (.cells #[v] 41)) := up (below_box _ _) (below_box _ _)
  have HC := Lib.hid (equalI_any u v p q _ (hp.keep hb) (hq.keep hb) hl)
  have HB := Lib.hid hb
  obtain ⟨A, c, rfl, _⟩ := hp
  obtain ⟨B, d, rfl, _⟩ := hq
  clear hb
  go_enter Tryd.func76, Tryd.ntmps76
  go_wp2_with (go_at_call 77; refine HC.out.mono ?_; rintro e w1 ⟨rfl, hb1⟩)
  go_ret
  exact ⟨rfl, up HB.out hb1⟩

set_option maxRecDepth 100000 in
set_option maxHeartbeats 2000000 in
theorem equalP_any (u v : Value) (a b : List (List Int)) (w : World) (ha : RL w u a) (hb : RL w v b) (hl : a.length ≤ 9223372036854775807) (hs : ∀ p ∈ a, p.length ≤ 9223372036854775807) :
    Calls Tryd.prog 75 #[u, v, .func (.func 76) #[] #[]] w fun e w' => e = .returned (.bool (decide (a = b))) ∧ Below w.heap.size w w' := by
  obtain ⟨A, c, us, rfl, -, -, -, hu, hx, hxi⟩ := ha
  obtain ⟨B, d, vs, rfl, -, -, -, hv, hy, hyi⟩ := hb
  have HX := Lib.hid (And.intro hx hxi); clear hx hxi
  have HY := Lib.hid (And.intro hy hyi); clear hy hyi
  have Hu := Lib.hid hu; clear hu
  have Hv := Lib.hid hv; clear hv
  have HS := Lib.hid hs; clear hs
  by_cases hne : a.length = b.length
  · have Hne := Lib.hid hne; clear hne
    obtain ⟨n, hn⟩ : ∃ n, n = a.length := ⟨_, rfl⟩
    have hn2 : n = b.length := hn.trans Hne.out
    rw [← hn2]
    rw [← hn] at hl ⊢
    have Hn := Lib.hid hn; clear hn
    have Hn2 := Lib.hid hn2; clear hn2
    have hb1 : ((n : Int) != (n : Int)) = false := by simp
    go_enter Tryd.func75, Tryd.ntmps75
    go_wp2
    go_loopw [17] (fun i wr => ∃ k : Nat, k ≤ n ∧ i = .int .i64 k ∧ Hid (a.take k = b.take k ∧ Below w.heap.size w wr)) (fun i _ => n - (intOf i).toNat)
    case atStart => exact ⟨0, Nat.zero_le _, rfl, by simp [Hid]; exact Below.refl _ _⟩
    case round =>
      obtain ⟨k, hk, rfl, hid⟩ := hrel
      by_cases hlt : k < n
      · obtain ⟨p, hpk⟩ := get_some a k (by rw [← Hn.out]; exact hlt)
        obtain ⟨q, hqk⟩ := get_some b k (by rw [← Hn2.out]; exact hlt)
        obtain ⟨x, hxk⟩ := get_some us k (by rw [Hu.out, ← Hn.out]; exact hlt)
        obtain ⟨y, hyk⟩ := get_some vs k (by rw [Hv.out, ← Hn2.out]; exact hlt)
        obtain ⟨ad, rfl, hal, hcx⟩ := (HX.out.1.below hid.out.2) k _ hxk
        obtain ⟨bd, rfl, hbl, hcy⟩ := (HY.out.1.below hid.out.2) k _ hyk
        have hB : Below wr.heap.size wr ((wr.alloc (.cells #[x] 41)).alloc (.cells #[y] 41)) := up (below_box _ _) (below_box _ _)
        have HC := Lib.hid (same1_any x y p q _ (((HX.out.2 k x p hxk hpk).keep hid.out.2).keep hB) (((HY.out.2 k y q hyk hqk).keep hid.out.2).keep hB) (HS.out p (List.mem_of_getElem? hpk)))
        obtain ⟨XA, xc, rfl, -⟩ := HX.out.2 k x p hxk hpk
        obtain ⟨YA, yc, rfl, -⟩ := HY.out.2 k y q hyk hqk
        obtain ⟨m, hm⟩ : ∃ m, m = p.length := ⟨_, rfl⟩
        obtain ⟨o, ho⟩ : ∃ o, o = q.length := ⟨_, rfl⟩
        rw [← hm] at hcx hxk
        rw [← ho] at hcy hyk
        rw [← hm, ← ho] at HC
        rw [← hm, ← ho] at hB
        clear hm ho
        have hcy2 := ((below_box wr (.cells #[.slice XA m xc] 41)).cell (p := bd.add k) (by rw [add_block]; exact hbl)).trans hcy
        have HB := Lib.hid hB
        have HpK := Lib.hid hpk
        have HqK := Lib.hid hqk
        have HxK := Lib.hid hxk
        have HyK := Lib.hid hyk
        clear hpk hqk hxk hyk hB
        have i1 : (0 : Int) ≤ (k : Int) := by omega
        have i2 : (k : Int) < (n : Int) := by omega
        go_wp2_with (go_at_call 76; refine HC.out.mono ?_; rintro e w1 ⟨rfl, hb1⟩)
        · have hx : (!decide (p = q)) = true := by assumption
          have hh : ¬ p = q := by simpa using hx
          go_ret
          refine ⟨?_, up hid.out.2 (up HB.out hb1)⟩
          rw [decide_eq_false (fun e : a = b => hh (by have h1 := HpK.out; rw [e, HqK.out] at h1; simpa using h1.symm))]; rfl
        · have hx : (!decide (p = q)) = false := by assumption
          have hh : p = q := by simpa using hx
          go_roundw
          case rel => exact ⟨k + 1, by omega, by go_num, by rw [List.take_add_one, List.take_add_one, HpK.out, HqK.out, hid.out.1, hh], up hid.out.2 (up HB.out hb1)⟩
          case measure => simp [intOf]; omega
      · go_wp2
        go_ret
        have he : a = b := by
          have := hid.out.1
          rw [List.take_of_length_le (by rw [← Hn.out]; omega), List.take_of_length_le (by rw [← Hn2.out]; omega)] at this
          exact this
        exact ⟨by rw [decide_eq_true he]; rfl, hid.out.2⟩
  · have Hne := Lib.hid hne
    have hb1 : ((a.length : Int) != (b.length : Int)) = true := by rw [bne_iff_ne]; omega
    clear hne HX HY
    go_enter Tryd.func75, Tryd.ntmps75
    go_wp2
    go_ret
    exact ⟨by rw [decide_eq_false (fun e : a = b => Hne.out (by rw [e]))]; rfl, Below.refl _ _⟩

theorem same_big (u v : Value) (a b : List (List Int)) (w : World) (ha : RL w u a) (hb : RL w v b) (hl : a.length ≤ 9223372036854775807) (hs : ∀ p ∈ a, p.length ≤ 9223372036854775807) :
    Calls Tryd.prog 45 #[u, v] w fun e w' => e = .returned (.bool (decide (a = b))) ∧ Below w.heap.size w w' := by
  have HC := Lib.hid (equalP_any u v a b w ha hb hl hs)
  obtain ⟨A, c, us, rfl, -⟩ := ha
  obtain ⟨B, d, vs, rfl, -⟩ := hb
  clear hs
  go_enter Tryd.func45, Tryd.ntmps45
  go_wp2_with (go_at_call 75; refine HC.out.mono ?_; rintro e w1 ⟨rfl, hb1⟩)
  go_ret
  exact ⟨rfl, hb1⟩

set_option maxRecDepth 100000 in
theorem same_any (u v : Value) (a b : List (List Int)) (w : World) (ha : RL w u a) (hb : RL w v b) (hl : a.length ≤ 1000000) (hs : ∀ p ∈ a, p.length ≤ 1000000) :
    Calls Tryd.prog 45 #[u, v] w fun e w' => e = .returned (.bool (decide (a = b))) ∧ Below w.heap.size w w' := same_big u v a b w ha hb (Nat.le_trans hl (by decide)) fun p hp => Nat.le_trans (hs p hp) (by decide)
set_option maxHeartbeats 1000000 in
theorem check_any (v : Value) (l : List (List Int)) (w : World) (h : RL w v l) (hl : l.length ≤ 1000000) (hp : ∀ p ∈ l, p.length ≤ 1000000) :
    Calls Tryd.prog 23 #[v] w fun e w' => e = .returned (.int .i64 (chkV l)) ∧ Below w.heap.size w w' := by
  have HL := Lib.hid h
  have HC := Lib.hid (containsP_any v l w h hl hp)
  have HS := Lib.hid (fun (W : World) (a b : Value) (ha : RL W a l) (hb : RL W b [[-1]]) => same_any a b l [[-1]] W ha hb hl hp)
  obtain ⟨A, c, us, rfl, -⟩ := h
  have Hw := Lib.hid (show chkV l = if (decide (16 < (l.length : Int)) || l.any wrongP || decide (l = [[-1]])) then 150 else 0 by
    rw [chkV, isBad, show (decide (16 < l.length)) = decide (16 < (l.length : Int)) from decide_eq_decide.2 (by omega)])
  obtain ⟨n, hn⟩ : ∃ n, n = l.length := ⟨_, rfl⟩
  obtain ⟨r, hr⟩ : ∃ r, r = chkV l := ⟨_, rfl⟩
  obtain ⟨b, hb⟩ : ∃ b, b = l.any wrongP := ⟨_, rfl⟩
  obtain ⟨q, hq⟩ : ∃ q, q = decide (l = [[-1]]) := ⟨_, rfl⟩
  rw [← hr, ← hn, ← hb, ← hq] at Hw
  rw [← hn] at HL HC ⊢
  rw [← hb] at HC
  rw [← hq] at HS
  rw [← hr]
  clear hp hn hr hb hq hl
  go_enter Tryd.func23, Tryd.ntmps23
  by_cases h16 : (16 : Int) < (n : Int)
  · rw [decide_eq_true h16] at Hw
    go_wp2
    go_ret
    exact ⟨by rw [Hw.out]; rfl, Below.refl _ _⟩
  · rw [decide_eq_false h16] at Hw
    cases b
    · go_wp2_with (first
        | (go_at_call 43; refine HC.out.mono ?_; rintro e w1 ⟨rfl, hb1⟩)
        | (go_at_call 46; refine (unset_any _).mono ?_; rintro e w2 ⟨v2, rfl, hr2, hb2⟩; obtain ⟨A2, c2, us2, rfl, hz2⟩ := hr2; have HR2 := Lib.hid (show RL w2 (.slice A2 _ c2) [[-1]] from ⟨A2, c2, us2, rfl, hz2⟩); clear hz2)
        | (go_at_call 45; refine (HS.out _ _ _ ((HL.out.keep hb1).keep hb2) HR2.out).mono ?_; rintro e w3 ⟨rfl, hb3⟩))
      all_goals
        go_ret
        refine ⟨?_, up hb1 (up hb2 hb3)⟩
        rw [Hw.out]
        simp_all
    · go_wp2_with (go_at_call 43; refine HC.out.mono ?_; rintro e w1 ⟨rfl, hb1⟩)
      go_ret
      exact ⟨by rw [Hw.out]; rfl, hb1⟩
end Go.Proofs.YteepfecplabinaaDoor.Par

namespace Go.Proofs.YteepfecplabinaaDoor.Par
open Go.RowKit Utf

theorem RL.form {w : World} {v : Value} {l : List (List Int)} (h : RL w v l) : ∃ A c, v = .slice A l.length c := by
  obtain ⟨A, c, vs, rfl, -⟩ := h
  exact ⟨A, c, rfl⟩
theorem RL.item {w : World} {A : Option Addr} {n c : Nat} {l : List (List Int)} (h : RL w (.slice A n c) l) {k : Nat} {p : List Int} (hp : l[k]? = some p) : ∃ ad B cc, A = some ad ∧ ad.block < w.heap.size ∧ w.cell? (ad.add k) = some (.slice B p.length cc) ∧ p.length ≤ cc ∧ Rd w B (cI p) := by
  obtain ⟨A', c', vs, he, h1, h2, h3, h4, h5, h6⟩ := h
  have hk : k < l.length := (List.getElem?_eq_some_iff.1 hp).1
  obtain ⟨x, hx⟩ := get_some vs k (by omega)
  obtain ⟨B, cc, rfl, g1, _, _, g4⟩ := h6 k x p hx hp
  obtain ⟨ad, rfl, hlt, hc⟩ := h5 k _ hx
  cases he
  exact ⟨ad, B, cc, rfl, hlt, hc, g1, g4⟩
set_option maxRecDepth 100000 in
set_option maxHeartbeats 1000000 in
theorem value_neg (v : Value) (l : List (List Int)) (i n0 : Int) (w : World) (h : RL w v l) (hi : i < 0) : Calls Tryd.prog 93 #[v, .int .i64 i, .int .i64 n0] w fun e w' => e = .returned (.int .i64 n0) ∧ Below w.heap.size w w' := by
  obtain ⟨A, c, rfl⟩ := h.form
  obtain ⟨n, hn⟩ : ∃ n, n = l.length := ⟨_, rfl⟩
  rw [← hn]
  have g1 : decide (i < 0) = true := decide_eq_true (by omega)
  clear h hn
  go_enter Tryd.func93, Tryd.ntmps93
  go_wp2
  go_ret
  exact ⟨rfl, Below.refl _ _⟩
set_option maxRecDepth 100000 in
set_option maxHeartbeats 1000000 in
theorem value_far (v : Value) (l : List (List Int)) (i n0 : Int) (w : World) (h : RL w v l) (hi : 0 ≤ i) (hi2 : (l.length : Int) ≤ i) : Calls Tryd.prog 93 #[v, .int .i64 i, .int .i64 n0] w fun e w' => e = .returned (.int .i64 n0) ∧ Below w.heap.size w w' := by
  obtain ⟨A, c, rfl⟩ := h.form
  obtain ⟨n, hn⟩ : ∃ n, n = l.length := ⟨_, rfl⟩
  rw [← hn] at hi2 ⊢
  have g1 : decide (i < 0) = false := decide_eq_false (by omega)
  have g2 : decide ((n : Int) ≤ i) = true := decide_eq_true (by omega)
  clear h hn
  go_enter Tryd.func93, Tryd.ntmps93
  go_wp2
  go_ret
  exact ⟨rfl, Below.refl _ _⟩
set_option maxRecDepth 100000 in
set_option maxHeartbeats 1000000 in
theorem value_nil (v : Value) (l : List (List Int)) (k : Nat) (n0 : Int) (w : World) (h : RL w v l) (hp : l[k]? = some []) : Calls Tryd.prog 93 #[v, .int .i64 (k : Int), .int .i64 n0] w fun e w' => e = .returned (.int .i64 n0) ∧ Below w.heap.size w w' := by
  have hk : k < l.length := (List.getElem?_eq_some_iff.1 hp).1
  obtain ⟨A, c, rfl⟩ := h.form
  obtain ⟨ad, B, cc, rfl, -, hc, hcc, hB⟩ := h.item hp
  obtain ⟨n, hn⟩ : ∃ n, n = l.length := ⟨_, rfl⟩
  rw [← hn] at hk ⊢
  have g1 : decide ((k : Int) < 0) = false := decide_eq_false (by omega)
  have g2 : decide ((n : Int) ≤ (k : Int)) = false := decide_eq_false (by omega)
  have i1 : (0 : Int) ≤ (k : Int) := by omega
  have i2 : (k : Int) < (n : Int) := by omega
  clear h hn hp
  rw [show ([] : List Int).length = 0 from rfl] at hc
  clear hB
  go_enter Tryd.func93, Tryd.ntmps93
  go_wp2
  go_ret
  exact ⟨rfl, Below.refl _ _⟩
set_option maxRecDepth 100000 in
set_option maxHeartbeats 1000000 in
theorem value_low (v : Value) (l : List (List Int)) (k : Nat) (z n0 : Int) (q : List Int) (w : World) (h : RL w v l) (hp : l[k]? = some (z :: q)) (hz : z < 0) : Calls Tryd.prog 93 #[v, .int .i64 (k : Int), .int .i64 n0] w fun e w' => e = .returned (.int .i64 n0) ∧ Below w.heap.size w w' := by
  have hk : k < l.length := (List.getElem?_eq_some_iff.1 hp).1
  obtain ⟨A, c, rfl⟩ := h.form
  obtain ⟨ad, B, cc, rfl, -, hc, hcc, hB⟩ := h.item hp
  obtain ⟨n, hn⟩ : ∃ n, n = l.length := ⟨_, rfl⟩
  rw [← hn] at hk ⊢
  have g1 : decide ((k : Int) < 0) = false := decide_eq_false (by omega)
  have g2 : decide ((n : Int) ≤ (k : Int)) = false := decide_eq_false (by omega)
  have i1 : (0 : Int) ≤ (k : Int) := by omega
  have i2 : (k : Int) < (n : Int) := by omega
  clear h hn hp
  obtain ⟨bd, rfl, -, hz0⟩ := hB 0 (.int .i64 z) rfl
  rw [show bd.add 0 = bd from by unfold Addr.add; simp] at hz0
  obtain ⟨m, hm⟩ : ∃ m, m = q.length + 1 := ⟨_, rfl⟩
  rw [show (z :: q).length = m from hm.symm] at hc hcc
  have i3 : (0 : Int) < (m : Int) := by omega
  have g3 : ((m : Int) == 0) = false := by simp; omega
  have g4 : decide (z < 0) = true := decide_eq_true hz
  clear hB hm
  go_enter Tryd.func93, Tryd.ntmps93
  go_wp2
  go_ret
  exact ⟨rfl, Below.refl _ _⟩
set_option maxRecDepth 100000 in
set_option maxHeartbeats 1000000 in
theorem value_get (v : Value) (l : List (List Int)) (k : Nat) (z n0 : Int) (q : List Int) (w : World) (h : RL w v l) (hp : l[k]? = some (z :: q)) (hz : 0 ≤ z) : Calls Tryd.prog 93 #[v, .int .i64 (k : Int), .int .i64 n0] w fun e w' => e = .returned (.int .i64 z) ∧ Below w.heap.size w w' := by
  have hk : k < l.length := (List.getElem?_eq_some_iff.1 hp).1
  obtain ⟨A, c, rfl⟩ := h.form
  obtain ⟨ad, B, cc, rfl, -, hc, hcc, hB⟩ := h.item hp
  obtain ⟨n, hn⟩ : ∃ n, n = l.length := ⟨_, rfl⟩
  rw [← hn] at hk ⊢
  have g1 : decide ((k : Int) < 0) = false := decide_eq_false (by omega)
  have g2 : decide ((n : Int) ≤ (k : Int)) = false := decide_eq_false (by omega)
  have i1 : (0 : Int) ≤ (k : Int) := by omega
  have i2 : (k : Int) < (n : Int) := by omega
  clear h hn hp
  obtain ⟨bd, rfl, -, hz0⟩ := hB 0 (.int .i64 z) rfl
  rw [show bd.add 0 = bd from by unfold Addr.add; simp] at hz0
  obtain ⟨m, hm⟩ : ∃ m, m = q.length + 1 := ⟨_, rfl⟩
  rw [show (z :: q).length = m from hm.symm] at hc hcc
  have i3 : (0 : Int) < (m : Int) := by omega
  have g3 : ((m : Int) == 0) = false := by simp; omega
  have g4 : decide (z < 0) = false := decide_eq_false (by omega)
  clear hB hm
  go_enter Tryd.func93, Tryd.ntmps93
  go_wp2
  go_ret
  exact ⟨rfl, Below.refl _ _⟩
theorem value_any (v : Value) (l : List (List Int)) (i n0 : Int) (w : World) (h : RL w v l) : Calls Tryd.prog 93 #[v, .int .i64 i, .int .i64 n0] w fun e w' => e = .returned (.int .i64 (valV l i n0)) ∧ Below w.heap.size w w' := by
  by_cases h1 : i < 0
  · rw [valV, if_pos (.inl h1)]; exact value_neg v l i n0 w h h1
  · by_cases h2 : (l.length : Int) ≤ i
    · rw [valV, if_pos (.inr h2)]; exact value_far v l i n0 w h (by omega) h2
    · obtain ⟨k, rfl⟩ : ∃ k : Nat, i = k := ⟨i.toNat, by omega⟩
      obtain ⟨p, hp⟩ := get_some l k (by omega)
      have e : valV l (k : Int) n0 = match some p with | some (z :: _) => if z < 0 then n0 else z | _ => n0 := by
        rw [valV, if_neg (by omega), Int.toNat_natCast, hp]; cases p <;> rfl
      cases p with
      | nil => rw [e]; exact value_nil v l k n0 w h hp
      | cons z q =>
        by_cases h3 : z < 0
        · rw [show valV l (k : Int) n0 = n0 by rw [e]; simp [h3]]; exact value_low v l k z n0 q w h hp h3
        · rw [show valV l (k : Int) n0 = z by rw [e]; simp [h3]]; exact value_get v l k z n0 q w h hp (by omega)
end Go.Proofs.YteepfecplabinaaDoor.Par

namespace Go.Proofs.YteepfecplabinaaDoor.Par
open Go.RowKit Utf

set_option maxRecDepth 100000 in
set_option maxHeartbeats 2000000 in
theorem rsame_eq (u v : Value) (a b : List (List Int)) (w : World) (ha : RL w u a) (hb : RL w v b) (hl : a.length ≤ 9223372036854775807) (hs : ∀ p ∈ a, p.length ≤ 9223372036854775807) (hs2 : ∀ p ∈ b, p.length ≤ 9223372036854775807) (hne : a.length = b.length) :
    Calls Tryd.prog 20 #[u, v] w fun e w' => e = .returned (.bool (decide (a = b))) ∧ Below w.heap.size w w' := by
  obtain ⟨A, c, rfl⟩ := ha.form
  obtain ⟨B, d, rfl⟩ := hb.form
  obtain ⟨n, hn⟩ : ∃ n, n = a.length := ⟨_, rfl⟩
  have hn2 : n = b.length := hn.trans hne
  rw [← hn2]
  rw [← hn] at hl ⊢
  rw [← hn] at ha
  rw [← hn2] at hb
  have Ha := Lib.hid ha; clear ha
  have Hb := Lib.hid hb; clear hb
  have Hn := Lib.hid hn; clear hn
  have Hn2 := Lib.hid hn2; clear hn2
  have HS := Lib.hid hs; clear hs
  have HS2 := Lib.hid hs2; clear hs2 hne
  have hb1 : ((n : Int) != (n : Int)) = false := by simp
  go_enter Tryd.func20, Tryd.ntmps20
  go_wp2
  go_loopw [5] (fun i wr => ∃ k : Nat, k ≤ n ∧ i = .int .i64 k ∧ Hid (a.take k = b.take k ∧ Below w.heap.size w wr)) (fun i _ => n - (intOf i).toNat)
  case atStart => exact ⟨0, Nat.zero_le _, rfl, by simp [Hid]; exact Below.refl _ _⟩
  case round =>
    obtain ⟨k, hk, rfl, hid⟩ := hrel
    by_cases hlt : k < n
    · obtain ⟨p, hp⟩ := get_some a k (by rw [← Hn.out]; exact hlt)
      obtain ⟨q, hq⟩ := get_some b k (by rw [← Hn2.out]; exact hlt)
      obtain ⟨ad, XA, xc, rfl, hal, hcx, hxc, hrx⟩ := Ha.out.item hp
      obtain ⟨bd, YA, yc, rfl, hbl, hcy, hyc, hry⟩ := Hb.out.item hq
      have hcx1 := (hid.out.2.cell (p := ad.add k) (by rw [add_block]; exact hal)).trans hcx
      have hcy1 := (hid.out.2.cell (p := bd.add k) (by rw [add_block]; exact hbl)).trans hcy
      obtain ⟨m, hm⟩ : ∃ m, m = p.length := ⟨_, rfl⟩
      obtain ⟨o, ho⟩ : ∃ o, o = q.length := ⟨_, rfl⟩
      have hm1 : m ≤ 9223372036854775807 := by rw [hm]; exact HS.out p (List.mem_of_getElem? hp)
      have ho1 : o ≤ 9223372036854775807 := by rw [ho]; exact HS2.out q (List.mem_of_getElem? hq)
      rw [← hm] at hcx1 hxc hcx
      rw [← ho] at hcy1 hyc hcy
      have HP := Lib.hid hp; clear hp
      have HQ := Lib.hid hq; clear hq
      have HM := Lib.hid hm; clear hm
      have HO := Lib.hid ho; clear ho
      have HX := Lib.hid hrx; clear hrx
      have HY := Lib.hid hry; clear hry
      have HCX := Lib.hid hcx; clear hcx
      have HCY := Lib.hid hcy; clear hcy
      have i1 : (0 : Int) ≤ (k : Int) := by omega
      have i2 : (k : Int) < (n : Int) := by omega
      by_cases hmo : m = o
      · subst hmo
        have hq : ((m : Int) != (m : Int)) = false := by simp
        go_wp2
        go_quiet (fail)
        go_wp2
        go_loopw [6] (fun i wi => ∃ j : Nat, j ≤ m ∧ i = .int .i64 j ∧ Hid (p.take j = q.take j ∧ Below w.heap.size w wi)) (fun i _ => m - (intOf i).toNat)
        case atStart => exact ⟨0, Nat.zero_le _, rfl, by simp, below_drewN' hid.out.2 _⟩
        case round =>
          obtain ⟨j, hj, rfl, hin⟩ := hrel
          have hcx2 := (hin.out.2.cell (p := ad.add k) (by rw [add_block]; exact hal)).trans HCX.out
          have hcy2 := (hin.out.2.cell (p := bd.add k) (by rw [add_block]; exact hbl)).trans HCY.out
          clear hcx1 hcy1
          by_cases hjt : j < m
          · obtain ⟨x, hx⟩ := get_some p j (by rw [← HM.out]; exact hjt)
            obtain ⟨y, hy⟩ := get_some q j (by rw [← HO.out]; exact hjt)
            obtain ⟨xd, rfl, _, hxj⟩ := (HX.out.below hin.out.2) j _ (cI_at p j x hx)
            obtain ⟨yd, rfl, _, hyj⟩ := (HY.out.below hin.out.2) j _ (cI_at q j y hy)
            have Hx := Lib.hid hx; clear hx
            have Hy := Lib.hid hy; clear hy
            have j1 : (0 : Int) ≤ (j : Int) := by omega
            have j2 : (j : Int) < (m : Int) := by omega
            by_cases hxy : x = y
            · subst hxy
              have hq2 : (x != x) = false := by simp
              go_wp2
              go_quiet (fail)
              go_wp2
              go_roundw
              case rel => exact ⟨j + 1, by omega, by go_num, by rw [List.take_add_one, List.take_add_one, Hx.out, Hy.out, hin.out.1], below_drewN' hin.out.2 _⟩
              case measure => simp [intOf]; omega
            · have hq2 : (x != y) = true := by simp [hxy]
              have Hxy := Lib.hid hxy; clear hxy
              go_wp2
              go_quiet (fail)
              go_wp2
              go_ret
              refine ⟨?_, below_drewN' hin.out.2 _⟩
              rw [decide_eq_false (fun e : a = b => Hxy.out (by
                have h1 := HP.out
                rw [e, HQ.out] at h1
                have h2 := Hx.out
                rw [← (Option.some.inj h1), Hy.out] at h2
                exact (Option.some.inj h2).symm))]; rfl
          · go_wp2
            have hpq : p = q := by
              have := hin.out.1
              rw [show p.take j = p from List.take_of_length_le (by rw [← HM.out]; omega), show q.take j = q from List.take_of_length_le (by rw [← HO.out]; omega)] at this
              exact this
            exact ⟨⟨k + 1, by omega, by go_num, by rw [List.take_add_one, List.take_add_one, HP.out, HQ.out, hid.out.1, hpq], hin.out.2⟩, by simp [intOf]; omega⟩
      · have hq : ((m : Int) != (o : Int)) = true := by rw [bne_iff_ne]; omega
        have Hmo := Lib.hid hmo; clear hmo
        go_wp2
        go_quiet (fail)
        go_wp2
        go_ret
        refine ⟨?_, below_drewN' hid.out.2 _⟩
        rw [decide_eq_false (fun e : a = b => Hmo.out (by
          have h1 := HP.out
          rw [e, HQ.out] at h1
          rw [HM.out, HO.out]
          simpa using congrArg (Option.map List.length) h1.symm))]; rfl
    · go_wp2
      go_ret
      have he : a = b := by
        have := hid.out.1
        rw [List.take_of_length_le (by rw [← Hn.out]; omega), List.take_of_length_le (by rw [← Hn2.out]; omega)] at this
        exact this
      exact ⟨by rw [decide_eq_true he]; rfl, hid.out.2⟩
theorem rsame_big (u v : Value) (a b : List (List Int)) (w : World) (ha : RL w u a) (hb : RL w v b) (hl : a.length ≤ 9223372036854775807) (hs : ∀ p ∈ a, p.length ≤ 9223372036854775807) (hs2 : ∀ p ∈ b, p.length ≤ 9223372036854775807) :
    Calls Tryd.prog 20 #[u, v] w fun e w' => e = .returned (.bool (decide (a = b))) ∧ Below w.heap.size w w' := by
  by_cases hne : a.length = b.length
  · exact rsame_eq u v a b w ha hb hl hs hs2 hne
  · rw [decide_eq_false (fun e : a = b => hne (by rw [e]))]
    obtain ⟨A, c, rfl⟩ := ha.form
    obtain ⟨B, d, rfl⟩ := hb.form
    obtain ⟨n, hn⟩ : ∃ n, n = a.length := ⟨_, rfl⟩
    obtain ⟨m, hm⟩ : ∃ m, m = b.length := ⟨_, rfl⟩
    rw [← hn, ← hm] at hne ⊢
    have hb1 : ((n : Int) != (m : Int)) = true := by rw [bne_iff_ne]; omega
    clear ha hb hn hm
    go_enter Tryd.func20, Tryd.ntmps20
    go_wp2
    go_ret
    exact ⟨rfl, Below.refl _ _⟩
theorem rsame_any (u v : Value) (a b : List (List Int)) (w : World) (ha : RL w u a) (hb : RL w v b) (hl : a.length ≤ 1000000) (hs : ∀ p ∈ a, p.length ≤ 1000000) (hs2 : ∀ p ∈ b, p.length ≤ 1000000) :
    Calls Tryd.prog 20 #[u, v] w fun e w' => e = .returned (.bool (decide (a = b))) ∧ Below w.heap.size w w' := rsame_big u v a b w ha hb (Nat.le_trans hl (by decide)) (fun p hp => Nat.le_trans (hs p hp) (by decide)) fun p hp => Nat.le_trans (hs2 p hp) (by decide)
end Go.Proofs.YteepfecplabinaaDoor.Par

namespace Go.Proofs.YteepfecplabinaaDoor.Par
open Go.RowKit Utf

theorem chk_of_bad {l : List (List Int)} (h : isBad l = true) : chkV l = 150 := by unfold chkV; rw [h]; rfl
theorem bad_any {l : List (List Int)} (h : l.any wrongP = true) : isBad l = true := by
  unfold isBad; rw [h]; simp
theorem bad_long {l : List (List Int)} (h : 16 < l.length) : isBad l = true := by
  unfold isBad; rw [decide_eq_true h]; rfl
theorem chk_end {l : List (List Int)} (h1 : ¬ 16 < l.length) (h2 : l.any wrongP = false) : chkV l = if l = [[-1]] then 150 else 0 := by
  unfold chkV isBad
  rw [h2, decide_eq_false h1]
  by_cases h : l = [[-1]]
  · rw [if_pos h, if_pos (by simp [h])]
  · rw [if_neg h, if_neg (by simp [h])]
theorem wrongP_len {p : List Int} (h : p.length < 1 ∨ 6 < p.length) : wrongP p = true := by
  unfold wrongP
  rcases h with h | h
  · rw [decide_eq_true h]; rfl
  · rw [decide_eq_true h]; simp
theorem wrongP_num {p : List Int} (h : p.any wrongI = true) : wrongP p = true := by
  unfold wrongP; rw [h]; simp
theorem wrongP_no {p : List Int} (h1 : 1 ≤ p.length) (h2 : p.length ≤ 6) (h3 : p.any wrongI = false) : wrongP p = false := by
  unfold wrongP; rw [decide_eq_false (by omega), decide_eq_false (by omega), h3]; rfl
theorem add_zero3 (a : Addr) : a.add 0 = a := by unfold Addr.add; simp
set_option maxRecDepth 100000 in
set_option maxHeartbeats 8000000 in
theorem rcheck_any (v : Value) (l : List (List Int)) (w : World) (h : RL w v l) (hl : l.length ≤ 1000000) :
    Calls Tryd.prog 31 #[v] w fun e w' => e = .returned (.int .i64 (chkV l)) ∧ Below w.heap.size w w' := by
  obtain ⟨A, c, rfl⟩ := h.form
  obtain ⟨n, hn⟩ : ∃ n, n = l.length := ⟨_, rfl⟩
  rw [← hn] at h hl ⊢
  have HL := Lib.hid h; clear h
  have Hn := Lib.hid hn; clear hn
  by_cases h16 : (16 : Int) < (n : Int)
  · have d1 : decide ((16 : Int) < (n : Int)) = true := decide_eq_true h16
    rw [chk_of_bad (bad_long (by rw [← Hn.out]; omega))]
    go_enter Tryd.func31, Tryd.ntmps31
    go_wp2
    go_ret
    exact ⟨rfl, Below.refl _ _⟩
  · have d1 : decide ((16 : Int) < (n : Int)) = false := decide_eq_false h16
    go_enter Tryd.func31, Tryd.ntmps31
    go_wp2
    go_loopw [3] (fun i wr => ∃ k : Nat, k ≤ n ∧ i = .int .i64 k ∧ Hid ((l.take k).any wrongP = false ∧ Below w.heap.size w wr)) (fun i _ => n - (intOf i).toNat)
    case atStart => exact ⟨0, Nat.zero_le _, rfl, by simp [Hid]; exact Below.refl _ _⟩
    case round =>
      obtain ⟨k, hk, rfl, hid⟩ := hrel
      obtain ⟨W0, hW0⟩ : ∃ W0, W0 = wr := ⟨_, rfl⟩
      subst hW0
      by_cases hlt : k < n
      · obtain ⟨p, hp⟩ := get_some l k (by rw [← Hn.out]; exact hlt)
        obtain ⟨ad, XA, xc, rfl, hal, hcx, hxc, hrx⟩ := HL.out.item hp
        have hcx1 := (hid.out.2.cell (p := ad.add k) (by rw [add_block]; exact hal)).trans hcx
        obtain ⟨m, hm⟩ : ∃ m, m = p.length := ⟨_, rfl⟩
        rw [← hm] at hcx1 hxc
        clear hcx
        have HP := Lib.hid hp; clear hp
        have HM := Lib.hid hm; clear hm
        have HX := Lib.hid hrx; clear hrx
        have i1 : (0 : Int) ≤ (k : Int) := by omega
        have i2 : (k : Int) < (n : Int) := by omega
        have c1 : decide ((k : Int) < (n : Int)) = true := decide_eq_true (by omega)
        by_cases hm1 : m < 1
        · have e1 : decide ((m : Int) < 1) = true := decide_eq_true (by omega)
          go_wp2
          go_ret
          refine ⟨?_, hid.out.2⟩
          rw [chk_of_bad (bad_any (any_hit wrongP l k p HP.out (wrongP_len (.inl (by rw [← HM.out]; exact hm1)))))]
          rfl
        · have e1 : decide ((m : Int) < 1) = false := decide_eq_false (by omega)
          by_cases hm6 : 6 < m
          · have e2 : decide ((6 : Int) < (m : Int)) = true := decide_eq_true (by omega)
            go_wp2
            go_ret
            refine ⟨?_, hid.out.2⟩
            rw [chk_of_bad (bad_any (any_hit wrongP l k p HP.out (wrongP_len (.inr (by rw [← HM.out]; exact hm6)))))]
            rfl
          · have e2 : decide ((6 : Int) < (m : Int)) = false := decide_eq_false (by omega)
            go_wp2
            go_loopw [4] (fun i wi => ∃ j : Nat, j ≤ m ∧ i = .int .i64 j ∧ Hid ((p.take j).any wrongI = false ∧ Below w.heap.size w wi)) (fun i _ => m - (intOf i).toNat)
            case atStart => exact ⟨0, Nat.zero_le _, rfl, by simp, hid.out.2⟩
            case round =>
              obtain ⟨j, hj, rfl, hin⟩ := hrel
              have hcx2 := (hin.out.2.cell (p := ad.add k) (by rw [add_block]; exact hal)).trans ((hid.out.2.cell (p := ad.add k) (by rw [add_block]; exact hal)).symm.trans hcx1)
              by_cases hjt : j < m
              · obtain ⟨z, hz⟩ := get_some p j (by rw [← HM.out]; exact hjt)
                obtain ⟨xd, rfl, _, hxj⟩ := (HX.out.below hin.out.2) j _ (cI_at p j z hz)
                have Hz := Lib.hid hz; clear hz
                have j1 : (0 : Int) ≤ (j : Int) := by omega
                have j2 : (j : Int) < (m : Int) := by omega
                have c2 : decide ((j : Int) < (m : Int)) = true := decide_eq_true (by omega)
                clear hcx1
                by_cases hz1 : z < -1
                · have z1 : decide (z < -1) = true := decide_eq_true hz1
                  go_wp2
                  go_ret
                  refine ⟨?_, hin.out.2⟩
                  rw [chk_of_bad (bad_any (any_hit wrongP l k p HP.out (wrongP_num (any_hit wrongI p j z Hz.out (by unfold wrongI; rw [z1]; rfl)))))]
                  rfl
                · have z1 : decide (z < -1) = false := decide_eq_false hz1
                  by_cases hz2 : 9999 < z
                  · have z2 : decide ((9999 : Int) < z) = true := decide_eq_true hz2
                    go_wp2
                    go_ret
                    refine ⟨?_, hin.out.2⟩
                    rw [chk_of_bad (bad_any (any_hit wrongP l k p HP.out (wrongP_num (any_hit wrongI p j z Hz.out (by unfold wrongI; rw [z2]; simp)))))]
                    rfl
                  · have z2 : decide ((9999 : Int) < z) = false := decide_eq_false hz2
                    go_wp2
                    go_roundw
                    case rel => exact ⟨j + 1, by omega, by go_num, by rw [any_take wrongI p j z Hz.out, hin.out.1]; unfold wrongI; rw [z1, z2]; rfl, hin.out.2⟩
                    case measure => simp [intOf]; omega
              · have c2 : decide ((j : Int) < (m : Int)) = false := decide_eq_false (by omega)
                clear hcx1
                go_wp2
                have hw : wrongP p = false := by
                  have := hin.out.1
                  rw [List.take_of_length_le (by rw [← HM.out]; omega)] at this
                  exact wrongP_no (by rw [← HM.out]; omega) (by rw [← HM.out]; omega) this
                exact ⟨⟨k + 1, by omega, by go_num, by rw [any_take wrongP l k p HP.out, hid.out.1, hw]; rfl, hin.out.2⟩, by simp [intOf]; omega⟩
      · have c1 : decide ((k : Int) < (n : Int)) = false := decide_eq_false (by omega)
        have hend : chkV l = if l = [[-1]] then 150 else 0 := by
          have := hid.out.1
          rw [List.take_of_length_le (by rw [← Hn.out]; omega)] at this
          exact chk_end (by rw [← Hn.out]; omega) this
        have HE := Lib.hid hend; clear hend
        have HRL := HL.out.keep hid.out.2
        by_cases h1 : n = 1
        · obtain ⟨p, hp⟩ : ∃ p, l = [p] := by
            match l, (show l.length = 1 by rw [← Hn.out, h1]) with
            | [p], _ => exact ⟨p, rfl⟩
          subst hp
          subst h1
          obtain ⟨ad, B', cc, rfl, -, hc, hcc, hB'⟩ := HRL.item (k := 0) (p := p) rfl
          rw [add_zero3] at hc
          by_cases h2 : p.length = 1
          · obtain ⟨z, hz⟩ : ∃ z, p = [z] := by
              match p, h2 with
              | [z], _ => exact ⟨z, rfl⟩
            subst hz
            obtain ⟨zd, rfl, _, hzc⟩ := hB' 0 (.int .i64 z) rfl
            rw [add_zero3] at hzc
            rw [show ([z] : List Int).length = 1 from rfl] at hc hcc
            by_cases h3 : z = -1
            · subst h3
              go_wp2
              go_ret
              exact ⟨by rw [HE.out]; rfl, hid.out.2⟩
            · have e3 : ((z : Int) == -1) = false := by simp [h3]
              have H3 := Lib.hid h3; clear h3
              go_wp2
              go_ret
              exact ⟨by rw [HE.out, if_neg (fun e => H3.out (by simpa using e))]; rfl, hid.out.2⟩
          · generalize hpl : p.length = pl at hc hcc h2
            have e2 : ((pl : Int) == 1) = false := by simp; omega
            have H2 := Lib.hid (show ¬ p = [-1] from fun e => h2 (by rw [← hpl, e]; rfl))
            clear h2 hpl
            go_wp2
            go_ret
            exact ⟨by rw [HE.out, if_neg (fun e => H2.out (by simpa using e))]; rfl, hid.out.2⟩
        · have e1 : ((n : Int) == 1) = false := by simp; omega
          have H1 := Lib.hid (show ¬ l = [[-1]] from fun e => h1 (by rw [Hn.out, e]; rfl))
          clear h1 HRL
          go_wp2
          go_ret
          exact ⟨by rw [HE.out, if_neg H1.out]; rfl, hid.out.2⟩
end Go.Proofs.YteepfecplabinaaDoor.Par
