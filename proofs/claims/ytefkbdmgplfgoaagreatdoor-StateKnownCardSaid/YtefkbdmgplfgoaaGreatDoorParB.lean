/-
  Contracts of unset, Same and Check.
-/
import Derived.Test.YtefkbdmgplfgoaaGreatDoorParA
import Derived.Deep.RegionHeld3
import Derived.Deep.RegionWith
namespace Go.Proofs.YtefkbdmgplfgoaaGreatDoor.Par
open Go.RowKit Utf

theorem add_block (a : Addr) (k : Nat) : (a.add k).block = a.block := by unfold Addr.add; split <;> rfl
theorem Rd.lit (w : World) (cs : List Value) (t : TypeId) : Rd (w.alloc (.cells cs.toArray t)) (some ⟨w.heap.size, 0, none⟩) cs := fun j u hu =>
  ⟨_, rfl, by simp, by
    rw [Addr.add_lit, Nat.zero_add]
    unfold World.cell?
    rw [heap_alloc_new]
    simp [hu]⟩
/-- a literal of numbers -/
theorem RI.lit (w : World) (zs : List Int) (n : Nat) (hn : n = zs.length) (hl : n ≤ maxLen) (t : TypeId) : RI (w.alloc (.cells (cI zs).toArray t)) (.slice (some ⟨w.heap.size, 0, none⟩) n n) zs := by
  subst hn
  exact ⟨_, _, rfl, Nat.le_refl _, hl, (fun h => by cases h), Rd.lit w (cI zs) t⟩
/-- a literal of parameters -/
theorem RL.lit (w : World) (vs : List Value) (l : List (List Int)) (n : Nat) (hn : n = l.length) (hv : vs.length = l.length) (hl : n ≤ maxLen) (t : TypeId) (h : ∀ (j : Nat) (x : Value) (p : List Int), vs[j]? = some x → l[j]? = some p → RI w x p) :
    RL (w.alloc (.cells vs.toArray t)) (.slice (some ⟨w.heap.size, 0, none⟩) n n) l := by
  subst hn
  exact ⟨_, _, vs, rfl, Nat.le_refl _, hl, (fun h => by cases h), hv, Rd.lit w vs t, fun j x p hx hp => (h j x p hx hp).keep (below_box _ _)⟩
theorem unset_any (w : World) : Calls Tryz.prog 81 #[] w fun e w' => ∃ v, e = .returned v ∧ RL w' v [[-1]] ∧ Below w.heap.size w w' := by
  go_enter Tryz.func81, Tryz.ntmps81
  go_wp2
  go_ret
  have h1 := RI.lit w [-1] 1 rfl (by decide) 3
  have h2 := RL.lit (w.alloc (.cells #[.int .i64 (-1)] 3)) [.slice (some ⟨w.heap.size, 0, none⟩) 1 1] [[-1]] 1 rfl rfl (by decide) 58 (fun j x p hx hp => by
    cases j with
    | zero => simp at hx hp; subst hx; subst hp; exact h1
    | succ j => simp at hx)
  rw [World.size_alloc] at h2
  exact ⟨_, rfl, h2, up (below_box _ _) (below_box _ _)⟩

set_option maxRecDepth 100000 in
set_option maxHeartbeats 1000000 in
theorem equalI_any (u v : Value) (p q : List Int) (w : World) (hp : RI w u p) (hq : RI w v q) (hl : p.length ≤ 1000000) :
    Calls Tryz.prog 58 #[u, v] w fun e w' => e = .returned (.bool (decide (p = q))) ∧ Below w.heap.size w w' := by
  obtain ⟨A, c, rfl, -, -, -, hx⟩ := hp
  obtain ⟨B, d, rfl, -, -, -, hy⟩ := hq
  have HX := Lib.hid hx; clear hx
  have HY := Lib.hid hy; clear hy
  by_cases hne : p.length = q.length
  · have Hne := Lib.hid hne; clear hne
    obtain ⟨n, hn⟩ : ∃ n, n = p.length := ⟨_, rfl⟩
    have hn2 : n = q.length := hn.trans Hne.out
    rw [← hn2]
    rw [← hn] at hl ⊢
    have Hn := Lib.hid hn; clear hn
    have Hn2 := Lib.hid hn2; clear hn2
    have hb1 : ((n : Int) != (n : Int)) = false := by simp
    go_enter Tryz.func58, Tryz.ntmps58
    go_wp2
    go_loopw [13] (fun i wr => ∃ k : Nat, k ≤ n ∧ i = .int .i64 k ∧ Hid (p.take k = q.take k ∧ Below w.heap.size w wr)) (fun i _ => n - (intOf i).toNat)
    case atStart => exact ⟨0, Nat.zero_le _, rfl, by simp [Hid]; exact Below.refl _ _⟩
    case round =>
      obtain ⟨k, hk, rfl, hid⟩ := hrel
      by_cases hlt : k < n
      · obtain ⟨x, hxk⟩ := get_some p k (by rw [← Hn.out]; exact hlt)
        obtain ⟨y, hyk⟩ := get_some q k (by rw [← Hn2.out]; exact hlt)
        obtain ⟨ad, rfl, _, hcx⟩ := (HX.out.below hid.out.2) k _ (cI_at p k x hxk)
        obtain ⟨bd, rfl, _, hcy⟩ := (HY.out.below hid.out.2) k _ (cI_at q k y hyk)
        have HxK := Lib.hid hxk; clear hxk
        have HyK := Lib.hid hyk; clear hyk
        have i1 : (0 : Int) ≤ (k : Int) := by omega
        have i2 : (k : Int) < (n : Int) := by omega
        by_cases hxy : x = y
        · subst hxy
          have hq : (x != x) = false := by simp
          go_wp2
          go_quiet (fail)
          go_wp2
          go_roundw
          case rel => exact ⟨k + 1, by omega, by go_num, by rw [List.take_add_one, List.take_add_one, HxK.out, HyK.out, hid.out.1], below_drewN' hid.out.2 _⟩
          case measure => simp [intOf]; omega
        · have hq : (x != y) = true := by simp [hxy]
          have Hxy := Lib.hid hxy; clear hxy
          go_wp2
          go_quiet (fail)
          go_wp2
          go_ret
          refine ⟨?_, below_drewN' hid.out.2 _⟩
          rw [decide_eq_false (fun e : p = q => Hxy.out (by have h1 := HxK.out; rw [e, HyK.out] at h1; simpa using h1.symm))]; rfl
      · go_wp2
        go_ret
        have he : p = q := by
          have := hid.out.1
          rw [List.take_of_length_le (by rw [← Hn.out]; omega), List.take_of_length_le (by rw [← Hn2.out]; omega)] at this
          exact this
        exact ⟨by rw [decide_eq_true he]; rfl, hid.out.2⟩
  · have Hne := Lib.hid hne
    have hb1 : ((p.length : Int) != (q.length : Int)) = true := by rw [bne_iff_ne]; omega
    clear hne HX HY
    go_enter Tryz.func58, Tryz.ntmps58
    go_wp2
    go_ret
    exact ⟨by rw [decide_eq_false (fun e : p = q => Hne.out (by rw [e]))]; rfl, Below.refl _ _⟩

theorem same1_any (u v : Value) (p q : List Int) (w : World) (hp : RI w u p) (hq : RI w v q) (hl : p.length ≤ 1000000) :
    Calls Tryz.prog 57 #[.agg #[u], .agg #[v]] w fun e w' => e = .returned (.bool (decide (p = q))) ∧ Below w.heap.size w w' := by
  have hb : Below w.heap.size w ((w.alloc (.cells #[u] 58)).alloc (.cells #[v] 58)) := up (below_box _ _) (below_box _ _)
  have HC := Lib.hid (equalI_any u v p q _ (hp.keep hb) (hq.keep hb) hl)
  have HB := Lib.hid hb
  obtain ⟨A, c, rfl, _⟩ := hp
  obtain ⟨B, d, rfl, _⟩ := hq
  clear hb
  go_enter Tryz.func57, Tryz.ntmps57
  go_wp2_with (go_at_call 58; refine HC.out.mono ?_; rintro e w1 ⟨rfl, hb1⟩)
  go_ret
  exact ⟨rfl, up HB.out hb1⟩

set_option maxRecDepth 100000 in
set_option maxHeartbeats 2000000 in
theorem equalP_any (u v : Value) (a b : List (List Int)) (w : World) (ha : RL w u a) (hb : RL w v b) (hl : a.length ≤ 1000000) (hs : ∀ p ∈ a, p.length ≤ 1000000) :
    Calls Tryz.prog 56 #[u, v, .func (.func 57) #[] #[]] w fun e w' => e = .returned (.bool (decide (a = b))) ∧ Below w.heap.size w w' := by
  obtain ⟨A, c, us, rfl, -, -, -, hu, hx, hxi⟩ := ha
  obtain ⟨B, d, vs, rfl, -, -, -, hv, hy, hyi⟩ := hb
  have HX := Lib.hid (And.intro hx hxi); clear hx hxi
  have HY := Lib.hid (And.intro hy hyi); clear hy hyi
  have Hu := Lib.hid hu; clear hu
  have Hv := Lib.hid hv; clear hv
  have HS := Lib.hid hs; clear hs
  by_cases hne : a.length = b.length
  · have Hne := Lib.hid hne; clear hne
    obtain ⟨n, hn⟩ : ∃ n, n = a.length := ⟨_, rfl⟩
    have hn2 : n = b.length := hn.trans Hne.out
    rw [← hn2]
    rw [← hn] at hl ⊢
    have Hn := Lib.hid hn; clear hn
    have Hn2 := Lib.hid hn2; clear hn2
    have hb1 : ((n : Int) != (n : Int)) = false := by simp
    go_enter Tryz.func56, Tryz.ntmps56
    go_wp2
    go_loopw [17] (fun i wr => ∃ k : Nat, k ≤ n ∧ i = .int .i64 k ∧ Hid (a.take k = b.take k ∧ Below w.heap.size w wr)) (fun i _ => n - (intOf i).toNat)
    case atStart => exact ⟨0, Nat.zero_le _, rfl, by simp [Hid]; exact Below.refl _ _⟩
    case round =>
      obtain ⟨k, hk, rfl, hid⟩ := hrel
      by_cases hlt : k < n
      · obtain ⟨p, hpk⟩ := get_some a k (by rw [← Hn.out]; exact hlt)
        obtain ⟨q, hqk⟩ := get_some b k (by rw [← Hn2.out]; exact hlt)
        obtain ⟨x, hxk⟩ := get_some us k (by rw [Hu.out, ← Hn.out]; exact hlt)
        obtain ⟨y, hyk⟩ := get_some vs k (by rw [Hv.out, ← Hn2.out]; exact hlt)
        obtain ⟨ad, rfl, hal, hcx⟩ := (HX.out.1.below hid.out.2) k _ hxk
        obtain ⟨bd, rfl, hbl, hcy⟩ := (HY.out.1.below hid.out.2) k _ hyk
        have hB : Below wr.heap.size wr ((wr.alloc (.cells #[x] 58)).alloc (.cells #[y] 58)) := up (below_box _ _) (below_box _ _)
        have HC := Lib.hid (same1_any x y p q _ (((HX.out.2 k x p hxk hpk).keep hid.out.2).keep hB) (((HY.out.2 k y q hyk hqk).keep hid.out.2).keep hB) (HS.out p (List.mem_of_getElem? hpk)))
        obtain ⟨XA, xc, rfl, -⟩ := HX.out.2 k x p hxk hpk
        obtain ⟨YA, yc, rfl, -⟩ := HY.out.2 k y q hyk hqk
        obtain ⟨m, hm⟩ : ∃ m, m = p.length := ⟨_, rfl⟩
        obtain ⟨o, ho⟩ : ∃ o, o = q.length := ⟨_, rfl⟩
        rw [← hm] at hcx hxk
        rw [← ho] at hcy hyk
        rw [← hm, ← ho] at HC
        rw [← hm, ← ho] at hB
        clear hm ho
        have hcy2 := ((below_box wr (.cells #[.slice XA m xc] 58)).cell (p := bd.add k) (by rw [add_block]; exact hbl)).trans hcy
        have HB := Lib.hid hB
        have HpK := Lib.hid hpk
        have HqK := Lib.hid hqk
        have HxK := Lib.hid hxk
        have HyK := Lib.hid hyk
        clear hpk hqk hxk hyk hB
        have i1 : (0 : Int) ≤ (k : Int) := by omega
        have i2 : (k : Int) < (n : Int) := by omega
        go_wp2_with (go_at_call 57; refine HC.out.mono ?_; rintro e w1 ⟨rfl, hb1⟩)
        · have hx : (!decide (p = q)) = true := by assumption
          have hh : ¬ p = q := by simpa using hx
          go_ret
          refine ⟨?_, up hid.out.2 (up HB.out hb1)⟩
          rw [decide_eq_false (fun e : a = b => hh (by have h1 := HpK.out; rw [e, HqK.out] at h1; simpa using h1.symm))]; rfl
        · have hx : (!decide (p = q)) = false := by assumption
          have hh : p = q := by simpa using hx
          go_roundw
          case rel => exact ⟨k + 1, by omega, by go_num, by rw [List.take_add_one, List.take_add_one, HpK.out, HqK.out, hid.out.1, hh], up hid.out.2 (up HB.out hb1)⟩
          case measure => simp [intOf]; omega
      · go_wp2
        go_ret
        have he : a = b := by
          have := hid.out.1
          rw [List.take_of_length_le (by rw [← Hn.out]; omega), List.take_of_length_le (by rw [← Hn2.out]; omega)] at this
          exact this
        exact ⟨by rw [decide_eq_true he]; rfl, hid.out.2⟩
  · have Hne := Lib.hid hne
    have hb1 : ((a.length : Int) != (b.length : Int)) = true := by rw [bne_iff_ne]; omega
    clear hne HX HY
    go_enter Tryz.func56, Tryz.ntmps56
    go_wp2
    go_ret
    exact ⟨by rw [decide_eq_false (fun e : a = b => Hne.out (by rw [e]))]; rfl, Below.refl _ _⟩

theorem same_any (u v : Value) (a b : List (List Int)) (w : World) (ha : RL w u a) (hb : RL w v b) (hl : a.length ≤ 1000000) (hs : ∀ p ∈ a, p.length ≤ 1000000) :
    Calls Tryz.prog 31 #[u, v] w fun e w' => e = .returned (.bool (decide (a = b))) ∧ Below w.heap.size w w' := by
  have HC := Lib.hid (equalP_any u v a b w ha hb hl hs)
  obtain ⟨A, c, us, rfl, -⟩ := ha
  obtain ⟨B, d, vs, rfl, -⟩ := hb
  clear hs
  go_enter Tryz.func31, Tryz.ntmps31
  go_wp2_with (go_at_call 56; refine HC.out.mono ?_; rintro e w1 ⟨rfl, hb1⟩)
  go_ret
  exact ⟨rfl, hb1⟩

set_option maxRecDepth 100000 in
set_option maxHeartbeats 1000000 in
theorem check_any (v : Value) (l : List (List Int)) (w : World) (h : RL w v l) (hl : l.length ≤ 1000000) (hp : ∀ p ∈ l, p.length ≤ 1000000) :
    Calls Tryz.prog 45 #[v] w fun e w' => e = .returned (.int .i64 (chkV l)) ∧ Below w.heap.size w w' := by
  have HL := Lib.hid h
  have HC := Lib.hid (containsP_any v l w h hl hp)
  have HS := Lib.hid (fun (W : World) (a b : Value) (ha : RL W a l) (hb : RL W b [[-1]]) => same_any a b l [[-1]] W ha hb hl hp)
  obtain ⟨A, c, us, rfl, -⟩ := h
  have Hw := Lib.hid (show chkV l = if (decide (16 < (l.length : Int)) || l.any wrongP || decide (l = [[-1]])) then 150 else 0 by
    rw [chkV, isBad, show (decide (16 < l.length)) = decide (16 < (l.length : Int)) from decide_eq_decide.2 (by omega)])
  obtain ⟨n, hn⟩ : ∃ n, n = l.length := ⟨_, rfl⟩
  obtain ⟨r, hr⟩ : ∃ r, r = chkV l := ⟨_, rfl⟩
  obtain ⟨b, hb⟩ : ∃ b, b = l.any wrongP := ⟨_, rfl⟩
  obtain ⟨q, hq⟩ : ∃ q, q = decide (l = [[-1]]) := ⟨_, rfl⟩
  rw [← hr, ← hn, ← hb, ← hq] at Hw
  rw [← hn] at HL HC ⊢
  rw [← hb] at HC
  rw [← hq] at HS
  rw [← hr]
  clear hp hn hr hb hq hl
  go_enter Tryz.func45, Tryz.ntmps45
  by_cases h16 : (16 : Int) < (n : Int)
  · rw [decide_eq_true h16] at Hw
    go_wp2
    go_ret
    exact ⟨by rw [Hw.out]; rfl, Below.refl _ _⟩
  · rw [decide_eq_false h16] at Hw
    cases b
    · go_wp2_with (first
        | (go_at_call 79; refine HC.out.mono ?_; rintro e w1 ⟨rfl, hb1⟩)
        | (go_at_call 81; refine (unset_any _).mono ?_; rintro e w2 ⟨v2, rfl, hr2, hb2⟩; obtain ⟨A2, c2, us2, rfl, hz2⟩ := hr2; have HR2 := Lib.hid (show RL w2 (.slice A2 _ c2) [[-1]] from ⟨A2, c2, us2, rfl, hz2⟩); clear hz2)
        | (go_at_call 31; refine (HS.out _ _ _ ((HL.out.keep hb1).keep hb2) HR2.out).mono ?_; rintro e w3 ⟨rfl, hb3⟩))
      all_goals
        go_ret
        refine ⟨?_, up hb1 (up hb2 hb3)⟩
        rw [Hw.out]
        simp_all
    · go_wp2_with (go_at_call 79; refine HC.out.mono ?_; rintro e w1 ⟨rfl, hb1⟩)
      go_ret
      exact ⟨by rw [Hw.out]; rfl, hb1⟩
end Go.Proofs.YtefkbdmgplfgoaaGreatDoor.Par
