/-
  Contracts of changeLast and add for parameters, and of addPart's closure.
-/
import Derived.Test.YtefkbdmgplfgoaaGreatDoorParC
namespace Go.Proofs.YtefkbdmgplfgoaaGreatDoor.Par
open Go.RowKit Utf

theorem RO.of {P : Value → Prop} {w' : World} {v : Value} {us : List Value} {l : List (List Int)} {B B' n : Nat} (hown : w'.ownsRow B 58 1 v n us) (hl : us.length = l.length) (hr : RL w' v l) (hB : B' ≤ B) (hP : ∀ x ∈ us, P x) : ROP P B' w' v l := by
  have : n = l.length := by have := hown.1; omega
  subst this
  exact ⟨hr, us, own_mono hown hB, hP⟩
theorem RL.snoc {w' : World} {v x : Value} {us : List Value} {ls : List (List Int)} {p' : List Int} {B n : Nat} (hown : w'.ownsRow B 58 1 v n (us ++ [x])) (hv : us.length = ls.length) (hi : ∀ (j : Nat) (y : Value) (q : List Int), us[j]? = some y → ls[j]? = some q → RI w' y q) (hx : RI w' x p') : RL w' v (ls ++ [p']) := by
  refine RL.grew hown (by simp [hv]) (fun j y q hy hq => ?_)
  by_cases h : j < us.length
  · rw [List.getElem?_append_left h] at hy
    rw [List.getElem?_append_left (by omega)] at hq
    exact hi j y q hy hq
  · rw [List.getElem?_append_right (by omega)] at hy
    rw [List.getElem?_append_right (by omega), ← hv] at hq
    obtain h0 | h0 : j - us.length = 0 ∨ 0 < j - us.length := by omega
    · rw [h0] at hy hq
      simp at hy hq
      subst hy; subst hq
      exact hx
    · rw [List.getElem?_eq_none (by simp; omega)] at hy
      cases hy
set_option maxRecDepth 100000 in
set_option maxHeartbeats 1000000 in
theorem partP_room (v : Value) (p : List Int) (w : World) (h : RI w v p) (hl : p.length ≤ 1000000) (hm : (p.length : Int) < 6) :
    Calls Tryz.prog 133 #[.agg #[v]] w fun e w' => ∃ v', e = .returned (.tuple #[.agg #[v'], .int .i64 0]) ∧ (RI w' v' (p ++ [-1]) ∧ Hi w.heap.size v') ∧ Below w.heap.size w w' := by
  have hb1 : Below w.heap.size w ((w.alloc (.cells #[v] 58)).alloc (.cells #[.slice none 0 0] 58)) := up (below_box _ _) (below_box _ _)
  have HC := Lib.hid (addI_room v p (-1) 6 _ (h.keep hb1) hl hm)
  have HB := Lib.hid hb1; clear hb1
  obtain ⟨A, c, rfl, -⟩ := h
  obtain ⟨n, hn'⟩ : ∃ n, n = p.length := ⟨_, rfl⟩
  rw [← hn'] at HC HB ⊢
  clear hn' hl hm
  have hX : Box ((w.alloc (.cells #[.slice A n c] 58)).alloc (.cells #[.slice none 0 0] 58)) (w.heap.size + 1) [.slice none 0 0] := by
    have := Box.new (w.alloc (.cells #[.slice A n c] 58)) #[.slice none 0 0] 58
    rwa [World.size_alloc] at this
  have HX := Lib.hid hX; clear hX
  go_enter Tryz.func133, Tryz.ntmps133
  go_wp2_with (go_at_call 134; refine HC.out.mono ?_; rintro e w1 ⟨v1, rfl, ⟨h1, hh1⟩, hb2⟩; obtain ⟨A1, c1, rfl, hz1⟩ := h1; have Hh1 := Lib.hid hh1; clear hh1; have hX1 := HX.out.keep hb2; have x1 := hX1.cell 0 _ rfl; have x2 := hX1.free 0 (by show 0 < 1; decide); have H1 := Lib.hid (show RI w1 (.slice A1 _ c1) (p ++ [-1]) from ⟨A1, c1, rfl, hz1⟩); clear hz1; have HX1 := Lib.hid hX1; clear hX1; obtain ⟨m, hm⟩ : ∃ m, m = (p ++ [-1]).length := ⟨_, rfl⟩; rw [← hm] at H1 Hh1; rw [← hm]; clear hm)
  have hz := hb2.size
  rw [World.size_alloc, World.size_alloc] at hz
  refine bodyPost_ret (ret_cell rfl _ _ ⟨w.heap.size + 1, 0, none⟩ _ rfl (load_par _ _ _ ((HX1.out.set 0 _).cell 0 _ rfl))) rfl ?_
  exact ⟨_, rfl, ⟨H1.out.set Hh1.out (by simp), Hh1.out.mono (by simp; omega)⟩, (up HB.out hb2).setCell (p := ⟨w.heap.size + 1, 0, none⟩) (by show w.heap.size ≤ w.heap.size + 1; omega) _⟩
set_option maxRecDepth 100000 in
set_option maxHeartbeats 1000000 in
theorem partP_full (v : Value) (p : List Int) (w : World) (h : RI w v p) (hm : (6 : Int) ≤ (p.length : Int)) :
    Calls Tryz.prog 133 #[.agg #[v]] w fun e w' => e = .returned (.tuple #[.agg #[.slice none 0 0], .int .i64 3]) ∧ Below w.heap.size w w' := by
  have hb1 : Below w.heap.size w ((w.alloc (.cells #[v] 58)).alloc (.cells #[.slice none 0 0] 58)) := up (below_box _ _) (below_box _ _)
  have HC := Lib.hid (addI_full v p (-1) 6 _ (h.keep hb1) hm)
  have HB := Lib.hid hb1; clear hb1
  obtain ⟨A, c, rfl, -⟩ := h
  obtain ⟨n, hn'⟩ : ∃ n, n = p.length := ⟨_, rfl⟩
  rw [← hn'] at HC HB ⊢
  clear hn' hm
  have hX : Box ((w.alloc (.cells #[.slice A n c] 58)).alloc (.cells #[.slice none 0 0] 58)) (w.heap.size + 1) [.slice none 0 0] := by
    have := Box.new (w.alloc (.cells #[.slice A n c] 58)) #[.slice none 0 0] 58
    rwa [World.size_alloc] at this
  have HX := Lib.hid hX; clear hX
  go_enter Tryz.func133, Tryz.ntmps133
  go_wp2_with (go_at_call 134; refine HC.out.mono ?_; rintro e w1 ⟨rfl, hb2⟩; have hX1 := HX.out.keep hb2; have x1 := hX1.cell 0 _ rfl; have x2 := hX1.free 0 (by show 0 < 1; decide); have HX1 := Lib.hid hX1; clear hX1)
  have hz := hb2.size
  rw [World.size_alloc, World.size_alloc] at hz
  refine bodyPost_ret (ret_cell rfl _ _ ⟨w.heap.size + 1, 0, none⟩ _ rfl (load_par _ _ _ ((HX1.out.set 0 _).cell 0 _ rfl))) rfl ?_
  exact ⟨rfl, (up HB.out hb2).setCell (p := ⟨w.heap.size + 1, 0, none⟩) (by show w.heap.size ≤ w.heap.size + 1; omega) _⟩
set_option maxRecDepth 100000 in
set_option maxHeartbeats 1000000 in
theorem changeD_ok (P : Value → Prop) (v : Value) (ls : List (List Int)) (p p' : List Int) (q : Nat) (w : World) (h : RL w v (ls ++ [p])) (hP : PL P w v) (hF : Fresh P w.heap.size) (hl : ls.length ≤ 1000000)
    (hf : ∀ x, RI w x p → Calls Tryz.prog 130 #[.agg #[x], .pointer (some ⟨q, 0, none⟩)] w fun e w' => ∃ v', e = .returned (.tuple #[.agg #[v'], .int .i64 0]) ∧ (RI w' v' p' ∧ Hi w.heap.size v') ∧ Below w.heap.size w w') :
    Calls Tryz.prog 129 #[v, .func (.func 130) #[] #[.pointer (some ⟨q, 0, none⟩)]] w fun e w' => ∃ v', e = .returned (.tuple #[v', .int .i64 0]) ∧ ROP P w.heap.size w' v' (ls ++ [p']) ∧ Below w.heap.size w w' := by
  obtain ⟨A, c, vs, rfl, hcc, hc2, hA, hv, hr, hi⟩ := h
  obtain ⟨n, hn'⟩ : ∃ n, n = ls.length := ⟨_, rfl⟩
  rw [List.length_append, List.length_singleton, ← hn'] at hcc hv ⊢
  rw [← hn'] at hl
  obtain ⟨x, hx⟩ := get_some vs n (by omega)
  have hix := hi n x p hx (by rw [hn']; simp)
  obtain ⟨ad, rfl, hlt, hcell⟩ := hr n x hx
  have hr2 : Rd w (some ad) (vs.take n) := fun j u hu => hr j u (by
    have : j < n := by have := (List.getElem?_eq_some_iff.1 hu).1; rw [List.length_take] at this; omega
    rwa [List.getElem?_take_of_lt this] at hu)
  have hi2 : ∀ (j : Nat) (y : Value) (q : List Int), (vs.take n)[j]? = some y → ls[j]? = some q → RI w y q := fun j y q hy hq => by
    have : j < n := by have := (List.getElem?_eq_some_iff.1 hy).1; rw [List.length_take] at this; omega
    rw [List.getElem?_take_of_lt this] at hy
    exact hi j y q hy (by rw [List.getElem?_append_left (by omega)]; exact hq)
  have hv2 : (vs.take n).length = n := by rw [List.length_take]; omega
  have HPs := Lib.hid (show ∀ y ∈ vs.take n, P y from fun y hy => by
    obtain ⟨j, hj⟩ := List.getElem?_of_mem hy
    have hjn : j < n := by have := (List.getElem?_eq_some_iff.1 hj).1; omega
    obtain ⟨ad', e', _, hc'⟩ := hr2 j y hj
    cases e'
    exact hP _ _ _ j y rfl (by simp; omega) hc')
  have HFr := Lib.hid hF
  clear hP hF
  obtain ⟨us, hus⟩ : ∃ us, us = vs.take n := ⟨_, rfl⟩
  rw [← hus] at hr2 hi2 hv2 HPs
  have HR := Lib.hid hr2
  have HI := Lib.hid hi2
  have HV := Lib.hid hv2
  have Hn := Lib.hid hn'
  have HF := Lib.hid (hf x hix)
  obtain ⟨XA, xc, rfl, -⟩ := hix
  obtain ⟨k, hk⟩ : ∃ k, k = p.length := ⟨_, rfl⟩
  rw [← hk] at hcell HF
  clear hr2 hi2 hv2 hn' hr hi hv hx hA hf hus hk
  obtain ⟨i0, hi, hz0, hz1, hz2⟩ := info_parts infoP
  have i1 : (0 : Int) ≤ (n : Int) := by omega
  have i2 : (n : Int) < (n : Int) + 1 := by omega
  have i3 : n ≤ c := by omega
  go_enter Tryz.func129, Tryz.ntmps129
  go_wp2_with (go_at_call 130; refine HF.out.mono ?_; rintro e w1 ⟨v1, rfl, ⟨h1, hh1⟩, hb1⟩; have Hh1 := Lib.hid hh1; clear hh1; obtain ⟨A1, c1, rfl, hz1⟩ := h1; have H1 := Lib.hid (show RI w1 (.slice A1 _ c1) p' from ⟨A1, c1, rfl, hz1⟩); clear hz1; obtain ⟨m, hm⟩ : ∃ m, m = p'.length := ⟨_, rfl⟩; rw [← hm] at H1 Hh1; rw [← hm]; clear hm)
  go_region_law (refine step_append_grows rfl (.tmp 27) (.tmp 29) 23 rfl 58 i0 _ 1 24 Tryz.underlying23 hi hz0 hz1 hz2 rfl (by decide) (some ad) n n us (by simp [Act.eval]) (fun h => by cases h) (by rw [HV.out, Nat.mul_one]) (rd_holds ((HR.out.below hb1).below ((up (below_box w1 (.cells #[.slice A1 m c1] 58)) (below_box _ (.cells #[.slice A1 m c1] 58))).drew))) ⟨w1.heap.size + 1, 0, none⟩ 1 1 [.slice A1 m c1] (by simp [Act.eval]) rfl (by have := cell_one_new (w1.alloc (.cells #[.slice A1 m c1] 58)) (.slice A1 m c1) 58; rw [World.size_alloc] at this; exact this) (by intro u hu; simp at hu; subst hu; rfl) (by omega) (by unfold maxLen; omega) (by omega) ?_; intro v' w' hown hgrow)
  all_goals
    go_wp2
    go_ret2
    have hk : Below w1.heap.size w1 w' := ((up (below_box w1 (.cells #[.slice A1 m c1] 58)) (below_box _ (.cells #[.slice A1 m c1] 58))).drew).grown hgrow (by simp; omega) (fun k hk => by cases hk)
    exact ⟨v', rfl, RO.of hown (by simp [HV.out, Hn.out]) (RL.snoc hown (by rw [HV.out, Hn.out]) (fun j y q hy hq => ((HI.out j y q hy hq).keep hb1).keep hk) (H1.out.keep hk)) (by have := hb1.size; simp; omega) (fun y hy => by rcases List.mem_append.1 hy with h | h; exact HPs.out y h; rw [List.mem_singleton.1 h]; exact HFr.out _ Hh1.out), up hb1 hk⟩
set_option maxRecDepth 100000 in
set_option maxHeartbeats 1000000 in
theorem changeA_ok (P : Value → Prop) (v : Value) (ls : List (List Int)) (p p' : List Int) (w : World) (h : RL w v (ls ++ [p])) (hP : PL P w v) (hF : Fresh P w.heap.size) (hl : ls.length ≤ 1000000)
    (hf : ∀ x, RI w x p → Calls Tryz.prog 133 #[.agg #[x]] w fun e w' => ∃ v', e = .returned (.tuple #[.agg #[v'], .int .i64 0]) ∧ (RI w' v' p' ∧ Hi w.heap.size v') ∧ Below w.heap.size w w') :
    Calls Tryz.prog 129 #[v, .func (.func 133) #[] #[]] w fun e w' => ∃ v', e = .returned (.tuple #[v', .int .i64 0]) ∧ ROP P w.heap.size w' v' (ls ++ [p']) ∧ Below w.heap.size w w' := by
  obtain ⟨A, c, vs, rfl, hcc, hc2, hA, hv, hr, hi⟩ := h
  obtain ⟨n, hn'⟩ : ∃ n, n = ls.length := ⟨_, rfl⟩
  rw [List.length_append, List.length_singleton, ← hn'] at hcc hv ⊢
  rw [← hn'] at hl
  obtain ⟨x, hx⟩ := get_some vs n (by omega)
  have hix := hi n x p hx (by rw [hn']; simp)
  obtain ⟨ad, rfl, hlt, hcell⟩ := hr n x hx
  have hr2 : Rd w (some ad) (vs.take n) := fun j u hu => hr j u (by
    have : j < n := by have := (List.getElem?_eq_some_iff.1 hu).1; rw [List.length_take] at this; omega
    rwa [List.getElem?_take_of_lt this] at hu)
  have hi2 : ∀ (j : Nat) (y : Value) (q : List Int), (vs.take n)[j]? = some y → ls[j]? = some q → RI w y q := fun j y q hy hq => by
    have : j < n := by have := (List.getElem?_eq_some_iff.1 hy).1; rw [List.length_take] at this; omega
    rw [List.getElem?_take_of_lt this] at hy
    exact hi j y q hy (by rw [List.getElem?_append_left (by omega)]; exact hq)
  have hv2 : (vs.take n).length = n := by rw [List.length_take]; omega
  have HPs := Lib.hid (show ∀ y ∈ vs.take n, P y from fun y hy => by
    obtain ⟨j, hj⟩ := List.getElem?_of_mem hy
    have hjn : j < n := by have := (List.getElem?_eq_some_iff.1 hj).1; omega
    obtain ⟨ad', e', _, hc'⟩ := hr2 j y hj
    cases e'
    exact hP _ _ _ j y rfl (by simp; omega) hc')
  have HFr := Lib.hid hF
  clear hP hF
  obtain ⟨us, hus⟩ : ∃ us, us = vs.take n := ⟨_, rfl⟩
  rw [← hus] at hr2 hi2 hv2 HPs
  have HR := Lib.hid hr2
  have HI := Lib.hid hi2
  have HV := Lib.hid hv2
  have Hn := Lib.hid hn'
  have HF := Lib.hid (hf x hix)
  obtain ⟨XA, xc, rfl, -⟩ := hix
  obtain ⟨k, hk⟩ : ∃ k, k = p.length := ⟨_, rfl⟩
  rw [← hk] at hcell HF
  clear hr2 hi2 hv2 hn' hr hi hv hx hA hf hus hk
  obtain ⟨i0, hi, hz0, hz1, hz2⟩ := info_parts infoP
  have i1 : (0 : Int) ≤ (n : Int) := by omega
  have i2 : (n : Int) < (n : Int) + 1 := by omega
  have i3 : n ≤ c := by omega
  go_enter Tryz.func129, Tryz.ntmps129
  go_wp2_with (go_at_call 133; refine HF.out.mono ?_; rintro e w1 ⟨v1, rfl, ⟨h1, hh1⟩, hb1⟩; have Hh1 := Lib.hid hh1; clear hh1; obtain ⟨A1, c1, rfl, hz1⟩ := h1; have H1 := Lib.hid (show RI w1 (.slice A1 _ c1) p' from ⟨A1, c1, rfl, hz1⟩); clear hz1; obtain ⟨m, hm⟩ : ∃ m, m = p'.length := ⟨_, rfl⟩; rw [← hm] at H1 Hh1; rw [← hm]; clear hm)
  go_region_law (refine step_append_grows rfl (.tmp 27) (.tmp 29) 23 rfl 58 i0 _ 1 24 Tryz.underlying23 hi hz0 hz1 hz2 rfl (by decide) (some ad) n n us (by simp [Act.eval]) (fun h => by cases h) (by rw [HV.out, Nat.mul_one]) (rd_holds ((HR.out.below hb1).below ((up (below_box w1 (.cells #[.slice A1 m c1] 58)) (below_box _ (.cells #[.slice A1 m c1] 58))).drew))) ⟨w1.heap.size + 1, 0, none⟩ 1 1 [.slice A1 m c1] (by simp [Act.eval]) rfl (by have := cell_one_new (w1.alloc (.cells #[.slice A1 m c1] 58)) (.slice A1 m c1) 58; rw [World.size_alloc] at this; exact this) (by intro u hu; simp at hu; subst hu; rfl) (by omega) (by unfold maxLen; omega) (by omega) ?_; intro v' w' hown hgrow)
  all_goals
    go_wp2
    go_ret2
    have hk : Below w1.heap.size w1 w' := ((up (below_box w1 (.cells #[.slice A1 m c1] 58)) (below_box _ (.cells #[.slice A1 m c1] 58))).drew).grown hgrow (by simp; omega) (fun k hk => by cases hk)
    exact ⟨v', rfl, RO.of hown (by simp [HV.out, Hn.out]) (RL.snoc hown (by rw [HV.out, Hn.out]) (fun j y q hy hq => ((HI.out j y q hy hq).keep hb1).keep hk) (H1.out.keep hk)) (by have := hb1.size; simp; omega) (fun y hy => by rcases List.mem_append.1 hy with h | h; exact HPs.out y h; rw [List.mem_singleton.1 h]; exact HFr.out _ Hh1.out), up hb1 hk⟩
set_option maxRecDepth 100000 in
set_option maxHeartbeats 1000000 in
theorem changeA_bad (v : Value) (ls : List (List Int)) (p : List Int) (r : Int) (w : World) (h : RL w v (ls ++ [p])) (hl : ls.length ≤ 1000000) (hr0 : r ≠ 0)
    (hf : ∀ x, RI w x p → Calls Tryz.prog 133 #[.agg #[x]] w fun e w' => e = .returned (.tuple #[.agg #[.slice none 0 0], .int .i64 r]) ∧ Below w.heap.size w w') :
    Calls Tryz.prog 129 #[v, .func (.func 133) #[] #[]] w fun e w' => e = .returned (.tuple #[.slice none 0 0, .int .i64 r]) ∧ Below w.heap.size w w' := by
  obtain ⟨A, c, vs, rfl, hcc, hc2, hA, hv, hr, hi⟩ := h
  obtain ⟨n, hn'⟩ : ∃ n, n = ls.length := ⟨_, rfl⟩
  rw [List.length_append, List.length_singleton, ← hn'] at hcc hv ⊢
  rw [← hn'] at hl
  obtain ⟨x, hx⟩ := get_some vs n (by omega)
  have hix := hi n x p hx (by rw [hn']; simp)
  obtain ⟨ad, rfl, hlt, hcell⟩ := hr n x hx
  have HF := Lib.hid (hf x hix)
  obtain ⟨XA, xc, rfl, -⟩ := hix
  obtain ⟨k, hk⟩ : ∃ k, k = p.length := ⟨_, rfl⟩
  rw [← hk] at hcell HF
  clear hn' hr hi hv hx hA hf hk
  have i1 : (0 : Int) ≤ (n : Int) := by omega
  have i2 : (n : Int) < (n : Int) + 1 := by omega
  have i4 : (r != (0 : Int)) = true := by simp [hr0]
  go_enter Tryz.func129, Tryz.ntmps129
  go_wp2_with (go_at_call 133; refine HF.out.mono ?_; rintro e w1 ⟨rfl, hb1⟩)
  go_ret2
  exact ⟨rfl, up hb1 ((below_box _ _))⟩
set_option maxRecDepth 100000 in
set_option maxHeartbeats 1000000 in
theorem addP_room (P : Value → Prop) (v x : Value) (ls : List (List Int)) (p : List Int) (m : Int) (w : World) (h : RL w v ls) (hP : PL P w v) (hxP : P x) (hx : RI w x p) (hl : ls.length ≤ 1000000) (hm : (ls.length : Int) < m) :
    Calls Tryz.prog 128 #[v, .agg #[x], .int .i64 m] w fun e w' => ∃ v', e = .returned (.tuple #[v', .int .i64 0]) ∧ ROP P w.heap.size w' v' (ls ++ [p]) ∧ Below w.heap.size w w' := by
  obtain ⟨A, c, us, rfl, hcc, hc2, hA, hv, hr, hi⟩ := h
  obtain ⟨n, hn'⟩ : ∃ n, n = ls.length := ⟨_, rfl⟩
  rw [← hn'] at hcc hv hl hm ⊢
  have HPs := Lib.hid (show ∀ y ∈ us, P y from fun y hy => by
    obtain ⟨j, hj⟩ := List.getElem?_of_mem hy
    have hjn : j < n := by have := (List.getElem?_eq_some_iff.1 hj).1; omega
    obtain ⟨ad', e', _, hc'⟩ := hr j y hj
    subst e'
    exact hP ad' _ _ j y rfl (by omega) hc')
  have HxP := Lib.hid hxP
  clear hP hxP
  have HR := Lib.hid hr
  have HI := Lib.hid hi
  have HV := Lib.hid hv
  have Hn := Lib.hid hn'
  have H1 := Lib.hid hx
  obtain ⟨A1, c1, rfl, -⟩ := hx
  obtain ⟨k, hk⟩ : ∃ k, k = p.length := ⟨_, rfl⟩
  rw [← hk] at H1 HxP ⊢
  have hA0 : A = none → n = 0 ∧ n = 0 := fun h => by have := hA h; omega
  have HA := Lib.hid hA0
  clear hr hi hv hn' hA hk hA0
  obtain ⟨i0, hi, hz0, hz1, hz2⟩ := info_parts infoP
  have hge : decide ((m : Int) ≤ (n : Int)) = false := by simp; omega
  have i3 : n ≤ c := by omega
  go_enter Tryz.func128, Tryz.ntmps128
  go_wp2
  go_region_law (refine step_append_grows rfl (.tmp 17) (.tmp 19) 23 rfl 58 i0 _ 1 24 Tryz.underlying23 hi hz0 hz1 hz2 rfl (by decide) A n n us (by simp [Act.eval]) HA.out (by rw [HV.out, Nat.mul_one]) (rd_holds (HR.out.below ((up (below_box w (.cells #[.slice A1 k c1] 58)) (below_box _ (.cells #[.slice A1 k c1] 58))).drew))) ⟨w.heap.size + 1, 0, none⟩ 1 1 [.slice A1 k c1] (by simp [Act.eval]) rfl (by have := cell_one_new (w.alloc (.cells #[.slice A1 k c1] 58)) (.slice A1 k c1) 58; rw [World.size_alloc] at this; exact this) (by intro u hu; simp at hu; subst hu; rfl) (by omega) (by unfold maxLen; omega) (by omega) ?_; intro v' w' hown hgrow)
  all_goals
    go_wp2
    go_ret2
    have hk : Below w.heap.size w w' := ((up (below_box w (.cells #[.slice A1 k c1] 58)) (below_box _ (.cells #[.slice A1 k c1] 58))).drew).grown hgrow (by simp; omega) (fun k hk => by cases hk)
    exact ⟨v', rfl, RO.of hown (by simp [HV.out, Hn.out]) (RL.snoc hown (by rw [HV.out, Hn.out]) (fun j y q hy hq => (HI.out j y q hy hq).keep hk) (H1.out.keep hk)) (by simp; omega) (fun y hy => by rcases List.mem_append.1 hy with h | h; exact HPs.out y h; rw [List.mem_singleton.1 h]; exact HxP.out), hk⟩
set_option maxRecDepth 100000 in
set_option maxHeartbeats 1000000 in
theorem addP_full (v x : Value) (ls : List (List Int)) (p : List Int) (m : Int) (w : World) (h : RL w v ls) (hx : RI w x p) (hm : m ≤ (ls.length : Int)) :
    Calls Tryz.prog 128 #[v, .agg #[x], .int .i64 m] w fun e w' => e = .returned (.tuple #[.slice none 0 0, .int .i64 3]) ∧ Below w.heap.size w w' := by
  obtain ⟨A, c, us, rfl, hcc, hc2, hA, hv, hr, hi⟩ := h
  obtain ⟨n, hn'⟩ : ∃ n, n = ls.length := ⟨_, rfl⟩
  rw [← hn'] at hcc hv hm ⊢
  obtain ⟨A1, c1, rfl, -⟩ := hx
  obtain ⟨k, hk⟩ : ∃ k, k = p.length := ⟨_, rfl⟩
  rw [← hk]
  clear hr hi hv hn' hA hk
  have hge : decide ((m : Int) ≤ (n : Int)) = true := by simp; omega
  go_enter Tryz.func128, Tryz.ntmps128
  go_wp2
  go_ret2
  exact ⟨rfl, below_box _ _⟩
end Go.Proofs.YtefkbdmgplfgoaaGreatDoor.Par
