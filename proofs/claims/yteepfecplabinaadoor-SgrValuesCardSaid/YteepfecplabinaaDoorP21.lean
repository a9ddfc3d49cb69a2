/-
  ParC ParD
-/
import Derived.Deep.RegionLawGrows
import Derived.Laws.ResultCell
import Derived.Test.YteepfecplabinaaDoorP10
import Derived.Test.YteepfecplabinaaDoorP11
namespace Go.Proofs.YteepfecplabinaaDoor.Par
open Go.RowKit Utf

theorem infoI : (Tryd.prog.info? 3).map (fun i => (i.zero, i.size, i.bytes)) = some (some (.int .i64 0), 1, 8) := by kernel_rfl
theorem infoP : (Tryd.prog.info? 41).map (fun i => (i.zero, i.size, i.bytes)) = some (some (.agg #[.slice none 0 0]), 1, 24) := by kernel_rfl
theorem rd_holds {w : World} {A : Option Addr} {xs : List Value} (h : Rd w A xs) : ∀ b, A = some b → ∀ j u, xs[j]? = some u → w.cell? (b.add j) = some u := fun b hb j u hu => by
  obtain ⟨ad, he, _, hc⟩ := h j u hu
  cases hb.symm.trans he
  exact hc
/-- it lies, where it lies anywhere, in block B or a later one -/
def Hi (B : Nat) (v : Value) : Prop := ∀ ad n c, v = .slice (some ad) n c → B ≤ ad.block
theorem Hi.mono {B B' : Nat} {v : Value} (h : Hi B v) (hB : B' ≤ B) : Hi B' v := fun ad n c e => Nat.le_trans hB (h ad n c e)
theorem Hi.own {w : World} {B n size : Nat} {e : TypeId} {v : Value} {xs : List Value} (h : w.ownsRow B e size v n xs) : Hi B v := fun ad m c he => by
  rcases h.2 with ⟨rfl, _⟩ | ⟨g, cap, cur, rfl, hg, _⟩
  · cases he
  · cases he; exact hg
theorem RI.set {w : World} {v : Value} {zs : List Int} {B B0 j : Nat} {u : Value} (h : RI w v zs) (hi : Hi B0 v) (hB : B < B0) : RI (w.setCell ⟨B, j, none⟩ u) v zs := by
  obtain ⟨A, c, rfl, h2, h3, h4, h5⟩ := h
  refine ⟨A, c, rfl, h2, h3, h4, h5.grownBy (grown_set w B j u) (fun ad e h => ?_)⟩
  have := hi ad _ _ (by rw [e])
  cases h
  omega
theorem own_mono {w : World} {B B' n size : Nat} {e : TypeId} {v : Value} {xs : List Value} (h : w.ownsRow B e size v n xs) (hB : B' ≤ B) : w.ownsRow B' e size v n xs := by
  rcases h with ⟨h0, h1 | ⟨g, cap, cur, hv, hg, r⟩⟩
  · exact ⟨h0, .inl h1⟩
  · exact ⟨h0, .inr ⟨g, cap, cur, hv, Nat.le_trans hB hg, r⟩⟩
/-- a slice of parameters in a row of the call's own, or nil -/
def RO (B : Nat) (w : World) (v : Value) (l : List (List Int)) : Prop := RL w v l ∧ ∃ vs, w.ownsRow B 41 1 v l.length vs
/-- where the elements of a slice of parameters lie: each satisfies P -/
def PL (P : Value → Prop) (w : World) (v : Value) : Prop := ∀ A n c j x, v = .slice (some A) n c → j < n → w.cell? (A.add j) = some x → P x
/-- P holds of whatever is new -/
def Fresh (P : Value → Prop) (B : Nat) : Prop := ∀ x, Hi B x → P x
theorem Fresh.mono {P : Value → Prop} {B B' : Nat} (h : Fresh P B) (hB : B ≤ B') : Fresh P B' := fun x hx => h x (hx.mono hB)
theorem PL.keep {P : Value → Prop} {w w' : World} {v : Value} {l : List (List Int)} (h : PL P w v) (hr : RL w v l) (hb : Below w.heap.size w w') : PL P w' v := fun A n c j x hv hj hx => by
  obtain ⟨A', c', vs, hv', _, _, _, hl, hrd, _⟩ := hr
  rw [hv] at hv'
  injection hv' with h1 h2 h3
  subst h1
  obtain ⟨u, hu⟩ := get_some vs j (by omega)
  obtain ⟨ad, e, hlt, hc⟩ := hrd j u hu
  cases e
  have e : (A.add j).block = A.block := by unfold Addr.add; split <;> rfl
  refine h A n c j x hv hj ?_
  rw [← hx]
  exact (hb.cell (by rw [e]; exact hlt)).symm
/-- a slice of parameters in a row of the call's own, or nil; the elements satisfy P -/
def ROP (P : Value → Prop) (B : Nat) (w : World) (v : Value) (l : List (List Int)) : Prop := RL w v l ∧ ∃ vs, w.ownsRow B 41 1 v l.length vs ∧ ∀ x ∈ vs, P x
theorem ROP.nil (P : Value → Prop) (B : Nat) (w : World) : ROP P B w (.slice none 0 0) [] := ⟨RL.nil w, [], World.ownsRow_nil _ _ _ _, by simp⟩
theorem ROP.mono {P : Value → Prop} {B B' : Nat} {w : World} {v : Value} {l : List (List Int)} (h : ROP P B w v l) (hB : B' ≤ B) : ROP P B' w v l := by
  obtain ⟨h1, vs, h2, h3⟩ := h
  exact ⟨h1, vs, own_mono h2 hB, h3⟩
theorem ROP.lo {P : Value → Prop} {B : Nat} {w : World} {v : Value} {l : List (List Int)} (h : ROP P B w v l) : RO B w v l := by
  obtain ⟨h1, vs, h2, h3⟩ := h
  exact ⟨h1, vs, h2⟩
theorem RO.nil (B : Nat) (w : World) : RO B w (.slice none 0 0) [] := ⟨RL.nil w, [], World.ownsRow_nil _ _ _ _⟩
theorem RO.mono {B B' : Nat} {w : World} {v : Value} {l : List (List Int)} (h : RO B w v l) (hB : B' ≤ B) : RO B' w v l := by
  obtain ⟨h1, vs, h2⟩ := h
  exact ⟨h1, vs, own_mono h2 hB⟩
theorem RO.keep {B : Nat} {w w' : World} {v : Value} {l : List (List Int)} (h : RO B w v l) (hb : Below w.heap.size w w') : RO B w' v l := by
  obtain ⟨h1, vs, h2⟩ := h
  exact ⟨h1.keep hb, vs, own_below h2 hb⟩
/-- what an append of one number leaves -/
theorem RI.grew {w' : World} {v : Value} {zs : List Int} {B n : Nat} (h : w'.ownsRow B 3 1 v n (cI zs)) : RI w' v zs := by
  have hl : n = zs.length := by have := h.1; rw [cI_len] at this; omega
  subst hl
  rcases h.2 with ⟨rfl, h0⟩ | ⟨g, cap, cur, rfl, _, hh, hnc, hm, _, _⟩
  · obtain rfl : zs = [] := List.eq_nil_of_length_eq_zero h0
    exact RI.nil _
  · exact ⟨_, cap, rfl, hnc, hm, (fun h => by cases h), Rd.own h⟩
theorem RL.grew {w' : World} {v : Value} {vs : List Value} {l : List (List Int)} {B n : Nat} (h : w'.ownsRow B 41 1 v n vs) (hv : vs.length = l.length) (hi : ∀ (j : Nat) (x : Value) (p : List Int), vs[j]? = some x → l[j]? = some p → RI w' x p) : RL w' v l := by
  have hl : n = l.length := by have := h.1; omega
  subst hl
  rcases h.2 with ⟨rfl, h0⟩ | ⟨g, cap, cur, rfl, _, hh, hnc, hm, _, _⟩
  · obtain rfl : l = [] := List.eq_nil_of_length_eq_zero h0
    exact RL.nil _
  · exact ⟨_, cap, vs, rfl, hnc, hm, (fun h => by cases h), hv, Rd.own h, hi⟩

theorem ret_cell {P : Program} {fn : Func} {p u : Tmp} {ty : TypeId} (h : fn.results = #[.cell p ty, .tmp u]) (tmps : Array Value) (w : World) (a : Addr) (v : Value) (ha : tmps.getD p undef = .pointer (some a)) (hl : (loadVar ty a).run P w = .ok v w) :
    (results fn tmps).run P w = .ok (.tuple #[v, tmps.getD u undef]) w := by
  rw [results_cell_tmp h, ha]
  simp [asAddr, hl, Result.andThen]
theorem load_par (w : World) (B : Nat) (a : Value) (h0 : w.cell? ⟨B, 0, none⟩ = some a) : (loadVar 41 ⟨B, 0, none⟩).run Tryd.prog w = .ok (.agg #[a]) w := by
  go_simp
set_option maxRecDepth 100000 in
set_option maxHeartbeats 1000000 in
theorem addI_room (v : Value) (p : List Int) (z m : Int) (w : World) (h : RI w v p) (hl : p.length ≤ 1000000) (hm : (p.length : Int) < m) :
    Calls Tryd.prog 105 #[v, .int .i64 z, .int .i64 m] w fun e w' => ∃ v', e = .returned (.tuple #[v', .int .i64 0]) ∧ (RI w' v' (p ++ [z]) ∧ Hi w.heap.size v') ∧ Below w.heap.size w w' := by
  obtain ⟨A, c, rfl, hc, hc2, hA, hr⟩ := h
  obtain ⟨n, hn⟩ : ∃ n, n = p.length := ⟨_, rfl⟩
  rw [← hn] at hl hc hm ⊢
  have HR := Lib.hid hr; clear hr
  have Hn := Lib.hid hn; clear hn
  have hA0 : A = none → n = 0 ∧ n = 0 := fun h => by have := hA h; omega
  have HA := Lib.hid hA0; clear hA hA0
  obtain ⟨i0, hi, hz0, hz1, hz2⟩ := info_parts infoI
  have hge : decide ((m : Int) ≤ (n : Int)) = false := by simp; omega
  go_enter Tryd.func105, Tryd.ntmps105
  go_wp2_with (at_builtin; refine wpList_append_grows _ rfl (.tmp 17) (.tmp 19) 39 rfl 3 i0 _ 1 8 Tryd.underlying39 hi hz0 hz1 hz2 rfl (by decide) A n n (cI p) rfl HA.out (by rw [cI_len, ← Hn.out, Nat.mul_one]) (rd_holds (HR.out.below (below_box _ _))) ⟨w.heap.size, 0, none⟩ 1 1 [.int .i64 z] rfl rfl (cell_one_new _ _ _) (by intro u hu; simp at hu; subst hu; rfl) (by omega) (by unfold maxLen; omega) (by omega) ?_; intro v' w' hown hgrow)
  go_ret2
  rw [show cI p ++ [Value.int .i64 z] = cI (p ++ [z]) from (cI_append p [z]).symm] at hown
  exact ⟨v', rfl, ⟨RI.grew hown, (Hi.own hown).mono (by simp)⟩, up (below_box _ _) ((Below.refl _ _).grown hgrow (Nat.le_refl _) (fun k hk => by cases hk))⟩
set_option maxRecDepth 100000 in
set_option maxHeartbeats 1000000 in
theorem addI_full (v : Value) (p : List Int) (z m : Int) (w : World) (h : RI w v p) (hm : m ≤ (p.length : Int)) :
    Calls Tryd.prog 105 #[v, .int .i64 z, .int .i64 m] w fun e w' => e = .returned (.tuple #[.slice none 0 0, .int .i64 3]) ∧ Below w.heap.size w w' := by
  obtain ⟨A, c, rfl, hc, hc2, hA, hr⟩ := h
  obtain ⟨n, hn⟩ : ∃ n, n = p.length := ⟨_, rfl⟩
  rw [← hn] at hc hm ⊢
  have hge : decide ((m : Int) ≤ (n : Int)) = true := by simp; omega
  clear hr hn hA
  go_enter Tryd.func105, Tryd.ntmps105
  go_wp2
  go_ret2
  exact ⟨rfl, Below.refl _ _⟩
set_option maxRecDepth 100000 in
set_option maxHeartbeats 1000000 in
theorem digit_any (n d : Int) (q : Nat) (w : World) (hn : -1 ≤ n) (hn2 : n ≤ 9999) (hd : 0 ≤ d) (hd2 : d ≤ 9) (hc : w.cell? ⟨q, 0, none⟩ = some (.int .i64 d)) :
    Calls Tryd.prog 103 #[.int .i64 n, .pointer (some ⟨q, 0, none⟩)] w fun e w' => e = .returned (.tuple #[.int .i64 (digI n d), .int .i64 0]) ∧ w = w' := by
  go_enter Tryd.func103, Tryd.ntmps103
  go_wp2
  all_goals
    go_ret2
    refine ⟨?_, rfl⟩
    simp [digI]
    omega
set_option maxRecDepth 100000 in
set_option maxHeartbeats 1000000 in
theorem changeI_any (v : Value) (ps : List Int) (z d : Int) (q : Nat) (w : World) (h : RI w v (ps ++ [z])) (hl : ps.length ≤ 1000000) (hn : -1 ≤ z) (hn2 : z ≤ 9999) (hd : 0 ≤ d) (hd2 : d ≤ 9) (hc : w.cell? ⟨q, 0, none⟩ = some (.int .i64 d)) :
    Calls Tryd.prog 102 #[v, .func (.func 103) #[] #[.pointer (some ⟨q, 0, none⟩)]] w fun e w' => ∃ v', e = .returned (.tuple #[v', .int .i64 0]) ∧ (RI w' v' (ps ++ [digI z d]) ∧ Hi w.heap.size v') ∧ Below w.heap.size w w' := by
  obtain ⟨A, c, rfl, hcc, hc2, hA, hr⟩ := h
  obtain ⟨n, hn'⟩ : ∃ n, n = ps.length := ⟨_, rfl⟩
  rw [List.length_append, List.length_singleton, ← hn'] at hcc ⊢
  rw [← hn'] at hl
  obtain ⟨ad, rfl, hlt, hcell⟩ := hr n (.int .i64 z) (cI_at _ _ _ (by rw [hn']; simp))
  have hr2 : Rd w (some ad) (cI ps) := fun j u hu => hr j u (by rw [cI_append]; rw [List.getElem?_append_left (List.getElem?_eq_some_iff.1 hu).1]; exact hu)
  have HR := Lib.hid hr2; clear hr hr2
  have Hn := Lib.hid hn'; clear hn'
  clear hA
  obtain ⟨i0, hi, hz0, hz1, hz2⟩ := info_parts infoI
  have HD := Lib.hid (digit_any z d q w hn hn2 hd hd2 hc)
  have i1 : (0 : Int) ≤ (n : Int) := by omega
  have i2 : (n : Int) < (n : Int) + 1 := by omega
  go_enter Tryd.func102, Tryd.ntmps102
  go_wp2_with (first
    | (go_at_call 103; refine HD.out.mono ?_; rintro e w' ⟨rfl, rfl⟩)
    | (at_builtin; refine wpList_append_grows _ rfl (.tmp 27) (.tmp 29) 39 rfl 3 i0 _ 1 8 Tryd.underlying39 hi hz0 hz1 hz2 rfl (by decide) (some ad) n n (cI ps) rfl (fun h => by cases h) (by rw [cI_len, ← Hn.out, Nat.mul_one]) (rd_holds (HR.out.below (below_box _ _))) ⟨w.heap.size, 0, none⟩ 1 1 [.int .i64 (digI z d)] rfl rfl (cell_one_new _ _ _) (by intro u hu; simp at hu; subst hu; rfl) (by omega) (by unfold maxLen; omega) (by omega) ?_; intro v' w' hown hgrow))
  go_ret2
  rw [show cI ps ++ [Value.int .i64 (digI z d)] = cI (ps ++ [digI z d]) from (cI_append ps [digI z d]).symm] at hown
  exact ⟨v', rfl, ⟨RI.grew hown, (Hi.own hown).mono (by simp)⟩, up (below_box _ _) ((Below.refl _ _).grown hgrow (Nat.le_refl _) (fun k hk => by cases hk))⟩
set_option maxRecDepth 100000 in
set_option maxHeartbeats 1000000 in
theorem digitP_any (v : Value) (ps : List Int) (z d : Int) (q : Nat) (w : World) (h : RI w v (ps ++ [z])) (hl : ps.length ≤ 1000000) (hn : -1 ≤ z) (hn2 : z ≤ 9999) (hd : 0 ≤ d) (hd2 : d ≤ 9) (hc : w.cell? ⟨q, 0, none⟩ = some (.int .i64 d)) :
    Calls Tryd.prog 101 #[.agg #[v], .pointer (some ⟨q, 0, none⟩)] w fun e w' => ∃ v', e = .returned (.tuple #[.agg #[v'], .int .i64 0]) ∧ (RI w' v' (ps ++ [digI z d]) ∧ Hi w.heap.size v') ∧ Below w.heap.size w w' := by
  have hq : q < w.heap.size := World.block_lt_of_cell? w _ hc
  have hb1 : Below w.heap.size w ((w.alloc (.cells #[v] 41)).alloc (.cells #[.slice none 0 0] 41)) := up (below_box _ _) (below_box _ _)
  have HC := Lib.hid (changeI_any v ps z d q _ (h.keep hb1) hl hn hn2 hd hd2 ((hb1.cell (p := ⟨q, 0, none⟩) hq).trans hc))
  have HB := Lib.hid hb1; clear hb1
  obtain ⟨A, c, rfl, -⟩ := h
  obtain ⟨n, hn'⟩ : ∃ n, n = (ps ++ [z]).length := ⟨_, rfl⟩
  rw [← hn'] at HC HB ⊢
  clear hn'
  have hX : Box ((w.alloc (.cells #[.slice A n c] 41)).alloc (.cells #[.slice none 0 0] 41)) (w.heap.size + 1) [.slice none 0 0] := by
    have := Box.new (w.alloc (.cells #[.slice A n c] 41)) #[.slice none 0 0] 41
    rwa [World.size_alloc] at this
  have HX := Lib.hid hX; clear hX
  go_enter Tryd.func101, Tryd.ntmps101
  go_wp2_with (go_at_call 102; refine HC.out.mono ?_; rintro e w1 ⟨v1, rfl, ⟨h1, hh1⟩, hb2⟩; obtain ⟨A1, c1, rfl, hz1⟩ := h1; have Hh1 := Lib.hid hh1; clear hh1; have hX1 := HX.out.keep hb2; have x1 := hX1.cell 0 _ rfl; have x2 := hX1.free 0 (by show 0 < 1; decide); have H1 := Lib.hid (show RI w1 (.slice A1 _ c1) (ps ++ [digI z d]) from ⟨A1, c1, rfl, hz1⟩); clear hz1; have HX1 := Lib.hid hX1; clear hX1; obtain ⟨m, hm⟩ : ∃ m, m = (ps ++ [digI z d]).length := ⟨_, rfl⟩; rw [← hm] at H1 Hh1; rw [← hm]; clear hm)
  have hz := hb2.size
  rw [World.size_alloc, World.size_alloc] at hz
  refine bodyPost_ret (ret_cell rfl _ _ ⟨w.heap.size + 1, 0, none⟩ _ rfl (load_par _ _ _ ((HX1.out.set 0 _).cell 0 _ rfl))) rfl ?_
  exact ⟨_, rfl, ⟨H1.out.set Hh1.out (by simp), Hh1.out.mono (by simp; omega)⟩, (up HB.out hb2).setCell (p := ⟨w.heap.size + 1, 0, none⟩) (by show w.heap.size ≤ w.heap.size + 1; omega) _⟩
end Go.Proofs.YteepfecplabinaaDoor.Par

namespace Go.Proofs.YteepfecplabinaaDoor.Par
open Go.RowKit Utf

theorem RO.of {P : Value → Prop} {w' : World} {v : Value} {us : List Value} {l : List (List Int)} {B B' n : Nat} (hown : w'.ownsRow B 41 1 v n us) (hl : us.length = l.length) (hr : RL w' v l) (hB : B' ≤ B) (hP : ∀ x ∈ us, P x) : ROP P B' w' v l := by
  have : n = l.length := by have := hown.1; omega
  subst this
  exact ⟨hr, us, own_mono hown hB, hP⟩
theorem RL.snoc {w' : World} {v x : Value} {us : List Value} {ls : List (List Int)} {p' : List Int} {B n : Nat} (hown : w'.ownsRow B 41 1 v n (us ++ [x])) (hv : us.length = ls.length) (hi : ∀ (j : Nat) (y : Value) (q : List Int), us[j]? = some y → ls[j]? = some q → RI w' y q) (hx : RI w' x p') : RL w' v (ls ++ [p']) := by
  refine RL.grew hown (by simp [hv]) (fun j y q hy hq => ?_)
  by_cases h : j < us.length
  · rw [List.getElem?_append_left h] at hy
    rw [List.getElem?_append_left (by omega)] at hq
    exact hi j y q hy hq
  · rw [List.getElem?_append_right (by omega)] at hy
    rw [List.getElem?_append_right (by omega), ← hv] at hq
    obtain h0 | h0 : j - us.length = 0 ∨ 0 < j - us.length := by omega
    · rw [h0] at hy hq
      simp at hy hq
      subst hy; subst hq
      exact hx
    · rw [List.getElem?_eq_none (by simp; omega)] at hy
      cases hy
set_option maxRecDepth 100000 in
set_option maxHeartbeats 1000000 in
theorem partP_room (v : Value) (p : List Int) (w : World) (h : RI w v p) (hl : p.length ≤ 1000000) (hm : (p.length : Int) < 6) :
    Calls Tryd.prog 104 #[.agg #[v]] w fun e w' => ∃ v', e = .returned (.tuple #[.agg #[v'], .int .i64 0]) ∧ (RI w' v' (p ++ [-1]) ∧ Hi w.heap.size v') ∧ Below w.heap.size w w' := by
  have hb1 : Below w.heap.size w ((w.alloc (.cells #[v] 41)).alloc (.cells #[.slice none 0 0] 41)) := up (below_box _ _) (below_box _ _)
  have HC := Lib.hid (addI_room v p (-1) 6 _ (h.keep hb1) hl hm)
  have HB := Lib.hid hb1; clear hb1
  obtain ⟨A, c, rfl, -⟩ := h
  obtain ⟨n, hn'⟩ : ∃ n, n = p.length := ⟨_, rfl⟩
  rw [← hn'] at HC HB ⊢
  clear hn' hl hm
  have hX : Box ((w.alloc (.cells #[.slice A n c] 41)).alloc (.cells #[.slice none 0 0] 41)) (w.heap.size + 1) [.slice none 0 0] := by
    have := Box.new (w.alloc (.cells #[.slice A n c] 41)) #[.slice none 0 0] 41
    rwa [World.size_alloc] at this
  have HX := Lib.hid hX; clear hX
  go_enter Tryd.func104, Tryd.ntmps104
  go_wp2_with (go_at_call 105; refine HC.out.mono ?_; rintro e w1 ⟨v1, rfl, ⟨h1, hh1⟩, hb2⟩; obtain ⟨A1, c1, rfl, hz1⟩ := h1; have Hh1 := Lib.hid hh1; clear hh1; have hX1 := HX.out.keep hb2; have x1 := hX1.cell 0 _ rfl; have x2 := hX1.free 0 (by show 0 < 1; decide); have H1 := Lib.hid (show RI w1 (.slice A1 _ c1) (p ++ [-1]) from ⟨A1, c1, rfl, hz1⟩); clear hz1; have HX1 := Lib.hid hX1; clear hX1; obtain ⟨m, hm⟩ : ∃ m, m = (p ++ [-1]).length := ⟨_, rfl⟩; rw [← hm] at H1 Hh1; rw [← hm]; clear hm)
  have hz := hb2.size
  rw [World.size_alloc, World.size_alloc] at hz
  refine bodyPost_ret (ret_cell rfl _ _ ⟨w.heap.size + 1, 0, none⟩ _ rfl (load_par _ _ _ ((HX1.out.set 0 _).cell 0 _ rfl))) rfl ?_
  exact ⟨_, rfl, ⟨H1.out.set Hh1.out (by simp), Hh1.out.mono (by simp; omega)⟩, (up HB.out hb2).setCell (p := ⟨w.heap.size + 1, 0, none⟩) (by show w.heap.size ≤ w.heap.size + 1; omega) _⟩
set_option maxRecDepth 100000 in
set_option maxHeartbeats 1000000 in
theorem partP_full (v : Value) (p : List Int) (w : World) (h : RI w v p) (hm : (6 : Int) ≤ (p.length : Int)) :
    Calls Tryd.prog 104 #[.agg #[v]] w fun e w' => e = .returned (.tuple #[.agg #[.slice none 0 0], .int .i64 3]) ∧ Below w.heap.size w w' := by
  have hb1 : Below w.heap.size w ((w.alloc (.cells #[v] 41)).alloc (.cells #[.slice none 0 0] 41)) := up (below_box _ _) (below_box _ _)
  have HC := Lib.hid (addI_full v p (-1) 6 _ (h.keep hb1) hm)
  have HB := Lib.hid hb1; clear hb1
  obtain ⟨A, c, rfl, -⟩ := h
  obtain ⟨n, hn'⟩ : ∃ n, n = p.length := ⟨_, rfl⟩
  rw [← hn'] at HC HB ⊢
  clear hn' hm
  have hX : Box ((w.alloc (.cells #[.slice A n c] 41)).alloc (.cells #[.slice none 0 0] 41)) (w.heap.size + 1) [.slice none 0 0] := by
    have := Box.new (w.alloc (.cells #[.slice A n c] 41)) #[.slice none 0 0] 41
    rwa [World.size_alloc] at this
  have HX := Lib.hid hX; clear hX
  go_enter Tryd.func104, Tryd.ntmps104
  go_wp2_with (go_at_call 105; refine HC.out.mono ?_; rintro e w1 ⟨rfl, hb2⟩; have hX1 := HX.out.keep hb2; have x1 := hX1.cell 0 _ rfl; have x2 := hX1.free 0 (by show 0 < 1; decide); have HX1 := Lib.hid hX1; clear hX1)
  have hz := hb2.size
  rw [World.size_alloc, World.size_alloc] at hz
  refine bodyPost_ret (ret_cell rfl _ _ ⟨w.heap.size + 1, 0, none⟩ _ rfl (load_par _ _ _ ((HX1.out.set 0 _).cell 0 _ rfl))) rfl ?_
  exact ⟨rfl, (up HB.out hb2).setCell (p := ⟨w.heap.size + 1, 0, none⟩) (by show w.heap.size ≤ w.heap.size + 1; omega) _⟩
set_option maxRecDepth 100000 in
set_option maxHeartbeats 1000000 in
theorem changeD_ok (P : Value → Prop) (v : Value) (ls : List (List Int)) (p p' : List Int) (q : Nat) (w : World) (h : RL w v (ls ++ [p])) (hP : PL P w v) (hF : Fresh P w.heap.size) (hl : ls.length ≤ 1000000)
    (hf : ∀ x, RI w x p → Calls Tryd.prog 101 #[.agg #[x], .pointer (some ⟨q, 0, none⟩)] w fun e w' => ∃ v', e = .returned (.tuple #[.agg #[v'], .int .i64 0]) ∧ (RI w' v' p' ∧ Hi w.heap.size v') ∧ Below w.heap.size w w') :
    Calls Tryd.prog 100 #[v, .func (.func 101) #[] #[.pointer (some ⟨q, 0, none⟩)]] w fun e w' => ∃ v', e = .returned (.tuple #[v', .int .i64 0]) ∧ ROP P w.heap.size w' v' (ls ++ [p']) ∧ Below w.heap.size w w' := by
  obtain ⟨A, c, vs, rfl, hcc, hc2, hA, hv, hr, hi⟩ := h
  obtain ⟨n, hn'⟩ : ∃ n, n = ls.length := ⟨_, rfl⟩
  rw [List.length_append, List.length_singleton, ← hn'] at hcc hv ⊢
  rw [← hn'] at hl
  obtain ⟨x, hx⟩ := get_some vs n (by omega)
  have hix := hi n x p hx (by rw [hn']; simp)
  obtain ⟨ad, rfl, hlt, hcell⟩ := hr n x hx
  have hr2 : Rd w (some ad) (vs.take n) := fun j u hu => hr j u (by
    have : j < n := by have := (List.getElem?_eq_some_iff.1 hu).1; rw [List.length_take] at this; omega
    rwa [List.getElem?_take_of_lt this] at hu)
  have hi2 : ∀ (j : Nat) (y : Value) (q : List Int), (vs.take n)[j]? = some y → ls[j]? = some q → RI w y q := fun j y q hy hq => by
    have : j < n := by have := (List.getElem?_eq_some_iff.1 hy).1; rw [List.length_take] at this; omega
    rw [List.getElem?_take_of_lt this] at hy
    exact hi j y q hy (by rw [List.getElem?_append_left (by omega)]; exact hq)
  have hv2 : (vs.take n).length = n := by rw [List.length_take]; omega
  have HPs := Lib.hid (show ∀ y ∈ vs.take n, P y from fun y hy => by
    obtain ⟨j, hj⟩ := List.getElem?_of_mem hy
    have hjn : j < n := by have := (List.getElem?_eq_some_iff.1 hj).1; omega
    obtain ⟨ad', e', _, hc'⟩ := hr2 j y hj
    cases e'
    exact hP _ _ _ j y rfl (by simp; omega) hc')
  have HFr := Lib.hid hF
  clear hP hF
  obtain ⟨us, hus⟩ : ∃ us, us = vs.take n := ⟨_, rfl⟩
  rw [← hus] at hr2 hi2 hv2 HPs
  have HR := Lib.hid hr2
  have HI := Lib.hid hi2
  have HV := Lib.hid hv2
  have Hn := Lib.hid hn'
  have HF := Lib.hid (hf x hix)
  obtain ⟨XA, xc, rfl, -⟩ := hix
  obtain ⟨k, hk⟩ : ∃ k, k = p.length := ⟨_, rfl⟩
  rw [← hk] at hcell HF
  clear hr2 hi2 hv2 hn' hr hi hv hx hA hf hus hk
  obtain ⟨i0, hi, hz0, hz1, hz2⟩ := info_parts infoP
  have i1 : (0 : Int) ≤ (n : Int) := by omega
  have i2 : (n : Int) < (n : Int) + 1 := by omega
  have i3 : n ≤ c := by omega
  go_enter Tryd.func100, Tryd.ntmps100
  go_wp2_with (go_at_call 101; refine HF.out.mono ?_; rintro e w1 ⟨v1, rfl, ⟨h1, hh1⟩, hb1⟩; have Hh1 := Lib.hid hh1; clear hh1; obtain ⟨A1, c1, rfl, hz1⟩ := h1; have H1 := Lib.hid (show RI w1 (.slice A1 _ c1) p' from ⟨A1, c1, rfl, hz1⟩); clear hz1; obtain ⟨m, hm⟩ : ∃ m, m = p'.length := ⟨_, rfl⟩; rw [← hm] at H1 Hh1; rw [← hm]; clear hm)
  go_region_law (refine step_append_grows rfl (.tmp 27) (.tmp 29) 22 rfl 41 i0 _ 1 24 Tryd.underlying22 hi hz0 hz1 hz2 rfl (by decide) (some ad) n n us (by simp [Act.eval]) (fun h => by cases h) (by rw [HV.out, Nat.mul_one]) (rd_holds ((HR.out.below hb1).below ((up (below_box w1 (.cells #[.slice A1 m c1] 41)) (below_box _ (.cells #[.slice A1 m c1] 41))).drew))) ⟨w1.heap.size + 1, 0, none⟩ 1 1 [.slice A1 m c1] (by simp [Act.eval]) rfl (by have := cell_one_new (w1.alloc (.cells #[.slice A1 m c1] 41)) (.slice A1 m c1) 41; rw [World.size_alloc] at this; exact this) (by intro u hu; simp at hu; subst hu; rfl) (by omega) (by unfold maxLen; omega) (by omega) ?_; intro v' w' hown hgrow)
  all_goals
    go_wp2
    go_ret2
    have hk : Below w1.heap.size w1 w' := ((up (below_box w1 (.cells #[.slice A1 m c1] 41)) (below_box _ (.cells #[.slice A1 m c1] 41))).drew).grown hgrow (by simp; omega) (fun k hk => by cases hk)
    exact ⟨v', rfl, RO.of hown (by simp [HV.out, Hn.out]) (RL.snoc hown (by rw [HV.out, Hn.out]) (fun j y q hy hq => ((HI.out j y q hy hq).keep hb1).keep hk) (H1.out.keep hk)) (by have := hb1.size; simp; omega) (fun y hy => by rcases List.mem_append.1 hy with h | h; exact HPs.out y h; rw [List.mem_singleton.1 h]; exact HFr.out _ Hh1.out), up hb1 hk⟩
set_option maxRecDepth 100000 in
set_option maxHeartbeats 1000000 in
theorem changeA_ok (P : Value → Prop) (v : Value) (ls : List (List Int)) (p p' : List Int) (w : World) (h : RL w v (ls ++ [p])) (hP : PL P w v) (hF : Fresh P w.heap.size) (hl : ls.length ≤ 1000000)
    (hf : ∀ x, RI w x p → Calls Tryd.prog 104 #[.agg #[x]] w fun e w' => ∃ v', e = .returned (.tuple #[.agg #[v'], .int .i64 0]) ∧ (RI w' v' p' ∧ Hi w.heap.size v') ∧ Below w.heap.size w w') :
    Calls Tryd.prog 100 #[v, .func (.func 104) #[] #[]] w fun e w' => ∃ v', e = .returned (.tuple #[v', .int .i64 0]) ∧ ROP P w.heap.size w' v' (ls ++ [p']) ∧ Below w.heap.size w w' := by
  obtain ⟨A, c, vs, rfl, hcc, hc2, hA, hv, hr, hi⟩ := h
  obtain ⟨n, hn'⟩ : ∃ n, n = ls.length := ⟨_, rfl⟩
  rw [List.length_append, List.length_singleton, ← hn'] at hcc hv ⊢
  rw [← hn'] at hl
  obtain ⟨x, hx⟩ := get_some vs n (by omega)
  have hix := hi n x p hx (by rw [hn']; simp)
  obtain ⟨ad, rfl, hlt, hcell⟩ := hr n x hx
  have hr2 : Rd w (some ad) (vs.take n) := fun j u hu => hr j u (by
    have : j < n := by have := (List.getElem?_eq_some_iff.1 hu).1; rw [List.length_take] at this; omega
    rwa [List.getElem?_take_of_lt this] at hu)
  have hi2 : ∀ (j : Nat) (y : Value) (q : List Int), (vs.take n)[j]? = some y → ls[j]? = some q → RI w y q := fun j y q hy hq => by
    have : j < n := by have := (List.getElem?_eq_some_iff.1 hy).1; rw [List.length_take] at this; omega
    rw [List.getElem?_take_of_lt this] at hy
    exact hi j y q hy (by rw [List.getElem?_append_left (by omega)]; exact hq)
  have hv2 : (vs.take n).length = n := by rw [List.length_take]; omega
  have HPs := Lib.hid (show ∀ y ∈ vs.take n, P y from fun y hy => by
    obtain ⟨j, hj⟩ := List.getElem?_of_mem hy
    have hjn : j < n := by have := (List.getElem?_eq_some_iff.1 hj).1; omega
    obtain ⟨ad', e', _, hc'⟩ := hr2 j y hj
    cases e'
    exact hP _ _ _ j y rfl (by simp; omega) hc')
  have HFr := Lib.hid hF
  clear hP hF
  obtain ⟨us, hus⟩ : ∃ us, us = vs.take n := ⟨_, rfl⟩
  rw [← hus] at hr2 hi2 hv2 HPs
  have HR := Lib.hid hr2
  have HI := Lib.hid hi2
  have HV := Lib.hid hv2
  have Hn := Lib.hid hn'
  have HF := Lib.hid (hf x hix)
  obtain ⟨XA, xc, rfl, -⟩ := hix
  obtain ⟨k, hk⟩ : ∃ k, k = p.length := ⟨_, rfl⟩
  rw [← hk] at hcell HF
  clear hr2 hi2 hv2 hn' hr hi hv hx hA hf hus hk
  obtain ⟨i0, hi, hz0, hz1, hz2⟩ := info_parts infoP
  have i1 : (0 : Int) ≤ (n : Int) := by omega
  have i2 : (n : Int) < (n : Int) + 1 := by omega
  have i3 : n ≤ c := by omega
  go_enter Tryd.func100, Tryd.ntmps100
  go_wp2_with (go_at_call 104; refine HF.out.mono ?_; rintro e w1 ⟨v1, rfl, ⟨h1, hh1⟩, hb1⟩; have Hh1 := Lib.hid hh1; clear hh1; obtain ⟨A1, c1, rfl, hz1⟩ := h1; have H1 := Lib.hid (show RI w1 (.slice A1 _ c1) p' from ⟨A1, c1, rfl, hz1⟩); clear hz1; obtain ⟨m, hm⟩ : ∃ m, m = p'.length := ⟨_, rfl⟩; rw [← hm] at H1 Hh1; rw [← hm]; clear hm)
  go_region_law (refine step_append_grows rfl (.tmp 27) (.tmp 29) 22 rfl 41 i0 _ 1 24 Tryd.underlying22 hi hz0 hz1 hz2 rfl (by decide) (some ad) n n us (by simp [Act.eval]) (fun h => by cases h) (by rw [HV.out, Nat.mul_one]) (rd_holds ((HR.out.below hb1).below ((up (below_box w1 (.cells #[.slice A1 m c1] 41)) (below_box _ (.cells #[.slice A1 m c1] 41))).drew))) ⟨w1.heap.size + 1, 0, none⟩ 1 1 [.slice A1 m c1] (by simp [Act.eval]) rfl (by have := cell_one_new (w1.alloc (.cells #[.slice A1 m c1] 41)) (.slice A1 m c1) 41; rw [World.size_alloc] at this; exact this) (by intro u hu; simp at hu; subst hu; rfl) (by omega) (by unfold maxLen; omega) (by omega) ?_; intro v' w' hown hgrow)
  all_goals
    go_wp2
    go_ret2
    have hk : Below w1.heap.size w1 w' := ((up (below_box w1 (.cells #[.slice A1 m c1] 41)) (below_box _ (.cells #[.slice A1 m c1] 41))).drew).grown hgrow (by simp; omega) (fun k hk => by cases hk)
    exact ⟨v', rfl, RO.of hown (by simp [HV.out, Hn.out]) (RL.snoc hown (by rw [HV.out, Hn.out]) (fun j y q hy hq => ((HI.out j y q hy hq).keep hb1).keep hk) (H1.out.keep hk)) (by have := hb1.size; simp; omega) (fun y hy => by rcases List.mem_append.1 hy with h | h; exact HPs.out y h; rw [List.mem_singleton.1 h]; exact HFr.out _ Hh1.out), up hb1 hk⟩
set_option maxRecDepth 100000 in
set_option maxHeartbeats 1000000 in
theorem changeA_bad (v : Value) (ls : List (List Int)) (p : List Int) (r : Int) (w : World) (h : RL w v (ls ++ [p])) (hl : ls.length ≤ 1000000) (hr0 : r ≠ 0)
    (hf : ∀ x, RI w x p → Calls Tryd.prog 104 #[.agg #[x]] w fun e w' => e = .returned (.tuple #[.agg #[.slice none 0 0], .int .i64 r]) ∧ Below w.heap.size w w') :
    Calls Tryd.prog 100 #[v, .func (.func 104) #[] #[]] w fun e w' => e = .returned (.tuple #[.slice none 0 0, .int .i64 r]) ∧ Below w.heap.size w w' := by
  obtain ⟨A, c, vs, rfl, hcc, hc2, hA, hv, hr, hi⟩ := h
  obtain ⟨n, hn'⟩ : ∃ n, n = ls.length := ⟨_, rfl⟩
  rw [List.length_append, List.length_singleton, ← hn'] at hcc hv ⊢
  rw [← hn'] at hl
  obtain ⟨x, hx⟩ := get_some vs n (by omega)
  have hix := hi n x p hx (by rw [hn']; simp)
  obtain ⟨ad, rfl, hlt, hcell⟩ := hr n x hx
  have HF := Lib.hid (hf x hix)
  obtain ⟨XA, xc, rfl, -⟩ := hix
  obtain ⟨k, hk⟩ : ∃ k, k = p.length := ⟨_, rfl⟩
  rw [← hk] at hcell HF
  clear hn' hr hi hv hx hA hf hk
  have i1 : (0 : Int) ≤ (n : Int) := by omega
  have i2 : (n : Int) < (n : Int) + 1 := by omega
  have i4 : (r != (0 : Int)) = true := by simp [hr0]
  go_enter Tryd.func100, Tryd.ntmps100
  go_wp2_with (go_at_call 104; refine HF.out.mono ?_; rintro e w1 ⟨rfl, hb1⟩)
  go_ret2
  exact ⟨rfl, up hb1 ((below_box _ _))⟩
set_option maxRecDepth 100000 in
set_option maxHeartbeats 1000000 in
theorem addP_room (P : Value → Prop) (v x : Value) (ls : List (List Int)) (p : List Int) (m : Int) (w : World) (h : RL w v ls) (hP : PL P w v) (hxP : P x) (hx : RI w x p) (hl : ls.length ≤ 1000000) (hm : (ls.length : Int) < m) :
    Calls Tryd.prog 71 #[v, .agg #[x], .int .i64 m] w fun e w' => ∃ v', e = .returned (.tuple #[v', .int .i64 0]) ∧ ROP P w.heap.size w' v' (ls ++ [p]) ∧ Below w.heap.size w w' := by
  obtain ⟨A, c, us, rfl, hcc, hc2, hA, hv, hr, hi⟩ := h
  obtain ⟨n, hn'⟩ : ∃ n, n = ls.length := ⟨_, rfl⟩
  rw [← hn'] at hcc hv hl hm ⊢
  have HPs := Lib.hid (show ∀ y ∈ us, P y from fun y hy => by
    obtain ⟨j, hj⟩ := List.getElem?_of_mem hy
    have hjn : j < n := by have := (List.getElem?_eq_some_iff.1 hj).1; omega
    obtain ⟨ad', e', _, hc'⟩ := hr j y hj
    subst e'
    exact hP ad' _ _ j y rfl (by omega) hc')
  have HxP := Lib.hid hxP
  clear hP hxP
  have HR := Lib.hid hr
  have HI := Lib.hid hi
  have HV := Lib.hid hv
  have Hn := Lib.hid hn'
  have H1 := Lib.hid hx
  obtain ⟨A1, c1, rfl, -⟩ := hx
  obtain ⟨k, hk⟩ : ∃ k, k = p.length := ⟨_, rfl⟩
  rw [← hk] at H1 HxP ⊢
  have hA0 : A = none → n = 0 ∧ n = 0 := fun h => by have := hA h; omega
  have HA := Lib.hid hA0
  clear hr hi hv hn' hA hk hA0
  obtain ⟨i0, hi, hz0, hz1, hz2⟩ := info_parts infoP
  have hge : decide ((m : Int) ≤ (n : Int)) = false := by simp; omega
  have i3 : n ≤ c := by omega
  go_enter Tryd.func71, Tryd.ntmps71
  go_wp2
  go_region_law (refine step_append_grows rfl (.tmp 17) (.tmp 19) 22 rfl 41 i0 _ 1 24 Tryd.underlying22 hi hz0 hz1 hz2 rfl (by decide) A n n us (by simp [Act.eval]) HA.out (by rw [HV.out, Nat.mul_one]) (rd_holds (HR.out.below ((up (below_box w (.cells #[.slice A1 k c1] 41)) (below_box _ (.cells #[.slice A1 k c1] 41))).drew))) ⟨w.heap.size + 1, 0, none⟩ 1 1 [.slice A1 k c1] (by simp [Act.eval]) rfl (by have := cell_one_new (w.alloc (.cells #[.slice A1 k c1] 41)) (.slice A1 k c1) 41; rw [World.size_alloc] at this; exact this) (by intro u hu; simp at hu; subst hu; rfl) (by omega) (by unfold maxLen; omega) (by omega) ?_; intro v' w' hown hgrow)
  all_goals
    go_wp2
    go_ret2
    have hk : Below w.heap.size w w' := ((up (below_box w (.cells #[.slice A1 k c1] 41)) (below_box _ (.cells #[.slice A1 k c1] 41))).drew).grown hgrow (by simp; omega) (fun k hk => by cases hk)
    exact ⟨v', rfl, RO.of hown (by simp [HV.out, Hn.out]) (RL.snoc hown (by rw [HV.out, Hn.out]) (fun j y q hy hq => (HI.out j y q hy hq).keep hk) (H1.out.keep hk)) (by simp; omega) (fun y hy => by rcases List.mem_append.1 hy with h | h; exact HPs.out y h; rw [List.mem_singleton.1 h]; exact HxP.out), hk⟩
set_option maxRecDepth 100000 in
set_option maxHeartbeats 1000000 in
theorem addP_full (v x : Value) (ls : List (List Int)) (p : List Int) (m : Int) (w : World) (h : RL w v ls) (hx : RI w x p) (hm : m ≤ (ls.length : Int)) :
    Calls Tryd.prog 71 #[v, .agg #[x], .int .i64 m] w fun e w' => e = .returned (.tuple #[.slice none 0 0, .int .i64 3]) ∧ Below w.heap.size w w' := by
  obtain ⟨A, c, us, rfl, hcc, hc2, hA, hv, hr, hi⟩ := h
  obtain ⟨n, hn'⟩ : ∃ n, n = ls.length := ⟨_, rfl⟩
  rw [← hn'] at hcc hv hm ⊢
  obtain ⟨A1, c1, rfl, -⟩ := hx
  obtain ⟨k, hk⟩ : ∃ k, k = p.length := ⟨_, rfl⟩
  rw [← hk]
  clear hr hi hv hn' hA hk
  have hge : decide ((m : Int) ≤ (n : Int)) = true := by simp; omega
  go_enter Tryd.func71, Tryd.ntmps71
  go_wp2
  go_ret2
  exact ⟨rfl, below_box _ _⟩
end Go.Proofs.YteepfecplabinaaDoor.Par
