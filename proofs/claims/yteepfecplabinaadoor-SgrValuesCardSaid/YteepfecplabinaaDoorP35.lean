/-
  SgrS ParAb9 SgrU SgrCmp SgrT
-/
import Derived.Deep.RegionLawGrows
import Derived.Deep.MidRow
import Derived.WalkKit
import Derived.IntWalk
import Derived.Test.YteepfecplabinaaDoorP10
import Derived.Test.YteepfecplabinaaDoorP14
import Derived.Test.YteepfecplabinaaDoorP20
import Derived.Test.YteepfecplabinaaDoorP21
import Derived.Test.YteepfecplabinaaDoorP26
import Derived.Test.YteepfecplabinaaDoorP31
import Derived.Test.YteepfecplabinaaDoorP32
import Derived.Test.YteepfecplabinaaDoorP33
import Derived.Test.YteepfecplabinaaDoorP34
namespace Go.Proofs.YteepfecplabinaaDoor.Sgr
open Go.RowKit Utf

theorem own_setC {W : World} {base g n c size : Nat} {e : TypeId} {xs : List Value} (h : W.ownsRow base e size (.slice (some ⟨g, 0, none⟩) n c) n xs) (o : Nat) (v : Value) :
    (W.setCell ⟨g, o, none⟩ v).ownsRow base e size (.slice (some ⟨g, 0, none⟩) n c) n (xs.set o v) := by
  obtain ⟨h0, hv | ⟨g', cap, cur, hv, h1, h2, h3, h4, h5, h6⟩⟩ := h
  · cases hv.1
  · cases hv
    refine ⟨by rw [List.length_set]; exact h0, .inr ⟨g, c, cur.setIfInBounds o v, rfl, h1, ?_, h3, h4, by rw [Array.size_setIfInBounds]; exact h5, ?_⟩⟩
    · obtain ⟨hlt, hk⟩ := Array.getElem?_eq_some_iff.1 h2
      show (W.heap.modify g _)[g]? = _
      rw [Array.getElem?_eq_getElem (by rw [Array.size_modify]; exact hlt), Array.getElem_modify_self, hk]
      rfl
    · rw [Array.toList_setIfInBounds, ← h6, List.take_set]
theorem flat_set (ps : List Sty.P6) (j : Nat) (p : Sty.P6) (hj : j < ps.length) :
    ((((((ps.flatMap Sty.cP).set (j * 6) (.int .i64 p.k)).set (j * 6 + 1) (.int .i64 p.n)).set (j * 6 + 2) (.int .i64 p.m)).set (j * 6 + 3) (.int .i64 p.c0)).set (j * 6 + 4) (.int .i64 p.c1)).set (j * 6 + 5) (.string p.t) = (ps.set j p).flatMap Sty.cP := by
  induction ps generalizing j with
  | nil => simp at hj
  | cons x r ih =>
    cases j with
    | zero => simp [Sty.cP]
    | succ j =>
      have := ih j (by simpa using hj)
      rw [List.set_cons_succ, List.flatMap_cons, List.flatMap_cons, ← this]
      rw [show (j + 1) * 6 = (Sty.cP x).length + j * 6 by simp [Sty.cP]; omega]
      simp [List.set_append_right, Nat.add_assoc]
/-- a row of pens, one of them set -/
theorem ownP_set {W : World} {base g n c : Nat} {ps : List Sty.P6} (h : Sty.OwnP W base (.slice (some ⟨g, 0, none⟩) n c) ps) (hn : n = ps.length) (j : Nat) (p : Sty.P6) (hj : j < ps.length) :
    Sty.OwnP ((((((W.setCell ⟨g, j * 6, none⟩ (.int .i64 p.k)).setCell ⟨g, j * 6 + 1, none⟩ (.int .i64 p.n)).setCell ⟨g, j * 6 + 2, none⟩ (.int .i64 p.m)).setCell ⟨g, j * 6 + 3, none⟩ (.int .i64 p.c0)).setCell ⟨g, j * 6 + 4, none⟩ (.int .i64 p.c1)).setCell ⟨g, j * 6 + 5, none⟩ (.string p.t)) base (.slice (some ⟨g, 0, none⟩) n c) (ps.set j p) := by
  subst hn
  have hl : (ps.flatMap Sty.cP).length = ps.length * 6 := Sty.flat_len ps
  have h1 := own_setC h (j * 6) (.int .i64 p.k)
  have h2 := own_setC h1 (j * 6 + 1) (.int .i64 p.n)
  have h3 := own_setC h2 (j * 6 + 2) (.int .i64 p.m)
  have h4 := own_setC h3 (j * 6 + 3) (.int .i64 p.c0)
  have h5 := own_setC h4 (j * 6 + 4) (.int .i64 p.c1)
  have h6 := own_setC h5 (j * 6 + 5) (.string p.t)
  rw [flat_set ps j p hj] at h6
  unfold Sty.OwnP
  rw [List.length_set]
  exact h6
theorem made17 : (madeCells (Value.agg #[.int .i64 0, .int .i64 0, .int .i64 0, .int .i64 0, .int .i64 0, .string ⟨#[]⟩]).cells (17 * 6)).toList = (List.replicate 17 zP).flatMap Sty.cP := by kernel_rfl
theorem ix_0 (g n c k : Nat) (h : k < n) (w : World) : (Instr.indexAt 31 (.slice (some ⟨g, 0, none⟩) n c) (.int .i64 (k : Int))).run Tryd.prog w = .ok (.pointer (some ⟨g, k * 6, none⟩)) w := by
  have := Sty.ix_run g 0 n c k h w
  rwa [Nat.zero_add] at this
theorem own_cells {W : World} {base g n c : Nat} {ps : List Sty.P6} (h : Sty.OwnP W base (.slice (some ⟨g, 0, none⟩) n c) ps) (k : Nat) (p : Sty.P6) (hp : ps[k]? = some p) :
    W.rangeAt g (k * 6) (Sty.cP p) ∧ ∀ j, j < 6 → W.frozen? ⟨g, k * 6 + j, none⟩ = false := by
  obtain ⟨b, o, hA, hlt, hr⟩ := h.rd k p hp
  cases hA
  rw [Nat.zero_add] at hr
  have ht := h.there (j := k) (List.getElem?_eq_some_iff.1 hp).1
  exact ⟨hr, fun j hj => (ht j hj).2⟩
theorem rep_at {α : Type} (a z : α) (k m : Nat) (hm : 0 < m) : (List.replicate k a ++ List.replicate m z)[k]? = some z := by
  rw [List.getElem?_append_right (by simp), List.length_replicate, Nat.sub_self, List.getElem?_replicate]
  simp [hm]
theorem below_6k {B : Nat} {a w : World} (g o : Nat) (p : Sty.P6) (h : Below B a w) (hb : B ≤ g) : Below B a ((((((w.setCell ⟨g, o, none⟩ (.int .i64 p.k)).setCell ⟨g, o + 1, none⟩ (.int .i64 p.n)).setCell ⟨g, o + 2, none⟩ (.int .i64 p.m)).setCell ⟨g, o + 3, none⟩ (.int .i64 p.c0)).setCell ⟨g, o + 4, none⟩ (.int .i64 p.c1)).setCell ⟨g, o + 5, none⟩ (.string p.t)) :=
  (((((h.setCell (p := ⟨g, o, none⟩) hb _).setCell (p := ⟨g, o + 1, none⟩) hb _).setCell (p := ⟨g, o + 2, none⟩) hb _).setCell (p := ⟨g, o + 3, none⟩) hb _).setCell (p := ⟨g, o + 4, none⟩) hb _).setCell (p := ⟨g, o + 5, none⟩) hb _
theorem own_base {W : World} {base g n c : Nat} {ps : List Sty.P6} (h : Sty.OwnP W base (.slice (some ⟨g, 0, none⟩) n c) ps) (hn : 0 < n) : base ≤ g := by
  obtain ⟨g', hA, hb, -⟩ := h.at0 hn
  cases hA
  exact hb
def manyP (k : Nat) : List Sty.P6 := List.replicate k (pP (pq 0 0)) ++ List.replicate (17 - k) zP
theorem many_len (k : Nat) (h : k ≤ 17) : (manyP k).length = 17 := by unfold manyP; rw [List.length_append, List.length_replicate, List.length_replicate]; omega
theorem many_at (k : Nat) (h : k < 17) : (manyP k)[k]? = some zP := rep_at _ _ _ _ (by omega)
theorem rep_set {α : Type} (a z : α) (k m : Nat) : (List.replicate k a ++ List.replicate (m + 1) z).set k a = List.replicate (k + 1) a ++ List.replicate m z := by
  induction k with
  | zero => rfl
  | succ k ih =>
    rw [List.replicate_succ, List.cons_append, List.set_cons_succ, ih]
    rfl
theorem many_set (k : Nat) (h : k < 17) : (manyP k).set k (pP (pq 0 0)) = manyP (k + 1) := by
  unfold manyP
  rw [show 17 - k = (17 - (k + 1)) + 1 by omega, rep_set]
def bentP : List Sty.P6 := List.replicate 16 (pP (pq 0 0)) ++ [pP (pq 0 1)]
theorem bent_is : ((manyP 17).flatMap Sty.cP).set 98 (.int .i64 1) = bentP.flatMap Sty.cP := by kernel_rfl
/-- Pens at a row of parameters -/
theorem pens_is (W : World) (he : Env W) (v : Value) (l : List (List Int)) (h : Par.RL W v l) (hl : Par.Sz l) (r : List Q4 × Int) (hv : pensV l = r) :
    Calls Tryd.prog 13 #[v] W fun e w' => (∃ B d, e = .returned (.tuple #[.slice B r.1.length d, .int .i64 r.2]) ∧ Sty.RdP w' B (pPs r.1)) ∧ Below W.heap.size W w' := by
  refine (pens_any v l W he h hl.1 hl.2).mono ?_
  subst hv
  rintro e w' ⟨v, rfl, hv, hb⟩
  obtain ⟨B, d, rfl, hr⟩ := own_form hv
  exact ⟨⟨B, d, rfl, hr⟩, hb⟩
theorem pens_unset (W : World) (he : Env W) : Calls Tryd.prog 13 #[.slice (some ⟨W.heap.size + 1, 0, none⟩) 1 1] ((W.alloc (.cells #[.int .i64 (-1)] 3)).alloc (.cells #[.slice (some ⟨W.heap.size, 0, none⟩) 1 1] 41)) fun e w' => (∃ B d, e = .returned (.tuple #[.slice B 0 d, .int .i64 150])) ∧ Below W.heap.size W w' := by
  have hb : Below W.heap.size W ((W.alloc (.cells #[.int .i64 (-1)] 3)).alloc (.cells #[.slice (some ⟨W.heap.size, 0, none⟩) 1 1] 41)) := Par.up (below_box _ _) (below_box _ _)
  refine (pens_is _ (he.keep hb) _ [[-1]] (Par.own_unset W 0 (Nat.zero_le _)).ownL.rl ⟨by decide, by decide⟩ ([], 150) (by decide)).mono ?_
  rintro e w' ⟨⟨B, d, rfl, -⟩, hb2⟩
  exact ⟨⟨B, d, rfl⟩, Par.up hb hb2⟩
end Go.Proofs.YteepfecplabinaaDoor.Sgr

namespace Go.Proofs.YteepfecplabinaaDoor.Par
open Go.RowKit Utf

theorem min_10 (n : Nat) (h : (n : Int) ≤ 10) : (if (10 : Int) < (n : Int) then (10 : Int) else (n : Int)) = (n : Int) := by rw [if_neg (by omega)]
attribute [local go_sem] min_10
def shP (p : List Int) : List Int := p.take 10
def shL (l : List (List Int)) : List (List Int) := (l.take 20).map shP
def Ks (l : List (List Int)) : Prop := l.length ≤ 1000 ∧ ∀ p ∈ l, p.length ≤ 1000
theorem shL_ks (l : List (List Int)) : Ks (shL l) := by
  refine ⟨by simp [shL]; omega, fun p hp => ?_⟩
  unfold shL at hp
  obtain ⟨q, _, rfl⟩ := List.mem_map.1 hp
  unfold shP
  rw [List.length_take]; omega
/-- a slice of parameters of the call's own, whose parts lie in older memory -/
def ShO (w W : World) (B : Nat) (v : Value) (l : List (List Int)) : Prop := ∃ us, W.ownsRow B 41 1 v l.length us ∧ us.length = l.length ∧ ∀ (j : Nat) (x : Value) (p : List Int), us[j]? = some x → l[j]? = some p → RI w x p
theorem ShO.nil (w W : World) (B : Nat) : ShO w W B (.slice none 0 0) [] := ⟨[], World.ownsRow_nil _ _ _ _, rfl, fun j x p h => by simp at h⟩
theorem ShO.rl {w W : World} {B : Nat} {v : Value} {l : List (List Int)} (h : ShO w W B v l) (hb : Below w.heap.size w W) : RL W v l := by
  obtain ⟨us, h1, h2, h3⟩ := h
  exact RL.grew h1 h2 fun j x p hx hp => (h3 j x p hx hp).keep hb
theorem ShO.snoc {w W : World} {B : Nat} {v x : Value} {us : List Value} {l : List (List Int)} {p : List Int} (h2 : us.length = l.length) (h3 : ∀ (j : Nat) (x : Value) (p : List Int), us[j]? = some x → l[j]? = some p → RI w x p) (hx : RI w x p)
    (h1 : W.ownsRow B 41 1 v (l.length + 1) (us ++ [x])) : ShO w W B v (l ++ [p]) := by
  refine ⟨us ++ [x], by rw [List.length_append, List.length_singleton]; exact h1, by simp [h2], fun j y q hy hq => ?_⟩
  by_cases h : j < us.length
  · rw [List.getElem?_append_left h] at hy
    rw [List.getElem?_append_left (by omega)] at hq
    exact h3 j y q hy hq
  · rw [List.getElem?_append_right (by omega)] at hy
    rw [List.getElem?_append_right (by omega), ← h2] at hq
    obtain h0 | h0 : j - us.length = 0 ∨ 0 < j - us.length := by omega
    · rw [h0] at hy hq
      simp at hy hq
      subst hy; subst hq
      exact hx
    · rw [List.getElem?_eq_none (by simp; omega)] at hy
      cases hy
theorem RL.itemI {w : World} {A : Option Addr} {n c : Nat} {l : List (List Int)} (h : RL w (.slice A n c) l) {k : Nat} {p : List Int} (hp : l[k]? = some p) : ∃ ad B cc, A = some ad ∧ ad.block < w.heap.size ∧ w.cell? (ad.add k) = some (.slice B p.length cc) ∧ p.length ≤ cc ∧ RI w (.slice B p.length cc) p := by
  obtain ⟨A', c', vs, he, h1, h2, h3, h4, h5, h6⟩ := h
  have hk : k < l.length := (List.getElem?_eq_some_iff.1 hp).1
  obtain ⟨x, hx⟩ := get_some vs k (by omega)
  have hr := h6 k x p hx hp
  obtain ⟨B, cc, rfl, g1, g2, g3, g4⟩ := hr
  obtain ⟨ad, rfl, hlt, hc⟩ := h5 k _ hx
  cases he
  exact ⟨ad, B, cc, rfl, hlt, hc, g1, B, cc, rfl, g1, g2, g3, g4⟩
theorem RI.cut {w : World} {B : Option Addr} {cc : Nat} {p : List Int} (h : RI w (.slice B p.length cc) p) (k : Nat) (hk : k = min p.length 10) : RI w (.slice B k cc) (shP p) := by
  obtain ⟨B', c', he, g1, g2, g3, g4⟩ := h
  cases he
  have hl : (shP p).length = k := by unfold shP; rw [List.length_take]; omega
  refine ⟨B, cc, by rw [hl], by omega, g2, g3, fun j u hu => ?_⟩
  refine g4 j u ?_
  have hj : j < (cI (shP p)).length := (List.getElem?_eq_some_iff.1 hu).1
  rw [cI_len, hl] at hj
  rw [← hu]
  unfold cI shP
  simp [show j < 10 by omega]
theorem shL_take (l : List (List Int)) (i : Nat) (p : List Int) (h : l[i]? = some p) : (l.take (i + 1)).map shP = (l.take i).map shP ++ [shP p] := by
  rw [List.take_add_one, h, List.map_append]; rfl
set_option maxRecDepth 100000 in
set_option maxHeartbeats 8000000 in
theorem short_own (v : Value) (l : List (List Int)) (w : World) (h : RL w v l) :
    Calls Tryd.prog 10 #[v] w fun e w' => ∃ v', e = .returned v' ∧ ShO w w' w.heap.size v' (shL l) ∧ Below w.heap.size w w' := by
  obtain ⟨A, c, rfl⟩ := h.form
  obtain ⟨n, hn⟩ : ∃ n, n = l.length := ⟨_, rfl⟩
  rw [← hn] at h ⊢
  have HL := Lib.hid h; clear h
  have Hn := Lib.hid hn; clear hn
  obtain ⟨t1, hi1, hy0, hy1, hy2⟩ := info_parts infoP
  go_enter Tryd.func10, Tryd.ntmps10
  go_wp2
  go_loopw [4, 3] (fun iv ov wr => ∃ i : Nat, i ≤ n ∧ i ≤ 20 ∧ iv = .int .i64 i ∧ Hid (ShO w wr w.heap.size ov ((l.take i).map shP) ∧ Below w.heap.size w wr)) (fun iv _ _ => n - (intOf iv).toNat)
  case atStart => exact ⟨0, Nat.zero_le _, Nat.zero_le _, rfl, ShO.nil _ _ _, Below.refl _ _⟩
  case round =>
    obtain ⟨i, hin, hi20, rfl, hid⟩ := hrel
    have hlt0 : (l.take i).length = i := by rw [List.length_take, ← Hn.out]; omega
    obtain ⟨us, hu1, hu2, hu3⟩ := hid.out.1
    rw [List.length_map, hlt0] at hu1
    obtain ⟨AO, co, rfl, _, _⟩ := own_slice hu1
    by_cases hlt : i < n ∧ i < 20
    · obtain ⟨hlt, hlt2⟩ := hlt
      obtain ⟨p, hp⟩ := get_some l i (by rw [← Hn.out]; exact hlt)
      obtain ⟨ad, XA, xc, rfl, hal, hcx, hxc, hrx⟩ := HL.out.itemI hp
      have hcx1 := (hid.out.2.cell (p := ad.add i) (by rw [add_block]; exact hal)).trans hcx
      obtain ⟨m, hm⟩ : ∃ m, m = p.length := ⟨_, rfl⟩
      rw [← hm] at hcx1 hxc
      have U1 := Lib.hid hu1; clear hu1
      have HX := Lib.hid hrx
      have HP := Lib.hid hp
      have HM := Lib.hid hm
      clear hcx hp hm hrx
      have hsz := hid.out.2.size
      have i1 : (0 : Int) ≤ (i : Int) := by omega
      have i2 : (i : Int) < (n : Int) := by omega
      by_cases hm10 : m ≤ 10
      · have m1 : (m : Int) ≤ 10 := by omega
        have m2 : (m : Int) ≤ (xc : Int) := by omega
        have m3 : min (m : Int) 10 = (m : Int) := by omega
        go_upto_region 5 with fail
        go_region_law (refine step_app _ rfl (.tmp 15) (.tmp 30) 22 rfl w.heap.size 41 t1 _ 24 Tryd.underlying22 hi1 hy0 hy1 hy2 rfl (.slice AO i co) i us (by simp [Act.eval]) (own_below U1.out ((below_box wr (.cells #[.slice XA m xc] 41)).drew)) (some ⟨wr.heap.size, 0, none⟩) 1 1 [.slice XA m xc] (by simp [Act.eval]) rfl ((Rd.one wr (.slice XA m xc) 41).below ((Below.refl _ _).drew)) (by intro u hu; simp at hu; subst hu; rfl) (by omega) (by decide) (by simp; omega) ?_; intro v' w' hown hgrow)
        all_goals
          obtain ⟨A6, c6, rfl, _, _⟩ := own_slice hown
          have hol : ShO w w' w.heap.size (.slice A6 (i + 1) c6) ((l.take i).map shP ++ [shP p]) := by
            refine ShO.snoc hu2 hu3 (HX.out.cut m (by rw [← HM.out]; omega)) ?_
            rw [List.length_map, hlt0]
            exact hown
          rw [← shL_take l i p HP.out] at hol
          have hbe : Below w.heap.size w w' := (up hid.out.2 ((below_box wr (.cells #[.slice XA m xc] 41)).drew)).grown hgrow (by simp; omega) (fun q hq => (U1.out.lt q hq).1)
          have G := Lib.hid (And.intro hol hbe)
          clear hol hbe hgrow hown
          go_wp2
          go_roundw
          case rel => exact ⟨i + 1, by omega, by omega, by go_num, G.out.1, G.out.2⟩
          case measure => simp [intOf]; omega
      · have m1 : (10 : Int) < (m : Int) := by omega
        have m2 : (10 : Int) ≤ (xc : Int) := by omega
        have m3 : min (m : Int) 10 = 10 := by omega
        go_upto_region 5 with fail
        go_region_law (refine step_app _ rfl (.tmp 15) (.tmp 30) 22 rfl w.heap.size 41 t1 _ 24 Tryd.underlying22 hi1 hy0 hy1 hy2 rfl (.slice AO i co) i us (by simp [Act.eval]) (own_below U1.out ((below_box wr (.cells #[.slice XA 10 xc] 41)).drew)) (some ⟨wr.heap.size, 0, none⟩) 1 1 [.slice XA 10 xc] (by simp [Act.eval]) rfl ((Rd.one wr (.slice XA 10 xc) 41).below ((Below.refl _ _).drew)) (by intro u hu; simp at hu; subst hu; rfl) (by omega) (by decide) (by simp; omega) ?_; intro v' w' hown hgrow)
        all_goals
          obtain ⟨A6, c6, rfl, _, _⟩ := own_slice hown
          have hol : ShO w w' w.heap.size (.slice A6 (i + 1) c6) ((l.take i).map shP ++ [shP p]) := by
            refine ShO.snoc hu2 hu3 (HX.out.cut 10 (by rw [← HM.out]; omega)) ?_
            rw [List.length_map, hlt0]
            exact hown
          rw [← shL_take l i p HP.out] at hol
          have hbe : Below w.heap.size w w' := (up hid.out.2 ((below_box wr (.cells #[.slice XA 10 xc] 41)).drew)).grown hgrow (by simp; omega) (fun q hq => (U1.out.lt q hq).1)
          have G := Lib.hid (And.intro hol hbe)
          clear hol hbe hgrow hown
          go_wp2
          go_roundw
          case rel => exact ⟨i + 1, by omega, by omega, by go_num, G.out.1, G.out.2⟩
          case measure => simp [intOf]; omega
    · have ho : ShO w wr w.heap.size (.slice AO i co) (shL l) := by
        have := hid.out.1
        rwa [show (l.take i).map shP = shL l by
          unfold shL
          rcases (show i = n ∨ i = 20 by omega) with h | h
          · rw [List.take_of_length_le (by rw [← Hn.out, h]; exact Nat.le_refl _), List.take_of_length_le (by rw [← Hn.out]; omega)]
          · rw [h]] at this
      have G := Lib.hid ho
      clear ho hu1 hu2 hu3
      rcases (show i = n ∨ (i < n ∧ i = 20) by omega) with h | ⟨h, h2⟩
      · subst h
        go_wp2
        go_ret
        exact ⟨_, rfl, G.out, hid.out.2⟩
      · subst h2
        have i2 : (20 : Int) < (n : Int) := by omega
        go_wp2
        go_ret
        exact ⟨_, rfl, G.out, hid.out.2⟩
theorem short_any (v : Value) (l : List (List Int)) (w : World) (h : RL w v l) :
    Calls Tryd.prog 10 #[v] w fun e w' => ∃ v', e = .returned v' ∧ RL w' v' (shL l) ∧ Below w.heap.size w w' := by
  refine (short_own v l w h).mono ?_
  rintro e w' ⟨v', rfl, h1, h2⟩
  exact ⟨v', rfl, h1.rl h2, h2⟩
end Go.Proofs.YteepfecplabinaaDoor.Par

namespace Go.Proofs.YteepfecplabinaaDoor.Sgr
open Go.RowKit Utf

theorem own1_free {W : World} {base g n c k : Nat} {e : TypeId} {xs : List Value} (h : W.ownsRow base e 1 (.slice (some ⟨g, 0, none⟩) n c) n xs) : W.frozen? ⟨g, k, none⟩ = false := by
  rcases h.2 with ⟨hv, _⟩ | ⟨g', cap, cur, hv, h1, h2, h3, h4, h5, h6⟩
  · cases hv
  · cases hv
    simp [World.frozen?, h2]
/-- one row of numbers put in the place of another -/
theorem ownL_set {W : World} {B g n c k : Nat} {l : List (List Int)} {x : Value} {p : List Int} (h : Par.OwnL W B (.slice (some ⟨g, 0, none⟩) n c) l) (hn : n = l.length) (hx : W.ownsRow B 3 1 x p.length (cI p)) :
    Par.OwnL (W.setCell ⟨g, k, none⟩ x) B (.slice (some ⟨g, 0, none⟩) n c) (l.set k p) := by
  subst hn
  obtain ⟨vs, h1, h2, h3⟩ := h
  have hs := own_setC h1 k x
  refine ⟨vs.set k x, by rw [List.length_set]; exact hs, by simp [h2], fun j y q hy hq => ?_⟩
  have hg : W.grownBy (W.setCell ⟨g, k, none⟩ x) (Value.slice (some ⟨g, 0, none⟩) l.length c).ownBlock := Par.grown_set W g k x
  rw [List.getElem?_set] at hy hq
  by_cases e : k = j
  · subst e
    rw [if_pos rfl] at hy hq
    split at hy
    · split at hq
      · cases hy; cases hq
        exact Par.own_apart hx h1 (by decide) hg
      · cases hq
    · cases hy
  · rw [if_neg e] at hy hq
    exact Par.own_apart (h3 j y q hy hq) h1 (by decide) hg
theorem ownI_zero (w : World) : (w.alloc (.cells #[] 3)).ownsRow w.heap.size 3 1 (.slice (some ⟨w.heap.size, 0, none⟩) 0 0) 0 (cI []) :=
  ⟨rfl, .inr ⟨w.heap.size, 0, #[], rfl, Nat.le_refl _, heap_alloc_new w _, Nat.le_refl _, by decide, rfl, rfl⟩⟩
theorem ownI_one (w : World) (z : Int) (B : Nat) (hB : B ≤ w.heap.size) : (w.alloc (.cells #[.int .i64 z] 3)).ownsRow B 3 1 (.slice (some ⟨w.heap.size, 0, none⟩) 1 1) 1 (cI [z]) :=
  ⟨rfl, .inr ⟨w.heap.size, 1, #[.int .i64 z], rfl, hB, heap_alloc_new w _, Nat.le_refl _, by decide, rfl, rfl⟩⟩
/-- rows that near makes -/
structure Nr (l : List (List Int)) : Prop where
  le : l.length ≤ 16
  six : ∀ p ∈ l, p.length ≤ 6
theorem Nr.snoc {l : List (List Int)} (h : Nr l) (hl : l.length < 16) (z : Int) : Nr (l ++ [[z]]) :=
  ⟨by simp; omega, fun p hp => by
    rcases List.mem_append.1 hp with h1 | h1
    · exact h.six p h1
    · rw [List.mem_singleton.1 h1]; show 1 ≤ 6; decide⟩
theorem Nr.set {l : List (List Int)} (h : Nr l) (k : Nat) (p : List Int) (hp : p.length ≤ 6) : Nr (l.set k p) :=
  ⟨by rw [List.length_set]; exact h.le, fun q hq => by
    rcases List.mem_or_eq_of_mem_set hq with h1 | h1
    · exact h.six q h1
    · rw [h1]; exact hp⟩
def nearT : List Int := [0, 1, 2, 4, 5, 7, 21, 22, 24, 30, 38, 39, 48, 48, 53, 55, 58, 58, 97, 107, 200, 255, 256, -1]
def nearA : Array Value := (cI nearT).toArray
theorem near_sz : (Tryd.prog.info? 76).map (·.size) = some nearA.size := by kernel_rfl
theorem near_one : nearA.all (·.oneCell') = true := by kernel_rfl
theorem wpList_build_as {P : Program} {ops : Array Oper} {rest : List Oper} {o : Oper} {a : Act} {w : World} {Q : Exit → Act → World → Prop} (hgd : o.guard = none) (t : TypeId) (parts : Array (Nat × Operand)) (ho : o.op = .build t parts) (cells : Array Value)
    (hb : P.built t (parts.map fun (i, x) => (i, a.eval x)).toList = some cells) (h : wpList P ops Q rest (a.put o.dst (.agg cells)) w) : wpList P ops Q (o :: rest) a w :=
  wpList_plain hgd fun _ hK => wp_build t parts ho (by rw [hb]; rfl) (by rw [hb]; exact hK _ _ h)
theorem there_last (w : World) (cs : Array Value) (t : TypeId) (n : Nat) (h : n ≤ cs.size) : (w.alloc (.cells cs t)).there w.heap.size 0 n := fun j hj => by
  have hg := heap_alloc_new w (.cells cs t)
  refine ⟨?_, frozen_of_row _ _ _ cs t hg⟩
  rw [cell_of_row _ _ _ cs t (0, 0) hg, Nat.zero_add, Array.getElem?_eq_getElem (by omega)]
  rfl
theorem sizeCells (b : Nat) : ∀ (vs : List Value) (o : Nat) (w : World), (w.setCells b o vs).heap.size = w.heap.size
  | [], _, _ => rfl
  | v :: r, o, w => by rw [World.setCells, sizeCells b r]; simp
theorem box_put {w : World} {b : Nat} {cs ds : List Value} (h : Par.Box w b cs) (hl : ds.length = cs.length) : Par.Box (w.setCells b 0 ds) b ds :=
  ⟨by rw [sizeCells]; exact h.1, World.rangeAt_setCells_same w b 0 ds (by rw [hl]; exact h.2.2), World.there_setCells (by rw [hl]; exact h.2.2) _ _ _⟩
theorem below_cells (B : Nat) (a : World) : ∀ (vs : List Value) (b o : Nat) (w : World), Below B a w → B ≤ b → Below B a (w.setCells b o vs)
  | [], _, _, _, h, _ => h
  | v :: r, b, o, w, h, hb => by rw [World.setCells]; exact below_cells B a r b (o + 1) _ (h.setCell (p := ⟨b, o, none⟩) hb v) hb
theorem near_box (w : World) (cs : Array Value) (t : TypeId) (h : cs.size = 24) : Par.Box ((w.alloc (.cells cs t)).setCells w.heap.size 0 nearA.toList) w.heap.size (cI nearT) ∧ Below w.heap.size w ((w.alloc (.cells cs t)).setCells w.heap.size 0 nearA.toList) :=
  ⟨box_put (Par.Box.new w cs t) (by show 24 = _; rw [Array.length_toList, h]), below_cells _ _ _ _ _ _ (below_box _ _) (Nat.le_refl _)⟩
theorem nearT_at (k : Nat) (h : k < 24) : ∃ z, nearT[k]? = some z := ⟨_, List.getElem?_eq_getElem (by show k < 24; exact h)⟩
set_option maxRecDepth 100000 in
theorem ixB_run (ad : Addr) (n c k : Nat) (h : k < n) (w : World) : (Instr.indexAt 24 (.slice (some ad) n c) (.int .i64 (k : Int))).run Tryd.prog w = .ok (.pointer (some (ad.add k))) w := by
  have h1 : (k : Int) < (n : Int) := by omega
  rw [run_indexAt_slice w 24 _ _ _ _ _ Tryd.underlying24]
  go_simp
set_option maxRecDepth 100000 in
theorem ixR_run (g n c k : Nat) (h : k < n) (w : World) : (Instr.indexAt 22 (.slice (some ⟨g, 0, none⟩) n c) (.int .i64 (k : Int))).run Tryd.prog w = .ok (.pointer (some ⟨g, k, none⟩)) w := by
  have h1 : (k : Int) < (n : Int) := by omega
  rw [run_indexAt_slice w 22 _ _ _ _ _ Tryd.underlying22]
  go_simp
theorem ix24 (b k : Nat) (h : k < 24) (w : World) : (Instr.indexAt 76 (.pointer (some ⟨b, 0, none⟩)) (.int .u8 (k : Int))).run Tryd.prog w = .ok (.pointer (some ⟨b, k, none⟩)) w := by
  rcases (show k = 0 ∨ k = 1 ∨ k = 2 ∨ k = 3 ∨ k = 4 ∨ k = 5 ∨ k = 6 ∨ k = 7 ∨ k = 8 ∨ k = 9 ∨ k = 10 ∨ k = 11 ∨ k = 12 ∨ k = 13 ∨ k = 14 ∨ k = 15 ∨ k = 16 ∨ k = 17 ∨ k = 18 ∨ k = 19 ∨ k = 20 ∨ k = 21 ∨ k = 22 ∨ k = 23 by omega) with rfl | rfl | rfl | rfl | rfl | rfl | rfl | rfl | rfl | rfl | rfl | rfl | rfl | rfl | rfl | rfl | rfl | rfl | rfl | rfl | rfl | rfl | rfl | rfl <;> kernel_rfl
set_option maxRecDepth 100000 in
set_option maxHeartbeats 4000000 in
theorem near_any (A : Option Addr) (n c : Nat) (bs : List UInt8) (w : World) (hn : bs.length = n) (hm : n ≤ 9223372036854775807) (hr : Rd w A (cB bs)) :
    Calls Tryd.prog 12 #[.slice A n c] w fun e w' => ∃ v l, e = .returned v ∧ Par.RL w' v l ∧ Nr l ∧ Below w.heap.size w w' := by
  have HN := Lib.hid hn
  have HR := Lib.hid hr
  clear hn hr
  obtain ⟨i0, hi0, hz0, hz1, hz2⟩ := info_parts Par.infoI
  obtain ⟨i1, hi1, hy0, hy1, hy2⟩ := info_parts Par.infoP
  have S0 := Lib.hid (And.intro hi0 (And.intro hz0 (And.intro hz1 hz2)))
  have S1 := Lib.hid (And.intro hi1 (And.intro hy0 (And.intro hy1 hy2)))
  clear hi0 hz0 hz1 hz2 hi1 hy0 hy1 hy2
  go_enter Tryd.func12, Tryd.ntmps12
  go_wp2_with (first
    | ((with_reducible refine wpList_build_as rfl 76 _ rfl nearA ?hb ?_); (case hb => kernel_rfl))
    | ((with_reducible refine wpList_store_mid rfl 76 (.tmp 3) (.tmp 8) rfl w.heap.size 0 nearA rfl rfl ?ht near_sz near_one ?_); (case ht => exact there_last _ _ _ _ (by show 24 ≤ 24; exact Nat.le_refl _))))
  obtain ⟨hbx, hbw⟩ := near_box w #[.int .i64 0, .int .i64 0, .int .i64 0, .int .i64 0, .int .i64 0, .int .i64 0, .int .i64 0, .int .i64 0, .int .i64 0, .int .i64 0, .int .i64 0, .int .i64 0, .int .i64 0, .int .i64 0, .int .i64 0, .int .i64 0, .int .i64 0, .int .i64 0, .int .i64 0, .int .i64 0, .int .i64 0, .int .i64 0, .int .i64 0, .int .i64 0] 76 rfl
  generalize (w.alloc (.cells #[.int .i64 0, .int .i64 0, .int .i64 0, .int .i64 0, .int .i64 0, .int .i64 0, .int .i64 0, .int .i64 0, .int .i64 0, .int .i64 0, .int .i64 0, .int .i64 0, .int .i64 0, .int .i64 0, .int .i64 0, .int .i64 0, .int .i64 0, .int .i64 0, .int .i64 0, .int .i64 0, .int .i64 0, .int .i64 0, .int .i64 0, .int .i64 0] 76)).setCells w.heap.size 0 nearA.toList = w1 at hbx hbw ⊢
  have HB := Lib.hid hbw
  have HX := Lib.hid hbx
  have HS1 := Lib.hid (show w.heap.size + 1 ≤ w1.heap.size from hbx.1)
  generalize Value.agg nearA = va
  clear hbx hbw
  generalize hG : w.heap.size = G at HX HS1 ⊢
  have HG := Lib.hid hG
  clear hG
  go_loopw [4, 5] (fun v i wr => ∃ (k : Nat) (l : List (List Int)), k ≤ n ∧ k % 2 = 0 ∧ i = .int .i64 k ∧ Hid (Par.OwnL wr w1.heap.size v l ∧ Nr l ∧ Below w1.heap.size w1 wr)) (fun _ i _ => n - (intOf i).toNat)
  case atStart => exact ⟨0, [], by omega, rfl, rfl, Par.OwnL.nil _ _, ⟨by decide, by simp⟩, Below.refl _ _⟩
  case round =>
    obtain ⟨k, l, hk, hk2, rfl, hid⟩ := hrel
    have HNr := Lib.hid hid.out.2.1
    have hO := hid.out.1
    have HB2 := Lib.hid hid.out.2.2
    obtain ⟨AO, co, hsh⟩ := hO.rl.form
    obtain ⟨L, hL⟩ : ∃ L, L = l.length := ⟨_, rfl⟩
    rw [← hL] at hsh
    subst hsh
    have HO := Lib.hid hO
    have HL := Lib.hid hL
    have hL16 : L ≤ 16 := by rw [hL]; exact HNr.out.le
    clear hO hid hL
    have hk1 : (k : Int) + 1 ≤ 9223372036854775807 := by omega
    by_cases hc : k + 1 < n ∧ L < 16
    · have q1 : (k : Int) + 1 < (n : Int) := by omega
      have q2 : (L : Int) < 16 := by omega
      obtain ⟨x, hx⟩ : ∃ x, bs[k]? = some x := ⟨_, List.getElem?_eq_getElem (by have := HN.out; omega)⟩
      obtain ⟨y, hy⟩ : ∃ y, bs[k + 1]? = some y := ⟨_, List.getElem?_eq_getElem (by have := HN.out; omega)⟩
      obtain ⟨ad, rfl, hbl, hcx⟩ := HR.out k _ (cB_at bs k x hx)
      obtain ⟨ad', hA', _, hcy⟩ := HR.out (k + 1) _ (cB_at bs (k + 1) y hy)
      cases hA'
      have hW := Par.up HB.out HB2.out
      have b0 := hW.cell (p := ad.add k) (by rw [Par.add_block]; exact hbl)
      have b1 := hW.cell (p := ad.add (k + 1)) (by rw [Par.add_block]; exact hbl)
      rw [hcx] at b0
      rw [hcy] at b1
      obtain ⟨X, hX⟩ : ∃ X, X = x.toNat := ⟨_, rfl⟩
      have hX2 : X < 256 := by rw [hX]; exact x.toNat_lt
      obtain ⟨Y, hY⟩ : ∃ Y, Y = y.toNat := ⟨_, rfl⟩
      have hY2 : Y < 256 := by rw [hY]; exact y.toNat_lt
      rw [← hX] at b0
      rw [← hY] at b1
      clear hX hY hcx hcy hx hy hbl hW
      obtain ⟨M, hM⟩ : ∃ M, M = X % 24 := ⟨_, rfl⟩
      have hM2 : M < 24 := by omega
      have em : ((X : Int) % 24) = (M : Int) := by omega
      clear hM
      obtain ⟨R, hR⟩ : ∃ R, R = Y % 4 := ⟨_, rfl⟩
      have er : ((Y : Int) % 4) = (R : Int) := by omega
      clear hR
      obtain ⟨z, hz⟩ := nearT_at M hM2
      have a0 : wr.cell? ⟨G, M, none⟩ = some (.int .i64 z) := ((HX.out.keep HB2.out).cell M _ (cI_at nearT M z hz))
      have e1 : ∀ W, (Instr.indexAt 76 (.pointer (some ⟨G, 0, none⟩)) (.int .u8 (M : Int))).run Tryd.prog W = .ok (.pointer (some ⟨G, M, none⟩)) W := fun W => ix24 G M hM2 W
      clear hz
      go_upto_region 7 with fail
      clear e1 em hM2 a0
      have e2 : ∀ W, (Instr.indexAt 24 (.slice (some ad) n c) (.int .i64 ((k : Int) + 1))).run Tryd.prog W = .ok (.pointer (some (ad.add (k + 1)))) W := fun W => ixB_run ad n c (k + 1) hc.1 W
      have b2 : wr.cell? ⟨ad.block, ad.off + (k + 1), none⟩ = some (.int .u8 (Y : Int)) := by have := b1; simpa [Addr.add] using this
      have HC := Lib.hid hc
      have HK1 := Lib.hid hk1
      clear hc hk1 b1 b0
      by_cases hnew : 0 < R ∨ L = 0
      · go_cut [39] from 28 to 39 (fun v wx => v = .bool true ∧ wx = wr)
        case first =>
          by_cases h0 : 0 < R
          · have q3 : ¬ R = 0 := by omega
            clear hnew
            go_wp2_with fail
            go_meet
            exact ⟨rfl, rfl⟩
          · have q3 : R = 0 := by omega
            have q4 : L = 0 := by omega
            subst q4
            subst q3
            clear h0 hnew
            go_wp2_with fail
            go_meet
            exact ⟨rfl, rfl⟩
        case rest =>
          obtain ⟨rfl, rfl⟩ := hcut
          obtain ⟨us, hu1, hu2, hu3⟩ := HO.out
          rw [← HL.out] at hu1
          have U1 := Lib.hid hu1
          have U2 := Lib.hid hu2
          have U3 := Lib.hid hu3
          have hle : w1.heap.size ≤ wc.heap.size := HB2.out.size
          have HLE := Lib.hid hle
          have hrd := Rd.one (wc.alloc (.cells #[.int .i64 z] 3)) (.slice (some ⟨wc.heap.size, 0, none⟩) 1 1) 41
          rw [World.size_alloc] at hrd
          have RD := Lib.hid hrd
          have hbw : Below wc.heap.size wc ((wc.alloc (.cells #[.int .i64 z] 3)).alloc (.cells #[.slice (some ⟨wc.heap.size, 0, none⟩) 1 1] 41)) := Par.up (below_box _ _) (below_box _ _)
          have BW := Lib.hid hbw
          clear hu1 hu2 hu3 hle hrd hbw e2 er b2
          go_wp2_with (at_builtin; refine wpList_app _ rfl _ _ 22 rfl w1.heap.size 41 i1 _ 24 Tryd.underlying22 S1.out.1 S1.out.2.1 S1.out.2.2.1 S1.out.2.2.2 rfl _ L us rfl (own_below U1.out BW.out) (some ⟨wc.heap.size + 1, 0, none⟩) 1 1 [.slice (some ⟨wc.heap.size, 0, none⟩) 1 1] rfl rfl RD.out (by intro u hu; simp at hu; subst hu; rfl) (by omega) (by decide) (by have := HLE.out; have := BW.out.size; omega) ?_; intro v9 w9 hown hgrow hat; have HW := Lib.hid hown; have HGR := Lib.hid hgrow; clear hown hgrow hat)
          have hol : Par.OwnL w9 w1.heap.size v9 (l ++ [[z]]) := Par.OwnL.snoc (own_below U1.out BW.out) U2.out (fun a x p hx hp => own_below (U3.out a x p hx hp) BW.out) (own_below (ownI_one wc z w1.heap.size HLE.out) (below_box _ _)) HW.out HGR.out
          have hbe : Below w1.heap.size w1 w9 := (HB2.out.trans (BW.out.mono HLE.out)).grown HGR.out (by have := HLE.out; have := BW.out.size; omega) (fun q hq => (U1.out.lt q hq).1)
          have HE := Lib.hid (And.intro hol hbe)
          clear hol hbe
          go_roundw
          case rel => exact ⟨k + 2, l ++ [[z]], by have := HC.out; omega, by omega, by go_num, HE.out.1, HNr.out.snoc (by have := HL.out; have := HC.out; omega) z, HE.out.2⟩
          case measure => simp [intOf]; have := HC.out; omega
      · have q3 : R = 0 := by omega
        have q4 : ¬ L = 0 := by omega
        have q5 : ((L : Int) == 0) = false := by simpa using q4
        subst q3
        clear hnew
        go_cut [39] from 28 to 39 (fun v wx => v = .bool false ∧ wx = wr)
        case first =>
          go_wp2_with fail
          go_meet
          exact ⟨rfl, rfl⟩
        case rest =>
          obtain ⟨rfl, rfl⟩ := hcut
          clear e2 er b2
          obtain ⟨P, rfl⟩ : ∃ P, L = P + 1 := ⟨L - 1, by omega⟩
          have ew : IntKind.i64.wrap ((P : Int) + 1 - 1) = (P : Int) := by rw [show (P : Int) + 1 - 1 = (P : Int) by omega]; exact IntWalk.i64_in _ (by omega)
          clear q5
          obtain ⟨us, hu1, hu2, hu3⟩ := HO.out
          rw [← HL.out] at hu1
          obtain ⟨g, rfl, hwg, hgl⟩ : ∃ g, AO = some ⟨g, 0, none⟩ ∧ w1.heap.size ≤ g ∧ g < wc.heap.size := by
            rcases hu1.2 with ⟨hv, _⟩ | ⟨g, cap, cur, hv, h1, h2, _⟩
            · cases hv
            · cases hv
              exact ⟨g, rfl, h1, (Array.getElem?_eq_some_iff.1 h2).1⟩
          have hu1' : wc.ownsRow w1.heap.size 41 1 (.slice (some ⟨g, 0, none⟩) (P + 1) co) (P + 1) us := hu1
          have f0 := own1_free (k := P) hu1'
          obtain ⟨p, hp⟩ : ∃ p, l[P]? = some p := ⟨_, List.getElem?_eq_getElem (by have := HL.out; omega)⟩
          obtain ⟨ad2, B, cc, hA2, _, hc0, hcc, hrp⟩ := HO.out.rl.item hp
          cases hA2
          rw [Addr.add_mid, Nat.zero_add] at hc0
          have hp6 : p.length ≤ 6 := HNr.out.six p (List.mem_of_getElem? hp)
          have ei := fun W => ixR_run g (P + 1) co P (by omega) W
          have HU := Lib.hid hu1'
          have HRP := Lib.hid hrp
          have HWG := Lib.hid hwg
          generalize hpl : p.length = pl at hc0 hcc hp6
          have HPL := Lib.hid hpl
          clear hu1 hu1' hu2 hu3 hrp hp hpl hwg
          by_cases h6 : pl < 6
          · have q6 : (pl : Int) < 6 := by omega
            go_upto_region 11 with fail
            have Z0 := Lib.hid (ownI_zero wc)
            have c1 : (wc.alloc (.cells #[] 3)).cell? ⟨g, P, none⟩ = some (.slice B pl cc) := ((below_box wc _).cell (p := ⟨g, P, none⟩) hgl).trans hc0
            go_wp2_with (at_builtin; refine Hid.out ?_)
            refine Lib.hid ?_
            refine wpList_app _ rfl _ _ 39 rfl wc.heap.size 3 i0 _ 8 Tryd.underlying39 S0.out.1 S0.out.2.1 S0.out.2.2.1 S0.out.2.2.2 rfl _ 0 (cI []) rfl Z0.out B pl cc (cI p) rfl (by rw [cI_len]; exact HPL.out) (HRP.out.below (below_box _ _)) (by intro u hu; obtain ⟨x, _, rfl⟩ := List.mem_map.1 hu; rfl) (by omega) (by decide) (by simp) ?_
            intro v10 w10 hown hgrow hat
            have HV10 := Lib.hid hown
            have HB10 := Lib.hid ((below_box wc (.cells #[] 3)).grown hgrow (by simp) (fun q hq => (Z0.out.lt q hq).1))
            clear hown hgrow hat c1
            go_wp2_with (at_builtin; refine Hid.out ?_)
            refine Lib.hid ?_
            refine wpList_app _ rfl _ _ 39 rfl wc.heap.size 3 i0 _ 8 Tryd.underlying39 S0.out.1 S0.out.2.1 S0.out.2.2.1 S0.out.2.2.2 rfl _ (0 + pl) (cI [] ++ cI p) rfl (own_below HV10.out (below_box _ _)) (some ⟨w10.heap.size, 0, none⟩) 1 1 [.int .i64 z] rfl rfl (Rd.one _ _ _) (by intro u hu; simp at hu; subst hu; rfl) (by omega) (by decide) (by have := HB10.out.size; simp; omega) ?_
            intro v11 w11 hown hgrow hat
            rw [Nat.zero_add] at hown
            have HV11 := Lib.hid hown
            have HB11 := Lib.hid ((HB10.out.alloc HB10.out.size (.cells #[.int .i64 z] 3)).grown hgrow (by have := HB10.out.size; simp; omega) (fun q hq => (HV10.out.lt q hq).1))
            have c2 := (HB11.out.cell (p := ⟨g, P, none⟩) hgl).trans hc0
            have f2 := own1_free (k := P) (own_below HU.out HB11.out)
            obtain ⟨A11, c11, hs11, _, _⟩ := own_slice hown
            subst hs11
            clear hown hgrow hat hc0 f0
            have hx : w11.ownsRow w1.heap.size 3 1 (.slice A11 (pl + 1) c11) (p ++ [z]).length (cI (p ++ [z])) := by
              have h := Par.own_mono HV11.out HB2.out.size
              rw [List.length_append, HPL.out]
              have e : cI [] ++ cI p ++ [Value.int .i64 z] = cI (p ++ [z]) := by simp [cI]
              rw [e] at h
              exact h
            have hfin : Par.OwnL (w11.setCell ⟨g, P, none⟩ (.slice A11 (pl + 1) c11)) w1.heap.size (.slice (some ⟨g, 0, none⟩) (P + 1) co) (l.set P (p ++ [z])) := ownL_set (HO.out.keep HB11.out) HL.out hx
            have hbe : Below w1.heap.size w1 (w11.setCell ⟨g, P, none⟩ (.slice A11 (pl + 1) c11)) := (HB2.out.trans (HB11.out.mono HB2.out.size)).setCell (p := ⟨g, P, none⟩) HWG.out _
            have hnr : Nr (l.set P (p ++ [z])) := HNr.out.set P _ (by rw [List.length_append, HPL.out]; show pl + 1 ≤ 6; omega)
            have HFI := Lib.hid (And.intro hfin (And.intro hnr hbe))
            clear hx hfin hbe hnr
            go_upto_region 5 with fail
            clear c2 f2 ei
            generalize w11.setCell ⟨g, P, none⟩ (.slice A11 (pl + 1) c11) = w12 at HFI ⊢
            go_wp2_with fail
            go_roundw
            case rel => exact ⟨k + 2, l.set P (p ++ [z]), by have := HC.out; omega, by omega, by go_num, HFI.out⟩
            case measure => simp [intOf]; have := HC.out; omega
          · have q6 : ¬ (pl : Int) < 6 := by omega
            go_wp2_with fail
            go_roundw
            case rel => exact ⟨k + 2, l, by have := HC.out; omega, by omega, by go_num, HO.out, HNr.out, HB2.out⟩
            case measure => simp [intOf]; have := HC.out; omega
    · have HF := Lib.hid hc
      go_upto_region 4 with fail
      go_cut [18] from 9 to 18 (fun v wx => v = .bool false ∧ wx = wr)
      case first =>
        rcases Nat.lt_or_ge (k + 1) n with g1 | g1
        all_goals have g2 := HF.out
        · have q1 : (k : Int) + 1 < (n : Int) := by omega
          have q2 : ¬ (L : Int) < 16 := by omega
          clear g1 g2 HF
          go_wp2_with fail
          go_meet
          exact ⟨rfl, rfl⟩
        · have q1 : ¬ (k : Int) + 1 < (n : Int) := by omega
          clear g1 g2 HF
          go_wp2_with fail
          go_meet
          exact ⟨rfl, rfl⟩
      case rest =>
        obtain ⟨rfl, rfl⟩ := hcut
        go_wp2_with fail
        go_ret
        exact ⟨_, l, rfl, HO.out.rl, HNr.out, Par.up HB.out HB2.out⟩
end Go.Proofs.YteepfecplabinaaDoor.Sgr

namespace Go.Proofs.YteepfecplabinaaDoor.Sgr
open Go.RowKit Utf

/-- a row of parameters that came from somewhere, with a length in plain sight -/
structure Big (w : World) (v : Value) (l : List (List Int)) : Prop where
  rl : Par.RL w v l
  le : l.length ≤ 1000
  six : ∀ p ∈ l, p.length ≤ 1000
theorem Big.keep {w w' : World} {v : Value} {l : List (List Int)} (h : Big w v l) (hb : Below w.heap.size w w') : Big w' v l := ⟨h.rl.keep hb, h.le, h.six⟩
theorem big_row {w : World} {v : Value} {ps : List UInt16} {ms : List UInt8} (h : Par.RL w v (Par.rowV ps ms)) : Big w v (Par.rowV ps ms) := by
  obtain ⟨q1, q2, _⟩ := Par.bad_no (Par.rowV_ok ps ms)
  exact ⟨h, by omega, fun p hp => by have := (q2 p hp).2.1; omega⟩
theorem big_near {w : World} {v : Value} {l : List (List Int)} (h : Par.RL w v l) (hn : Nr l) : Big w v l := ⟨h, by have := hn.le; omega, fun p hp => by have := hn.six p hp; omega⟩
theorem big_short {w : World} {v : Value} {l : List (List Int)} (h : Par.RL w v (Par.shL l)) : Big w v (Par.shL l) := ⟨h, (Par.shL_ks l).1, (Par.shL_ks l).2⟩
theorem Big.form {w : World} {v : Value} {l : List (List Int)} (h : Big w v l) : ∃ A n c, v = .slice A n c ∧ Big w (.slice A n c) l := by
  obtain ⟨A, c, rfl⟩ := h.rl.form
  exact ⟨A, l.length, c, rfl, h⟩
/-- a row of pens that a call hands back -/
def PensAt (W : World) (l : List (List Int)) (e : Ending) (w' : World) : Prop := ∃ N B d, e = .returned (.tuple #[.slice B N d, .int .i64 (pensV l).2]) ∧ N = (pensV l).1.length ∧ Sty.RdP w' B (pPs (pensV l).1) ∧ Below W.heap.size W w'
theorem pens_at {W w' : World} {l : List (List Int)} {e : Ending} (h : PensPost W l e w') : PensAt W l e w' := by
  obtain ⟨v, rfl, ho, hb⟩ := h
  obtain ⟨A, c, rfl, -, -⟩ := ho.form
  refine ⟨_, A, c, rfl, by unfold pPs; rw [List.length_map], ho.rd, hb⟩
theorem pens_row (W : World) (h : Env W) (v : Value) (l : List (List Int)) (hr : Big W v l) : Calls Tryd.prog 13 #[v] W (PensAt W l) :=
  (pens_any v l W h hr.rl (by have := hr.le; omega) (fun p hp => by have := hr.six p hp; omega)).mono fun _ _ h => pens_at h
theorem rpens_row (W : World) (v : Value) (l : List (List Int)) (hr : Big W v l) : Calls Tryd.prog 14 #[v] W (PensAt W l) :=
  (rpens_any v l W hr.rl (by have := hr.le; omega)).mono fun _ _ h => pens_at h
theorem pensV_1000 (l : List (List Int)) (h : l.length ≤ 1000) : (pensV l).1.length ≤ 1000 := by
  unfold pensV
  split
  · show 0 ≤ 1000; decide
  · have := pensL_len l; show (pensL l).length ≤ 1000; omega
/-- the same pens are the same -/
theorem same_at (B1 B2 : Option Addr) (N M c d : Nat) (us : List Q4) (W : World) (hn : N = us.length) (hm : M = us.length) (h1 : Sty.RdP W B1 (pPs us)) (h2 : Sty.RdP W B2 (pPs us)) (hl : us.length ≤ 1000) :
    Calls Tryd.prog 15 #[.slice B1 N c, .slice B2 M d] W fun e w' => e = .returned (.bool true) ∧ Below W.heap.size W w' := by
  have := same9_any B1 B2 N M c d us us W hn hm h1 h2 (by omega)
  rwa [decide_eq_true rfl] at this
end Go.Proofs.YteepfecplabinaaDoor.Sgr

namespace Go.Proofs.YteepfecplabinaaDoor.Sgr
open Go.RowKit Utf

def qD (d : Sty.D8) : Q4 := qP (Sty.penD d)
theorem pP_qD (d : Sty.D8) : Sty.penD d = pP (qD d) := (pP_of _ (Sty.penD_ok d)).1
theorem qD_ok (d : Sty.D8) : okQ (qD d) = true := (pP_of _ (Sty.penD_ok d)).2
/-- pens that are valid, sixteen at most, one at least -/
structure Good (qs : List Q4) : Prop where
  ok : qs.all okQ = true
  le : qs.length ≤ 16
  pos : 0 < qs.length
theorem Good.ne {qs : List Q4} (h : Good qs) : qs ≠ [] := fun e => by have := h.pos; rw [e] at this; exact absurd this (by decide)
theorem Good.pars {qs : List Q4} (h : Good qs) : parsV (pPs qs) = (qs.map prmV, 0) := by
  have h1 : (pPs qs).any badP = false := by
    unfold pPs
    rw [List.any_map, List.any_eq_false]
    intro q hq
    have := List.all_eq_true.1 h.ok q hq
    simp only [Function.comp, badP, okP_pP, this, Bool.not_true]
    decide
  have h2 : (pPs qs).length ≤ 16 := by unfold pPs; rw [List.length_map]; exact h.le
  unfold parsV
  rw [h1, if_neg (by decide), if_neg (by omega)]
  unfold prmP pPs
  rw [List.map_map]
  rfl
theorem Good.right {qs : List Q4} (h : Good qs) : Par.isBad (qs.map prmV) = false := prms_right qs h.ok h.le
theorem Good.back {qs : List Q4} (h : Good qs) : pensV (qs.map prmV) = (qs, 0) := by
  unfold pensV
  rw [h.right, if_neg (by decide), Sgr.back qs h.ok h.ne]
theorem params_good (W : World) (h : Env W) (A : Option Addr) (n c : Nat) (qs : List Q4) (hg : Good qs) (hn : n = qs.length) (hr : Sty.RdP W A (pPs qs)) :
    Calls Tryd.prog 18 #[.slice A n c] W fun e w' => ∃ B d, e = .returned (.tuple #[.slice B n d, .int .i64 0]) ∧ Par.RL w' (.slice B n d) (qs.map prmV) ∧ Below W.heap.size W w' := by
  have hl : (pPs qs).length = n := by unfold pPs; rw [List.length_map, hn]
  refine (params_any A n c (pPs qs) W h hl.symm hr (by have := hg.le; omega)).mono ?_
  rintro e w' ⟨v, rfl, hv, hb⟩
  rw [hg.pars] at hv ⊢
  obtain ⟨B, d, rfl⟩ := hv.rl.form
  have hm : (qs.map prmV).length = n := by rw [List.length_map, hn]
  have hv' := hv.rl
  simp only [hm] at hv' ⊢
  exact ⟨B, d, rfl, hv', hb⟩
theorem pens_good9 (W : World) (h : Env W) (v : Value) (n : Nat) (qs : List Q4) (hg : Good qs) (hn : n = qs.length) (hr : Par.RL W v (qs.map prmV)) :
    Calls Tryd.prog 13 #[v] W fun e w' => ∃ B d, e = .returned (.tuple #[.slice B n d, .int .i64 0]) ∧ Sty.RdP w' B (pPs qs) ∧ Below W.heap.size W w' := by
  have hz := (Par.good_is hg.right).1
  refine (pens_is W h v _ hr hz (qs, 0) hg.back).mono ?_
  rintro e w' ⟨⟨B, d, rfl, hr⟩, hb⟩
  subst hn
  exact ⟨B, d, rfl, hr, hb⟩
theorem print_good (W : World) (h : Par.Tab W) (v : Value) (qs : List Q4) (hg : Good qs) (hr : Par.RL W v (qs.map prmV)) (s : ByteArray) (hs : s = Par.prtV (qs.map prmV)) :
    Calls Tryd.prog 21 #[v] W fun e w' => e = .returned (.tuple #[.string s, .int .i64 0]) ∧ Below W.heap.size W w' := by
  obtain ⟨hz, h1, h2, h3⟩ := Par.good_is hg.right
  have := Par.print_any v _ W hr hz h
  rw [h2, ← hs] at this
  exact this
theorem parse_good (W : World) (n : Nat) (qs : List Q4) (hg : Good qs) (hn : n = qs.length) (s : ByteArray) (hs : s = Par.prtV (qs.map prmV)) :
    Calls Tryd.prog 22 #[.string s] W fun e w' => ∃ B d, e = .returned (.tuple #[.slice B n d, .int .i64 0]) ∧ Par.RL w' (.slice B n d) (qs.map prmV) ∧ Below W.heap.size W w' := by
  obtain ⟨hz, h1, h2, h3⟩ := Par.good_is hg.right
  rw [← h1, ← hs] at h3
  refine (Par.parse_any s W).mono ?_
  rintro e w' ⟨v, rfl, hv, hb⟩
  rw [h3] at hv ⊢
  obtain ⟨B, d, rfl⟩ := hv.1.form
  have hm : (qs.map prmV).length = n := by rw [List.length_map, hn]
  have hv' := hv.1
  simp only [hm] at hv' ⊢
  exact ⟨B, d, rfl, hv', hb⟩
theorem same_good (W : World) (A B : Option Addr) (n c d : Nat) (qs : List Q4) (hg : Good qs) (hn : n = qs.length) (ha : Sty.RdP W A (pPs qs)) (hb : Sty.RdP W B (pPs qs)) :
    Calls Tryd.prog 15 #[.slice A n c, .slice B n d] W fun e w' => e = .returned (.bool true) ∧ Below W.heap.size W w' := by
  have := same9_any A B n n c d qs qs W hn hn ha hb (by have := hg.le; omega)
  rw [decide_eq_true (rfl : qs = qs)] at this
  exact this
theorem rsame_good (W : World) (u v : Value) (qs : List Q4) (hg : Good qs) (ha : Par.RL W u (qs.map prmV)) (hb : Par.RL W v (qs.map prmV)) :
    Calls Tryd.prog 20 #[u, v] W fun e w' => e = .returned (.bool true) ∧ Below W.heap.size W w' := by
  obtain ⟨hz, _⟩ := Par.good_is hg.right
  have := Par.rsame_any u v _ _ W ha hb hz.1 hz.2 hz.2
  rw [decide_eq_true (rfl : qs.map prmV = qs.map prmV)] at this
  exact this
theorem pen9_any (d : Sty.D8) (w : World) : Calls Tryd.prog 17 #[.agg #[.int .u8 (d.a.toNat : Int), .int .u8 (d.u.toNat : Int), .int .u8 (d.w.toNat : Int), .int .u8 (d.m.toNat : Int), .int .u32 (d.e0.toNat : Int), .int .u32 (d.e1.toNat : Int), .int .u32 (d.e2.toNat : Int), .int .u32 (d.e3.toNat : Int)]] w fun r w' => r = .returned (qV (qD d)) ∧ Below w.heap.size w w' := by
  have := Sty.pen_any d w
  rw [pP_qD] at this
  exact this
/-- an append onto a row of the call's own, at an operation that is done under a condition which holds -/
theorem wpList_appG {P : Program} (w : World) {ops : Array Oper} {rest : List Oper} {o : Oper} {a : Act} {Q : Exit → Act → World → Prop} (hw : Region.wanted o (yielded ops a.tmps) = true) (s x : Operand) (t : TypeId)
    (ho : o.op = .call { callee := .builtin .append, args := #[s, x], argTypes := #[t, t] })
    (base : Nat) (e : TypeId) (i : TypeInfo) (z : Value) (bytes : Nat) (ht : P.underlying t = some (.slice e)) (hi : P.info? e = some i) (hz : i.zero = some z)
    (hsize : i.size = 1) (hby : i.bytes = bytes) (hzs : z.cells.size = 1)
    (v : Value) (n : Nat) (xs : List Value) (hs : a.eval s = v) (hown : w.ownsRow base e 1 v n xs)
    (A : Option Addr) (m c : Nat) (news : List Value) (hx : a.eval x = .slice A m c) (hm : news.length = m) (hr : Rd w A news) (h1 : ∀ u ∈ news, u.oneCell' = true)
    (hsmall : n + m ≤ 1000000) (hb8 : bytes ≤ 64) (hbase : base ≤ w.heap.size)
    (h : ∀ v' w', w'.ownsRow base e 1 v' (n + m) (xs ++ news) → Below base w w' → wpList P ops Q rest (a.put o.dst v') w') : wpList P ops Q (o :: rest) a w := by
  show if _ then _ else _
  rw [if_pos hw]
  exact .inl (wp_app w s x t ho base e i z bytes ht hi hz hsize hby hzs v n xs hs hown A m c news hx hm hr h1 hsmall hb8 hbase fun v' w' h2 h3 _ => h v' w' h2 ((Below.refl _ _).grown h3 hbase fun k hk => (hown.lt k hk).1))
theorem rl_parts {w : World} {A : Option Addr} {n c : Nat} {l : List (List Int)} (h : Par.RL w (.slice A n c) l) :
    ∃ vs : List Value, vs.length = l.length ∧ n = l.length ∧ Rd w A vs ∧ (∀ u ∈ vs, u.oneCell' = true) ∧ ∀ (j : Nat) (x : Value) (p : List Int), vs[j]? = some x → l[j]? = some p → Par.RI w x p := by
  obtain ⟨A', c', vs, h1, h2, h3, h4, h5, h6, h7⟩ := h
  cases h1
  refine ⟨vs, h5, rfl, h6, fun u hu => ?_, h7⟩
  obtain ⟨j, hj, rfl⟩ := List.mem_iff_getElem.1 hu
  obtain ⟨A2, c2, he, _⟩ := h7 j _ l[j] (List.getElem?_eq_getElem hj) (List.getElem?_eq_getElem (by omega))
  rw [he]
  rfl
theorem both_rl {w : World} {v : Value} {B n : Nat} {vs us : List Value} {l r : List (List Int)} (ho : w.ownsRow B 41 1 v n (vs ++ us)) (h1 : vs.length = l.length) (h2 : us.length = r.length)
    (r1 : ∀ (j : Nat) (x : Value) (p : List Int), vs[j]? = some x → l[j]? = some p → Par.RI w x p) (r2 : ∀ (j : Nat) (x : Value) (p : List Int), us[j]? = some x → r[j]? = some p → Par.RI w x p) : Par.RL w v (l ++ r) := by
  refine Par.RL.grew ho (by simp [h1, h2]) fun j x p hx hp => ?_
  by_cases h : j < vs.length
  · rw [List.getElem?_append_left h] at hx
    rw [List.getElem?_append_left (by omega)] at hp
    exact r1 j x p hx hp
  · rw [List.getElem?_append_right (by omega)] at hx hp
    rw [← h1] at hp
    exact r2 _ x p hx hp
/-- pens that are valid, sixteen at most -/
structure Fine (qs : List Q4) : Prop where
  ok : qs.all okQ = true
  le : qs.length ≤ 16
theorem Fine.pars {qs : List Q4} (h : Fine qs) : parsV (pPs qs) = (qs.map prmV, 0) := by
  cases qs with
  | nil => rfl
  | cons q r => exact Good.pars ⟨h.ok, h.le, by simp⟩
theorem params_fine (W : World) (h : Env W) (A : Option Addr) (n c : Nat) (qs : List Q4) (hg : Fine qs) (hn : n = qs.length) (hr : Sty.RdP W A (pPs qs)) :
    Calls Tryd.prog 18 #[.slice A n c] W fun e w' => ∃ B d, e = .returned (.tuple #[.slice B n d, .int .i64 0]) ∧ Par.RL w' (.slice B n d) (qs.map prmV) ∧ Below W.heap.size W w' := by
  have hl : (pPs qs).length = n := by unfold pPs; rw [List.length_map, hn]
  refine (params_any A n c (pPs qs) W h hl.symm hr (by have := hg.le; omega)).mono ?_
  rintro e w' ⟨v, rfl, hv, hb⟩
  rw [hg.pars] at hv ⊢
  obtain ⟨B, d, rfl⟩ := hv.rl.form
  have hm : (qs.map prmV).length = n := by rw [List.length_map, hn]
  have hv' := hv.rl
  simp only [hm] at hv' ⊢
  exact ⟨B, d, rfl, hv', hb⟩
/-- the pens of the first drafts -/
def qdl (ds : List Sty.D8) (k : Nat) : List Q4 := (ds.take k).map qD
theorem qdl_len (ds : List Sty.D8) (k : Nat) (hk : k ≤ ds.length) : (qdl ds k).length = k := by unfold qdl; rw [List.length_map, List.length_take, Nat.min_eq_left hk]
theorem qdl_ok (ds : List Sty.D8) (k : Nat) : (qdl ds k).all okQ = true := by
  unfold qdl
  rw [List.all_map]
  simp only [List.all_eq_true]
  intro x _
  exact qD_ok x
theorem qdl_snoc (ds : List Sty.D8) (k : Nat) (x : Sty.D8) (h : ds[k]? = some x) : pPs (qdl ds k) ++ [pP (qD x)] = pPs (qdl ds (k + 1)) := by
  rw [← pPs_snoc]
  congr 1
  unfold qdl
  rw [List.take_add_one, h]
  simp
theorem both_fine (ds es : List Sty.D8) (k j : Nat) (hk : k ≤ ds.length) (hj : j ≤ es.length) (h1 : k ≤ 8) (h2 : j ≤ 8) : Fine (qdl ds k ++ qdl es j) := by
  refine ⟨by rw [List.all_append, qdl_ok, qdl_ok]; rfl, ?_⟩
  rw [List.length_append, qdl_len ds k hk, qdl_len es j hj]
  omega
theorem fine_of (ds : List Sty.D8) (k : Nat) (hk : k ≤ ds.length) (h1 : k ≤ 8) : Fine (qdl ds k) := ⟨qdl_ok ds k, by rw [qdl_len ds k hk]; omega⟩
theorem pPs_app (a b : List Q4) : pPs (a ++ b) = pPs a ++ pPs b := List.map_append
theorem rdP_none {w : World} {A : Option Addr} {ps : List Sty.P6} (h : Sty.RdP w A ps) (hA : A = none) : ps.length = 0 := by
  rcases Nat.eq_zero_or_pos ps.length with h0 | h0
  · exact h0
  · obtain ⟨b, o, he, _⟩ := h 0 _ (List.getElem?_eq_getElem h0)
    rw [hA] at he
    cases he
theorem own_zero (w : World) : (w.alloc (.cells #[] 41)).ownsRow w.heap.size 41 1 (.slice (some ⟨w.heap.size, 0, none⟩) 0 0) 0 [] :=
  ⟨rfl, .inr ⟨w.heap.size, 0, #[], rfl, Nat.le_refl _, heap_alloc_new w _, Nat.le_refl _, by decide, rfl, rfl⟩⟩
theorem ownP_zero (w : World) : Sty.OwnP (w.alloc (.cells #[] 48)) w.heap.size (.slice (some ⟨w.heap.size, 0, none⟩) 0 0) (pPs []) := Sty.OwnP.new w _ (Nat.le_refl _) [] #[] rfl (by decide)
theorem rsame_fine (W : World) (u v : Value) (us vs : List Q4) (hg : Fine (us ++ vs)) (ha : Par.RL W u ((us ++ vs).map prmV)) (hb : Par.RL W v (us.map prmV ++ vs.map prmV)) :
    Calls Tryd.prog 20 #[u, v] W fun e w' => e = .returned (.bool true) ∧ Below W.heap.size W w' := by
  obtain ⟨hz, _⟩ := Par.good_is (prms_right _ hg.ok hg.le)
  rw [← List.map_append] at hb
  have := Par.rsame_any u v _ _ W ha hb hz.1 hz.2 hz.2
  rw [decide_eq_true (rfl : (us ++ vs).map prmV = (us ++ vs).map prmV)] at this
  exact this
/-- style.Run at a row of pens: its answer speaks of the pens alone -/
theorem run_fine (s : Sty.S8) (qs : List Q4) (N : Nat) (hN : qs.length = N) (h16 : N ≤ 16) : ∃ (a u f0 f1 b0 b1 l0 l1 z : Int), ∀ (A : Option Addr) (c : Nat) (W : World), Sty.Tl W → Sty.RdP W A (pPs qs) →
    Calls Tryd.prog 25 #[.agg #[.int .i64 s.a, .int .i64 s.u, .int .i64 s.f0, .int .i64 s.f1, .int .i64 s.b0, .int .i64 s.b1, .int .i64 s.l0, .int .i64 s.l1], .slice A N c] W fun e w' => e = .returned (.tuple #[.agg #[.int .i64 a, .int .i64 u, .int .i64 f0, .int .i64 f1, .int .i64 b0, .int .i64 b1, .int .i64 l0, .int .i64 l1], .int .i64 z]) ∧ Below W.heap.size W w' := by
  refine ⟨(Sty.runV s (pPs qs)).a, (Sty.runV s (pPs qs)).u, (Sty.runV s (pPs qs)).f0, (Sty.runV s (pPs qs)).f1, (Sty.runV s (pPs qs)).b0, (Sty.runV s (pPs qs)).b1, (Sty.runV s (pPs qs)).l0, (Sty.runV s (pPs qs)).l1, Sty.runE s (pPs qs), fun A c W hl hr => ?_⟩
  have hp : (pPs qs).length = N := by unfold pPs; rw [List.length_map, hN]
  have := Sty.run_any s A (pPs qs) c W hl hr (by omega)
  rw [hp] at this
  exact this
/-- an append onto a row of pens, at a step of a region that draws its order -/
theorem step_appP (w : World) {ops : Array Oper} {o : Oper} {a : Act} {K : Act → World → Prop} {Q : Exit → Act → World → Prop} {E : Prop} (hgd : o.guard = none) (s x : Operand)
    (ho : o.op = .call { callee := .builtin .append, args := #[s, x], argTypes := #[31, 31] })
    (base : Nat) (v : Value) (ps : List Sty.P6) (hs : a.eval s = v) (hown : Sty.OwnP w base v ps) (A : Option Addr) (m c : Nat) (qs : List Sty.P6) (hx : a.eval x = .slice A m c) (hm : qs.length = m) (hr : Sty.RdP w A qs) (hA : A = none → m = 0)
    (hsmall : ps.length + m ≤ 100000) (hbase : base ≤ w.heap.size) (h : ∀ v' w', Sty.OwnP w' base v' (ps ++ qs) → Below base w w' → K (a.put o.dst v') w') :
    if Region.wanted o (yielded ops a.tmps) = true then Oper.wp Tryd.prog o a w K Q else E := by
  have hw : Region.wanted o (yielded ops a.tmps) = true := by simp [Region.wanted, hgd]
  rw [if_pos hw]
  exact Sty.wp_appP w s x ho base v ps hs hown A m c qs hx hm hr hA hsmall hbase h
theorem step_appG (w : World) {ops : Array Oper} {o : Oper} {a : Act} {K : Act → World → Prop} {Q : Exit → Act → World → Prop} {E : Prop} (hgd : o.guard = none) (s x : Operand)
    (ho : o.op = .call { callee := .builtin .append, args := #[s, x], argTypes := #[31, 31] })
    (base : Nat) (v : Value) (ps : List Sty.P6) (hs : a.eval s = v) (hown : Sty.OwnP w base v ps) (A : Option Addr) (m c : Nat) (qs : List Sty.P6) (hx : a.eval x = .slice A m c) (hm : qs.length = m) (hr : Sty.RdP w A qs) (hA : A = none → m = 0)
    (hsmall : ps.length + m ≤ 100000) (hbase : base ≤ w.heap.size) (h : ∀ v' w', Sty.OwnP w' base v' (ps ++ qs) → w.grownBy w' v.ownBlock → K (a.put o.dst v') w') :
    if Region.wanted o (yielded ops a.tmps) = true then Oper.wp Tryd.prog o a w K Q else E := by
  have hw : Region.wanted o (yielded ops a.tmps) = true := by simp [Region.wanted, hgd]
  rw [if_pos hw]
  obtain ⟨v', w', hrun, h2, h3⟩ := Sty.run_appP w base o.type v ps hown A m c qs hm hr hA hsmall hbase
  unfold Oper.wp execOp
  simp only [ho, resolve, invoke, builtin, Sem.run_bind, Sem.run_pure, Result.andThen_ok, List.map_toArray, List.map_cons, List.map_nil, hs, hx, hrun]
  exact h v' w' h2 h3
theorem below_app {w w' : World} {base : Nat} {v : Value} {ps : List Sty.P6} (hown : Sty.OwnP w base v ps) (hg : w.grownBy w' v.ownBlock) (hb : base ≤ w.heap.size) : Below base w w' := (Below.refl _ _).grown hg hb fun k hk => (hown.lt k hk).1
/-- a new block of a style, nothing written in it yet, behind an append to a row of actions -/
def Fresh (b : Nat) (w : World) (g : Nat) : Prop := b ≤ g ∧ w.heap[g]? = some (.cells #[.int .i64 0, .int .i64 0, .int .i64 0, .int .i64 0, .int .i64 0, .int .i64 0, .int .i64 0, .int .i64 0] 68 (0, 0))
theorem Fresh.app {b : Nat} {w w' : World} {base g : Nat} {v : Value} {ps : List Sty.P6} (h : Fresh b w g) (hown : Sty.OwnP w base v ps) (hg : w.grownBy w' v.ownBlock) : Fresh b w' g := by
  refine ⟨h.1, (hg.block g (Array.getElem?_eq_some_iff.1 h.2).1 ?_).trans h.2⟩
  rcases hown.2 with ⟨rfl, _⟩ | ⟨g', cap, cur, rfl, _, hh, _⟩
  · simp [Value.ownBlock]
  · simp only [Value.ownBlock]
    intro e
    injection e with e
    subst e
    rw [h.2] at hh
    injection hh with hh
    injection hh with _ h2
    exact absurd h2 (by decide)
theorem Fresh.keep {b : Nat} {w w' : World} {g : Nat} (h : Fresh b w g) (hb : Below w.heap.size w w') : Fresh b w' g := ⟨h.1, (hb.block g (Array.getElem?_eq_some_iff.1 h.2).1).trans h.2⟩
theorem Fresh.new {b : Nat} (w : World) (hb : b ≤ w.heap.size) : Fresh b (w.alloc (.cells #[.int .i64 0, .int .i64 0, .int .i64 0, .int .i64 0, .int .i64 0, .int .i64 0, .int .i64 0, .int .i64 0] 68)) w.heap.size := ⟨hb, heap_alloc_new w _⟩
theorem Fresh.box {b : Nat} {w : World} {g : Nat} (h : Fresh b w g) : Par.Box w g [.int .i64 0, .int .i64 0, .int .i64 0, .int .i64 0, .int .i64 0, .int .i64 0, .int .i64 0, .int .i64 0] := Par.Box.of h.2
theorem Fresh.facts {b : Nat} {w : World} {g : Nat} (h : Fresh b w g) : w.cell? ⟨g, 0, none⟩ = some (.int .i64 0) ∧ w.frozen? ⟨g, 0, none⟩ = false ∧ w.cell? ⟨g, 1, none⟩ = some (.int .i64 0) ∧ w.frozen? ⟨g, 1, none⟩ = false ∧ w.cell? ⟨g, 2, none⟩ = some (.int .i64 0) ∧ w.frozen? ⟨g, 2, none⟩ = false ∧ w.cell? ⟨g, 3, none⟩ = some (.int .i64 0) ∧ w.frozen? ⟨g, 3, none⟩ = false ∧ w.cell? ⟨g, 4, none⟩ = some (.int .i64 0) ∧ w.frozen? ⟨g, 4, none⟩ = false ∧ w.cell? ⟨g, 5, none⟩ = some (.int .i64 0) ∧ w.frozen? ⟨g, 5, none⟩ = false ∧ w.cell? ⟨g, 6, none⟩ = some (.int .i64 0) ∧ w.frozen? ⟨g, 6, none⟩ = false ∧ w.cell? ⟨g, 7, none⟩ = some (.int .i64 0) ∧ w.frozen? ⟨g, 7, none⟩ = false :=
  ⟨h.box.cell 0 _ rfl, h.box.free 0 (by show 0 < 8; decide), h.box.cell 1 _ rfl, h.box.free 1 (by show 1 < 8; decide), h.box.cell 2 _ rfl, h.box.free 2 (by show 2 < 8; decide), h.box.cell 3 _ rfl, h.box.free 3 (by show 3 < 8; decide), h.box.cell 4 _ rfl, h.box.free 4 (by show 4 < 8; decide), h.box.cell 5 _ rfl, h.box.free 5 (by show 5 < 8; decide), h.box.cell 6 _ rfl, h.box.free 6 (by show 6 < 8; decide), h.box.cell 7 _ rfl, h.box.free 7 (by show 7 < 8; decide)⟩
/-- the new block filled -/
theorem fresh_fill {w0 w8 V : World} {g G : Nat} {rs : List Value} (a u f0 f1 b0 b1 l0 l1 : Int) (h : Fresh w8.heap.size V g) (hb : Below w8.heap.size w8 V) (hy : Par.Box w8 G rs) (h0 : Below w0.heap.size w0 w8) :
    Par.Box ((((((((V.setCell ⟨g, 0, none⟩ (.int .i64 a)).setCell ⟨g, 1, none⟩ (.int .i64 u)).setCell ⟨g, 2, none⟩ (.int .i64 f0)).setCell ⟨g, 3, none⟩ (.int .i64 f1)).setCell ⟨g, 4, none⟩ (.int .i64 b0)).setCell ⟨g, 5, none⟩ (.int .i64 b1)).setCell ⟨g, 6, none⟩ (.int .i64 l0)).setCell ⟨g, 7, none⟩ (.int .i64 l1)) g [.int .i64 a, .int .i64 u, .int .i64 f0, .int .i64 f1, .int .i64 b0, .int .i64 b1, .int .i64 l0, .int .i64 l1] ∧ Par.Box ((((((((V.setCell ⟨g, 0, none⟩ (.int .i64 a)).setCell ⟨g, 1, none⟩ (.int .i64 u)).setCell ⟨g, 2, none⟩ (.int .i64 f0)).setCell ⟨g, 3, none⟩ (.int .i64 f1)).setCell ⟨g, 4, none⟩ (.int .i64 b0)).setCell ⟨g, 5, none⟩ (.int .i64 b1)).setCell ⟨g, 6, none⟩ (.int .i64 l0)).setCell ⟨g, 7, none⟩ (.int .i64 l1)) G rs ∧ Below w0.heap.size w0 ((((((((V.setCell ⟨g, 0, none⟩ (.int .i64 a)).setCell ⟨g, 1, none⟩ (.int .i64 u)).setCell ⟨g, 2, none⟩ (.int .i64 f0)).setCell ⟨g, 3, none⟩ (.int .i64 f1)).setCell ⟨g, 4, none⟩ (.int .i64 b0)).setCell ⟨g, 5, none⟩ (.int .i64 b1)).setCell ⟨g, 6, none⟩ (.int .i64 l0)).setCell ⟨g, 7, none⟩ (.int .i64 l1)) := by
  have hs := h.2
  have hg := h.1
  have hb8 := ((((((((hb.setCell (p := ⟨g, 0, none⟩) hg (.int .i64 a)).setCell (p := ⟨g, 1, none⟩) hg (.int .i64 u)).setCell (p := ⟨g, 2, none⟩) hg (.int .i64 f0)).setCell (p := ⟨g, 3, none⟩) hg (.int .i64 f1)).setCell (p := ⟨g, 4, none⟩) hg (.int .i64 b0)).setCell (p := ⟨g, 5, none⟩) hg (.int .i64 b1)).setCell (p := ⟨g, 6, none⟩) hg (.int .i64 l0)).setCell (p := ⟨g, 7, none⟩) hg (.int .i64 l1))
  exact ⟨(((((((((Par.Box.of hs).set 0 _).set 1 _).set 2 _).set 3 _).set 4 _).set 5 _).set 6 _).set 7 _), hy.below hb8 hy.1, Par.up h0 hb8⟩
theorem fresh_whole {w0 w8 V : World} {G : Nat} {rs : List Value} (a u f0 f1 b0 b1 l0 l1 : Int) (hb : Below w8.heap.size w8 V) (hy : Par.Box w8 G rs) (h0 : Below w0.heap.size w0 w8) :
    Par.Box (V.alloc (.cells #[.int .i64 a, .int .i64 u, .int .i64 f0, .int .i64 f1, .int .i64 b0, .int .i64 b1, .int .i64 l0, .int .i64 l1] 68)) V.heap.size [.int .i64 a, .int .i64 u, .int .i64 f0, .int .i64 f1, .int .i64 b0, .int .i64 b1, .int .i64 l0, .int .i64 l1] ∧ Par.Box (V.alloc (.cells #[.int .i64 a, .int .i64 u, .int .i64 f0, .int .i64 f1, .int .i64 b0, .int .i64 b1, .int .i64 l0, .int .i64 l1] 68)) G rs ∧ Below w0.heap.size w0 (V.alloc (.cells #[.int .i64 a, .int .i64 u, .int .i64 f0, .int .i64 f1, .int .i64 b0, .int .i64 b1, .int .i64 l0, .int .i64 l1] 68)) := by
  have hb8 : Below w8.heap.size w8 (V.alloc (.cells #[.int .i64 a, .int .i64 u, .int .i64 f0, .int .i64 f1, .int .i64 b0, .int .i64 b1, .int .i64 l0, .int .i64 l1] 68)) := hb.alloc hb.size _
  exact ⟨Par.Box.new V _ _, hy.below hb8 hy.1, Par.up h0 hb8⟩
/-- Pens of what valid pens print -/
theorem pens_fine (W : World) (h : Env W) (v : Value) (n : Nat) (qs : List Q4) (hg : Fine qs) (hn : n = qs.length) (h0 : 0 < n) (hr : Par.RL W v (qs.map prmV)) :
    Calls Tryd.prog 13 #[v] W fun e w' => ∃ B d, e = .returned (.tuple #[.slice B n d, .int .i64 0]) ∧ Sty.RdP w' B (pPs qs) ∧ Below W.heap.size W w' :=
  pens_good9 W h v n qs ⟨hg.ok, hg.le, by omega⟩ hn hr
theorem pens_none (W : World) (h : Env W) (v : Value) (hr : Par.RL W v []) :
    Calls Tryd.prog 13 #[v] W fun e w' => ∃ B d, e = .returned (.tuple #[.slice B 1 d, .int .i64 0]) ∧ Below W.heap.size W w' := by
  refine (pens_is W h v _ hr ⟨by decide, by simp⟩ ([pq 0 0], 0) (by decide)).mono ?_
  rintro e w' ⟨⟨B, d, rfl, hr⟩, hb⟩
  exact ⟨B, d, rfl, hb⟩
end Go.Proofs.YteepfecplabinaaDoor.Sgr
