/-
  ParP ParX ParQ
-/
import Derived.RangeFuncBox
import Derived.Test.YteepfecplabinaaDoorP25
namespace Go.Proofs.YteepfecplabinaaDoor.Par
open Go.RowKit Utf

def partAt (ps : List UInt16) (k : Nat) : Int := match ps[k]? with
  | some x => ((x.toNat % 10001 : Nat) : Int) - 1
  | none => -1
def manyOf (m : UInt8) : Nat := m.toNat % 6 + 1
def rowP (ps : List UInt16) (k n : Nat) : List Int := (List.range n).map fun j => partAt ps (k + j)
def rowGo (ps : List UInt16) : Nat → List UInt8 → List (List Int)
  | _, [] => []
  | k, m :: r => rowP ps k (manyOf m) :: rowGo ps (k + manyOf m) r
def kAt (k : Nat) : List UInt8 → Nat
  | [] => k
  | m :: r => kAt (k + manyOf m) r
def rowV (ps : List UInt16) (ms : List UInt8) : List (List Int) := if rowGo ps 0 (ms.take 16) = [[-1]] then [] else rowGo ps 0 (ms.take 16)
theorem rowP_succ (ps : List UInt16) (k n : Nat) : rowP ps k (n + 1) = rowP ps k n ++ [partAt ps (k + n)] := by
  unfold rowP; rw [List.range_succ, List.map_append]; rfl
theorem rowP_len (ps : List UInt16) (k n : Nat) : (rowP ps k n).length = n := by simp [rowP]
theorem rowGo_snoc (ps : List UInt16) (k : Nat) (l : List UInt8) (m : UInt8) : rowGo ps k (l ++ [m]) = rowGo ps k l ++ [rowP ps (kAt k l) (manyOf m)] := by
  induction l generalizing k with
  | nil => rfl
  | cons x r ih => rw [List.cons_append, rowGo, ih, rowGo, kAt]; rfl
theorem kAt_snoc (k : Nat) (l : List UInt8) (m : UInt8) : kAt k (l ++ [m]) = kAt k l + manyOf m := by
  induction l generalizing k with
  | nil => rfl
  | cons x r ih => rw [List.cons_append, kAt, ih]; rfl
theorem rowGo_len (ps : List UInt16) (k : Nat) (l : List UInt8) : (rowGo ps k l).length = l.length := by
  induction l generalizing k with
  | nil => rfl
  | cons x r ih => rw [rowGo, List.length_cons, ih, List.length_cons]
theorem kAt_le (k : Nat) (l : List UInt8) : kAt k l ≤ k + 6 * l.length := by
  induction l generalizing k with
  | nil => simp [kAt]
  | cons x r ih =>
    have := ih (k + manyOf x)
    have : manyOf x ≤ 6 := by unfold manyOf; omega
    rw [kAt, List.length_cons]; omega
theorem partAt_in (ps : List UInt16) (k : Nat) : -1 ≤ partAt ps k ∧ partAt ps k ≤ 9999 := by
  unfold partAt
  split <;> omega
theorem rowGo_ok (ps : List UInt16) (k : Nat) (l : List UInt8) : ∀ p ∈ rowGo ps k l, 1 ≤ p.length ∧ p.length ≤ 6 ∧ ∀ z ∈ p, -1 ≤ z ∧ z ≤ 9999 := by
  induction l generalizing k with
  | nil => simp [rowGo]
  | cons x r ih =>
    intro p hp
    rw [rowGo, List.mem_cons] at hp
    rcases hp with rfl | hp
    · refine ⟨by rw [rowP_len]; unfold manyOf; omega, by rw [rowP_len]; unfold manyOf; omega, fun z hz => ?_⟩
      unfold rowP at hz
      obtain ⟨j, _, rfl⟩ := List.mem_map.1 hz
      exact partAt_in _ _
    · exact ih _ p hp
theorem rowV_ok (ps : List UInt16) (ms : List UInt8) : isBad (rowV ps ms) = false := by
  have h := rowGo_ok ps 0 (ms.take 16)
  have hl := rowGo_len ps 0 (ms.take 16)
  unfold rowV
  split
  · decide
  · rename_i hne
    unfold isBad
    simp only [Bool.or_eq_false_iff, decide_eq_false_iff_not, List.any_eq_false]
    refine ⟨⟨by rw [hl, List.length_take]; omega, fun p hp => ?_⟩, hne⟩
    obtain ⟨h1, h2, h3⟩ := h p hp
    unfold wrongP
    simp only [Bool.or_eq_true, decide_eq_true_eq, not_or, List.any_eq_true, not_exists, not_and]
    refine ⟨⟨by omega, by omega⟩, fun z hz => ?_⟩
    have := h3 z hz
    unfold wrongI
    simp only [Bool.or_eq_true, decide_eq_true_eq, not_or]
    omega
def cH (ps : List UInt16) : List Value := ps.map fun x => Value.int .u16 (x.toNat : Int)
theorem cH_at (ps : List UInt16) (k : Nat) (x : UInt16) (h : ps[k]? = some x) : (cH ps)[k]? = some (.int .u16 (x.toNat : Int)) := by simp [cH, h]
/-- rows of numbers in a row of the call's own, each in a row of its own -/
def OwnL (W : World) (B : Nat) (v : Value) (l : List (List Int)) : Prop :=
  ∃ vs, W.ownsRow B 41 1 v l.length vs ∧ vs.length = l.length ∧ ∀ (j : Nat) (x : Value) (p : List Int), vs[j]? = some x → l[j]? = some p → W.ownsRow B 3 1 x p.length (cI p)
theorem OwnL.keep {W W' : World} {B : Nat} {v : Value} {l : List (List Int)} (h : OwnL W B v l) (hb : Below W.heap.size W W') : OwnL W' B v l := by
  obtain ⟨vs, h1, h2, h3⟩ := h
  exact ⟨vs, own_below h1 hb, h2, fun j x p hx hp => own_below (h3 j x p hx hp) hb⟩
theorem OwnL.rl {W : World} {B : Nat} {v : Value} {l : List (List Int)} (h : OwnL W B v l) : RL W v l := by
  obtain ⟨vs, h1, h2, h3⟩ := h
  exact RL.grew h1 h2 (fun j x p hx hp => RI.grew (h3 j x p hx hp))
theorem OwnL.nil (W : World) (B : Nat) : OwnL W B (.slice none 0 0) [] := ⟨[], World.ownsRow_nil _ _ _ _, rfl, fun j x p h => by simp at h⟩
theorem own_apart {W w' : World} {B n m : Nat} {e e' : TypeId} {u v : Value} {xs ys : List Value} (hu : W.ownsRow B e 1 u n xs) (hv : W.ownsRow B e' 1 v m ys) (he : e ≠ e') (hg : W.grownBy w' v.ownBlock) : w'.ownsRow B e 1 u n xs := by
  refine hu.kept hg ?_
  rcases hu.2 with ⟨rfl, _⟩ | ⟨g, cap, cur, rfl, _, hh, _⟩
  · exact .inl rfl
  · right
    rcases hv.2 with ⟨rfl, _⟩ | ⟨g', cap', cur', rfl, _, hh', _⟩
    · simp [Value.ownBlock]
    · simp [Value.ownBlock]
      rintro rfl
      rw [hh] at hh'
      cases hh'
      exact he rfl
theorem OwnL.snoc {W w' : World} {B n : Nat} {v v' x : Value} {vs : List Value} {l : List (List Int)} {p : List Int} (h1 : W.ownsRow B 41 1 v n vs) (h2 : vs.length = l.length)
    (h3 : ∀ (j : Nat) (y : Value) (q : List Int), vs[j]? = some y → l[j]? = some q → W.ownsRow B 3 1 y q.length (cI q)) (hx : W.ownsRow B 3 1 x p.length (cI p))
    (hown : w'.ownsRow B 41 1 v' (n + 1) (vs ++ [x])) (hg : W.grownBy w' v.ownBlock) : OwnL w' B v' (l ++ [p]) := by
  have hn : n = vs.length := by have := h1.1; omega
  refine ⟨vs ++ [x], by rw [List.length_append, List.length_singleton, ← h2, ← hn]; exact hown, by simp [h2], fun j y q hy hq => ?_⟩
  have key : W.ownsRow B 3 1 y q.length (cI q) := by
    by_cases h : j < vs.length
    · rw [List.getElem?_append_left h] at hy
      rw [List.getElem?_append_left (by omega)] at hq
      exact h3 j y q hy hq
    · rw [List.getElem?_append_right (by omega)] at hy
      rw [List.getElem?_append_right (by omega), ← h2] at hq
      obtain h0 | h0 : j - vs.length = 0 ∨ 0 < j - vs.length := by omega
      · rw [h0] at hy hq
        simp at hy hq
        subst hy; subst hq
        exact hx
      · rw [List.getElem?_eq_none (by simp; omega)] at hy
        cases hy
  exact own_apart key h1 (by decide) hg
/-- a box of a parameter, its row of numbers stored back -/
theorem boxed_int {B n' : Nat} {B0 : Nat} {W w1 : World} {v v' : Value} {xs' : List Value} (hv : Boxed W B 41 v) (hown : w1.ownsRow B0 3 1 v' n' xs') (hne : some B ≠ v.ownBlock) (hg : W.grownBy w1 v.ownBlock) :
    Boxed w1 B 41 v ∧ Boxed (w1.setCell ⟨B, 0, none⟩ v') B 41 v' ∧ (w1.setCell ⟨B, 0, none⟩ v').ownsRow B0 3 1 v' n' xs' := by
  have hv1 : Boxed w1 B 41 v := hv.kept hg hne
  exact ⟨hv1, hv1.set v', hown.kept (grownBy_setCell' w1 B v') (.inr (hv1.not_row (by decide) hown).symm)⟩
end Go.Proofs.YteepfecplabinaaDoor.Par

namespace Go.Proofs.YteepfecplabinaaDoor.Par
open Go.RowKit Utf

theorem own_empty (w : World) (B : Nat) (hB : B ≤ w.heap.size) : (w.alloc (.cells #[] 3)).ownsRow B 3 1 (.slice (some ⟨w.heap.size, 0, none⟩) 0 0) 0 [] :=
  ⟨rfl, .inr ⟨w.heap.size, 0, #[], rfl, hB, heap_alloc_new w _, Nat.le_refl _, Nat.zero_le _, rfl, rfl⟩⟩
/-- the same, and the last row lies apart from the others -/
def OwnE (W : World) (B : Nat) (v : Value) (l : List (List Int)) : Prop :=
  ∃ vs, W.ownsRow B 41 1 v l.length vs ∧ vs.length = l.length ∧ (∀ (j : Nat) (x : Value) (p : List Int), vs[j]? = some x → l[j]? = some p → W.ownsRow B 3 1 x p.length (cI p)) ∧
    ∀ (j : Nat) (x y : Value) (g : Nat), j + 1 < vs.length → vs[j]? = some x → vs[vs.length - 1]? = some y → x.ownBlock = some g → y.ownBlock ≠ some g
theorem OwnE.ownL {W : World} {B : Nat} {v : Value} {l : List (List Int)} (h : OwnE W B v l) : OwnL W B v l := by
  obtain ⟨vs, h1, h2, h3, _⟩ := h
  exact ⟨vs, h1, h2, h3⟩
theorem OwnE.keep {W W' : World} {B : Nat} {v : Value} {l : List (List Int)} (h : OwnE W B v l) (hb : Below W.heap.size W W') : OwnE W' B v l := by
  obtain ⟨vs, h1, h2, h3, h4⟩ := h
  exact ⟨vs, own_below h1 hb, h2, fun j x p hx hp => own_below (h3 j x p hx hp) hb, h4⟩
theorem OwnE.nil (W : World) (B : Nat) : OwnE W B (.slice none 0 0) [] := ⟨[], World.ownsRow_nil _ _ _ _, rfl, fun j x p h => by simp at h, fun j x y g h => by simp at h⟩
theorem OwnE.snoc {W w' : World} {B n : Nat} {v v' x : Value} {vs : List Value} {l : List (List Int)} {p : List Int} (h1 : W.ownsRow B 41 1 v n vs) (h2 : vs.length = l.length)
    (h3 : ∀ (j : Nat) (y : Value) (q : List Int), vs[j]? = some y → l[j]? = some q → W.ownsRow B 3 1 y q.length (cI q)) (hx : W.ownsRow B 3 1 x p.length (cI p))
    (hown : w'.ownsRow B 41 1 v' (n + 1) (vs ++ [x])) (hg : W.grownBy w' v.ownBlock) (ha : ∀ (j : Nat) (y : Value) (g : Nat), vs[j]? = some y → y.ownBlock = some g → x.ownBlock ≠ some g) : OwnE w' B v' (l ++ [p]) := by
  have hn : n = vs.length := by have := h1.1; omega
  refine ⟨vs ++ [x], by rw [List.length_append, List.length_singleton, ← h2, ← hn]; exact hown, by simp [h2], fun j y q hy hq => ?_, fun j y z g hj hy hz hyg => ?_⟩
  · have key : W.ownsRow B 3 1 y q.length (cI q) := by
      by_cases h : j < vs.length
      · rw [List.getElem?_append_left h] at hy
        rw [List.getElem?_append_left (by omega)] at hq
        exact h3 j y q hy hq
      · rw [List.getElem?_append_right (by omega)] at hy
        rw [List.getElem?_append_right (by omega), ← h2] at hq
        obtain h0 | h0 : j - vs.length = 0 ∨ 0 < j - vs.length := by omega
        · rw [h0] at hy hq
          simp at hy hq
          subst hy; subst hq
          exact hx
        · rw [List.getElem?_eq_none (by simp; omega)] at hy
          cases hy
    exact own_apart key h1 (by decide) hg
  · rw [List.length_append, List.length_singleton] at hj hz
    rw [List.getElem?_append_left (by omega)] at hy
    rw [List.getElem?_append_right (by omega), show vs.length + 1 - 1 - vs.length = 0 by omega] at hz
    simp at hz
    subst hz
    exact ha j y g hy hyg
end Go.Proofs.YteepfecplabinaaDoor.Par

namespace Go.Proofs.YteepfecplabinaaDoor.Par
open Go.RowKit Utf

theorem add_zero' (a : Addr) : a.add 0 = a := by unfold Addr.add; simp
set_option maxRecDepth 100000 in
set_option maxHeartbeats 8000000 in
theorem rowV_go (A B : Option Addr) (n c m e : Nat) (ps : List UInt16) (ms : List UInt8) (w : World) (hn : n = ps.length) (hA : Rd w A (cH ps)) (hm : m = ms.length) (hB : Rd w B (cB ms)) :
    Calls Tryd.prog 11 #[.agg #[.slice A n c, .slice B m e]] w fun e w' => ∃ v', e = .returned v' ∧ RL w' v' (rowV ps ms) ∧ Below w.heap.size w w' := by
  have HN := Lib.hid hn; clear hn
  have HM := Lib.hid hm; clear hm
  have HA := Lib.hid hA; clear hA
  have HB := Lib.hid hB; clear hB
  obtain ⟨t0, hi0, hz0, hz1, hz2⟩ := info_parts infoI
  obtain ⟨t1, hi1, hy0, hy1, hy2⟩ := info_parts infoP
  obtain ⟨w1, hw1⟩ : ∃ w1, w1 = w.alloc (.cells #[.slice A n c, .slice B m e] 26) := ⟨_, rfl⟩
  have hb1 : Below w.heap.size w w1 := by rw [hw1]; exact below_box _ _
  have hs1 : w1.heap.size = w.heap.size + 1 := by rw [hw1]; simp
  have d0 : w1.cell? ⟨w.heap.size, 0, none⟩ = some (.slice A n c) := by rw [hw1]; go_simp
  have d1 : w1.cell? ⟨w.heap.size, 1, none⟩ = some (.slice B m e) := by rw [hw1]; go_simp
  have HB1 := Lib.hid hb1; clear hb1
  have D0 := Lib.hid d0; clear d0
  have D1 := Lib.hid d1; clear d1
  have HS := Lib.hid hs1; clear hs1
  go_enter Tryd.func11, Tryd.ntmps11
  go_wp2
  rw [← hw1]
  clear hw1
  go_loopw [5, 4, 3] (fun iv kv ov wr => ∃ i : Nat, i ≤ m ∧ i ≤ 16 ∧ iv = .int .i64 i ∧ kv = .int .i64 (kAt 0 (ms.take i) : Nat) ∧ Hid (OwnL wr w1.heap.size ov (rowGo ps 0 (ms.take i)) ∧ Below w1.heap.size w1 wr)) (fun iv _ _ _ => 16 - (intOf iv).toNat)
  case atStart => exact ⟨0, Nat.zero_le _, by omega, rfl, rfl, OwnL.nil _ _, Below.refl _ _⟩
  case round =>
    obtain ⟨i, him, hi16, rfl, rfl, hid⟩ := hrel
    obtain ⟨W0, hW0⟩ : ∃ W0, W0 = wr := ⟨_, rfl⟩
    subst hW0
    have d0 := (hid.out.2.cell (p := ⟨w.heap.size, 0, none⟩) (by rw [HS.out]; show w.heap.size < w.heap.size + 1; omega)).trans D0.out
    have d1 := (hid.out.2.cell (p := ⟨w.heap.size, 1, none⟩) (by rw [HS.out]; show w.heap.size < w.heap.size + 1; omega)).trans D1.out
    by_cases hlt : i < m
    · by_cases hlt2 : i < 16
      · obtain ⟨x, hx⟩ := get_some ms i (by rw [← HM.out]; exact hlt)
        obtain ⟨bd, rfl, hbl, hcx⟩ := HB.out i _ (cB_at ms i x hx)
        have hcx1 := (up HB1.out (hid.out.2)).cell (p := bd.add i) (by rw [add_block]; exact hbl)
        rw [hcx] at hcx1
        have Hx := Lib.hid hx; clear hx
        obtain ⟨K, hK⟩ : ∃ K, K = kAt 0 (ms.take i) := ⟨_, rfl⟩
        have hKle : K ≤ 96 := by have := kAt_le 0 (ms.take i); rw [List.length_take] at this; omega
        rw [← hK]
        have HK := Lib.hid hK; clear hK
        obtain ⟨AO, co, hsh⟩ := hid.out.1.rl.form
        subst hsh
        have c1 : decide ((i : Int) < (m : Int)) = true := decide_eq_true (by omega)
        have c2 : decide ((i : Int) < 16) = true := decide_eq_true (by omega)
        go_wp2
        obtain ⟨X, hX⟩ : ∃ X, X = x.toNat := ⟨_, rfl⟩
        have hX2 : X < 256 := by rw [hX]; exact x.toNat_lt
        rw [← hX] at hcx1
        obtain ⟨M, hM⟩ : ∃ M, M = X % 6 := ⟨_, rfl⟩
        have hM2 : M ≤ 5 := by omega
        have em : ((X : Int) % 6) = (M : Int) := by omega
        have HMX := Lib.hid (show manyOf x = M + 1 by unfold manyOf; rw [← hX, hM])
        have hbr : w.heap.size + 1 ≤ W0.heap.size := by rw [← HS.out]; exact hid.out.2.size
        clear hX hM hcx
        have hB0 : Boxed (W0.alloc (.cells #[.slice none 0 0] 41)) W0.heap.size 41 (.slice none 0 0) := Boxed.new _ _ _
        have HB0 := Lib.hid hB0; clear hB0
        generalize hlo : (rowGo ps 0 (ms.take i)).length = lo at hid
        go_loopw [7, 4] (fun jv kv wi => ∃ j k' : Nat, j ≤ M + 1 ∧ k' ≤ 200 ∧ jv = .int .i64 j ∧ kv = .int .i64 k' ∧ Hid (k' = K + j ∧ (∃ v, Boxed wi W0.heap.size 41 v ∧ wi.ownsRow W0.heap.size 3 1 v j (cI (rowP ps K j))) ∧ Below W0.heap.size W0 wi)) (fun jv _ _ => M + 1 - (intOf jv).toNat)
        case atStart => exact ⟨0, K, Nat.zero_le _, by omega, rfl, rfl, rfl, ⟨_, HB0.out, World.ownsRow_nil _ _ _ _⟩, below_box _ _⟩
        case round =>
          obtain ⟨j, k', hj, hk', rfl, rfl, hin⟩ := hrel
          have f0 := (hin.out.2.2.cell (p := ⟨w.heap.size, 0, none⟩) (by show w.heap.size < W0.heap.size; omega)).trans d0
          have f1 := (hin.out.2.2.cell (p := ⟨w.heap.size, 1, none⟩) (by show w.heap.size < W0.heap.size; omega)).trans d1
          have f2 := (hin.out.2.2.cell (p := bd.add i) (by rw [add_block]; omega)).trans hcx1
          have i1 : (0 : Int) ≤ (i : Int) := by omega
          have i2 : (i : Int) < (m : Int) := by omega
          by_cases hjt : j ≤ M
          · have g1 : decide ((j : Int) ≤ (M : Int)) = true := decide_eq_true (by omega)
            obtain ⟨v, hv, hvo⟩ := hin.out.2.1
            obtain ⟨AV, cv, hsh, _, _⟩ := own_slice hvo
            subst hsh
            have b1 := hv.cell
            have Hv := Lib.hid hv; clear hv
            have Ho := Lib.hid hvo; clear hvo
            have hsz := hin.out.2.2.size
            by_cases hkn : k' < n
            · have g2 : decide ((k' : Int) < (n : Int)) = true := decide_eq_true (by omega)
              obtain ⟨z, hz⟩ := get_some ps k' (by rw [← HN.out]; exact hkn)
              obtain ⟨ad, rfl, hal, hcz⟩ := HA.out k' _ (cH_at ps k' z hz)
              have f3 := ((up HB1.out (up hid.out.2 hin.out.2.2)).cell (p := ad.add k') (by rw [add_block]; exact hal)).trans hcz
              obtain ⟨Z, hZ⟩ : ∃ Z, Z = z.toNat := ⟨_, rfl⟩
              have hZ2 : Z < 65536 := by rw [hZ]; exact z.toNat_lt
              rw [← hZ] at f3
              obtain ⟨r, hr⟩ : ∃ r, r = Z % 10001 := ⟨_, rfl⟩
              have hr2 : r ≤ 10000 := by omega
              have er : ((Z : Int) % 10001) = (r : Int) := by omega
              have Hp := Lib.hid (show partAt ps (K + j) = (r : Int) - 1 by
                unfold partAt
                rw [← hin.out.1, hz]
                show ((z.toNat % 10001 : Nat) : Int) - 1 = _
                rw [← hZ, ← hr])
              clear hz hcz hr hZ
              have k1 : (0 : Int) ≤ (k' : Int) := by omega
              have k2 : (k' : Int) < (n : Int) := by omega
              go_wp2_with (at_builtin; refine wpList_app _ rfl _ _ 39 rfl W0.heap.size 3 t0 _ 8 Tryd.underlying39 hi0 hz0 hz1 hz2 rfl _ j (cI (rowP ps K j)) rfl (own_below Ho.out (below_box _ _)) (some ⟨wr.heap.size, 0, none⟩) 1 1 [.int .i64 ((r : Int) - 1)] rfl rfl (Rd.one _ _ _) (by intro u hu; simp at hu; subst hu; rfl) (by omega) (by decide) (by rw [World.size_alloc]; omega) ?_; intro v' w' hown hgrow hat; refine Hid.out ?_)
              refine Lib.hid ?_
              have hg : (wr.alloc (.cells #[.int .i64 ((r : Int) - 1)] 3)).grownBy w' (Value.slice AV j cv).ownBlock := hgrow
              have hvw := (Hv.out).alloc (.cells #[.int .i64 ((r : Int) - 1)] 3)
              obtain ⟨q1, q2, q3⟩ := boxed_int hvw hown (hvw.not_row (by decide) (own_below Ho.out (below_box _ _))) hg
              obtain ⟨A', c', hsh', _, _⟩ := own_slice hown
              subst hsh'
              have q4 := q1.cell
              have q5 := q1.frozen
              have hbe : Below W0.heap.size W0 (w'.setCell ⟨W0.heap.size, 0, none⟩ (.slice A' (j + 1) c')) := (((hin.out.2.2.alloc hsz _).grown hg (by rw [World.size_alloc]; omega) (fun q hq => (Ho.out.lt q hq).1))).setCell (p := ⟨W0.heap.size, 0, none⟩) (Nat.le_refl _) _
              have G := Lib.hid (And.intro q2 (And.intro q3 hbe))
              have HK1 := Lib.hid hin.out.1
              clear q1 q2 q3 hbe hg hgrow hat hown hvw
              go_wp2
              go_roundw
              case rel => exact ⟨j + 1, k' + 1, by omega, by have := HK1.out; omega, by go_num, by go_num, by have := HK1.out; omega, ⟨_, G.out.1, by rw [rowP_succ, Hp.out, cI_append]; exact G.out.2.1⟩, G.out.2.2⟩
              case measure => simp [intOf]; omega
            · have g2 : decide ((k' : Int) < (n : Int)) = false := decide_eq_false (by omega)
              have Hp := Lib.hid (show partAt ps (K + j) = -1 by
                unfold partAt
                rw [List.getElem?_eq_none (by rw [← HN.out, ← hin.out.1]; omega)])
              go_wp2_with (at_builtin; refine wpList_app _ rfl _ _ 39 rfl W0.heap.size 3 t0 _ 8 Tryd.underlying39 hi0 hz0 hz1 hz2 rfl _ j (cI (rowP ps K j)) rfl (own_below Ho.out (below_box _ _)) (some ⟨wr.heap.size, 0, none⟩) 1 1 [.int .i64 (-1)] rfl rfl (Rd.one _ _ _) (by intro u hu; simp at hu; subst hu; rfl) (by omega) (by decide) (by rw [World.size_alloc]; omega) ?_; intro v' w' hown hgrow hat; refine Hid.out ?_)
              refine Lib.hid ?_
              have hg : (wr.alloc (.cells #[.int .i64 (-1)] 3)).grownBy w' (Value.slice AV j cv).ownBlock := hgrow
              have hvw := (Hv.out).alloc (.cells #[.int .i64 (-1)] 3)
              obtain ⟨q1, q2, q3⟩ := boxed_int hvw hown (hvw.not_row (by decide) (own_below Ho.out (below_box _ _))) hg
              obtain ⟨A', c', hsh', _, _⟩ := own_slice hown
              subst hsh'
              have q4 := q1.cell
              have q5 := q1.frozen
              have hbe : Below W0.heap.size W0 (w'.setCell ⟨W0.heap.size, 0, none⟩ (.slice A' (j + 1) c')) := (((hin.out.2.2.alloc hsz _).grown hg (by rw [World.size_alloc]; omega) (fun q hq => (Ho.out.lt q hq).1))).setCell (p := ⟨W0.heap.size, 0, none⟩) (Nat.le_refl _) _
              have G := Lib.hid (And.intro q2 (And.intro q3 hbe))
              have HK1 := Lib.hid hin.out.1
              clear q1 q2 q3 hbe hg hgrow hat hown hvw
              go_wp2
              go_roundw
              case rel => exact ⟨j + 1, k' + 1, by omega, by have := HK1.out; omega, by go_num, by go_num, by have := HK1.out; omega, ⟨_, G.out.1, by rw [rowP_succ, Hp.out, cI_append]; exact G.out.2.1⟩, G.out.2.2⟩
              case measure => simp [intOf]; omega
          · have g1 : decide ((j : Int) ≤ (M : Int)) = false := decide_eq_false (by omega)
            obtain ⟨v, hv, hvo⟩ := hin.out.2.1
            obtain ⟨AV, cv, hsh, _, _⟩ := own_slice hvo
            subst hsh
            have b1 := hv.cell
            obtain ⟨us, hu1, hu2, hu3⟩ := hid.out.1.keep hin.out.2.2
            rw [hlo] at hu1
            have hsz := hin.out.2.2.size
            have hszw := hid.out.2.size
            have U1 := Lib.hid hu1; clear hu1
            have Ho := Lib.hid hvo; clear hvo
            go_wp2_with (at_builtin; refine wpList_app _ rfl _ _ 22 rfl w1.heap.size 41 t1 _ 24 Tryd.underlying22 hi1 hy0 hy1 hy2 rfl _ lo us rfl (own_below U1.out (below_box _ _)) (some ⟨wr.heap.size, 0, none⟩) 1 1 [.slice AV j cv] rfl rfl (Rd.one _ _ _) (by intro u hu; simp at hu; subst hu; rfl) (by have := rowGo_len ps 0 (ms.take i); rw [hlo, List.length_take] at this; omega) (by decide) (by rw [World.size_alloc]; omega) ?_; intro v' w' hown hgrow hat; refine Hid.out ?_)
            refine Lib.hid ?_
            have hg : (wr.alloc (.cells #[.slice AV j cv] 41)).grownBy w' (Value.slice AO lo co).ownBlock := hgrow
            obtain ⟨A', c', hsh', _, _⟩ := own_slice hown
            subst hsh'
            obtain rfl : j = M + 1 := by omega
            have hj2 : manyOf x = M + 1 := HMX.out
            have hol : OwnL w' w1.heap.size (.slice A' (lo + 1) c') (rowGo ps 0 (ms.take i) ++ [rowP ps K (manyOf x)]) := by
              refine OwnL.snoc (own_below U1.out (below_box _ _)) hu2 (fun j y q hy hq => own_below (hu3 j y q hy hq) (below_box _ _)) ?_ hown hg
              rw [rowP_len, hj2]
              exact own_mono (own_below Ho.out (below_box _ _)) hszw
            rw [HK.out, ← rowGo_snoc, ← get_take ms i x Hx.out] at hol
            have hkk : k' = kAt 0 (ms.take (i + 1)) := by rw [get_take ms i x Hx.out, kAt_snoc, ← HK.out, hj2]; exact hin.out.1
            have hbe : Below w1.heap.size w1 w' := (up hid.out.2 (up hin.out.2.2 (below_box _ _))).grown hg (by rw [World.size_alloc]; omega) (fun q hq => (U1.out.lt q hq).1)
            have G := Lib.hid (And.intro hol hbe)
            have Hkk := Lib.hid hkk
            clear hol hbe hg hgrow hat hown hkk
            go_wp2
            exact ⟨⟨i + 1, by omega, by omega, by go_num, by rw [Hkk.out], G.out.1, G.out.2⟩, by simp [intOf]; omega⟩
      · have c1 : decide ((i : Int) < (m : Int)) = true := decide_eq_true (by omega)
        have c2 : decide ((i : Int) < 16) = false := decide_eq_false (by omega)
        have hL : ms.take i = ms.take 16 := by rw [show i = 16 by omega]
        rw [hL] at hid
        generalize hLL : rowGo ps 0 (ms.take 16) = L at hid
        have hrv : rowV ps ms = if L = [[-1]] then [] else L := by unfold rowV; rw [hLL]
        have HRV := Lib.hid hrv; clear hrv
        generalize hkk : kAt 0 (ms.take i) = kk
        have hrl := hid.out.1.rl
        have HRL := Lib.hid hrl
        obtain ⟨AO, co, hsh⟩ := hrl.form
        subst hsh
        clear hLL hL hkk
        by_cases h1 : L.length = 1
        · obtain ⟨p, hp⟩ : ∃ p, L = [p] := by
            match L, h1 with
            | [p], _ => exact ⟨p, rfl⟩
          subst hp
          obtain ⟨ad, B', cc, rfl, -, hc, hcc, hB'⟩ := hrl.item (k := 0) (p := p) rfl
          rw [add_zero'] at hc
          rw [show ([p] : List (List Int)).length = 1 from rfl]
          rw [show ([p] : List (List Int)).length = 1 from rfl] at HRL
          by_cases h2 : p.length = 1
          · obtain ⟨z, hz⟩ : ∃ z, p = [z] := by
              match p, h2 with
              | [z], _ => exact ⟨z, rfl⟩
            subst hz
            obtain ⟨zd, rfl, _, hzc⟩ := hB' 0 (.int .i64 z) rfl
            rw [add_zero'] at hzc
            rw [show ([z] : List Int).length = 1 from rfl] at hc hcc
            by_cases h3 : z = -1
            · subst h3
              go_wp2
              go_ret
              exact ⟨_, rfl, by have e := HRV.out; simp only [if_true] at e; rw [e]; exact RL.nil _, up HB1.out hid.out.2⟩
            · have e3 : ((z : Int) == -1) = false := by simp [h3]
              have H3 := Lib.hid h3; clear h3
              go_wp2
              go_ret
              exact ⟨_, rfl, by rw [HRV.out, if_neg (fun e => H3.out (by simpa using e))]; exact HRL.out, up HB1.out hid.out.2⟩
          · generalize hpl : p.length = pl at hc hcc h2
            have e2 : ((pl : Int) == 1) = false := by simp; omega
            have H2 := Lib.hid (show ¬ p = [-1] from fun e => h2 (by rw [← hpl, e]; rfl))
            clear h2 hpl
            go_wp2
            go_ret
            exact ⟨_, rfl, by rw [HRV.out, if_neg (fun e => H2.out (by simpa using e))]; exact HRL.out, up HB1.out hid.out.2⟩
        · have H1 := Lib.hid (show ¬ L = [[-1]] from fun e => h1 (by rw [e]; rfl))
          generalize hll : L.length = ll at h1 HRL
          have e1 : ((ll : Int) == 1) = false := by simp; omega
          clear h1 hll hrl
          go_wp2
          go_ret
          exact ⟨_, rfl, by rw [HRV.out, if_neg H1.out]; exact HRL.out, up HB1.out hid.out.2⟩
    · have c1 : decide ((i : Int) < (m : Int)) = false := decide_eq_false (by omega)
      have hL : ms.take i = ms.take 16 := by rw [List.take_of_length_le (by rw [← HM.out]; omega), List.take_of_length_le (by rw [← HM.out]; omega)]
      rw [hL] at hid
      generalize hLL : rowGo ps 0 (ms.take 16) = L at hid
      have hrv : rowV ps ms = if L = [[-1]] then [] else L := by unfold rowV; rw [hLL]
      have HRV := Lib.hid hrv; clear hrv
      generalize hkk : kAt 0 (ms.take i) = kk
      have hrl := hid.out.1.rl
      have HRL := Lib.hid hrl
      obtain ⟨AO, co, hsh⟩ := hrl.form
      subst hsh
      clear hLL hL hkk
      by_cases h1 : L.length = 1
      · obtain ⟨p, hp⟩ : ∃ p, L = [p] := by
          match L, h1 with
          | [p], _ => exact ⟨p, rfl⟩
        subst hp
        obtain ⟨ad, B', cc, rfl, -, hc, hcc, hB'⟩ := hrl.item (k := 0) (p := p) rfl
        rw [add_zero'] at hc
        rw [show ([p] : List (List Int)).length = 1 from rfl]
        rw [show ([p] : List (List Int)).length = 1 from rfl] at HRL
        by_cases h2 : p.length = 1
        · obtain ⟨z, hz⟩ : ∃ z, p = [z] := by
            match p, h2 with
            | [z], _ => exact ⟨z, rfl⟩
          subst hz
          obtain ⟨zd, rfl, _, hzc⟩ := hB' 0 (.int .i64 z) rfl
          rw [add_zero'] at hzc
          rw [show ([z] : List Int).length = 1 from rfl] at hc hcc
          by_cases h3 : z = -1
          · subst h3
            go_wp2
            go_ret
            exact ⟨_, rfl, by have e := HRV.out; simp only [if_true] at e; rw [e]; exact RL.nil _, up HB1.out hid.out.2⟩
          · have e3 : ((z : Int) == -1) = false := by simp [h3]
            have H3 := Lib.hid h3; clear h3
            go_wp2
            go_ret
            exact ⟨_, rfl, by rw [HRV.out, if_neg (fun e => H3.out (by simpa using e))]; exact HRL.out, up HB1.out hid.out.2⟩
        · generalize hpl : p.length = pl at hc hcc h2
          have e2 : ((pl : Int) == 1) = false := by simp; omega
          have H2 := Lib.hid (show ¬ p = [-1] from fun e => h2 (by rw [← hpl, e]; rfl))
          clear h2 hpl
          go_wp2
          go_ret
          exact ⟨_, rfl, by rw [HRV.out, if_neg (fun e => H2.out (by simpa using e))]; exact HRL.out, up HB1.out hid.out.2⟩
      · have H1 := Lib.hid (show ¬ L = [[-1]] from fun e => h1 (by rw [e]; rfl))
        generalize hll : L.length = ll at h1 HRL
        have e1 : ((ll : Int) == 1) = false := by simp; omega
        clear h1 hll hrl
        go_wp2
        go_ret
        exact ⟨_, rfl, by rw [HRV.out, if_neg H1.out]; exact HRL.out, up HB1.out hid.out.2⟩
/-- a draft that came in: its parts, and how many each parameter has -/
def DrR (w : World) (v : Value) (ps : List UInt16) (ms : List UInt8) : Prop := ∃ A n c B m e, v = .agg #[.slice A n c, .slice B m e] ∧ n = ps.length ∧ Rd w A (cH ps) ∧ m = ms.length ∧ Rd w B (cB ms)
theorem DrR.keep {w w' : World} {v : Value} {ps : List UInt16} {ms : List UInt8} (h : DrR w v ps ms) (hb : Below w.heap.size w w') : DrR w' v ps ms := by
  obtain ⟨A, n, c, B, m, e, h1, h2, h3, h4, h5⟩ := h
  exact ⟨A, n, c, B, m, e, h1, h2, h3.below hb, h4, h5.below hb⟩
theorem drow_any (v : Value) (ps : List UInt16) (ms : List UInt8) (w : World) (h : DrR w v ps ms) :
    Calls Tryd.prog 11 #[v] w fun e w' => ∃ v', e = .returned v' ∧ RL w' v' (rowV ps ms) ∧ Below w.heap.size w w' := by
  obtain ⟨A, n, c, B, m, e, rfl, h2, h3, h4, h5⟩ := h
  exact rowV_go A B n c m e ps ms w h2 h3 h4 h5
end Go.Proofs.YteepfecplabinaaDoor.Par
