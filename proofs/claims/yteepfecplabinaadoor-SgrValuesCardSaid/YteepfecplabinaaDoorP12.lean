/-
  SgrA SgrB
-/
import Derived.Deep.RegionHeld3
import Derived.Deep.RegionWith
import Derived.Deep.DeepCutAuto
import Derived.Deep.RegionLaw
import Derived.Deep.RegionLawGrows
import Derived.OwnWalk
import Derived.Maps.AppendAt
import Derived.Lib.SmallJoins
import Derived.Test.YteepfecplabinaaDoorP6
import Derived.Test.YteepfecplabinaaDoorP8
import Derived.Test.YteepfecplabinaaDoorP10
import Derived.Test.YteepfecplabinaaDoorP11
namespace Go.Proofs.YteepfecplabinaaDoor.Sgr
open Go.RowKit Utf

def deB : List Int := [0, 1, 56, 2, 57, 49, 28, 3, 61, 58, 42, 50, 38, 29, 17, 4, 62, 47, 59, 36, 45, 43, 51, 22, 53, 39, 33, 30, 24, 18, 12, 5, 63, 55, 48, 27, 60, 41, 37, 16, 46, 35, 44, 21, 52, 32, 23, 11, 54, 26, 40, 15, 34, 20, 31, 10, 25, 14, 19, 9, 13, 8, 7, 6]
def cU (zs : List Int) : List Value := zs.map (Value.int .u8)
theorem cU_at (zs : List Int) (k : Nat) (z : Int) (h : zs[k]? = some z) : (cU zs)[k]? = some (.int .u8 z) := by simp [cU, h]
/-- the tables lie in the blocks of their variables -/
structure Env (w : World) : Prop where
  l : Sty.Tl w
  s : 0 < w.heap.size ∧ w.rangeAt 0 0 (cI setT)
  c : 1 < w.heap.size ∧ w.rangeAt 1 0 (cI clrT)
  d : 4 < w.heap.size ∧ w.rangeAt 4 0 (cU deB)
theorem Env.keep {w w' : World} (h : Env w) (hb : Below w.heap.size w w') : Env w' :=
  ⟨h.l.keep hb, ⟨Nat.lt_of_lt_of_le h.s.1 hb.size, Sty.range_below h.s.2 hb h.s.1⟩, ⟨Nat.lt_of_lt_of_le h.c.1 hb.size, Sty.range_below h.c.2 hb h.c.1⟩, ⟨Nat.lt_of_lt_of_le h.d.1 hb.size, Sty.range_below h.d.2 hb h.d.1⟩⟩
theorem Env.set {w : World} (h : Env w) (k : Nat) (z : Int) (hz : setT[k]? = some z) : w.cell? ⟨0, k, none⟩ = some (.int .i64 z) := by
  have := h.s.2 k _ (cI_at setT k z hz)
  rwa [Nat.zero_add] at this
theorem Env.clr {w : World} (h : Env w) (k : Nat) (z : Int) (hz : clrT[k]? = some z) : w.cell? ⟨1, k, none⟩ = some (.int .i64 z) := by
  have := h.c.2 k _ (cI_at clrT k z hz)
  rwa [Nat.zero_add] at this
theorem Env.deb {w : World} (h : Env w) (k : Nat) (z : Int) (hz : deB[k]? = some z) : w.cell? ⟨4, k, none⟩ = some (.int .u8 z) := by
  have := h.d.2 k _ (cU_at deB k z hz)
  rwa [Nat.zero_add] at this
/-- as far as the world has come -/
structure EB (w W : World) : Prop where
  b : Below w.heap.size w W
  e : Env W
theorem EB.keep {w W W' : World} (h : EB w W) (hb : Below W.heap.size W W') : EB w W' := ⟨Par.up h.b hb, h.e.keep hb⟩
theorem EB.refl {w : World} (h : Env w) : EB w w := ⟨Below.refl _ _, h⟩

theorem ret_cell1 {P : Program} {fn : Func} {p : Tmp} {ty : TypeId} (h : fn.results = #[.cell p ty]) (tmps : Array Value) (w : World) (a : Addr) (v : Value) (ha : tmps.getD p undef = .pointer (some a)) (hl : (loadVar ty a).run P w = .ok v w) :
    (results fn tmps).run P w = .ok v w := by
  have ha' : tmps[p]?.getD undef = .pointer (some a) := by simpa using ha
  simp only [results, h]
  simp [ha', asAddr, hl]
theorem ret_cell2 {P : Program} {fn : Func} {p u : Tmp} {ty : TypeId} (h : fn.results = #[.cell p ty, .tmp u]) (tmps : Array Value) (w : World) (a : Addr) (v : Value) (ha : tmps.getD p undef = .pointer (some a)) (hl : (loadVar ty a).run P w = .ok v w) :
    (results fn tmps).run P w = .ok (.tuple #[v, tmps.getD u undef]) w := by
  rw [results_cell_tmp h, ha]
  simp [asAddr, hl, Result.andThen]
/-- the six cells of an action -/
def c6 (k n m c0 c1 : Int) (t : ByteArray) : List Value := [.int .i64 k, .int .i64 n, .int .i64 m, .int .i64 c0, .int .i64 c1, .string t]
def c6q (q : Q4) : List Value := c6 39 q.n q.m q.c0 q.c1 ⟨#[]⟩
theorem load_c6 {w : World} {B : Nat} {k n m c0 c1 : Int} {t : ByteArray} (h : Par.Box w B (c6 k n m c0 c1 t)) : (loadVar 48 ⟨B, 0, none⟩).run Tryd.prog w = .ok (Sty.penV k n m c0 c1 t) w :=
  (run_loadVar_mid w B 0 48 (c6 k n m c0 c1 t) _ h.2.1 Tryd.underlying48 rfl (by kernel_rfl)).trans rfl
theorem load_q {w : World} {B : Nat} {q : Q4} (h : Par.Box w B (c6q q)) : (loadVar 48 ⟨B, 0, none⟩).run Tryd.prog w = .ok (qV q) w := load_c6 h
theorem below_box (w : World) (o : Obj) : Below w.heap.size w (w.alloc o) := (Below.refl _ w).alloc (Nat.le_refl _) _

theorem change_any (n m : Int) (w : World) : Calls Tryd.prog 29 #[.int .i64 n, .int .i64 m] w fun e w' => e = .returned (qV (pq n m)) ∧ Below w.heap.size w w' := by
  go_enter Tryd.func29, Tryd.ntmps29
  go_wp2
  refine bodyPost_ret (ret_cell1 rfl _ _ ⟨w.heap.size, 0, none⟩ _ rfl (load_q (q := pq n m) (Par.Box.new w _ _))) rfl ?_
  exact ⟨rfl, below_box _ _⟩
theorem colored_any (n k c : Int) (w : World) : Calls Tryd.prog 88 #[.int .i64 n, .int .i64 k, .int .i64 c] w fun e w' => e = .returned (qV (cq n k c)) ∧ Below w.heap.size w w' := by
  go_enter Tryd.func88, Tryd.ntmps88
  go_wp2
  refine bodyPost_ret (ret_cell1 rfl _ _ ⟨w.heap.size, 0, none⟩ _ rfl (load_q (q := cq n k c) (Par.Box.new w _ _))) rfl ?_
  exact ⟨rfl, below_box _ _⟩
theorem base_any (n : Int) (w : World) (h0 : 0 ≤ n) (h1 : n ≤ 6) : Calls Tryd.prog 89 #[.int .i64 n] w fun e w' => e = .returned (.int .i64 (30 + 10 * (n - 4))) ∧ w = w' := by
  go_enter Tryd.func89, Tryd.ntmps89
  go_wp2
  go_ret
  exact ⟨rfl, rfl⟩
theorem short_any (n i : Int) (w : World) (h0 : 0 ≤ n) (h1 : n ≤ 6) (h2 : 0 ≤ i) (h3 : i ≤ 16) : Calls Tryd.prog 90 #[.int .i64 n, .int .i64 i] w fun e w' => e = .returned (.int .i64 (shortV n i)) ∧ w = w' := by
  by_cases h : i < 8
  · have e : shortV n i = 30 + 10 * (n - 4) + i := by unfold shortV; rw [if_pos h]
    have He := Lib.hid e; clear e
    go_enter Tryd.func90, Tryd.ntmps90
    go_wp2_with (go_at_call 89; refine (base_any n _ h0 h1).mono ?_; rintro e w1 ⟨rfl, rfl⟩)
    go_ret
    exact ⟨by rw [He.out]; rfl, rfl⟩
  · have e : shortV n i = 30 + 10 * (n - 4) + 52 + i := by unfold shortV; rw [if_neg h]
    have He := Lib.hid e; clear e
    go_enter Tryd.func90, Tryd.ntmps90
    go_wp2_with (go_at_call 89; refine (base_any n _ h0 h1).mono ?_; rintro e w1 ⟨rfl, rfl⟩)
    go_ret
    exact ⟨by rw [He.out]; rfl, rfl⟩
theorem wh_no (v : Int) (h4 : v ≠ 38) (h5 : v ≠ 48) (h6 : v ≠ 58) : whV v = -1 := by unfold whV; rw [if_neg h4, if_neg h5, if_neg h6]
/-- what colorPen answers -/
def cpV (v : Int) : Value := .tuple #[.int .i64 (if 0 ≤ whV v then whV v else 0), .bool (decide (0 ≤ whV v))]
theorem colorPen_any (v : Int) (w : World) : Calls Tryd.prog 92 #[.int .i64 v] w fun e w' => e = .returned (cpV v) ∧ w = w' := by
  go_enter Tryd.func92, Tryd.ntmps92
  go_wp2
  go_loopw [4] (fun i wr => ∃ k : Nat, 4 ≤ k ∧ k ≤ 7 ∧ i = .int .i64 k ∧ Hid ((∀ j : Nat, 4 ≤ j → j < k → v ≠ 30 + 10 * ((j : Int) - 4) + 8) ∧ w = wr)) (fun i _ => 7 - (intOf i).toNat)
  case atStart => exact ⟨4, by omega, by omega, rfl, Lib.hid ⟨fun j h1 h2 => by omega, by first | trivial | rfl⟩⟩
  case round =>
    obtain ⟨k, hk4, hk, rfl, hid⟩ := hrel
    obtain ⟨hno, rfl⟩ := hid.out
    have Hno := Lib.hid hno
    clear hid hno
    by_cases hlt : k < 7
    · have i1 : ((k : Int) ≤ 6) := by omega
      have i2 : ((4 : Int) ≤ k) := by omega
      by_cases hv : v = 30 + 10 * ((k : Int) - 4) + 8
      · have Hv := Lib.hid (show cpV v = .tuple #[.int .i64 (k : Int), .bool true] by
          subst hv
          rcases (show k = 4 ∨ k = 5 ∨ k = 6 by omega) with rfl | rfl | rfl <;> rfl)
        have e1 : (v == 30 + 10 * ((k : Int) - 4) + 8) = true := by rw [hv]; simp
        clear hv
        go_wp2_with (go_at_call 89; refine (base_any _ _ (by omega) (by omega)).mono ?_; rintro e w1 ⟨rfl, rfl⟩)
        go_ret2
        exact ⟨by rw [Hv.out]; rfl, rfl⟩
      · have e1 : (v == 30 + 10 * ((k : Int) - 4) + 8) = false := by simp [hv]
        have Hv := Lib.hid hv; clear hv
        go_wp2_with (go_at_call 89; refine (base_any _ _ (by omega) (by omega)).mono ?_; rintro e w1 ⟨rfl, rfl⟩)
        go_roundw
        case rel =>
          refine ⟨k + 1, by omega, by omega, by go_num, Lib.hid ⟨fun j h1 h2 => ?_, by first | trivial | rfl⟩⟩
          rcases (show j < k ∨ j = k by omega) with h | rfl
          · exact Hno.out j h1 h
          · exact Hv.out
        case measure => simp [intOf]; omega
    · obtain rfl : k = 7 := by omega
      have Hv := Lib.hid (show cpV v = .tuple #[.int .i64 0, .bool false] by
        have := wh_no v (by have := Hno.out 4 (by omega) (by omega); omega) (by have := Hno.out 5 (by omega) (by omega); omega) (by have := Hno.out 6 (by omega) (by omega); omega)
        unfold cpV
        rw [this]; rfl)
      go_wp2
      go_ret2
      exact ⟨by rw [Hv.out]; rfl, rfl⟩
/-- is a parameter made of more or fewer parts than one -/
def manyB (p : List Int) : Bool := decide (p.length ≠ 1)
theorem hasParts_any (v : Value) (p : List Int) (w : World) (h : Par.RI w v p) : Calls Tryd.prog 91 #[.agg #[v]] w fun e w' => e = .returned (.bool (manyB p)) ∧ Below w.heap.size w w' := by
  obtain ⟨A, c, rfl, hc, hc2, -, -⟩ := h
  obtain ⟨n, hn⟩ : ∃ n, n = p.length := ⟨_, rfl⟩
  have He := Lib.hid (show manyB p = ((n : Int) != 1) by
    unfold manyB; rw [← hn]
    by_cases h : n = 1
    · subst h; rfl
    · have : ((n : Int) != 1) = true := by rw [bne_iff_ne]; omega
      rw [this, decide_eq_true h])
  rw [← hn] at hc ⊢
  clear hn
  go_enter Tryd.func91, Tryd.ntmps91
  go_wp2
  go_ret
  exact ⟨by rw [He.out]; rfl, below_box _ _⟩
def noB (z : Int) : Bool := decide (z < 0) || decide (255 < z)
theorem noB_is (z : Int) : noB z = !inB z := by
  unfold noB inB
  rw [show decide (z < 0) = !decide (0 ≤ z) by rw [← decide_not]; exact decide_eq_decide.2 (by omega), show decide (255 < z) = !decide (z ≤ 255) by rw [← decide_not]; exact decide_eq_decide.2 (by omega), Bool.not_and]
theorem isNoByte_any (z : Int) (w : World) : Calls Tryd.prog 107 #[.int .i64 z] w fun e w' => e = .returned (.bool (noB z)) ∧ w = w' := by
  go_enter Tryd.func107, Tryd.ntmps107
  go_wp2
  all_goals
    go_ret
    refine ⟨?_, rfl⟩
    simp_all [noB]
open Sty in
theorem isWrong_any (k n m c0 c1 : Int) (t : ByteArray) (w : World) (h : Tl w) : Calls Tryd.prog 36 #[penV k n m c0 c1 t] w fun e w' => e = .returned (.bool (!okP ⟨k, n, m, c0, c1, t⟩)) ∧ Below w.heap.size w w' := by
  have HC := Lib.hid (checkPen_any k n m c0 c1 t _ (h.keep (below_box w (.cells #[.int .i64 k, .int .i64 n, .int .i64 m, .int .i64 c0, .int .i64 c1, .string t] 48))))
  obtain ⟨b, hb⟩ : ∃ b, okP ⟨k, n, m, c0, c1, t⟩ = b := ⟨_, rfl⟩
  unfold errP at HC
  rw [hb] at HC ⊢
  unfold penV at *
  clear h hb
  cases b
  · go_enter Tryd.func36, Tryd.ntmps36
    go_wp2_with (go_at_call 24; refine HC.out.mono ?_; rintro e w1 ⟨rfl, hb1⟩)
    go_ret
    exact ⟨rfl, Par.up (below_box _ _) hb1⟩
  · go_enter Tryd.func36, Tryd.ntmps36
    go_wp2_with (go_at_call 24; refine HC.out.mono ?_; rintro e w1 ⟨rfl, hb1⟩)
    go_ret
    exact ⟨rfl, Par.up (below_box _ _) hb1⟩
end Go.Proofs.YteepfecplabinaaDoor.Sgr

namespace Go.Proofs.YteepfecplabinaaDoor.Sgr
open Go.RowKit Utf

/-- the map while it is filled -/
structure MS (w W : World) (l : List KQ) : Prop where
  z : Env w
  b : Below w.heap.size w W
  m : W.heap[w.heap.size]? = some (mapQ l)
theorem MS.keep {w W W' : World} {l : List KQ} (h : MS w W l) (hb : Below W.heap.size W W') : MS w W' l :=
  ⟨h.z, Par.up h.b hb, (hb.block _ (Array.getElem?_eq_some_iff.1 h.m).1).trans h.m⟩
theorem MS.e {w W : World} {l : List KQ} (h : MS w W l) : Env W := h.z.keep h.b
theorem MS.drew {w W : World} {l : List KQ} (h : MS w W l) : MS w W.drew l := h.keep ((Below.refl _ _).drew)
theorem change_is (n m m' : Int) (h : m' = m) (w : World) : Calls Tryd.prog 29 #[.int .i64 n, .int .i64 m'] w fun e w' => e = .returned (qV (pq n m)) ∧ Below w.heap.size w w' := by
  subst h; exact change_any n m' w
theorem MS.up {w W : World} {l : List KQ} (h : MS w W l) (k : Int) (q : Q4) : MS w (W.putObj w.heap.size (mapQ (upE l k q))) (upE l k q) :=
  ⟨h.z, h.b.trans (below_putObj W _ h.b.size (Nat.le_refl _)), World.putObj_heap_same (Array.getElem?_eq_some_iff.1 h.m).1⟩
theorem set_at (k : Nat) (h : k < 8) : setT[k]? = some (setT.getD k 0) := by
  have : ∀ k : Fin 8, setT[k.val]? = some (setT.getD k.val 0) := by decide
  exact this ⟨k, h⟩
theorem clr_at (k : Nat) (h : k < 8) : clrT[k]? = some (clrT.getD k 0) := by
  have : ∀ k : Fin 8, clrT[k.val]? = some (clrT.getD k.val 0) := by decide
  exact this ⟨k, h⟩
set_option maxRecDepth 100000 in
set_option maxHeartbeats 4000000 in
theorem values_any (w : World) (he : Env w) : Calls Tryd.prog 51 #[] w fun e w' => e = .returned (.map (some w.heap.size)) ∧ w'.heap[w.heap.size]? = some (mapQ tabQ) ∧ Below w.heap.size w w' := by
  have hmm : ∀ W : World, (Instr.makeMap 99 (some (.int .i64 55))).run Tryd.prog W = .ok (.map (some W.heap.size)) (W.alloc (mapQ [])) := fun W => by
    simp [Instr.makeMap, Result.andThen, asInt, asIntOf]; rfl
  have hM0 : MS w (w.alloc (mapQ [])) [] := ⟨he, below_box _ _, heap_alloc_new w _⟩
  have HM := Lib.hid hM0
  clear hM0 he
  go_enter Tryd.func51, Tryd.ntmps51
  go_upto_region 2 with fail
  obtain ⟨W0, hW0⟩ : ∃ W0, W0 = w.alloc (mapQ []) := ⟨_, rfl⟩
  rw [← hW0] at HM ⊢
  clear hW0 hmm
  go_upto_region 3 with (go_at_call 29; refine (change_any _ _ _).mono ?_; rintro e U1 ⟨rfl, hb1⟩; have HM := Lib.hid (HM.out.keep hb1); have hU := up_run _ _ _ 0 (pq 0 0) HM.out.m; have HM := Lib.hid (HM.out.up 0 (pq 0 0)); clear hb1)
  obtain ⟨W1, hW1⟩ : ∃ W, W = U1.putObj w.heap.size (mapQ (upE [] 0 (pq 0 0))) := ⟨_, rfl⟩
  rw [← hW1] at HM ⊢
  clear hW1 hU
  go_upto_region 4 with (go_at_call 29; refine (change_any _ _ _).mono ?_; rintro e U2 ⟨rfl, hb1⟩; have HM := Lib.hid (HM.out.keep hb1); have hU := up_run _ _ _ 4 (pq 3 1) HM.out.m; have HM := Lib.hid (HM.out.up 4 (pq 3 1)); clear hb1)
  obtain ⟨W2, hW2⟩ : ∃ W, W = U2.putObj w.heap.size (mapQ (upE (upE [] 0 (pq 0 0)) 4 (pq 3 1))) := ⟨_, rfl⟩
  rw [← hW2] at HM ⊢
  clear hW2 hU
  go_upto_region 5 with (go_at_call 29; refine (change_any _ _ _).mono ?_; rintro e U3 ⟨rfl, hb1⟩; have HM := Lib.hid (HM.out.keep hb1); have hU := up_run _ _ _ 21 (pq 3 2) HM.out.m; have HM := Lib.hid (HM.out.up 21 (pq 3 2)); clear hb1)
  obtain ⟨W3, hW3⟩ : ∃ W, W = U3.putObj w.heap.size (mapQ (upE (upE (upE [] 0 (pq 0 0)) 4 (pq 3 1)) 21 (pq 3 2))) := ⟨_, rfl⟩
  rw [← hW3] at HM ⊢
  clear hW3 hU
  go_upto_region 6 with (go_at_call 29; refine (change_any _ _ _).mono ?_; rintro e U4 ⟨rfl, hb1⟩; have HM := Lib.hid (HM.out.keep hb1); have hU := up_run _ _ _ 24 (pq 3 0) HM.out.m; have HM := Lib.hid (HM.out.up 24 (pq 3 0)); clear hb1)
  obtain ⟨W4, hW4⟩ : ∃ W, W = U4.putObj w.heap.size (mapQ (upE (upE (upE (upE [] 0 (pq 0 0)) 4 (pq 3 1)) 21 (pq 3 2)) 24 (pq 3 0))) := ⟨_, rfl⟩
  rw [← hW4] at HM ⊢
  clear hW4 hU
  rw [show (upE (upE (upE (upE [] 0 (pq 0 0)) 4 (pq 3 1)) 21 (pq 3 2)) 24 (pq 3 0)) = tab1 0 from rfl] at HM
  go_wp2_with fail
  go_loopw [14] (fun i wr => ∃ k : Nat, k ≤ 8 ∧ i = .int .i64 k ∧ Hid (MS w wr (tab1 k))) (fun i _ => 8 - (intOf i).toNat)
  case atStart => exact ⟨0, by omega, rfl, HM⟩
  case round =>
    clear HM
    obtain ⟨k, hk, rfl, HM⟩ := hrel
    by_cases hk2 : k < 8
    · have Hn := Lib.hid (tab1_next k)
      rcases (show k = 0 ∨ k = 1 ∨ k = 2 ∨ k = 3 ∨ k = 4 ∨ k = 5 ∨ k = 6 ∨ k = 7 by omega) with rfl | rfl | rfl | rfl | rfl | rfl | rfl | rfl
      · generalize tab1 0 = L at HM Hn
        go_upto_region 9 with fail
        go_region_held3 (fun W => W.cell? ⟨0, 0, none⟩ = some (.int .i64 1)) (first | (with_reducible exact (HM.out.drew).e.set 0 1 rfl) | (with_reducible exact (MS.keep HM.out.drew (by assumption)).e.set 0 1 rfl) | (with_reducible exact ((MS.keep HM.out.drew (by assumption)).up 1 (pq 1 1)).e.set 0 1 rfl)) ((go_at_call 29; refine (change_is 1 1 _ (by rfl) _).mono ?_; rintro e U1 ⟨rfl, hb1⟩; have hU := up_run _ _ _ 1 (pq 1 1) (MS.keep HM.out.drew hb1).m))
        have HM := Lib.hid ((MS.keep HM.out.drew hb1).up 1 (pq 1 1))
        obtain ⟨V1, hV⟩ : ∃ W, W = U1.putObj w.heap.size (mapQ (upE L 1 (pq 1 1))) := ⟨_, rfl⟩
        rw [← hV] at HM ⊢
        clear hV hU hb1
        go_upto_region 10 with fail
        go_region_held3 (fun W => W.cell? ⟨1, 0, none⟩ = some (.int .i64 22)) (first | (with_reducible exact (HM.out.drew).e.clr 0 22 rfl) | (with_reducible exact (MS.keep HM.out.drew (by assumption)).e.clr 0 22 rfl) | (with_reducible exact ((MS.keep HM.out.drew (by assumption)).up 22 (pq 2 1)).e.clr 0 22 rfl)) ((go_at_call 29; refine (change_is 2 1 _ (by rfl) _).mono ?_; rintro e U1 ⟨rfl, hb1⟩; have hU := up_run _ _ _ 22 (pq 2 1) (MS.keep HM.out.drew hb1).m))
        have HM := Lib.hid ((MS.keep HM.out.drew hb1).up 22 (pq 2 1))
        obtain ⟨V2, hV⟩ : ∃ W, W = U1.putObj w.heap.size (mapQ (upE (upE L 1 (pq 1 1)) 22 (pq 2 1))) := ⟨_, rfl⟩
        rw [← hV] at HM ⊢
        clear hV hU hb1
        go_wp2_with fail
        refine ⟨⟨1, by omega, rfl, ?_⟩, by decide⟩
        rw [Hn.out]
        exact HM
      · generalize tab1 1 = L at HM Hn
        go_upto_region 9 with fail
        go_region_held3 (fun W => W.cell? ⟨0, 1, none⟩ = some (.int .i64 2)) (first | (with_reducible exact (HM.out.drew).e.set 1 2 rfl) | (with_reducible exact (MS.keep HM.out.drew (by assumption)).e.set 1 2 rfl) | (with_reducible exact ((MS.keep HM.out.drew (by assumption)).up 2 (pq 1 2)).e.set 1 2 rfl)) ((go_at_call 29; refine (change_is 1 2 _ (by rfl) _).mono ?_; rintro e U1 ⟨rfl, hb1⟩; have hU := up_run _ _ _ 2 (pq 1 2) (MS.keep HM.out.drew hb1).m))
        have HM := Lib.hid ((MS.keep HM.out.drew hb1).up 2 (pq 1 2))
        obtain ⟨V1, hV⟩ : ∃ W, W = U1.putObj w.heap.size (mapQ (upE L 2 (pq 1 2))) := ⟨_, rfl⟩
        rw [← hV] at HM ⊢
        clear hV hU hb1
        go_upto_region 10 with fail
        go_region_held3 (fun W => W.cell? ⟨1, 1, none⟩ = some (.int .i64 22)) (first | (with_reducible exact (HM.out.drew).e.clr 1 22 rfl) | (with_reducible exact (MS.keep HM.out.drew (by assumption)).e.clr 1 22 rfl) | (with_reducible exact ((MS.keep HM.out.drew (by assumption)).up 22 (pq 2 2)).e.clr 1 22 rfl)) ((go_at_call 29; refine (change_is 2 2 _ (by rfl) _).mono ?_; rintro e U1 ⟨rfl, hb1⟩; have hU := up_run _ _ _ 22 (pq 2 2) (MS.keep HM.out.drew hb1).m))
        have HM := Lib.hid ((MS.keep HM.out.drew hb1).up 22 (pq 2 2))
        obtain ⟨V2, hV⟩ : ∃ W, W = U1.putObj w.heap.size (mapQ (upE (upE L 2 (pq 1 2)) 22 (pq 2 2))) := ⟨_, rfl⟩
        rw [← hV] at HM ⊢
        clear hV hU hb1
        go_wp2_with fail
        refine ⟨⟨2, by omega, rfl, ?_⟩, by decide⟩
        rw [Hn.out]
        exact HM
      · generalize tab1 2 = L at HM Hn
        go_upto_region 9 with fail
        go_region_held3 (fun W => W.cell? ⟨0, 2, none⟩ = some (.int .i64 3)) (first | (with_reducible exact (HM.out.drew).e.set 2 3 rfl) | (with_reducible exact (MS.keep HM.out.drew (by assumption)).e.set 2 3 rfl) | (with_reducible exact ((MS.keep HM.out.drew (by assumption)).up 3 (pq 1 4)).e.set 2 3 rfl)) ((go_at_call 29; refine (change_is 1 4 _ (by rfl) _).mono ?_; rintro e U1 ⟨rfl, hb1⟩; have hU := up_run _ _ _ 3 (pq 1 4) (MS.keep HM.out.drew hb1).m))
        have HM := Lib.hid ((MS.keep HM.out.drew hb1).up 3 (pq 1 4))
        obtain ⟨V1, hV⟩ : ∃ W, W = U1.putObj w.heap.size (mapQ (upE L 3 (pq 1 4))) := ⟨_, rfl⟩
        rw [← hV] at HM ⊢
        clear hV hU hb1
        go_upto_region 10 with fail
        go_region_held3 (fun W => W.cell? ⟨1, 2, none⟩ = some (.int .i64 23)) (first | (with_reducible exact (HM.out.drew).e.clr 2 23 rfl) | (with_reducible exact (MS.keep HM.out.drew (by assumption)).e.clr 2 23 rfl) | (with_reducible exact ((MS.keep HM.out.drew (by assumption)).up 23 (pq 2 4)).e.clr 2 23 rfl)) ((go_at_call 29; refine (change_is 2 4 _ (by rfl) _).mono ?_; rintro e U1 ⟨rfl, hb1⟩; have hU := up_run _ _ _ 23 (pq 2 4) (MS.keep HM.out.drew hb1).m))
        have HM := Lib.hid ((MS.keep HM.out.drew hb1).up 23 (pq 2 4))
        obtain ⟨V2, hV⟩ : ∃ W, W = U1.putObj w.heap.size (mapQ (upE (upE L 3 (pq 1 4)) 23 (pq 2 4))) := ⟨_, rfl⟩
        rw [← hV] at HM ⊢
        clear hV hU hb1
        go_wp2_with fail
        refine ⟨⟨3, by omega, rfl, ?_⟩, by decide⟩
        rw [Hn.out]
        exact HM
      · generalize tab1 3 = L at HM Hn
        go_upto_region 9 with fail
        go_region_held3 (fun W => W.cell? ⟨0, 3, none⟩ = some (.int .i64 5)) (first | (with_reducible exact (HM.out.drew).e.set 3 5 rfl) | (with_reducible exact (MS.keep HM.out.drew (by assumption)).e.set 3 5 rfl) | (with_reducible exact ((MS.keep HM.out.drew (by assumption)).up 5 (pq 1 8)).e.set 3 5 rfl)) ((go_at_call 29; refine (change_is 1 8 _ (by rfl) _).mono ?_; rintro e U1 ⟨rfl, hb1⟩; have hU := up_run _ _ _ 5 (pq 1 8) (MS.keep HM.out.drew hb1).m))
        have HM := Lib.hid ((MS.keep HM.out.drew hb1).up 5 (pq 1 8))
        obtain ⟨V1, hV⟩ : ∃ W, W = U1.putObj w.heap.size (mapQ (upE L 5 (pq 1 8))) := ⟨_, rfl⟩
        rw [← hV] at HM ⊢
        clear hV hU hb1
        go_upto_region 10 with fail
        go_region_held3 (fun W => W.cell? ⟨1, 3, none⟩ = some (.int .i64 25)) (first | (with_reducible exact (HM.out.drew).e.clr 3 25 rfl) | (with_reducible exact (MS.keep HM.out.drew (by assumption)).e.clr 3 25 rfl) | (with_reducible exact ((MS.keep HM.out.drew (by assumption)).up 25 (pq 2 8)).e.clr 3 25 rfl)) ((go_at_call 29; refine (change_is 2 8 _ (by rfl) _).mono ?_; rintro e U1 ⟨rfl, hb1⟩; have hU := up_run _ _ _ 25 (pq 2 8) (MS.keep HM.out.drew hb1).m))
        have HM := Lib.hid ((MS.keep HM.out.drew hb1).up 25 (pq 2 8))
        obtain ⟨V2, hV⟩ : ∃ W, W = U1.putObj w.heap.size (mapQ (upE (upE L 5 (pq 1 8)) 25 (pq 2 8))) := ⟨_, rfl⟩
        rw [← hV] at HM ⊢
        clear hV hU hb1
        go_wp2_with fail
        refine ⟨⟨4, by omega, rfl, ?_⟩, by decide⟩
        rw [Hn.out]
        exact HM
      · generalize tab1 4 = L at HM Hn
        go_upto_region 9 with fail
        go_region_held3 (fun W => W.cell? ⟨0, 4, none⟩ = some (.int .i64 7)) (first | (with_reducible exact (HM.out.drew).e.set 4 7 rfl) | (with_reducible exact (MS.keep HM.out.drew (by assumption)).e.set 4 7 rfl) | (with_reducible exact ((MS.keep HM.out.drew (by assumption)).up 7 (pq 1 16)).e.set 4 7 rfl)) ((go_at_call 29; refine (change_is 1 16 _ (by rfl) _).mono ?_; rintro e U1 ⟨rfl, hb1⟩; have hU := up_run _ _ _ 7 (pq 1 16) (MS.keep HM.out.drew hb1).m))
        have HM := Lib.hid ((MS.keep HM.out.drew hb1).up 7 (pq 1 16))
        obtain ⟨V1, hV⟩ : ∃ W, W = U1.putObj w.heap.size (mapQ (upE L 7 (pq 1 16))) := ⟨_, rfl⟩
        rw [← hV] at HM ⊢
        clear hV hU hb1
        go_upto_region 10 with fail
        go_region_held3 (fun W => W.cell? ⟨1, 4, none⟩ = some (.int .i64 27)) (first | (with_reducible exact (HM.out.drew).e.clr 4 27 rfl) | (with_reducible exact (MS.keep HM.out.drew (by assumption)).e.clr 4 27 rfl) | (with_reducible exact ((MS.keep HM.out.drew (by assumption)).up 27 (pq 2 16)).e.clr 4 27 rfl)) ((go_at_call 29; refine (change_is 2 16 _ (by rfl) _).mono ?_; rintro e U1 ⟨rfl, hb1⟩; have hU := up_run _ _ _ 27 (pq 2 16) (MS.keep HM.out.drew hb1).m))
        have HM := Lib.hid ((MS.keep HM.out.drew hb1).up 27 (pq 2 16))
        obtain ⟨V2, hV⟩ : ∃ W, W = U1.putObj w.heap.size (mapQ (upE (upE L 7 (pq 1 16)) 27 (pq 2 16))) := ⟨_, rfl⟩
        rw [← hV] at HM ⊢
        clear hV hU hb1
        go_wp2_with fail
        refine ⟨⟨5, by omega, rfl, ?_⟩, by decide⟩
        rw [Hn.out]
        exact HM
      · generalize tab1 5 = L at HM Hn
        go_upto_region 9 with fail
        go_region_held3 (fun W => W.cell? ⟨0, 5, none⟩ = some (.int .i64 8)) (first | (with_reducible exact (HM.out.drew).e.set 5 8 rfl) | (with_reducible exact (MS.keep HM.out.drew (by assumption)).e.set 5 8 rfl) | (with_reducible exact ((MS.keep HM.out.drew (by assumption)).up 8 (pq 1 32)).e.set 5 8 rfl)) ((go_at_call 29; refine (change_is 1 32 _ (by rfl) _).mono ?_; rintro e U1 ⟨rfl, hb1⟩; have hU := up_run _ _ _ 8 (pq 1 32) (MS.keep HM.out.drew hb1).m))
        have HM := Lib.hid ((MS.keep HM.out.drew hb1).up 8 (pq 1 32))
        obtain ⟨V1, hV⟩ : ∃ W, W = U1.putObj w.heap.size (mapQ (upE L 8 (pq 1 32))) := ⟨_, rfl⟩
        rw [← hV] at HM ⊢
        clear hV hU hb1
        go_upto_region 10 with fail
        go_region_held3 (fun W => W.cell? ⟨1, 5, none⟩ = some (.int .i64 28)) (first | (with_reducible exact (HM.out.drew).e.clr 5 28 rfl) | (with_reducible exact (MS.keep HM.out.drew (by assumption)).e.clr 5 28 rfl) | (with_reducible exact ((MS.keep HM.out.drew (by assumption)).up 28 (pq 2 32)).e.clr 5 28 rfl)) ((go_at_call 29; refine (change_is 2 32 _ (by rfl) _).mono ?_; rintro e U1 ⟨rfl, hb1⟩; have hU := up_run _ _ _ 28 (pq 2 32) (MS.keep HM.out.drew hb1).m))
        have HM := Lib.hid ((MS.keep HM.out.drew hb1).up 28 (pq 2 32))
        obtain ⟨V2, hV⟩ : ∃ W, W = U1.putObj w.heap.size (mapQ (upE (upE L 8 (pq 1 32)) 28 (pq 2 32))) := ⟨_, rfl⟩
        rw [← hV] at HM ⊢
        clear hV hU hb1
        go_wp2_with fail
        refine ⟨⟨6, by omega, rfl, ?_⟩, by decide⟩
        rw [Hn.out]
        exact HM
      · generalize tab1 6 = L at HM Hn
        go_upto_region 9 with fail
        go_region_held3 (fun W => W.cell? ⟨0, 6, none⟩ = some (.int .i64 9)) (first | (with_reducible exact (HM.out.drew).e.set 6 9 rfl) | (with_reducible exact (MS.keep HM.out.drew (by assumption)).e.set 6 9 rfl) | (with_reducible exact ((MS.keep HM.out.drew (by assumption)).up 9 (pq 1 64)).e.set 6 9 rfl)) ((go_at_call 29; refine (change_is 1 64 _ (by rfl) _).mono ?_; rintro e U1 ⟨rfl, hb1⟩; have hU := up_run _ _ _ 9 (pq 1 64) (MS.keep HM.out.drew hb1).m))
        have HM := Lib.hid ((MS.keep HM.out.drew hb1).up 9 (pq 1 64))
        obtain ⟨V1, hV⟩ : ∃ W, W = U1.putObj w.heap.size (mapQ (upE L 9 (pq 1 64))) := ⟨_, rfl⟩
        rw [← hV] at HM ⊢
        clear hV hU hb1
        go_upto_region 10 with fail
        go_region_held3 (fun W => W.cell? ⟨1, 6, none⟩ = some (.int .i64 29)) (first | (with_reducible exact (HM.out.drew).e.clr 6 29 rfl) | (with_reducible exact (MS.keep HM.out.drew (by assumption)).e.clr 6 29 rfl) | (with_reducible exact ((MS.keep HM.out.drew (by assumption)).up 29 (pq 2 64)).e.clr 6 29 rfl)) ((go_at_call 29; refine (change_is 2 64 _ (by rfl) _).mono ?_; rintro e U1 ⟨rfl, hb1⟩; have hU := up_run _ _ _ 29 (pq 2 64) (MS.keep HM.out.drew hb1).m))
        have HM := Lib.hid ((MS.keep HM.out.drew hb1).up 29 (pq 2 64))
        obtain ⟨V2, hV⟩ : ∃ W, W = U1.putObj w.heap.size (mapQ (upE (upE L 9 (pq 1 64)) 29 (pq 2 64))) := ⟨_, rfl⟩
        rw [← hV] at HM ⊢
        clear hV hU hb1
        go_wp2_with fail
        refine ⟨⟨7, by omega, rfl, ?_⟩, by decide⟩
        rw [Hn.out]
        exact HM
      · generalize tab1 7 = L at HM Hn
        go_upto_region 9 with fail
        go_region_held3 (fun W => W.cell? ⟨0, 7, none⟩ = some (.int .i64 53)) (first | (with_reducible exact (HM.out.drew).e.set 7 53 rfl) | (with_reducible exact (MS.keep HM.out.drew (by assumption)).e.set 7 53 rfl) | (with_reducible exact ((MS.keep HM.out.drew (by assumption)).up 53 (pq 1 128)).e.set 7 53 rfl)) ((go_at_call 29; refine (change_is 1 128 _ (by rfl) _).mono ?_; rintro e U1 ⟨rfl, hb1⟩; have hU := up_run _ _ _ 53 (pq 1 128) (MS.keep HM.out.drew hb1).m))
        have HM := Lib.hid ((MS.keep HM.out.drew hb1).up 53 (pq 1 128))
        obtain ⟨V1, hV⟩ : ∃ W, W = U1.putObj w.heap.size (mapQ (upE L 53 (pq 1 128))) := ⟨_, rfl⟩
        rw [← hV] at HM ⊢
        clear hV hU hb1
        go_upto_region 10 with fail
        go_region_held3 (fun W => W.cell? ⟨1, 7, none⟩ = some (.int .i64 55)) (first | (with_reducible exact (HM.out.drew).e.clr 7 55 rfl) | (with_reducible exact (MS.keep HM.out.drew (by assumption)).e.clr 7 55 rfl) | (with_reducible exact ((MS.keep HM.out.drew (by assumption)).up 55 (pq 2 128)).e.clr 7 55 rfl)) ((go_at_call 29; refine (change_is 2 128 _ (by rfl) _).mono ?_; rintro e U1 ⟨rfl, hb1⟩; have hU := up_run _ _ _ 55 (pq 2 128) (MS.keep HM.out.drew hb1).m))
        have HM := Lib.hid ((MS.keep HM.out.drew hb1).up 55 (pq 2 128))
        obtain ⟨V2, hV⟩ : ∃ W, W = U1.putObj w.heap.size (mapQ (upE (upE L 53 (pq 1 128)) 55 (pq 2 128))) := ⟨_, rfl⟩
        rw [← hV] at HM ⊢
        clear hV hU hb1
        go_wp2_with fail
        refine ⟨⟨8, by omega, rfl, ?_⟩, by decide⟩
        rw [Hn.out]
        exact HM
    · obtain rfl : k = 8 := by omega
      go_upto_region 12 with fail
      generalize tab1_8 : tab1 8 = L at HM
      go_upto_region 13 with (go_at_call 29; refine (change_any _ _ _).mono ?_; rintro e U1 ⟨rfl, hb1⟩; have HM := Lib.hid (HM.out.keep hb1); have hU := up_run _ _ _ 6 (pq 1 8) HM.out.m; have HM := Lib.hid (HM.out.up 6 (pq 1 8)); clear hb1)
      obtain ⟨X1, hX⟩ : ∃ W, W = U1.putObj w.heap.size (mapQ (upE L 6 (pq 1 8))) := ⟨_, rfl⟩
      rw [← hX] at HM ⊢
      clear hX hU
      go_region_held3 (fun W => W.cell? ⟨1, 0, none⟩ = some (.int .i64 22)) (first | (with_reducible exact (HM.out.drew).e.clr 0 22 rfl) | (with_reducible exact (MS.keep HM.out.drew (by assumption)).e.clr 0 22 rfl) | (with_reducible exact ((MS.keep HM.out.drew (by assumption)).up 22 (pq 2 3)).e.clr 0 22 rfl)) ((go_at_call 29; refine (change_is 2 3 _ (by rfl) _).mono ?_; rintro e U1 ⟨rfl, hb1⟩; have hU := up_run _ _ _ 22 (pq 2 3) (MS.keep HM.out.drew hb1).m))
      have HM := Lib.hid ((MS.keep HM.out.drew hb1).up 22 (pq 2 3))
      obtain ⟨V2, hV⟩ : ∃ W, W = U1.putObj w.heap.size (mapQ (upE (upE L 6 (pq 1 8)) 22 (pq 2 3))) := ⟨_, rfl⟩
      rw [← hV] at HM ⊢
      clear hV hU hb1
      rw [← tab1_8, show upE (upE (tab1 8) 6 (pq 1 8)) 22 (pq 2 3) = tab2 0 from rfl] at HM
      clear tab1_8
      go_wp2_with fail
      go_loopw [3] (fun i wr => ∃ k : Nat, k ≤ 3 ∧ i = .int .i64 ((4 + k : Nat) : Int) ∧ Hid (MS w wr (tab2 k))) (fun i _ => 7 - (intOf i).toNat)
      case atStart => exact ⟨0, by omega, rfl, HM⟩
      case round =>
        clear HM
        obtain ⟨k, hk, rfl, HM⟩ := hrel
        by_cases hk2 : k < 3
        · have Hn := Lib.hid (tab2_next k)
          rcases (show k = 0 ∨ k = 1 ∨ k = 2 by omega) with rfl | rfl | rfl
          · generalize tab2 0 = L at HM Hn
            have hb0 := Lib.hid (fun W => base_any 4 W (by decide) (by decide))
            go_upto_region 16 with (first | (go_at_call 89; refine (hb0.out _).mono ?_; rintro e U0 ⟨rfl, rfl⟩) | (go_at_call 88; refine (colored_any _ _ _ _).mono ?_; rintro e U1 ⟨rfl, hb1⟩; have HM := Lib.hid (HM.out.keep hb1); have hU := up_run _ _ _ 39 (cq 4 0 0) HM.out.m; have HM := Lib.hid (HM.out.up 39 (cq 4 0 0)); clear hb1))
            obtain ⟨V, hV⟩ : ∃ W, W = U1.putObj w.heap.size (mapQ (upE L 39 (cq 4 0 0))) := ⟨_, rfl⟩
            rw [← hV] at HM ⊢
            clear hV hU
            go_wp2_with fail
            refine ⟨⟨1, by omega, rfl, ?_⟩, by decide⟩
            rw [Hn.out]
            exact HM
          · generalize tab2 1 = L at HM Hn
            have hb0 := Lib.hid (fun W => base_any 5 W (by decide) (by decide))
            go_upto_region 16 with (first | (go_at_call 89; refine (hb0.out _).mono ?_; rintro e U0 ⟨rfl, rfl⟩) | (go_at_call 88; refine (colored_any _ _ _ _).mono ?_; rintro e U1 ⟨rfl, hb1⟩; have HM := Lib.hid (HM.out.keep hb1); have hU := up_run _ _ _ 49 (cq 5 0 0) HM.out.m; have HM := Lib.hid (HM.out.up 49 (cq 5 0 0)); clear hb1))
            obtain ⟨V, hV⟩ : ∃ W, W = U1.putObj w.heap.size (mapQ (upE L 49 (cq 5 0 0))) := ⟨_, rfl⟩
            rw [← hV] at HM ⊢
            clear hV hU
            go_wp2_with fail
            refine ⟨⟨2, by omega, rfl, ?_⟩, by decide⟩
            rw [Hn.out]
            exact HM
          · generalize tab2 2 = L at HM Hn
            have hb0 := Lib.hid (fun W => base_any 6 W (by decide) (by decide))
            go_upto_region 16 with (first | (go_at_call 89; refine (hb0.out _).mono ?_; rintro e U0 ⟨rfl, rfl⟩) | (go_at_call 88; refine (colored_any _ _ _ _).mono ?_; rintro e U1 ⟨rfl, hb1⟩; have HM := Lib.hid (HM.out.keep hb1); have hU := up_run _ _ _ 59 (cq 6 0 0) HM.out.m; have HM := Lib.hid (HM.out.up 59 (cq 6 0 0)); clear hb1))
            obtain ⟨V, hV⟩ : ∃ W, W = U1.putObj w.heap.size (mapQ (upE L 59 (cq 6 0 0))) := ⟨_, rfl⟩
            rw [← hV] at HM ⊢
            clear hV hU
            go_wp2_with fail
            refine ⟨⟨3, by omega, rfl, ?_⟩, by decide⟩
            rw [Hn.out]
            exact HM
        · obtain rfl : k = 3 := by omega
          rw [show tab2 3 = tab3 0 from rfl] at HM
          rw [show ((4 + 3 : Nat) : Int) = 7 from rfl]
          go_wp2_with fail
          go_loopw [48] (fun i wr => ∃ k : Nat, k ≤ 16 ∧ i = .int .i64 k ∧ Hid (MS w wr (tab3 k))) (fun i _ => 16 - (intOf i).toNat)
          case atStart => exact ⟨0, by omega, rfl, HM⟩
          case round =>
            clear HM
            obtain ⟨k, hk, rfl, HM⟩ := hrel
            by_cases hk2 : k < 16
            · have Hn := Lib.hid (tab3_next k)
              generalize tab3 k = L at HM Hn
              have i1 : (0 : Int) ≤ k := by omega
              have i2 : (k : Int) < 16 := by omega
              have S4 := Lib.hid (fun W => short_any 4 (k : Int) W (by decide) (by decide) (by omega) (by omega))
              have S5 := Lib.hid (fun W => short_any 5 (k : Int) W (by decide) (by decide) (by omega) (by omega))
              go_upto_region 22 with (first | (go_at_call 90; refine (S4.out _).mono ?_; rintro e U0 ⟨rfl, rfl⟩) | (go_at_call 88; refine (colored_any _ _ _ _).mono ?_; rintro e U1 ⟨rfl, hb1⟩; have HM := Lib.hid (HM.out.keep hb1); have hU := up_run _ _ _ (shortV 4 k) (cq 4 1 k) HM.out.m; have HM := Lib.hid (HM.out.up (shortV 4 k) (cq 4 1 k)); clear hb1))
              obtain ⟨V1, hV⟩ : ∃ W, W = U1.putObj w.heap.size (mapQ (upE L (shortV 4 k) (cq 4 1 k))) := ⟨_, rfl⟩
              rw [← hV] at HM ⊢
              clear hV hU
              go_upto_region 23 with (first | (go_at_call 90; refine (S5.out _).mono ?_; rintro e U0 ⟨rfl, rfl⟩) | (go_at_call 88; refine (colored_any _ _ _ _).mono ?_; rintro e U1 ⟨rfl, hb1⟩; have HM := Lib.hid (HM.out.keep hb1); have hU := up_run _ _ _ (shortV 5 k) (cq 5 1 k) HM.out.m; have HM := Lib.hid (HM.out.up (shortV 5 k) (cq 5 1 k)); clear hb1))
              obtain ⟨V2, hV⟩ : ∃ W, W = U1.putObj w.heap.size (mapQ (upE (upE L (shortV 4 k) (cq 4 1 k)) (shortV 5 k) (cq 5 1 k))) := ⟨_, rfl⟩
              rw [← hV] at HM ⊢
              clear hV hU
              go_wp2_with fail
              go_roundw
              case rel => exact ⟨k + 1, by omega, by go_num, by rw [Hn.out]; exact HM⟩
              case measure => simp [intOf]; omega
            · obtain rfl : k = 16 := by omega
              go_wp2_with fail
              go_ret
              exact ⟨rfl, HM.out.m, HM.out.b⟩
end Go.Proofs.YteepfecplabinaaDoor.Sgr
