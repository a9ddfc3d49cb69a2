/-
  The walk of the law SgrValues.
-/
import Derived.Test.YteepfecplabinaaDoorP35
namespace Go.Proofs.YteepfecplabinaaDoor.Sgr
open Go.RowKit Utf

/-- many new blocks -/
def allocs : World → List Obj → World
  | w, [] => w
  | w, o :: l => allocs (w.alloc o) l
theorem allocs_below : ∀ (l : List Obj) (w : World), Below w.heap.size w (allocs w l)
  | [], _ => Below.refl _ _
  | o :: l, w => Par.up (below_box w o) (allocs_below l (w.alloc o))
theorem allocs_at : ∀ (l : List Obj) (w : World) (i : Nat) (o : Obj), l[i]? = some o → (allocs w l).heap[w.heap.size + i]? = some o
  | [], _, i, o, h => by simp at h
  | x :: l, w, 0, o, h => by
    rw [List.getElem?_cons_zero] at h
    injection h with h
    subst h
    have hlt : w.heap.size < (w.alloc x).heap.size := by rw [World.size_alloc]; exact Nat.lt_succ_self _
    exact ((allocs_below l (w.alloc x)).block _ hlt).trans (heap_alloc_new w x)
  | x :: l, w, i + 1, o, h => by
    rw [List.getElem?_cons_succ] at h
    have := allocs_at l (w.alloc x) i o h
    rw [World.size_alloc] at this
    rw [show w.heap.size + (i + 1) = w.heap.size + 1 + i by omega]
    exact this
theorem box_rd {w : World} {B : Nat} {cs : List Value} (h : Par.Box w B cs) : Rd w (some ⟨B, 0, none⟩) cs := fun j u hu => ⟨_, rfl, h.1, by rw [Addr.add_lit, Nat.zero_add]; exact h.cell j u hu⟩
def RowsI (W : World) : List Value → List (List Int) → Prop
  | [], [] => True
  | x :: vs, p :: l => Par.RI W x p ∧ RowsI W vs l
  | _, _ => False
theorem RowsI.at {W : World} : ∀ {vs : List Value} {l : List (List Int)}, RowsI W vs l → vs.length = l.length ∧ ∀ (j : Nat) (x : Value) (p : List Int), vs[j]? = some x → l[j]? = some p → Par.RI W x p
  | [], [], _ => ⟨rfl, fun j x p h => by simp at h⟩
  | [], _ :: _, h => h.elim
  | _ :: _, [], h => h.elim
  | y :: vs, q :: l, h => by
    obtain ⟨h1, h2⟩ := RowsI.at h.2
    refine ⟨by simp [h1], fun j x p hx hp => ?_⟩
    cases j with
    | zero => rw [List.getElem?_cons_zero] at hx hp; injection hx with hx; injection hp with hp; subst hx; subst hp; exact h.1
    | succ j => rw [List.getElem?_cons_succ] at hx hp; exact h2 j x p hx hp
theorem ri_box {W : World} {B n : Nat} {p : List Int} (h : Par.Box W B (cI p)) (hn : n = p.length) (hl : n ≤ maxLen) : Par.RI W (.slice (some ⟨B, 0, none⟩) n n) p := by
  subst hn
  exact ⟨_, _, rfl, Nat.le_refl _, hl, (fun h => by cases h), box_rd h⟩
theorem big_box {W : World} {B n : Nat} {vs : List Value} {l : List (List Int)} (h : Par.Box W B vs) (hr : RowsI W vs l) (hn : n = l.length) (hl : n ≤ 6) (h6 : l.all (fun p => decide (p.length ≤ 6)) = true) : Big W (.slice (some ⟨B, 0, none⟩) n n) l := by
  subst hn
  refine ⟨⟨_, _, vs, rfl, Nat.le_refl _, by unfold maxLen; omega, (fun h => by cases h), hr.at.1, box_rd h, hr.at.2⟩, by omega, fun p hp => ?_⟩
  have := List.all_eq_true.1 h6 p hp
  have := of_decide_eq_true this
  omega
def valO (w : World) (t z0 z1 z2 z3 z4 : Int) : List Obj := [.cells #[.int .i64 z0, .int .i64 z1, .int .i64 z2, .int .i64 z3, .int .i64 z4] 38, .cells #[.int .i64 t] 3, .cells #[.slice (some ⟨w.heap.size + 1, 0, none⟩) 1 1] 41, .cells #[.int .i64 t, .int .i64 z0] 3, .cells #[.slice (some ⟨w.heap.size + 1 + 1 + 1, 0, none⟩) 2 2] 41, .cells #[.int .i64 t] 3, .cells #[.int .i64 z1] 3, .cells #[.int .i64 z2] 3, .cells #[.slice (some ⟨w.heap.size + 1 + 1 + 1 + 1 + 1, 0, none⟩) 1 1, .slice (some ⟨w.heap.size + 1 + 1 + 1 + 1 + 1 + 1, 0, none⟩) 1 1, .slice (some ⟨w.heap.size + 1 + 1 + 1 + 1 + 1 + 1 + 1, 0, none⟩) 1 1] 41, .cells #[.int .i64 t, .int .i64 z1, .int .i64 z2, .int .i64 z3, .int .i64 z4] 3, .cells #[.int .i64 1] 3, .cells #[.slice (some ⟨w.heap.size + 1 + 1 + 1 + 1 + 1 + 1 + 1 + 1 + 1, 0, none⟩) 5 5, .slice (some ⟨w.heap.size + 1 + 1 + 1 + 1 + 1 + 1 + 1 + 1 + 1 + 1, 0, none⟩) 1 1] 41, .cells #[.int .i64 t] 3, .cells #[.int .i64 2] 3, .cells #[.int .i64 z2] 3, .cells #[.int .i64 z3] 3, .cells #[.int .i64 z4] 3, .cells #[.int .i64 t] 3, .cells #[.slice (some ⟨w.heap.size + 1 + 1 + 1 + 1 + 1 + 1 + 1 + 1 + 1 + 1 + 1 + 1, 0, none⟩) 1 1, .slice (some ⟨w.heap.size + 1 + 1 + 1 + 1 + 1 + 1 + 1 + 1 + 1 + 1 + 1 + 1 + 1, 0, none⟩) 1 1, .slice (some ⟨w.heap.size + 1 + 1 + 1 + 1 + 1 + 1 + 1 + 1 + 1 + 1 + 1 + 1 + 1 + 1, 0, none⟩) 1 1, .slice (some ⟨w.heap.size + 1 + 1 + 1 + 1 + 1 + 1 + 1 + 1 + 1 + 1 + 1 + 1 + 1 + 1 + 1, 0, none⟩) 1 1, .slice (some ⟨w.heap.size + 1 + 1 + 1 + 1 + 1 + 1 + 1 + 1 + 1 + 1 + 1 + 1 + 1 + 1 + 1 + 1, 0, none⟩) 1 1, .slice (some ⟨w.heap.size + 1 + 1 + 1 + 1 + 1 + 1 + 1 + 1 + 1 + 1 + 1 + 1 + 1 + 1 + 1 + 1 + 1, 0, none⟩) 1 1] 41, .cells #[.slice (some ⟨w.heap.size + 1 + 1, 0, none⟩) 1 1, .slice (some ⟨w.heap.size + 1 + 1 + 1 + 1, 0, none⟩) 1 1, .slice (some ⟨w.heap.size + 1 + 1 + 1 + 1 + 1 + 1 + 1 + 1, 0, none⟩) 3 3, .slice (some ⟨w.heap.size + 1 + 1 + 1 + 1 + 1 + 1 + 1 + 1 + 1 + 1 + 1, 0, none⟩) 2 2, .slice (some ⟨w.heap.size + 1 + 1 + 1 + 1 + 1 + 1 + 1 + 1 + 1 + 1 + 1 + 1 + 1 + 1 + 1 + 1 + 1 + 1, 0, none⟩) 6 6] 42]
def valW (w : World) (t z0 z1 z2 z3 z4 : Int) : World := allocs w (valO w t z0 z1 z2 z3 z4)
theorem valW_is (w : World) (t z0 z1 z2 z3 z4 : Int) : (((((((((((((((((((((((((((((((((((((((w.alloc (.cells #[.int .i64 z0, .int .i64 z1, .int .i64 z2, .int .i64 z3, .int .i64 z4] 38))).alloc (.cells #[.int .i64 t] 3))).alloc (.cells #[.slice (some ⟨w.heap.size + 1, 0, none⟩) 1 1] 41))).alloc (.cells #[.int .i64 t, .int .i64 z0] 3))).alloc (.cells #[.slice (some ⟨w.heap.size + 1 + 1 + 1, 0, none⟩) 2 2] 41))).alloc (.cells #[.int .i64 t] 3))).alloc (.cells #[.int .i64 z1] 3))).alloc (.cells #[.int .i64 z2] 3))).alloc (.cells #[.slice (some ⟨w.heap.size + 1 + 1 + 1 + 1 + 1, 0, none⟩) 1 1, .slice (some ⟨w.heap.size + 1 + 1 + 1 + 1 + 1 + 1, 0, none⟩) 1 1, .slice (some ⟨w.heap.size + 1 + 1 + 1 + 1 + 1 + 1 + 1, 0, none⟩) 1 1] 41))).alloc (.cells #[.int .i64 t, .int .i64 z1, .int .i64 z2, .int .i64 z3, .int .i64 z4] 3))).alloc (.cells #[.int .i64 1] 3))).alloc (.cells #[.slice (some ⟨w.heap.size + 1 + 1 + 1 + 1 + 1 + 1 + 1 + 1 + 1, 0, none⟩) 5 5, .slice (some ⟨w.heap.size + 1 + 1 + 1 + 1 + 1 + 1 + 1 + 1 + 1 + 1, 0, none⟩) 1 1] 41))).alloc (.cells #[.int .i64 t] 3))).alloc (.cells #[.int .i64 2] 3))).alloc (.cells #[.int .i64 z2] 3))).alloc (.cells #[.int .i64 z3] 3))).alloc (.cells #[.int .i64 z4] 3))).alloc (.cells #[.int .i64 t] 3))).alloc (.cells #[.slice (some ⟨w.heap.size + 1 + 1 + 1 + 1 + 1 + 1 + 1 + 1 + 1 + 1 + 1 + 1, 0, none⟩) 1 1, .slice (some ⟨w.heap.size + 1 + 1 + 1 + 1 + 1 + 1 + 1 + 1 + 1 + 1 + 1 + 1 + 1, 0, none⟩) 1 1, .slice (some ⟨w.heap.size + 1 + 1 + 1 + 1 + 1 + 1 + 1 + 1 + 1 + 1 + 1 + 1 + 1 + 1, 0, none⟩) 1 1, .slice (some ⟨w.heap.size + 1 + 1 + 1 + 1 + 1 + 1 + 1 + 1 + 1 + 1 + 1 + 1 + 1 + 1 + 1, 0, none⟩) 1 1, .slice (some ⟨w.heap.size + 1 + 1 + 1 + 1 + 1 + 1 + 1 + 1 + 1 + 1 + 1 + 1 + 1 + 1 + 1 + 1, 0, none⟩) 1 1, .slice (some ⟨w.heap.size + 1 + 1 + 1 + 1 + 1 + 1 + 1 + 1 + 1 + 1 + 1 + 1 + 1 + 1 + 1 + 1 + 1, 0, none⟩) 1 1] 41))).alloc (.cells #[.slice (some ⟨w.heap.size + 1 + 1, 0, none⟩) 1 1, .slice (some ⟨w.heap.size + 1 + 1 + 1 + 1, 0, none⟩) 1 1, .slice (some ⟨w.heap.size + 1 + 1 + 1 + 1 + 1 + 1 + 1 + 1, 0, none⟩) 3 3, .slice (some ⟨w.heap.size + 1 + 1 + 1 + 1 + 1 + 1 + 1 + 1 + 1 + 1 + 1, 0, none⟩) 2 2, .slice (some ⟨w.heap.size + 1 + 1 + 1 + 1 + 1 + 1 + 1 + 1 + 1 + 1 + 1 + 1 + 1 + 1 + 1 + 1 + 1 + 1, 0, none⟩) 6 6] 42)) = valW w t z0 z1 z2 z3 z4 := rfl
theorem valW_box (w : World) (t z0 z1 z2 z3 z4 : Int) (i : Nat) (cs : Array Value) (ty : TypeId) (h : (valO w t z0 z1 z2 z3 z4)[i]? = some (.cells cs ty)) : Par.Box (valW w t z0 z1 z2 z3 z4) (w.heap.size + i) cs.toList := Par.Box.of (allocs_at _ w i _ h)
theorem val_0 (w : World) (t z0 z1 z2 z3 z4 : Int) : Big (valW w t z0 z1 z2 z3 z4) (.slice (some ⟨w.heap.size + 1 + 1, 0, none⟩) 1 1) [[t]] :=
  big_box (valW_box w t z0 z1 z2 z3 z4 2 _ _ rfl) ⟨ri_box (valW_box w t z0 z1 z2 z3 z4 1 _ _ rfl) rfl (by decide), trivial⟩ rfl (by decide) rfl
theorem val_1 (w : World) (t z0 z1 z2 z3 z4 : Int) : Big (valW w t z0 z1 z2 z3 z4) (.slice (some ⟨w.heap.size + 1 + 1 + 1 + 1, 0, none⟩) 1 1) [[t, z0]] :=
  big_box (valW_box w t z0 z1 z2 z3 z4 4 _ _ rfl) ⟨ri_box (valW_box w t z0 z1 z2 z3 z4 3 _ _ rfl) rfl (by decide), trivial⟩ rfl (by decide) rfl
theorem val_2 (w : World) (t z0 z1 z2 z3 z4 : Int) : Big (valW w t z0 z1 z2 z3 z4) (.slice (some ⟨w.heap.size + 1 + 1 + 1 + 1 + 1 + 1 + 1 + 1, 0, none⟩) 3 3) [[t], [z1], [z2]] :=
  big_box (valW_box w t z0 z1 z2 z3 z4 8 _ _ rfl) ⟨ri_box (valW_box w t z0 z1 z2 z3 z4 5 _ _ rfl) rfl (by decide), ri_box (valW_box w t z0 z1 z2 z3 z4 6 _ _ rfl) rfl (by decide), ri_box (valW_box w t z0 z1 z2 z3 z4 7 _ _ rfl) rfl (by decide), trivial⟩ rfl (by decide) rfl
theorem val_3 (w : World) (t z0 z1 z2 z3 z4 : Int) : Big (valW w t z0 z1 z2 z3 z4) (.slice (some ⟨w.heap.size + 1 + 1 + 1 + 1 + 1 + 1 + 1 + 1 + 1 + 1 + 1, 0, none⟩) 2 2) [[t, z1, z2, z3, z4], [1]] :=
  big_box (valW_box w t z0 z1 z2 z3 z4 11 _ _ rfl) ⟨ri_box (valW_box w t z0 z1 z2 z3 z4 9 _ _ rfl) rfl (by decide), ri_box (valW_box w t z0 z1 z2 z3 z4 10 _ _ rfl) rfl (by decide), trivial⟩ rfl (by decide) rfl
theorem val_4 (w : World) (t z0 z1 z2 z3 z4 : Int) : Big (valW w t z0 z1 z2 z3 z4) (.slice (some ⟨w.heap.size + 1 + 1 + 1 + 1 + 1 + 1 + 1 + 1 + 1 + 1 + 1 + 1 + 1 + 1 + 1 + 1 + 1 + 1, 0, none⟩) 6 6) [[t], [2], [z2], [z3], [z4], [t]] :=
  big_box (valW_box w t z0 z1 z2 z3 z4 18 _ _ rfl) ⟨ri_box (valW_box w t z0 z1 z2 z3 z4 12 _ _ rfl) rfl (by decide), ri_box (valW_box w t z0 z1 z2 z3 z4 13 _ _ rfl) rfl (by decide), ri_box (valW_box w t z0 z1 z2 z3 z4 14 _ _ rfl) rfl (by decide), ri_box (valW_box w t z0 z1 z2 z3 z4 15 _ _ rfl) rfl (by decide), ri_box (valW_box w t z0 z1 z2 z3 z4 16 _ _ rfl) rfl (by decide), ri_box (valW_box w t z0 z1 z2 z3 z4 17 _ _ rfl) rfl (by decide), trivial⟩ rfl (by decide) rfl
theorem val_row (w : World) (t z0 z1 z2 z3 z4 : Int) : Par.Box (valW w t z0 z1 z2 z3 z4) (w.heap.size + 1 + 1 + 1 + 1 + 1 + 1 + 1 + 1 + 1 + 1 + 1 + 1 + 1 + 1 + 1 + 1 + 1 + 1 + 1) [.slice (some ⟨w.heap.size + 1 + 1, 0, none⟩) 1 1, .slice (some ⟨w.heap.size + 1 + 1 + 1 + 1, 0, none⟩) 1 1, .slice (some ⟨w.heap.size + 1 + 1 + 1 + 1 + 1 + 1 + 1 + 1, 0, none⟩) 3 3, .slice (some ⟨w.heap.size + 1 + 1 + 1 + 1 + 1 + 1 + 1 + 1 + 1 + 1 + 1, 0, none⟩) 2 2, .slice (some ⟨w.heap.size + 1 + 1 + 1 + 1 + 1 + 1 + 1 + 1 + 1 + 1 + 1 + 1 + 1 + 1 + 1 + 1 + 1 + 1, 0, none⟩) 6 6] := valW_box w t z0 z1 z2 z3 z4 19 _ _ rfl
theorem val_below (w : World) (t z0 z1 z2 z3 z4 : Int) : Below w.heap.size w (valW w t z0 z1 z2 z3 z4) := allocs_below _ w
theorem ix5 (b k : Nat) (h : k < 5) (w : World) : (Instr.indexAt 42 (.pointer (some ⟨b, 0, none⟩)) (.int .i64 (k : Int))).run Tryd.prog w = .ok (.pointer (some ⟨b, k, none⟩)) w := by
  rcases (show k = 0 ∨ k = 1 ∨ k = 2 ∨ k = 3 ∨ k = 4 by omega) with rfl | rfl | rfl | rfl | rfl <;> kernel_rfl
set_option maxRecDepth 100000 in
set_option maxHeartbeats 8000000 in
theorem values_law (tt : UInt8) (z0 z1 z2 z3 z4 : Int) (w : World) (het : EnvT w) :
    Calls Tryd.prog 4 #[.int .u8 (tt.toNat : Int), .agg #[.int .i64 z0, .int .i64 z1, .int .i64 z2, .int .i64 z3, .int .i64 z4]] w fun e w' => e = .returned (.bool true) ∧ Below w.heap.size w w' := by
  have HT := Lib.hid het
  have tw : IntKind.i64.wrap (tt.toNat : Int) = (tt.toNat : Int) := IntWalk.i64_in _ (by have := tt.toNat_lt; omega)
  clear het
  go_enter Tryd.func4, Tryd.ntmps4
  go_upto_region 2 with fail
  generalize (tt.toNat : Int) = t
  go_upto_region 3 with fail
  rw [valW_is]
  have V0 := Lib.hid (val_0 w t z0 z1 z2 z3 z4)
  have V1 := Lib.hid (val_1 w t z0 z1 z2 z3 z4)
  have V2 := Lib.hid (val_2 w t z0 z1 z2 z3 z4)
  have V3 := Lib.hid (val_3 w t z0 z1 z2 z3 z4)
  have V4 := Lib.hid (val_4 w t z0 z1 z2 z3 z4)
  have HX := Lib.hid (val_row w t z0 z1 z2 z3 z4)
  have HB := Lib.hid (val_below w t z0 z1 z2 z3 z4)
  generalize valW w t z0 z1 z2 z3 z4 = W at V0 V1 V2 V3 V4 HX HB ⊢
  generalize w.heap.size + 1 + 1 + 1 + 1 + 1 + 1 + 1 + 1 + 1 + 1 + 1 + 1 + 1 + 1 + 1 + 1 + 1 + 1 + 1 = G at HX ⊢
  generalize (Value.slice (some ⟨w.heap.size + 1 + 1, 0, none⟩) 1 1) = r0 at V0 HX ⊢
  generalize (Value.slice (some ⟨w.heap.size + 1 + 1 + 1 + 1, 0, none⟩) 1 1) = r1 at V1 HX ⊢
  generalize (Value.slice (some ⟨w.heap.size + 1 + 1 + 1 + 1 + 1 + 1 + 1 + 1, 0, none⟩) 3 3) = r2 at V2 HX ⊢
  generalize (Value.slice (some ⟨w.heap.size + 1 + 1 + 1 + 1 + 1 + 1 + 1 + 1 + 1 + 1 + 1, 0, none⟩) 2 2) = r3 at V3 HX ⊢
  generalize (Value.slice (some ⟨w.heap.size + 1 + 1 + 1 + 1 + 1 + 1 + 1 + 1 + 1 + 1 + 1 + 1 + 1 + 1 + 1 + 1 + 1 + 1, 0, none⟩) 6 6) = r4 at V4 HX ⊢
  clear tw
  go_wp2_with fail
  go_loopw [7] (fun i wr => ∃ k : Nat, k ≤ 5 ∧ i = .int .i64 k ∧ Hid (Below W.heap.size W wr)) (fun i _ => 5 - (intOf i).toNat)
  case atStart => exact ⟨0, by omega, rfl, Below.refl _ _⟩
  case round =>
    obtain ⟨k, hk, rfl, hid⟩ := hrel
    by_cases hk2 : k < 5
    · have q1 : (k : Int) < 5 := by omega
      obtain ⟨x, l, hx, h9⟩ : ∃ x l, [r0, r1, r2, r3, r4][k]? = some x ∧ Big wr x l := by
        rcases (show k = 0 ∨ k = 1 ∨ k = 2 ∨ k = 3 ∨ k = 4 by omega) with rfl | rfl | rfl | rfl | rfl
        · exact ⟨_, _, rfl, V0.out.keep hid.out⟩
        · exact ⟨_, _, rfl, V1.out.keep hid.out⟩
        · exact ⟨_, _, rfl, V2.out.keep hid.out⟩
        · exact ⟨_, _, rfl, V3.out.keep hid.out⟩
        · exact ⟨_, _, rfl, V4.out.keep hid.out⟩
      have HXC := Lib.hid (fun w' (hb : Below W.heap.size W w') => (HX.out.keep hb).cell k x hx)
      have e1 := fun w' => ix5 G k hk2 w'
      have y0 := HXC.out _ hid.out
      have H9 := Lib.hid h9
      have HE := Lib.hid ((HT.out.keep (Par.up HB.out hid.out)).e)
      clear hx h9 hk2
      go_upto_region 7 with (go_at_call 13; refine (pens_row _ HE.out _ l H9.out).mono ?_; rintro e W1 ⟨N1, C1, e1', rfl, hN1, hP1, hb⟩; have N1H := Lib.hid hN1; have P1 := Lib.hid hP1; have H9 := Lib.hid (H9.out.keep hb); have hid := Lib.hid (Par.up hid.out hb); clear hb hN1 hP1)
      have y1 := HXC.out _ hid.out
      go_upto_region 8 with (go_at_call 14; refine (rpens_row _ _ l H9.out).mono ?_; rintro e W2 ⟨N2, C2, e2', rfl, hN2, hP2, hb⟩; have N2H := Lib.hid hN2; have P2 := Lib.hid hP2; have P1 := Lib.hid (P1.out.keep hb); have hid := Lib.hid (Par.up hid.out hb); clear hb hN2 hP2)
      have HS := Lib.hid (same_at C1 C2 N1 N2 e1' e2' (pensV l).1 W2 N1H.out N2H.out P1.out P2.out (pensV_1000 l H9.out.le))
      generalize (pensV l).2 = er
      clear y0 y1 e1
      go_wp2_with (go_at_call 15; refine HS.out.mono ?_; rintro e W3 ⟨rfl, hb⟩; have hid := Lib.hid (Par.up hid.out hb); clear hb HS)
      go_roundw
      case rel => exact ⟨k + 1, by omega, by go_num, hid⟩
      case measure => simp [intOf]; omega
    · obtain rfl : k = 5 := by omega
      have HW := Lib.hid (works_any wr (HT.out.keep (Par.up HB.out hid.out)))
      go_wp2_with (go_at_call 16; refine HW.out.mono ?_; rintro e W4 ⟨rfl, hb⟩; have HB := Lib.hid (Par.up (Par.up HB.out hid.out) hb); clear hb)
      go_ret
      exact ⟨rfl, HB.out⟩
end Go.Proofs.YteepfecplabinaaDoor.Sgr
