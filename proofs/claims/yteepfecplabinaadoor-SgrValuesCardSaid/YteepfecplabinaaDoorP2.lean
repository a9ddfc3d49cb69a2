/-
  ParI SgrL
-/
import Derived.RangeFuncNested
import Derived.RangeFuncBound
import Derived.RangeFuncCalls
import Derived.RangeFuncLeaves
import Derived.RangeFuncBox
import Derived.Shelf.Abstract
import Derived.Shelf.RegionOpen
import Derived.WalkKit
import Derived.OwnWalkIn
import Derived.TacticsInMore
import Derived.LoopNIn
import Derived.LoopIn
import Derived.Test.YteepfecplabinaaDoorP1
namespace Go.Proofs.YteepfecplabinaaDoor.Par
open Go.RowKit Go.Shelf Utf

theorem range_gen {α : Type} (enc : α → Array Value) (Ok : α → Prop) {P : Program} {n : Nat} {g : Operand} {ps : Array Tmp} {assign body : Code} {Q : Exit → Act → World → Prop} {a : Act} {w : World} {gf : Nat} {lb : Array Value}
    (hg : a.eval g = .func (.func gf) #[] lb) (eg : ∀ args w, (callFunc gf args).run P w = .ok (.enter gf args) w)
    (Kp : World → World → Prop) (Kt : ∀ A B C, Kp A B → Kp B C → Kp A C) (Kput : ∀ W l o o', w.heap.size ≤ l → W.heap[l]? = some o → o.isCells = false → Kp W (W.putObj l o'))
    (fin : List α) (N : Nat) (hps : ∀ x, (enc x).size = ps.size)
    (hit : ∀ (l : Nat) (J : List α → World → Prop) (W : World), Below w.heap.size w W → (∀ pre A B, J pre A → Below A.heap.size A B → J pre B) →
      (∀ pre x W1, J pre W1 → Ok x → pre.length ≤ N → YieldAt Fence.wide (n - 1 - 1) P l (enc x) W1 fun e W' => e = .returned (.bool true) ∧ J (pre ++ [x]) W' ∧ Kp W1 W') →
      J [] W → CallsIn Fence.wide (n - 1) P gf (#[.func (.yield l) #[] #[]] ++ lb) W fun e W' => (∃ v, e = .returned v) ∧ J fin W')
    (I : List α → World → Prop) (hI : ∀ pre A B, I pre A → Below A.heap.size A B → I pre B)
    (hIp : ∀ pre A l o o', I pre A → w.heap.size ≤ l → A.heap[l]? = some o → o.isCells = false → I pre (A.putObj l o')) (h0 : I [] w) (a₁ : α → Act)
    (hassign : ∀ (l : Nat) (x : α) (W : World) (K : Act → World → Prop), K (a₁ x) W →
      assign.wpIn (Fence.wide.inRound l) (n - 1 - 1) P (Exit.then K (fun _ _ _ => False)) { tmps := (ps.zip (enc x)).foldl (fun t (p, v) => t.setIfInBounds p v) a.tmps, defers := [] } W)
    (hbody : ∀ (l : Nat) (pre : List α) (x : α) (W : World), I pre W → Ok x → pre.length ≤ N →
      body.wpIn (Fence.wide.inRound l) (n - 1 - 1) P (fun e _ W' => e = .normal ∧ (∀ k o, w.heap.size ≤ k → W.heap[k]? = some o → o.isCells = false → W'.heap[k]? = some o) ∧ Kp W W' ∧ I (pre ++ [x]) W') (a₁ x) W)
    (hdone : ∀ (D : Nat) (W : World), w.heap.size ≤ D → I fin W → W.heap[D]? = some (.deferred (some [])) → Q .normal { a with defers := { target := .collected D, args := #[] } :: a.defers } W) :
    (Code.rangeFunc g ps assign body).wpIn Fence.wide n P Q a w := by
  refine wpIn_rangeFunc fun fn hfn => ?_
  obtain ⟨rc, hrc⟩ : ∃ rc : LoopState → Loop, rc = fun st => { state := st, pending := none, fn, tmps := a.tmps, params := ps, assign, body, defers := w.heap.size } := ⟨_, rfl⟩
  obtain ⟨W1, hW1⟩ : ∃ W1, (w.alloc (.deferred (some []))).alloc (.loop (rc .ready)) = W1 := ⟨_, rfl⟩
  have hb1 : Below w.heap.size w W1 := by rw [← hW1]; exact ((Below.refl _ w).alloc (Nat.le_refl _) _).alloc (by simp) _
  have hl1 : W1.heap[w.heap.size + 1]? = some (.loop (rc .ready)) := by
    rw [← hW1]
    have := World.alloc_heap_new (w.alloc (.deferred (some []))) (.loop (rc .ready))
    rwa [World.size_alloc] at this
  have hd1 : W1.heap[w.heap.size]? = some (.deferred (some [])) := by
    rw [← hW1]
    exact (Below.heap_alloc _ _ _ (by simp)).trans (World.alloc_heap_new w _)
  refine ⟨w.heap.size + 1, [{ target := .collected w.heap.size, args := #[] }], W1, { target := .fn (.func gf) lb, args := #[.func (.yield (w.heap.size + 1)) #[] #[]] }, W1, gf,
    #[.func (.yield (w.heap.size + 1)) #[] #[]] ++ lb, W1, by rw [← hW1, hrc]; exact run_enterLoop_outer _ _ _ _ _, by simp only [resolve, hg]; simp [go_sem], fun _ _ => trivial, by simp [invoke, go_sem, eg], fun h => (by cases h), ?_⟩
  refine (hit (w.heap.size + 1) (fun pre W => I pre W ∧ W.heap[w.heap.size + 1]? = some (.loop (rc .ready)) ∧ W.heap[w.heap.size]? = some (.deferred (some []))) W1 hb1
    (fun pre A B h hb => ⟨hI pre A B h.1 hb, (hb.block _ (Array.getElem?_eq_some_iff.1 h.2.1).1).trans h.2.1, (hb.block _ (Array.getElem?_eq_some_iff.1 h.2.2).1).trans h.2.2⟩) ?_ ⟨hI _ _ _ h0 hb1, hl1, hd1⟩).mono ?_
  · rintro pre x W ⟨hi, hl, hd⟩ hx hp
    have hlt := (Array.getElem?_eq_some_iff.1 hl).1
    have hy := run_yield (P := P) (args := enc x) hl (by rw [hrc]; simp [hps])
    rw [hrc] at hy
    refine ⟨fn, _, assign, body, hy, roundIn_of_wpIn hfn (hassign _ _ W _ ⟨_, run_beginRound hl (by rw [hrc]), ?_⟩)⟩
    have k1 : Kp W (W.putObj (w.heap.size + 1) (.loop (rc .busy))) := Kput _ _ _ _ (by omega) hl rfl
    have hl2 : (W.putObj (w.heap.size + 1) (.loop (rc .busy))).heap[w.heap.size + 1]? = some (.loop (rc .busy)) := World.putObj_heap_same hlt
    have hd2 : (W.putObj (w.heap.size + 1) (.loop (rc .busy))).heap[w.heap.size]? = some (.deferred (some [])) := (World.putObj_heap_other (by omega)).trans hd
    have hbz : ({ rc .ready with state := .busy } : Loop) = rc .busy := by rw [hrc]
    rw [hbz]
    refine wpIn_mono (hbody _ pre x _ (hIp _ _ _ _ _ hi (by omega) hl rfl) hx hp) ?_
    rintro e a3 W3 ⟨rfl, hk3, kb3, hi3⟩
    have hl3 := hk3 _ _ (by omega) hl2 rfl
    have hd3 := hk3 _ _ (Nat.le_refl _) hd2 rfl
    have he := run_endRound (P := P) none hl3
    have hrz : ({ rc .busy with state := if (none : Option Code).isNone then .ready else .done, pending := none } : Loop) = rc .ready := by rw [hrc]; rfl
    rw [hrz] at he
    exact ⟨_, _, he, rfl, ⟨hIp _ _ _ _ _ hi3 (by omega) hl3 rfl, World.putObj_heap_same (Array.getElem?_eq_some_iff.1 hl3).1, (World.putObj_heap_other (by omega)).trans hd3⟩, Kt _ _ _ (Kt _ _ _ k1 kb3) (Kput _ _ _ _ (by omega) hl3 rfl)⟩
  · rintro e W2 ⟨⟨v, rfl⟩, hi, hl, hd⟩
    have he := run_endLoop (P := P) hl (by rw [hrc]; simp)
    refine ⟨none, _, by rw [he, hrc], hdone _ _ (Nat.le_refl _) (hIp _ _ _ _ _ hi (by omega) hl rfl) ((World.putObj_heap_other (by omega)).trans hd)⟩

/-- a part behind the separator that its text starts with -/
abbrev It := List UInt8 × Int
def encIt (x : It) : Array Value := #[.string ⟨x.1.toArray⟩, .int .i64 x.2]
def sepL (i j : Nat) : List UInt8 := if 0 < j then [58] else if 0 < i then [59] else []
def itemsP (i : Nat) : Nat → List Int → List It
  | _, [] => []
  | j, z :: r => (sepL i j, z) :: itemsP i (j + 1) r
def itemsL : Nat → List (List Int) → List It
  | _, [] => []
  | i, p :: r => itemsP i 0 p ++ itemsL (i + 1) r
theorem itemsP_len (i j : Nat) (p : List Int) : (itemsP i j p).length = p.length := by
  induction p generalizing j with
  | nil => rfl
  | cons z r ih => simp [itemsP, ih]
theorem itemsP_take (i j : Nat) (p : List Int) (k : Nat) (z : Int) (h : p[k]? = some z) : itemsP i j (p.take (k + 1)) = itemsP i j (p.take k) ++ [(sepL i (j + k), z)] := by
  induction p generalizing j k with
  | nil => simp at h
  | cons y r ih =>
    cases k with
    | zero => simp at h; subst h; simp [itemsP]
    | succ k =>
      simp at h
      rw [List.take_succ_cons, List.take_succ_cons, itemsP, itemsP, ih (j + 1) k h, List.cons_append, show j + 1 + k = j + (k + 1) by omega]
theorem itemsL_take (i : Nat) (l : List (List Int)) (k : Nat) (p : List Int) (h : l[k]? = some p) : itemsL i (l.take (k + 1)) = itemsL i (l.take k) ++ itemsP (i + k) 0 p := by
  induction l generalizing i k with
  | nil => simp at h
  | cons y r ih =>
    cases k with
    | zero => simp at h; subst h; simp [itemsL]
    | succ k =>
      simp at h
      rw [List.take_succ_cons, List.take_succ_cons, itemsL, itemsL, ih (i + 1) k h, List.append_assoc, show i + 1 + k = i + (k + 1) by omega]
theorem itemsL_len (i : Nat) (l : List (List Int)) (m : Nat) (h : ∀ p ∈ l, p.length ≤ m) : (itemsL i l).length ≤ l.length * m := by
  induction l generalizing i with
  | nil => simp [itemsL]
  | cons p r ih =>
    have h1 := h p (by simp)
    have h2 := ih (i + 1) (fun q hq => h q (by simp [hq]))
    rw [itemsL, List.length_append, itemsP_len, List.length_cons, Nat.succ_mul]
    omega
theorem itemsL_take_le (i : Nat) (l : List (List Int)) (k : Nat) : (itemsL i (l.take k)).length ≤ (itemsL i l).length := by
  induction l generalizing i k with
  | nil => simp
  | cons p r ih =>
    cases k with
    | zero => simp [itemsL]
    | succ k =>
      rw [List.take_succ_cons, itemsL, itemsL, List.length_append, List.length_append]
      have := ih (i + 1) k
      omega
theorem itemsL_in (l : List (List Int)) (k : Nat) (p : List Int) (j : Nat) (h : l[k]? = some p) (N : Nat) (hN : (itemsL 0 l).length ≤ N) : (itemsL 0 (l.take k) ++ itemsP k 0 (p.take j)).length ≤ N := by
  have h1 := itemsL_take_le 0 l (k + 1)
  rw [itemsL_take 0 l k p h, List.length_append, itemsP_len] at h1
  rw [List.length_append, itemsP_len, List.length_take]
  omega
end Go.Proofs.YteepfecplabinaaDoor.Par

namespace Go.Proofs.YteepfecplabinaaDoor.Sgr
open Go.RowKit Go.Shelf Utf

theorem range_gen2 {α : Type} (enc : α → Array Value) (Ok : α → Prop) {P : Program} {n : Nat} {g : Operand} {ps : Array Tmp} {assign body : Code} {Q : Exit → Act → World → Prop} {a : Act} {w : World} {gf : Nat} {lb : Array Value}
    (hg : a.eval g = .func (.func gf) #[] lb) (eg : ∀ args w, (callFunc gf args).run P w = .ok (.enter gf args) w)
    (Kp : World → World → Prop) (Kt : ∀ A B C, Kp A B → Kp B C → Kp A C) (Kput : ∀ W l rc o', w.heap.size ≤ l → W.heap[l]? = some (.loop rc) → Kp W (W.putObj l o')) (Kb : ∀ A B, w.heap.size ≤ A.heap.size → Below A.heap.size A B → Kp A B)
    (fin : List α) (N : Nat) (hps : ∀ x, (enc x).size = ps.size)
    (hit : ∀ (l : Nat) (J : List α → World → Prop) (W : World), Below w.heap.size w W → (∀ pre A B, J pre A → Below A.heap.size A B → J pre B) →
      (∀ pre x W1, J pre W1 → Ok x → pre.length ≤ N → YieldAt Fence.wide (n - 1 - 1) P l (enc x) W1 fun e W' => e = .returned (.bool true) ∧ J (pre ++ [x]) W' ∧ Kp W1 W') →
      J [] W → CallsIn Fence.wide (n - 1) P gf (#[.func (.yield l) #[] #[]] ++ lb) W fun e W' => (∃ v, e = .returned v) ∧ J fin W')
    (I : List α → World → Prop) (hI : ∀ pre A B, I pre A → Below A.heap.size A B → I pre B)
    (hIp : ∀ pre A l o o', I pre A → w.heap.size ≤ l → A.heap[l]? = some o → o.isCells = false → I pre (A.putObj l o')) (h0 : I [] w) (As : α → World → Act → World → Prop) (hAs : ∀ x W a' W', As x W a' W' → Below W.heap.size W W')
    (hassign : ∀ (l : Nat) (x : α) (W : World) (K : Act → World → Prop), (∀ a' W', As x W a' W' → K a' W') →
      assign.wpIn (Fence.wide.inRound l) (n - 1 - 1) P (Exit.then K (fun _ _ _ => False)) { tmps := (ps.zip (enc x)).foldl (fun t (p, v) => t.setIfInBounds p v) a.tmps, defers := [] } W)
    (hbody : ∀ (l : Nat) (pre : List α) (x : α) (V : World) (a' : Act) (V' W : World), As x V a' V' → I pre W → Below V'.heap.size V' W ∨ (∃ k o o', W = V'.putObj k o' ∧ w.heap.size ≤ k ∧ V'.heap[k]? = some o ∧ o.isCells = false) → Ok x → pre.length ≤ N →
      body.wpIn (Fence.wide.inRound l) (n - 1 - 1) P (fun e _ W' => e = .normal ∧ (∀ k o, w.heap.size ≤ k → W.heap[k]? = some o → o.isCells = false → W'.heap[k]? = some o) ∧ Kp W W' ∧ I (pre ++ [x]) W') a' W)
    (hdone : ∀ (D : Nat) (W : World), w.heap.size ≤ D → I fin W → W.heap[D]? = some (.deferred (some [])) → Q .normal { a with defers := { target := .collected D, args := #[] } :: a.defers } W) :
    (Code.rangeFunc g ps assign body).wpIn Fence.wide n P Q a w := by
  refine wpIn_rangeFunc fun fn hfn => ?_
  obtain ⟨rc, hrc⟩ : ∃ rc : LoopState → Loop, rc = fun st => { state := st, pending := none, fn, tmps := a.tmps, params := ps, assign, body, defers := w.heap.size } := ⟨_, rfl⟩
  obtain ⟨W1, hW1⟩ : ∃ W1, (w.alloc (.deferred (some []))).alloc (.loop (rc .ready)) = W1 := ⟨_, rfl⟩
  have hb1 : Below w.heap.size w W1 := by rw [← hW1]; exact ((Below.refl _ w).alloc (Nat.le_refl _) _).alloc (by simp) _
  have hl1 : W1.heap[w.heap.size + 1]? = some (.loop (rc .ready)) := by
    rw [← hW1]
    have := World.alloc_heap_new (w.alloc (.deferred (some []))) (.loop (rc .ready))
    rwa [World.size_alloc] at this
  have hd1 : W1.heap[w.heap.size]? = some (.deferred (some [])) := by
    rw [← hW1]
    exact (Below.heap_alloc _ _ _ (by simp)).trans (World.alloc_heap_new w _)
  refine ⟨w.heap.size + 1, [{ target := .collected w.heap.size, args := #[] }], W1, { target := .fn (.func gf) lb, args := #[.func (.yield (w.heap.size + 1)) #[] #[]] }, W1, gf,
    #[.func (.yield (w.heap.size + 1)) #[] #[]] ++ lb, W1, by rw [← hW1, hrc]; exact run_enterLoop_outer _ _ _ _ _, by simp only [resolve, hg]; simp [go_sem], fun _ _ => trivial, by simp [invoke, go_sem, eg], fun h => (by cases h), ?_⟩
  refine (hit (w.heap.size + 1) (fun pre W => I pre W ∧ W.heap[w.heap.size + 1]? = some (.loop (rc .ready)) ∧ W.heap[w.heap.size]? = some (.deferred (some []))) W1 hb1
    (fun pre A B h hb => ⟨hI pre A B h.1 hb, (hb.block _ (Array.getElem?_eq_some_iff.1 h.2.1).1).trans h.2.1, (hb.block _ (Array.getElem?_eq_some_iff.1 h.2.2).1).trans h.2.2⟩) ?_ ⟨hI _ _ _ h0 hb1, hl1, hd1⟩).mono ?_
  · rintro pre x V ⟨hi, hl, hd⟩ hx hp
    have hy := run_yield (P := P) (args := enc x) hl (by rw [hrc]; simp [hps])
    rw [hrc] at hy
    refine ⟨fn, _, assign, body, hy, roundIn_of_wpIn hfn (hassign _ _ V _ fun a' W ha => ?_)⟩
    have hVW := hAs _ _ _ _ ha
    have hVs : w.heap.size ≤ V.heap.size := by have := (Array.getElem?_eq_some_iff.1 hl).1; omega
    have hi := hI _ _ _ hi hVW
    have hd := (hVW.block _ (Array.getElem?_eq_some_iff.1 hd).1).trans hd
    have hl := (hVW.block _ (Array.getElem?_eq_some_iff.1 hl).1).trans hl
    have k0 : Kp V W := Kb _ _ hVs hVW
    have hlt := (Array.getElem?_eq_some_iff.1 hl).1
    refine ⟨_, run_beginRound hl (by rw [hrc]), ?_⟩
    have k1 : Kp W (W.putObj (w.heap.size + 1) (.loop (rc .busy))) := Kput _ _ _ _ (by omega) hl
    have hl2 : (W.putObj (w.heap.size + 1) (.loop (rc .busy))).heap[w.heap.size + 1]? = some (.loop (rc .busy)) := World.putObj_heap_same hlt
    have hd2 : (W.putObj (w.heap.size + 1) (.loop (rc .busy))).heap[w.heap.size]? = some (.deferred (some [])) := (World.putObj_heap_other (by omega)).trans hd
    have hbz : ({ rc .ready with state := .busy } : Loop) = rc .busy := by rw [hrc]
    rw [hbz]
    refine wpIn_mono (hbody _ pre x V a' W _ ha (hIp _ _ _ _ _ hi (by omega) hl rfl) (.inr ⟨_, _, _, rfl, by omega, hl, rfl⟩) hx hp) ?_
    rintro e a3 W3 ⟨rfl, hk3, kb3, hi3⟩
    have hl3 := hk3 _ _ (by omega) hl2 rfl
    have hd3 := hk3 _ _ (Nat.le_refl _) hd2 rfl
    have he := run_endRound (P := P) none hl3
    have hrz : ({ rc .busy with state := if (none : Option Code).isNone then .ready else .done, pending := none } : Loop) = rc .ready := by rw [hrc]; rfl
    rw [hrz] at he
    exact ⟨_, _, he, rfl, ⟨hIp _ _ _ _ _ hi3 (by omega) hl3 rfl, World.putObj_heap_same (Array.getElem?_eq_some_iff.1 hl3).1, (World.putObj_heap_other (by omega)).trans hd3⟩, Kt _ _ _ (Kt _ _ _ (Kt _ _ _ k0 k1) kb3) (Kput _ _ _ _ (by omega) hl3)⟩
  · rintro e W2 ⟨⟨v, rfl⟩, hi, hl, hd⟩
    have he := run_endLoop (P := P) hl (by rw [hrc]; simp)
    refine ⟨none, _, by rw [he, hrc], hdone _ _ (Nat.le_refl _) (hIp _ _ _ _ _ hi (by omega) hl rfl) ((World.putObj_heap_other (by omega)).trans hd)⟩

end Go.Proofs.YteepfecplabinaaDoor.Sgr
