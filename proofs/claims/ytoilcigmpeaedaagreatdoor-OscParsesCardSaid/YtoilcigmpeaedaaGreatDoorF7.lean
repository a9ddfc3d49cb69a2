/-
  UtfI
-/
import Derived.RangeFuncNested
import Derived.RangeFuncBound
import Derived.RangeFuncCalls
import Derived.RangeFuncLeaves
import Derived.RangeFuncBox
import Derived.Shelf.Abstract
import Derived.Shelf.RegionOpen
import Derived.WalkKit
import Derived.OwnWalkIn
import Derived.TacticsInMore
import Derived.LoopNIn
import Derived.LoopIn
import Derived.Test.YtoilcigmpeaedaaGreatDoorF1
namespace Go.Proofs.YtoilcigmpeaedaaGreatDoor.Utf
open Go.RowKit Go.Shelf

/-- all below n₀, all rows of bytes and all boxes of strings lie as they lay -/
structure KeepB (n₀ : Nat) (W W' : World) : Prop where
  low : Below n₀ W W'
  same : ∀ (k : Nat) (cur : Array Value) (t : TypeId) (fr : Nat × Nat), W.heap[k]? = some (Obj.cells cur t fr) → t = 5 ∨ t = 9 → W'.heap[k]? = W.heap[k]?
theorem KeepB.refl (n₀ : Nat) (W : World) : KeepB n₀ W W := ⟨Below.refl _ _, fun _ _ _ _ _ _ => rfl⟩
theorem KeepB.trans {n₀ : Nat} {A B C : World} (h : KeepB n₀ A B) (k : KeepB n₀ B C) : KeepB n₀ A C :=
  ⟨h.low.trans k.low, fun i cur t fr hi ht => (k.same i cur t fr ((h.same i cur t fr hi ht).trans hi) ht).trans (h.same i cur t fr hi ht)⟩
theorem KeepB.put {n₀ : Nat} {W : World} {l : Nat} {o : Obj} (o' : Obj) (hn : n₀ ≤ l) (h : W.heap[l]? = some o) (ho : o.isCells = false) : KeepB n₀ W (W.putObj l o') := by
  have hl := (Array.getElem?_eq_some_iff.1 h).1
  refine ⟨(Below.refl n₀ W).grown (grownBy_putObj' W l o') (by omega) (fun k e => by cases e; omega), fun k cur t fr hk _ => World.putObj_heap_other ?_⟩
  rintro rfl
  rw [h] at hk
  cases hk
  cases ho
theorem Rd.put {W : World} {A : Option Addr} {xs : List Value} {l : Nat} {o : Obj} (o' : Obj) (hr : Rd W A xs) (h : W.heap[l]? = some o) (ho : o.isCells = false) : Rd (W.putObj l o') A xs := fun j u hu => by
  obtain ⟨ad, rfl, hlt, hc⟩ := hr j u hu
  refine ⟨ad, rfl, by simpa using hlt, ?_⟩
  have hne : (ad.add j).block ≠ l := by
    intro e
    unfold World.cell? at hc
    rw [e, h] at hc
    cases o <;> simp_all [Obj.isCells]
  exact (World.cell?_of_block (World.putObj_heap_other hne)).trans hc
theorem KeepB.rd {n₀ : Nat} {W W' : World} {A : Option Addr} {xs : List Value} (h : KeepB n₀ W W') (ht : TyB W A) (hr : Rd W A xs) : Rd W' A xs := fun j u hu => by
  obtain ⟨ad, rfl, hlt, hc⟩ := hr j u hu
  obtain ⟨cur, fr, hb⟩ := ht ad rfl
  have e : (ad.add j).block = ad.block := by unfold Addr.add; split <;> rfl
  exact ⟨ad, rfl, Nat.lt_of_lt_of_le hlt h.low.size, (World.cell?_of_block (by rw [e]; exact h.same _ _ _ _ hb (.inl rfl))).trans hc⟩
theorem KeepB.ty {n₀ : Nat} {W W' : World} {A : Option Addr} (h : KeepB n₀ W W') (ht : TyB W A) : TyB W' A := fun ad e => by
  obtain ⟨cur, fr, hb⟩ := ht ad e
  exact ⟨cur, fr, (h.same _ _ _ _ hb (.inl rfl)).trans hb⟩

theorem range_read {P : Program} {n : Nat} {g : Operand} {ps : Array Tmp} {assign body : Code} {Q : Exit → Act → World → Prop} {a : Act} {w : World} {gf : Nat} {lb : Array Value}
    (hg : a.eval g = .func (.func gf) #[] lb) (eg : ∀ args w, (callFunc gf args).run P w = .ok (.enter gf args) w) (n₀ : Nat) (hn₀ : n₀ ≤ w.heap.size) (fin : List Int) (N : Nat) (hps : ps.size = 1)
    (hit : ∀ (l : Nat) (J : List Int → World → Prop) (W : World), Below w.heap.size w W → (∀ pre A B, J pre A → Below A.heap.size A B → J pre B) →
      (∀ pre zs A c W1, J pre W1 → Rd W1 A (cI zs) → zs.length ≤ 2 → pre.length ≤ N → YieldAt Fence.wide (n - 1 - 1) P l #[.slice A zs.length c] W1 fun e W' => e = .returned (.bool true) ∧ J (pre ++ zs) W' ∧ KeepB n₀ W1 W') →
      J [] W → CallsIn Fence.wide (n - 1) P gf (#[.func (.yield l) #[] #[]] ++ lb) W fun e W' => (∃ v, e = .returned v) ∧ J fin W')
    (I : List Int → World → Prop) (hI : ∀ pre A B, I pre A → Below A.heap.size A B → I pre B)
    (hIp : ∀ pre A l o o', I pre A → w.heap.size ≤ l → A.heap[l]? = some o → o.isCells = false → I pre (A.putObj l o')) (h0 : I [] w) (a₁ : Value → Act)
    (hassign : ∀ (l : Nat) (v : Value) (W : World) (K : Act → World → Prop), K (a₁ v) W →
      assign.wpIn (Fence.wide.inRound l) (n - 1 - 1) P (Exit.then K (fun _ _ _ => False)) { tmps := (ps.zip #[v]).foldl (fun t (p, v) => t.setIfInBounds p v) a.tmps, defers := [] } W)
    (hbody : ∀ (l : Nat) (pre zs : List Int) (A : Option Addr) (c : Nat) (W : World), I pre W → Rd W A (cI zs) → zs.length ≤ 2 → pre.length ≤ N →
      body.wpIn (Fence.wide.inRound l) (n - 1 - 1) P (fun e _ W' => e = .normal ∧ (∀ k o, w.heap.size ≤ k → W.heap[k]? = some o → o.isCells = false → W'.heap[k]? = some o) ∧ KeepB n₀ W W' ∧ I (pre ++ zs) W') (a₁ (.slice A zs.length c)) W)
    (hdone : ∀ (D : Nat) (W : World), w.heap.size ≤ D → I fin W → W.heap[D]? = some (.deferred (some [])) → Q .normal { a with defers := { target := .collected D, args := #[] } :: a.defers } W) :
    (Code.rangeFunc g ps assign body).wpIn Fence.wide n P Q a w := by
  refine wpIn_rangeFunc fun fn hfn => ?_
  obtain ⟨rc, hrc⟩ : ∃ rc : LoopState → Loop, rc = fun st => { state := st, pending := none, fn, tmps := a.tmps, params := ps, assign, body, defers := w.heap.size } := ⟨_, rfl⟩
  obtain ⟨W1, hW1⟩ : ∃ W1, (w.alloc (.deferred (some []))).alloc (.loop (rc .ready)) = W1 := ⟨_, rfl⟩
  have hb1 : Below w.heap.size w W1 := by rw [← hW1]; exact ((Below.refl _ w).alloc (Nat.le_refl _) _).alloc (by simp) _
  have hl1 : W1.heap[w.heap.size + 1]? = some (.loop (rc .ready)) := by
    rw [← hW1]
    have := World.alloc_heap_new (w.alloc (.deferred (some []))) (.loop (rc .ready))
    rwa [World.size_alloc] at this
  have hd1 : W1.heap[w.heap.size]? = some (.deferred (some [])) := by
    rw [← hW1]
    exact (Below.heap_alloc _ _ _ (by simp)).trans (World.alloc_heap_new w _)
  refine ⟨w.heap.size + 1, [{ target := .collected w.heap.size, args := #[] }], W1, { target := .fn (.func gf) lb, args := #[.func (.yield (w.heap.size + 1)) #[] #[]] }, W1, gf,
    #[.func (.yield (w.heap.size + 1)) #[] #[]] ++ lb, W1, by rw [← hW1, hrc]; exact run_enterLoop_outer _ _ _ _ _, by simp only [resolve, hg]; simp [go_sem], fun _ _ => trivial, by simp [invoke, go_sem, eg], fun h => (by cases h), ?_⟩
  refine (hit (w.heap.size + 1) (fun pre W => I pre W ∧ W.heap[w.heap.size + 1]? = some (.loop (rc .ready)) ∧ W.heap[w.heap.size]? = some (.deferred (some []))) W1 hb1
    (fun pre A B h hb => ⟨hI pre A B h.1 hb, (hb.block _ (Array.getElem?_eq_some_iff.1 h.2.1).1).trans h.2.1, (hb.block _ (Array.getElem?_eq_some_iff.1 h.2.2).1).trans h.2.2⟩) ?_ ⟨hI _ _ _ h0 hb1, hl1, hd1⟩).mono ?_
  · rintro pre zs A c W ⟨hi, hl, hd⟩ hr hz hp
    have hlt := (Array.getElem?_eq_some_iff.1 hl).1
    have hy := run_yield (P := P) (args := #[.slice A zs.length c]) hl (by rw [hrc]; simp [hps])
    rw [hrc] at hy
    refine ⟨fn, _, assign, body, hy, roundIn_of_wpIn hfn (hassign _ _ W _ ⟨_, run_beginRound hl (by rw [hrc]), ?_⟩)⟩
    have k1 : KeepB n₀ W (W.putObj (w.heap.size + 1) (.loop (rc .busy))) := KeepB.put _ (by omega) hl rfl
    have hl2 : (W.putObj (w.heap.size + 1) (.loop (rc .busy))).heap[w.heap.size + 1]? = some (.loop (rc .busy)) := World.putObj_heap_same hlt
    have hd2 : (W.putObj (w.heap.size + 1) (.loop (rc .busy))).heap[w.heap.size]? = some (.deferred (some [])) := (World.putObj_heap_other (by omega)).trans hd
    have hr2 : Rd (W.putObj (w.heap.size + 1) (.loop (rc .busy))) A (cI zs) := hr.put _ hl rfl
    have hbz : ({ rc .ready with state := .busy } : Loop) = rc .busy := by rw [hrc]
    rw [hbz]
    refine wpIn_mono (hbody _ pre zs A c _ (hIp _ _ _ _ _ hi (by omega) hl rfl) hr2 hz hp) ?_
    rintro e a3 W3 ⟨rfl, hk3, kb3, hi3⟩
    have hl3 := hk3 _ _ (by omega) hl2 rfl
    have hd3 := hk3 _ _ (Nat.le_refl _) hd2 rfl
    have he := run_endRound (P := P) none hl3
    have hrz : ({ rc .busy with state := if (none : Option Code).isNone then .ready else .done, pending := none } : Loop) = rc .ready := by rw [hrc]; rfl
    rw [hrz] at he
    exact ⟨_, _, he, rfl, ⟨hIp _ _ _ _ _ hi3 (by omega) hl3 rfl, World.putObj_heap_same (Array.getElem?_eq_some_iff.1 hl3).1, (World.putObj_heap_other (by omega)).trans hd3⟩, (k1.trans kb3).trans (KeepB.put _ (by omega) hl3 rfl)⟩
  · rintro e W2 ⟨⟨v, rfl⟩, hi, hl, hd⟩
    have he := run_endLoop (P := P) hl (by rw [hrc]; simp)
    refine ⟨none, _, by rw [he, hrc], hdone _ _ (Nat.le_refl _) (hIp _ _ _ _ _ hi (by omega) hl rfl) ((World.putObj_heap_other (by omega)).trans hd)⟩
end Go.Proofs.YtoilcigmpeaedaaGreatDoor.Utf
