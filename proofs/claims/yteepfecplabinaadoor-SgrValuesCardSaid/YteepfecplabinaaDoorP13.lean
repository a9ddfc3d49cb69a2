/-
  StyE
-/
import Derived.Maps.Own
import Derived.Test.YteepfecplabinaaDoorP8
namespace Go.Proofs.YteepfecplabinaaDoor.Sty
open Go.RowKit Utf Col

theorem set_push (a : Array Obj) (o o' : Obj) : (a.push o).setIfInBounds a.size o' = a.push o' := by
  apply Array.ext_getElem?
  intro i
  rw [Array.getElem?_setIfInBounds, Array.getElem?_push, Array.getElem?_push]
  by_cases h : a.size = i
  · subst h; simp
  · rw [if_neg h, if_neg (fun e => h e.symm), if_neg (fun e => h e.symm)]
theorem set_last (W : World) (o o' : Obj) : ({ heap := (W.alloc o).heap.setIfInBounds W.heap.size o', tape := W.tape, drawn := W.drawn, os := (W.alloc o).os, output := (W.alloc o).output } : World) = W.alloc o' := by
  show ({ heap := (W.heap.push o).setIfInBounds W.heap.size o', tape := W.tape, drawn := W.drawn, os := W.os, output := W.output } : World) = { W with heap := W.heap.push o' }
  rw [set_push]
theorem ins_run (W : World) (es : Array MapEntry) (c : Nat) (k : Int) (v : Value) (b : Nat) (hb : b = W.heap.size) (hk : Instr.findNow (.int .i64) (.int .i64 k) es.toList 0 = some none) :
    (Instr.mapUpdate 95 (.map (some b)) (.int .i64 k) v).run Tryd.prog (W.alloc (.map es c)) = .ok () (W.alloc (.map (es.push ⟨.int .i64 k, v, c⟩) (c + 1))) := by
  subst hb
  have hbk : (W.alloc (.map es c)).heap[W.heap.size]? = some (.map es c) := heap_alloc_new W _
  have hc : ∀ x, (Instr.checkKey false 10000 3 (.int .i64 k)).run Tryd.prog x = .ok () x := fun x => MapKept.run_checkKey (k := .int .i64 k) Tryd.underlying3 (by simp [MapKept.IsKey]) false 9999
  simp [Instr.mapUpdate, run_underlying Tryd.underlying95, MapKept.run_getObj_map hbk, hc, MapKept.run_findKey Tryd.underlying3 hk, MapKept.run_setObj_map _ hbk, Result.andThen]
  exact set_last W _ _
/-- the entries of the map that effects makes: q is where the closures find their pointer -/
def ent (q : Addr) : Array MapEntry := #[⟨.int .i64 0, .func (.func 81) #[] #[.pointer (some q)], 0⟩, ⟨.int .i64 1, .func (.func 82) #[] #[.pointer (some q)], 1⟩, ⟨.int .i64 2, .func (.func 83) #[] #[.pointer (some q)], 2⟩, ⟨.int .i64 3, .func (.func 84) #[] #[.pointer (some q)], 3⟩, ⟨.int .i64 4, .func (.func 85) #[] #[.pointer (some q)], 4⟩, ⟨.int .i64 5, .func (.func 86) #[] #[.pointer (some q)], 5⟩, ⟨.int .i64 6, .func (.func 87) #[] #[.pointer (some q)], 6⟩]
set_option maxRecDepth 100000 in
set_option maxHeartbeats 1000000 in
theorem effects_any (p : Addr) (w : World) : Calls Tryd.prog 49 #[.pointer (some p)] w fun e w' =>
    e = .returned (.map (some (w.heap.size + 1))) ∧ w' = (w.alloc (.cells #[.pointer (some p)] 97)).alloc (.map (ent ⟨w.heap.size, 0, none⟩) 7) := by
  have hmm := @run_makeMap Tryd.prog
  have h0 := ins_run (w.alloc (.cells #[.pointer (some p)] 97)) #[] 0 0 (.func (.func 81) #[] #[.pointer (some ⟨w.heap.size, 0, none⟩)]) (w.heap.size + 1) (by simp) rfl
  have h1 := ins_run (w.alloc (.cells #[.pointer (some p)] 97)) #[⟨.int .i64 0, .func (.func 81) #[] #[.pointer (some ⟨w.heap.size, 0, none⟩)], 0⟩] 1 1 (.func (.func 82) #[] #[.pointer (some ⟨w.heap.size, 0, none⟩)]) (w.heap.size + 1) (by simp) rfl
  have h2 := ins_run (w.alloc (.cells #[.pointer (some p)] 97)) #[⟨.int .i64 0, .func (.func 81) #[] #[.pointer (some ⟨w.heap.size, 0, none⟩)], 0⟩, ⟨.int .i64 1, .func (.func 82) #[] #[.pointer (some ⟨w.heap.size, 0, none⟩)], 1⟩] 2 2 (.func (.func 83) #[] #[.pointer (some ⟨w.heap.size, 0, none⟩)]) (w.heap.size + 1) (by simp) rfl
  have h3 := ins_run (w.alloc (.cells #[.pointer (some p)] 97)) #[⟨.int .i64 0, .func (.func 81) #[] #[.pointer (some ⟨w.heap.size, 0, none⟩)], 0⟩, ⟨.int .i64 1, .func (.func 82) #[] #[.pointer (some ⟨w.heap.size, 0, none⟩)], 1⟩, ⟨.int .i64 2, .func (.func 83) #[] #[.pointer (some ⟨w.heap.size, 0, none⟩)], 2⟩] 3 3 (.func (.func 84) #[] #[.pointer (some ⟨w.heap.size, 0, none⟩)]) (w.heap.size + 1) (by simp) rfl
  have h4 := ins_run (w.alloc (.cells #[.pointer (some p)] 97)) #[⟨.int .i64 0, .func (.func 81) #[] #[.pointer (some ⟨w.heap.size, 0, none⟩)], 0⟩, ⟨.int .i64 1, .func (.func 82) #[] #[.pointer (some ⟨w.heap.size, 0, none⟩)], 1⟩, ⟨.int .i64 2, .func (.func 83) #[] #[.pointer (some ⟨w.heap.size, 0, none⟩)], 2⟩, ⟨.int .i64 3, .func (.func 84) #[] #[.pointer (some ⟨w.heap.size, 0, none⟩)], 3⟩] 4 4 (.func (.func 85) #[] #[.pointer (some ⟨w.heap.size, 0, none⟩)]) (w.heap.size + 1) (by simp) rfl
  have h5 := ins_run (w.alloc (.cells #[.pointer (some p)] 97)) #[⟨.int .i64 0, .func (.func 81) #[] #[.pointer (some ⟨w.heap.size, 0, none⟩)], 0⟩, ⟨.int .i64 1, .func (.func 82) #[] #[.pointer (some ⟨w.heap.size, 0, none⟩)], 1⟩, ⟨.int .i64 2, .func (.func 83) #[] #[.pointer (some ⟨w.heap.size, 0, none⟩)], 2⟩, ⟨.int .i64 3, .func (.func 84) #[] #[.pointer (some ⟨w.heap.size, 0, none⟩)], 3⟩, ⟨.int .i64 4, .func (.func 85) #[] #[.pointer (some ⟨w.heap.size, 0, none⟩)], 4⟩] 5 5 (.func (.func 86) #[] #[.pointer (some ⟨w.heap.size, 0, none⟩)]) (w.heap.size + 1) (by simp) rfl
  have h6 := ins_run (w.alloc (.cells #[.pointer (some p)] 97)) #[⟨.int .i64 0, .func (.func 81) #[] #[.pointer (some ⟨w.heap.size, 0, none⟩)], 0⟩, ⟨.int .i64 1, .func (.func 82) #[] #[.pointer (some ⟨w.heap.size, 0, none⟩)], 1⟩, ⟨.int .i64 2, .func (.func 83) #[] #[.pointer (some ⟨w.heap.size, 0, none⟩)], 2⟩, ⟨.int .i64 3, .func (.func 84) #[] #[.pointer (some ⟨w.heap.size, 0, none⟩)], 3⟩, ⟨.int .i64 4, .func (.func 85) #[] #[.pointer (some ⟨w.heap.size, 0, none⟩)], 4⟩, ⟨.int .i64 5, .func (.func 86) #[] #[.pointer (some ⟨w.heap.size, 0, none⟩)], 5⟩] 6 6 (.func (.func 87) #[] #[.pointer (some ⟨w.heap.size, 0, none⟩)]) (w.heap.size + 1) (by simp) rfl
  go_enter Tryd.func49, Tryd.ntmps49
  go_wp2
  go_ret
  exact ⟨rfl, rfl⟩
end Go.Proofs.YteepfecplabinaaDoor.Sty
