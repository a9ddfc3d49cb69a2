/-
  Contract of handlers: a map of closures; how it is looked up.
-/
import Derived.Test.YtoilcigmpeaedaaGreatDoorOscH
import Derived.Maps.Own
namespace Go.Proofs.YtoilcigmpeaedaaGreatDoor.Osc
open Go.RowKit Utf Col

theorem set_push (a : Array Obj) (o o' : Obj) : (a.push o).setIfInBounds a.size o' = a.push o' := by
  apply Array.ext_getElem?
  intro i
  rw [Array.getElem?_setIfInBounds, Array.getElem?_push, Array.getElem?_push]
  by_cases h : a.size = i
  · subst h; simp
  · rw [if_neg h, if_neg (fun e => h e.symm), if_neg (fun e => h e.symm)]
theorem set_last (W : World) (o o' : Obj) : ({ heap := (W.alloc o).heap.setIfInBounds W.heap.size o', tape := W.tape, drawn := W.drawn, os := (W.alloc o).os, output := (W.alloc o).output } : World) = W.alloc o' := by
  show ({ heap := (W.heap.push o).setIfInBounds W.heap.size o', tape := W.tape, drawn := W.drawn, os := W.os, output := W.output } : World) = { W with heap := W.heap.push o' }
  rw [set_push]
theorem ins_run (W : World) (es : List MapEntry) (k : Nat) (S : ByteArray) (v : Value) (hk : Instr.findNow .string (.string S) es 0 = some none) :
    (Instr.mapUpdate 61 (.map (some W.heap.size)) (.string S) v).run Tryz.prog (W.alloc (.map es.toArray k)) = .ok () (W.alloc (.map (es ++ [({ key := .string S, val := v, born := k } : MapEntry)]).toArray (k + 1))) := by
  have hbk : (W.alloc (.map es.toArray k)).heap[W.heap.size]? = some (.map es.toArray k) := heap_alloc_new W _
  have hc : ∀ x, (Instr.checkKey false 10000 9 (.string S)).run Tryz.prog x = .ok () x := fun x => MapKept.run_checkKey (k := .string S) Tryz.underlying9 (by simp [MapKept.IsKey]) false 9999
  have hk' : Instr.findNow .string (.string S) es.toArray.toList 0 = some none := hk
  simp [Instr.mapUpdate, run_underlying Tryz.underlying61, MapKept.run_getObj_map hbk, hc, MapKept.run_findKey Tryz.underlying9 hk', MapKept.run_setObj_map _ hbk, Result.andThen]
  exact set_last W _ _
def fnv (f b : Nat) : Value := .func (.func f) #[] #[.pointer (some ⟨b, 0, none⟩)]
def entO (b : Nat) : List MapEntry := [{ key := .string ⟨#[48]⟩, val := fnv 64 b, born := 0 }, { key := .string ⟨#[50]⟩, val := fnv 64 b, born := 1 }, { key := .string ⟨#[52]⟩, val := fnv 65 b, born := 2 }, { key := .string ⟨#[53, 50]⟩, val := fnv 68 b, born := 3 }]
set_option maxRecDepth 100000 in
set_option maxHeartbeats 2000000 in
theorem handlers_any (r : ByteArray) (w : World) : Calls Tryz.prog 36 #[.string r] w fun e w' => e = .returned (.map (some (w.heap.size + 1))) ∧ w' = (w.alloc (.cells #[.string r] 9)).alloc (.map (entO w.heap.size).toArray 4) := by
  have hmf : ∀ (fn : Fn) (first cap : Array Value) (w : World), (Instr.makeFunc fn first cap).run Tryz.prog w = .ok (.func fn first cap) w := fun _ _ _ _ => rfl
  have hmm : ∀ W : World, (Instr.makeMap 61 none).run Tryz.prog W = .ok (.map (some W.heap.size)) (W.alloc (.map #[] 0)) := fun W => by
    simp [Instr.makeMap, Result.andThen]
  have i0 := fun v => ins_run (w.alloc (.cells #[.string r] 9)) [] 0 ⟨#[48]⟩ v rfl
  have i1 := fun u v => ins_run (w.alloc (.cells #[.string r] 9)) [{ key := .string ⟨#[48]⟩, val := u, born := 0 }] 1 ⟨#[50]⟩ v (by kernel_rfl)
  have i2 := fun u1 u2 v => ins_run (w.alloc (.cells #[.string r] 9)) [{ key := .string ⟨#[48]⟩, val := u1, born := 0 }, { key := .string ⟨#[50]⟩, val := u2, born := 1 }] 2 ⟨#[52]⟩ v (by kernel_rfl)
  have i3 := fun u1 u2 u3 v => ins_run (w.alloc (.cells #[.string r] 9)) [{ key := .string ⟨#[48]⟩, val := u1, born := 0 }, { key := .string ⟨#[50]⟩, val := u2, born := 1 }, { key := .string ⟨#[52]⟩, val := u3, born := 2 }] 3 ⟨#[53, 50]⟩ v (by kernel_rfl)
  rw [show (w.alloc (.cells #[.string r] 9)).heap.size = w.heap.size + 1 by simp] at i0 i1 i2 i3
  simp only [List.nil_append, List.cons_append] at i0 i1 i2 i3
  go_enter Tryz.func36, Tryz.ntmps36
  go_wp2
  go_ret
  exact ⟨by kernel_rfl, rfl⟩
theorem look_run (b g : Nat) (w : World) (h : w.heap[g]? = some (.map (entO b).toArray 4)) (S : ByteArray) (o : Option (Nat × Value)) (hk : Instr.findNow .string (.string S) (entO b) 0 = some o) :
    ∃ z, (Instr.lookup 61 (.map (some g)) (.string S) true).run Tryz.prog w = .ok (.tuple #[(o.map (·.2)).getD z, .bool o.isSome]) w := by
  have hc : ∀ x, (Instr.checkKey false 10000 9 (.string S)).run Tryz.prog x = .ok () x := fun x => MapKept.run_checkKey (k := .string S) Tryz.underlying9 (by simp [MapKept.IsKey]) false 9999
  have he : (entO b).toArray.isEmpty = false := rfl
  have hk' : Instr.findNow .string (.string S) (entO b).toArray.toList 0 = some o := hk
  cases o with
  | none =>
    refine ⟨?_, ?_⟩
    rotate_left
    · simp [Instr.lookup, run_underlying Tryz.underlying61, MapKept.run_getObj_map h, he, hc, MapKept.run_findKey Tryz.underlying9 hk', Result.andThen]
      rfl
  | some v =>
    refine ⟨undef, ?_⟩
    simp [Instr.lookup, run_underlying Tryz.underlying61, MapKept.run_getObj_map h, he, hc, MapKept.run_findKey Tryz.underlying9 hk', Result.andThen]
theorem find_0 (b : Nat) : Instr.findNow .string (.string ⟨#[48]⟩) (entO b) 0 = some (some (0, fnv 64 b)) := by kernel_rfl
theorem find_2 (b : Nat) : Instr.findNow .string (.string ⟨#[50]⟩) (entO b) 0 = some (some (1, fnv 64 b)) := by kernel_rfl
theorem find_4 (b : Nat) : Instr.findNow .string (.string ⟨#[52]⟩) (entO b) 0 = some (some (2, fnv 65 b)) := by kernel_rfl
theorem find_52 (b : Nat) : Instr.findNow .string (.string ⟨#[53, 50]⟩) (entO b) 0 = some (some (3, fnv 68 b)) := by kernel_rfl
theorem ba_ne (a b : List UInt8) (h : ¬ a = b) : ((⟨a.toArray⟩ : ByteArray) == (⟨b.toArray⟩ : ByteArray)) = false := by
  show (a.toArray == b.toArray) = false
  simp [h]
theorem find_no (b : Nat) (a : List UInt8) (h0 : ¬ a = [48]) (h2 : ¬ a = [50]) (h4 : ¬ a = [52]) (h52 : ¬ a = [53, 50]) : Instr.findNow .string (.string ⟨a.toArray⟩) (entO b) 0 = some none := by
  have e0 := ba_ne a [48] h0
  have e2 := ba_ne a [50] h2
  have e4 := ba_ne a [52] h4
  have e52 := ba_ne a [53, 50] h52
  unfold entO
  simp only [Instr.findNow, Instr.sameNow]
  rw [e0, e2, e4, e52]
end Go.Proofs.YtoilcigmpeaedaaGreatDoor.Osc
