/-
  B64D
-/
import Derived.Maps.Own
import Derived.IntWalk
import Derived.Test.YtoilcigmpeaedaaGreatDoorF20
namespace Go.Proofs.YtoilcigmpeaedaaGreatDoor.B64
open Go.RowKit Utf

set_option maxRecDepth 100000 in
set_option maxHeartbeats 1000000 in
theorem regroup_any (fr to : Int) (f : Nat) (p : Addr) (w : World) : Calls Tryz.prog 55 #[.int .i64 fr, .int .i64 to, .func (.func f) #[] #[.pointer (some p)]] w fun e w' =>
    e = .returned (.tuple #[.func (.func 82) #[] #[.pointer (some ⟨w.heap.size + 3, 0, none⟩), .pointer (some ⟨w.heap.size, 0, none⟩), .pointer (some ⟨w.heap.size + 4, 0, none⟩), .pointer (some ⟨w.heap.size + 1, 0, none⟩), .pointer (some ⟨w.heap.size + 2, 0, none⟩)], .func (.func 83) #[] #[.pointer (some ⟨w.heap.size + 3, 0, none⟩), .pointer (some ⟨w.heap.size + 4, 0, none⟩)]]) ∧
    Box w' w.heap.size [.int .i64 fr] ∧ Box w' (w.heap.size + 1) [.int .i64 to] ∧ Box w' (w.heap.size + 2) [.func (.func f) #[] #[.pointer (some p)]] ∧ Box w' (w.heap.size + 3) [.int .i64 0] ∧ Box w' (w.heap.size + 4) [.int .i64 0] ∧ Below w.heap.size w w' := by
  go_enter Tryz.func55, Tryz.ntmps55
  go_wp2
  go_ret2
  obtain ⟨w1, hw1⟩ : ∃ W, W = w.alloc (.cells #[.int .i64 fr] 3) := ⟨_, rfl⟩
  obtain ⟨w2, hw2⟩ : ∃ W, W = w1.alloc (.cells #[.int .i64 to] 3) := ⟨_, rfl⟩
  obtain ⟨w3, hw3⟩ : ∃ W, W = w2.alloc (.cells #[.func (.func f) #[] #[.pointer (some p)]] 76) := ⟨_, rfl⟩
  obtain ⟨w4, hw4⟩ : ∃ W, W = w3.alloc (.cells #[.int .i64 0] 3) := ⟨_, rfl⟩
  have s1 : w1.heap.size = w.heap.size + 1 := by rw [hw1, World.size_alloc]
  have s2 : w2.heap.size = w.heap.size + 2 := by rw [hw2, World.size_alloc, s1]
  have s3 : w3.heap.size = w.heap.size + 3 := by rw [hw3, World.size_alloc, s2]
  have s4 : w4.heap.size = w.heap.size + 4 := by rw [hw4, World.size_alloc, s3]
  have b0 : Box w1 w.heap.size [.int .i64 fr] := by rw [hw1]; exact Box.new w _ _
  have b1 : Box w2 (w.heap.size + 1) [.int .i64 to] := by rw [hw2, ← s1]; exact Box.new w1 _ _
  have b2 : Box w3 (w.heap.size + 2) [.func (.func f) #[] #[.pointer (some p)]] := by rw [hw3, ← s2]; exact Box.new w2 _ _
  have b3 : Box w4 (w.heap.size + 3) [.int .i64 0] := by rw [hw4, ← s3]; exact Box.new w3 _ _
  have b4 : Box (w4.alloc (.cells #[.int .i64 0] 3)) (w.heap.size + 4) [.int .i64 0] := by rw [← s4]; exact Box.new w4 _ _
  have k1 : Below w.heap.size w w1 := by rw [hw1]; exact below_box _ _
  have k2 : Below w1.heap.size w1 w2 := by rw [hw2]; exact below_box _ _
  have k3 : Below w2.heap.size w2 w3 := by rw [hw3]; exact below_box _ _
  have k4 : Below w3.heap.size w3 w4 := by rw [hw4]; exact below_box _ _
  have k5 : Below w4.heap.size w4 (w4.alloc (.cells #[.int .i64 0] 3)) := below_box _ _
  rw [← hw1, ← hw2, ← hw3, ← hw4]
  exact ⟨rfl, (((b0.keep k2).keep k3).keep k4).keep k5, ((b1.keep k3).keep k4).keep k5, (b2.keep k4).keep k5, b3.keep k5, b4, up (up (up (up k1 k2) k3) k4) k5⟩

set_option maxRecDepth 100000 in
set_option maxHeartbeats 1000000 in
theorem rest_any (X : Nat → Prop) (base n T : Nat) (fr to : Int) (use : Value) (b k : Int) (xs : List UInt8) (w : World) (h : Hp X base n T fr to use b k xs w) :
    Calls Tryz.prog 83 #[.pointer (some ⟨n + 3, 0, none⟩), .pointer (some ⟨n + 4, 0, none⟩)] w fun e w' => e = .returned (.tuple #[.int .i64 b, .int .i64 k]) ∧ Hp X base n T fr to use b k xs w' ∧ Stay X base w w' := by
  obtain ⟨c0, c1, c2, c3, c4, f3, f4⟩ := h.cells
  have hl1 := h.b4.1
  have HP := Lib.hid h
  clear h
  go_enter Tryz.func83, Tryz.ntmps83
  go_wp2_with fail
  go_region
  all_goals
    go_wp2
    go_ret2
    exact ⟨rfl, HP.out.drew, (Stay.refl _ _ _).drew⟩

def ents : List UInt8 → Nat → List MapEntry
  | [], _ => []
  | c :: r, i => ⟨.int .u8 (c.toNat : Int), .int .i64 (i : Int), i⟩ :: ents r (i + 1)
theorem ents_snoc (l : List UInt8) (c : UInt8) (i : Nat) : ents (l ++ [c]) i = ents l i ++ [⟨.int .u8 (c.toNat : Int), .int .i64 ((i + l.length : Nat) : Int), i + l.length⟩] := by
  induction l generalizing i with
  | nil => rfl
  | cons x r ih =>
    have e : i + 1 + r.length = i + (x :: r).length := by rw [List.length_cons]; omega
    rw [List.cons_append, ents, ents, ih, List.cons_append, e]
theorem find_ents (c : UInt8) (l : List UInt8) (i j : Nat) : Instr.findNow (.int .u8) (.int .u8 (c.toNat : Int)) (ents l i) j = some ((l.findIdx? (· == c)).map fun n => (j + n, Value.int .i64 ((i + n : Nat) : Int))) := by
  induction l generalizing i j with
  | nil => rfl
  | cons x r ih =>
    have hs : Instr.sameNow (.int .u8) (.int .u8 (c.toNat : Int)) (.int .u8 (x.toNat : Int)) = some ((c.toNat : Int) == (x.toNat : Int)) := rfl
    rw [ents, Instr.findNow, hs, List.findIdx?_cons]
    by_cases e : x = c
    · subst e
      simp
    · have e2 : ((c.toNat : Int) == (x.toNat : Int)) = false := by
        rw [beq_eq_false_iff_ne]
        intro h
        exact e (UInt8.toNat_inj.1 (by omega))
      have e3 : (x == c) = false := by rw [beq_eq_false_iff_ne]; exact e
      rw [e2, e3]
      simp only [Bool.false_eq_true, if_false]
      rw [ih]
      cases r.findIdx? (· == c) with
      | none => rfl
      | some n =>
        simp only [Option.map_some]
        congr 3
        · omega
        · congr 2; omega
theorem vl_new (k : Nat) (h : k < 64) : (alpha.take k).findIdx? (· == ch k) = none := by
  have : ∀ k : Fin 64, (alpha.take k.val).findIdx? (· == ch k.val) = none := by decide +kernel
  exact this ⟨k, h⟩
def mapE (k : Nat) : Obj := .map (ents (alpha.take k) 0).toArray k
theorem set_push (a : Array Obj) (o o' : Obj) : (a.push o).setIfInBounds a.size o' = a.push o' := by
  apply Array.ext_getElem?
  intro i
  rw [Array.getElem?_setIfInBounds, Array.getElem?_push, Array.getElem?_push]
  by_cases h : a.size = i
  · subst h; simp
  · rw [if_neg h, if_neg (fun e => h e.symm), if_neg (fun e => h e.symm)]
theorem set_last (W : World) (o o' : Obj) : ({ heap := (W.alloc o).heap.setIfInBounds W.heap.size o', tape := W.tape, drawn := W.drawn, os := (W.alloc o).os, output := (W.alloc o).output } : World) = W.alloc o' := by
  show ({ heap := (W.heap.push o).setIfInBounds W.heap.size o', tape := W.tape, drawn := W.drawn, os := W.os, output := W.output } : World) = { W with heap := W.heap.push o' }
  rw [set_push]
theorem ins_run (W : World) (k : Nat) (h : k < 64) :
    (Instr.mapUpdate 111 (.map (some W.heap.size)) (.int .u8 ((ch k).toNat : Int)) (.int .i64 (k : Int))).run Tryz.prog (W.alloc (mapE k)) = .ok () (W.alloc (mapE (k + 1))) := by
  have hbk : (W.alloc (mapE k)).heap[W.heap.size]? = some (.map (ents (alpha.take k) 0).toArray k) := heap_alloc_new W _
  have hc : ∀ x, (Instr.checkKey false 10000 5 (.int .u8 ((ch k).toNat : Int))).run Tryz.prog x = .ok () x := fun x => MapKept.run_checkKey (k := .int .u8 ((ch k).toNat : Int)) Tryz.underlying5 (by simp [MapKept.IsKey]) false 9999
  have hk : Instr.findNow (.int .u8) (.int .u8 ((ch k).toNat : Int)) (ents (alpha.take k) 0).toArray.toList 0 = some none := by
    rw [List.toList_toArray, find_ents, vl_new k h]; rfl
  have hl : (alpha.take k).length = k := by rw [List.length_take]; show min k 64 = k; omega
  have hm : mapE (k + 1) = .map (ents (alpha.take k) 0 ++ [({ key := .int .u8 ((ch k).toNat : Int), val := .int .i64 (k : Int), born := k } : MapEntry)]).toArray (k + 1) := by
    unfold mapE
    rw [List.take_add_one, ch_get k h]
    show Obj.map (ents (alpha.take k ++ [ch k]) 0).toArray (k + 1) = _
    rw [ents_snoc, hl, Nat.zero_add]
  simp [Instr.mapUpdate, run_underlying Tryz.underlying111, MapKept.run_getObj_map hbk, hc, MapKept.run_findKey Tryz.underlying5 hk, MapKept.run_setObj_map _ hbk, Result.andThen]
  rw [hm]
  exact set_last W _ _
theorem look_run (b : Nat) (w : World) (h : w.heap[b]? = some (mapE 64)) (c : UInt8) : (Instr.lookup 111 (.map (some b)) (.int .u8 (c.toNat : Int)) true).run Tryz.prog w = .ok (.tuple #[.int .i64 (((vl c).getD 0 : Nat) : Int), .bool (vl c).isSome]) w := by
  have hc : ∀ x, (Instr.checkKey false 10000 5 (.int .u8 (c.toNat : Int))).run Tryz.prog x = .ok () x := fun x => MapKept.run_checkKey (k := .int .u8 (c.toNat : Int)) Tryz.underlying5 (by simp [MapKept.IsKey]) false 9999
  have hk : Instr.findNow (.int .u8) (.int .u8 (c.toNat : Int)) (ents (alpha.take 64) 0).toArray.toList 0 = some ((vl c).map fun (n : Nat) => (n, Value.int .i64 (n : Int))) := by
    rw [List.toList_toArray, find_ents]
    show some (((vl c).map _)) = _
    cases vl c <;> simp
  have he : (ents (alpha.take 64) 0).toArray.isEmpty = false := rfl
  have hb : w.heap[b]? = some (.map (ents (alpha.take 64) 0).toArray 64) := h
  cases hv : vl c with
  | none =>
    rw [hv] at hk
    simp [Instr.lookup, run_underlying Tryz.underlying111, MapKept.run_getObj_map hb, he, hc, MapKept.run_findKey Tryz.underlying5 hk, Result.andThen]
  | some v =>
    rw [hv] at hk
    simp [Instr.lookup, run_underlying Tryz.underlying111, MapKept.run_getObj_map hb, he, hc, MapKept.run_findKey Tryz.underlying5 hk, Result.andThen]
set_option maxRecDepth 100000 in
set_option maxHeartbeats 2000000 in
theorem values_any (w : World) : Calls Tryz.prog 91 #[] w fun e w' => e = .returned (.map (some w.heap.size)) ∧ w' = w.alloc (mapE 64) := by
  have hmm : ∀ W : World, (Instr.makeMap 111 (some (.int .i64 64))).run Tryz.prog W = .ok (.map (some W.heap.size)) (W.alloc (.map #[] 0)) := fun W => by
    simp [Instr.makeMap, Result.andThen, asInt, asIntOf]
  go_enter Tryz.func91, Tryz.ntmps91
  go_wp2_with fail
  go_loopw [4] (fun i wr => ∃ k : Nat, k ≤ 64 ∧ i = .int .i64 k ∧ wr = w.alloc (mapE k)) (fun i _ => 64 - (intOf i).toNat)
  case atStart => exact ⟨0, by omega, rfl, rfl⟩
  case round =>
    obtain ⟨k, hk, rfl, rfl⟩ := hrel
    by_cases hk2 : k < 64
    · have hI := ins_run w k hk2
      have hA := alpha_run k hk2
      go_wp2
      refine ⟨⟨k + 1, by omega, by go_num, rfl⟩, ?_⟩
      show 64 - ((k : Int) + 1).toNat < 64 - (k : Int).toNat
      omega
    · obtain rfl : k = 64 := by omega
      go_wp2
      go_ret
      exact ⟨rfl, rfl⟩

theorem size_any (n : Int) (w : World) (h : -9223372036854775808 ≤ n ∧ n ≤ 9223372036854775807) : Calls Tryz.prog 54 #[.int .i64 n] w fun e w' => e = .returned (.int .i64 (sizeI n)) ∧ w' = w := by
  obtain ⟨h1, h2⟩ := h
  have hs : sizeI n = (max 0 (min n 1099511627776) + 2) / 3 * 4 := rfl
  rw [hs]
  rcases (show n < 0 ∨ (0 ≤ n ∧ n ≤ 1099511627776) ∨ 1099511627776 < n by omega) with h3 | ⟨h3, h4⟩ | h3
  all_goals
    go_enter Tryz.func54, Tryz.ntmps54
    go_wp2
    go_ret
    refine ⟨congrArg Ending.returned (congrArg (Value.int .i64) ?_), rfl⟩
    omega
end Go.Proofs.YtoilcigmpeaedaaGreatDoor.B64
