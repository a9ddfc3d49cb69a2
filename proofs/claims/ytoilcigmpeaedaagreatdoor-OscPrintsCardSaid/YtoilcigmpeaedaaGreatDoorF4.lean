/-
  B64A
-/
import Derived.WalkKit
import Derived.WalkLawsBesides
import Derived.Laws.BitsAllLaws
import Derived.Lib.SmallJoins
import Derived.Deep.MidRow
import Derived.OwnWalk
import Derived.Test.YtoilcigmpeaedaaGreatDoorProg
import Derived.Test.YtoilcigmpeaedaaGreatDoorF1
import Derived.Test.YtoilcigmpeaedaaGreatDoorF2
import Derived.Test.YtoilcigmpeaedaaGreatDoorF3
namespace Go.Proofs.YtoilcigmpeaedaaGreatDoor.B64
open Go.RowKit Utf

theorem below_box (w : World) (o : Obj) : Below w.heap.size w (w.alloc o) := (Below.refl _ w).alloc (Nat.le_refl _) _
theorem up {B W W' : World} (h : Below B.heap.size B W) (hb : Below W.heap.size W W') : Below B.heap.size B W' := h.trans (hb.mono h.size)
theorem infoB : (Tryz.prog.info? 5).map (fun i => (i.zero, i.size, i.bytes)) = some (some (.int .u8 0), 1, 1) := by kernel_rfl
theorem infoI : (Tryz.prog.info? 3).map (fun i => (i.zero, i.size, i.bytes)) = some (some (.int .i64 0), 1, 8) := by kernel_rfl
/-- a block of the call's own with these cells at its head, which may be written -/
def Box (w : World) (B : Nat) (cs : List Value) : Prop := B < w.heap.size ∧ w.rangeAt B 0 cs ∧ w.there B 0 cs.length
theorem Box.cell {w : World} {B : Nat} {cs : List Value} (h : Box w B cs) (j : Nat) (v : Value) (hv : cs[j]? = some v) : w.cell? ⟨B, j, none⟩ = some v := by
  have := h.2.1 j v hv
  rwa [Nat.zero_add] at this
theorem Box.free {w : World} {B : Nat} {cs : List Value} (h : Box w B cs) (j : Nat) (hj : j < cs.length) : w.frozen? ⟨B, j, none⟩ = false := by
  have := (h.2.2 j hj).2
  rwa [Nat.zero_add] at this
theorem Box.at {w w' : World} {B : Nat} {cs : List Value} (h : Box w B cs) (hs : w.heap.size ≤ w'.heap.size) (hb : w'.heap[B]? = w.heap[B]?) : Box w' B cs :=
  ⟨Nat.lt_of_lt_of_le h.1 hs, fun j v hv => (World.cell?_of_block (a := ⟨B, 0 + j, none⟩) hb).trans (h.2.1 j v hv), fun j hj => ⟨by rw [World.cell?_of_block (a := ⟨B, 0 + j, none⟩) hb]; exact (h.2.2 j hj).1, by rw [World.frozen?_of_block (a := ⟨B, 0 + j, none⟩) hb]; exact (h.2.2 j hj).2⟩⟩
theorem Box.keep {w w' : World} {B : Nat} {cs : List Value} (h : Box w B cs) (hb : Below w.heap.size w w') : Box w' B cs := h.at hb.size (hb.block B h.1)
theorem Box.grown {w w' : World} {B : Nat} {cs : List Value} {row : Option Nat} (h : Box w B cs) (hg : w.grownBy w' row) (hne : some B ≠ row) : Box w' B cs := h.at hg.size (hg.block B h.1 hne)
theorem Box.alloc {w : World} {B : Nat} {cs : List Value} (h : Box w B cs) (o : Obj) : Box (w.alloc o) B cs := h.keep (below_box w o)
theorem Box.drew {w : World} {B : Nat} {cs : List Value} (h : Box w B cs) : Box w.drew B cs := h.keep ((Below.refl _ w).drew)
theorem Box.of {w : World} {B : Nat} {cs : Array Value} {t : TypeId} (h : w.heap[B]? = some (.cells cs t (0, 0))) : Box w B cs.toList := by
  have hlt : B < w.heap.size := (Array.getElem?_eq_some_iff.1 h).1
  refine ⟨hlt, fun j v hv => ?_, fun j hj => ⟨?_, ?_⟩⟩
  · rw [Nat.zero_add, Joins.cell_of_block h j]
    simpa using hv
  · rw [Nat.zero_add, Joins.cell_of_block h j]
    simp at hj
    simp [hj]
  · simp [World.frozen?, h]
theorem Box.new (w : World) (cs : Array Value) (t : TypeId) : Box (w.alloc (.cells cs t)) w.heap.size cs.toList := Box.of (heap_alloc_new w _)
theorem Box.set {w : World} {B : Nat} {cs : List Value} (h : Box w B cs) (j : Nat) (v : Value) : Box (w.setCell ⟨B, j, none⟩ v) B (cs.set j v) := by
  refine ⟨by simpa using h.1, fun i u hu => ?_, fun i hi => ⟨?_, ?_⟩⟩
  · rw [Nat.zero_add]
    rw [List.getElem?_set] at hu
    by_cases e : j = i
    · subst e
      rw [if_pos rfl] at hu
      split at hu
      · rename_i hj
        cases hu
        exact World.cell?_setCell_same _ _ _ (h.cell j _ (List.getElem?_eq_getElem hj))
      · cases hu
    · rw [if_neg e] at hu
      rw [World.cell?_setCell_other _ _ _ _ (by intro h; injection h; contradiction)]
      exact h.cell i u hu
  · have := World.isSome_setCells B [v] j w ⟨B, 0 + i, none⟩ ((h.2.2 i (by simpa using hi)).1)
    simpa [World.setCells] using this
  · rw [World.frozen?_setCell]
    exact (h.2.2 i (by simpa using hi)).2
theorem grown_set (w : World) (B j : Nat) (v : Value) : w.grownBy (w.setCell ⟨B, j, none⟩ v) (some B) := by
  refine ⟨rfl, rfl, rfl, by simp, fun k hk hne => ?_⟩
  have e : B ≠ k := fun e => hne (by rw [e])
  simp [World.setCell, Array.getElem?_modify, e]
theorem Box.below {w w' : World} {B B0 : Nat} {cs : List Value} (h : Box w B cs) (hb : Below B0 w w') (hB : B < B0) : Box w' B cs := h.at hb.size (hb.block B hB)

theorem ofInt64 (a : Nat) (ha : a < 9223372036854775808) : (BitVec.ofInt 64 (a : Int)).toNat = a := by
  rw [BitVec.ofInt_natCast, BitVec.toNat_ofNat]; exact Nat.mod_eq_of_lt (by omega)
theorem or_i64 (a b : Nat) (ha : a < 9223372036854775808) (hb : b < 9223372036854775808) : bits .or .i64 (a : Int) (b : Int) = ((a ||| b : Nat) : Int) := by
  have hx : a ||| b < 2 ^ 63 := Nat.or_lt_two_pow (by omega) (by omega)
  show IntKind.i64.wrap ((BitVec.ofInt 64 (a : Int) ||| BitVec.ofInt 64 (b : Int)).toNat : Int) = _
  rw [BitVec.toNat_or, ofInt64 a ha, ofInt64 b hb, IntKind.wrap_i64]
  omega
theorem or_add (v q k : Nat) (hq : q < 2 ^ k) : (v * 2 ^ k) ||| q = v * 2 ^ k + q := by
  rw [Nat.mul_comm, ← Nat.two_pow_add_eq_or_of_lt hq]
theorem and_i64 (a k : Nat) (hk : k < 62) (ha : a < 9223372036854775808) : bits .and .i64 (a : Int) ((2 ^ k - 1 : Nat) : Int) = ((a % 2 ^ k : Nat) : Int) := by
  have h1 : 2 ^ k < 2 ^ 62 := Nat.pow_lt_pow_right (by omega) hk
  show IntKind.i64.wrap ((BitVec.ofInt 64 (a : Int) &&& BitVec.ofInt 64 ((2 ^ k - 1 : Nat) : Int)).toNat : Int) = _
  rw [BitVec.toNat_and, ofInt64 a ha, ofInt64 (2 ^ k - 1) (by omega), IntKind.wrap_i64, Nat.and_two_pow_sub_one_eq_mod]
  have h2 : a % 2 ^ k < 2 ^ k := Nat.mod_lt _ (Nat.two_pow_pos k)
  omega
theorem wrap_u8 (b : UInt8) : IntKind.u8.wrap (b.toNat : Int) = (b.toNat : Int) := by
  have := b.toNat_lt
  rw [IntKind.wrap_u8]; omega
theorem own_mono {w : World} {B B' n size : Nat} {e : TypeId} {v : Value} {xs : List Value} (h : w.ownsRow B e size v n xs) (hB : B' ≤ B) : w.ownsRow B' e size v n xs := by
  rcases h with ⟨h0, h1 | ⟨g, cap, cur, hv, hg, r⟩⟩
  · exact ⟨h0, .inl h1⟩
  · exact ⟨h0, .inr ⟨g, cap, cur, hv, Nat.le_trans hB hg, r⟩⟩
theorem below_grown {B : Nat} {a w w' : World} {b : Nat} (h : Below B a w) (hg : w.grownBy w' (some b)) (hb : B ≤ b) (hB : B ≤ w.heap.size) : Below B a w' := by
  refine ⟨hg.os.trans h.os, hg.tape.trans h.tape, hg.output.trans h.output, Nat.le_trans h.size hg.size, fun k hk => ?_⟩
  exact (hg.block k (Nat.lt_of_lt_of_le hk hB) (fun e => by injection e with e; omega)).trans (h.block k hk)
theorem idx_run (t : TypeId) (s : ByteArray) (i : Nat) (c : UInt8) (hc : s.data.toList[i]? = some c) (ht : Tryz.prog.underlying t = some .string) (w : World) : (Instr.index t (.string s) (.int .i64 (i : Int))).run Tryz.prog w = .ok (.int .u8 (c.toNat : Int)) w := by
  have h2 : i < s.data.toList.length := (List.getElem?_eq_some_iff.1 hc).1
  have h3 : i < s.size := by simpa using h2
  have e : s.data.toList[i] = c := (List.getElem?_eq_some_iff.1 hc).2
  rw [run_index_string w t s .i64 i ht, dif_pos ⟨by omega, by omega⟩]
  rw [← e]
  rfl
def alphaS : ByteArray := ⟨#[65, 66, 67, 68, 69, 70, 71, 72, 73, 74, 75, 76, 77, 78, 79, 80, 81, 82, 83, 84, 85, 86, 87, 88, 89, 90, 97, 98, 99, 100, 101, 102, 103, 104, 105, 106, 107, 108, 109, 110, 111, 112, 113, 114, 115, 116, 117, 118, 119, 120, 121, 122, 48, 49, 50, 51, 52, 53, 54, 55, 56, 57, 43, 47]⟩
theorem ch_get (v : Nat) (h : v < 64) : alpha[v]? = some (ch v) := by
  unfold ch
  rw [List.getD_eq_getElem?_getD, List.getElem?_eq_getElem (show v < alpha.length by show v < 64; exact h)]
  rfl
theorem alpha_run (v : Nat) (h : v < 64) (w : World) : (Instr.index 9 (.string ⟨#[65, 66, 67, 68, 69, 70, 71, 72, 73, 74, 75, 76, 77, 78, 79, 80, 81, 82, 83, 84, 85, 86, 87, 88, 89, 90, 97, 98, 99, 100, 101, 102, 103, 104, 105, 106, 107, 108, 109, 110, 111, 112, 113, 114, 115, 116, 117, 118, 119, 120, 121, 122, 48, 49, 50, 51, 52, 53, 54, 55, 56, 57, 43, 47]⟩) (.int .i64 (v : Int))).run Tryz.prog w = .ok (.int .u8 ((ch v).toNat : Int)) w :=
  idx_run 9 alphaS v (ch v) (ch_get v h) Tryz.underlying9 w
theorem cB_snoc (a : List UInt8) (b : UInt8) : cB a ++ [.int .u8 (b.toNat : Int)] = cB (a ++ [b]) := by simp [cB]

/-- at a step of a region that draws its order -/
theorem step_appO {P : Program} (w : World) {ops : Array Oper} {o : Oper} {a : Act} {K : Act → World → Prop} {Q : Exit → Act → World → Prop} {E : Prop} (hgd : o.guard = none) (s x : Operand) (t : TypeId)
    (ho : o.op = .call { callee := .builtin .append, args := #[s, x], argTypes := #[t, t] })
    (base : Nat) (e : TypeId) (i : TypeInfo) (z : Value) (bytes : Nat) (ht : P.underlying t = some (.slice e)) (hi : P.info? e = some i) (hz : i.zero = some z)
    (hsize : i.size = 1) (hby : i.bytes = bytes) (hzs : z.cells.size = 1)
    (v : Value) (n : Nat) (xs : List Value) (hs : a.eval s = v) (hown : w.ownsRow base e 1 v n xs)
    (A : Option Addr) (m c : Nat) (news : List Value) (hx : a.eval x = .slice A m c) (hm : news.length = m) (hr : Rd w A news) (h1 : ∀ u ∈ news, u.oneCell' = true)
    (hsmall : n + m ≤ 1000000) (hb8 : bytes ≤ 64) (hbase : base ≤ w.heap.size)
    (h : ∀ v' w', w'.ownsRow base e 1 v' (n + m) (xs ++ news) → w.grownBy w' v.ownBlock → (v'.ownBlock = v.ownBlock ∨ v'.ownBlock = some w.heap.size) → K (a.put o.dst v') w') :
    if Region.wanted o (yielded ops a.tmps) = true then Oper.wp P o a w K Q else E := by
  have hw : Region.wanted o (yielded ops a.tmps) = true := by simp [Region.wanted, hgd]
  rw [if_pos hw]
  exact wp_app w s x t ho base e i z bytes ht hi hz hsize hby hzs v n xs hs hown A m c news hx hm hr h1 hsmall hb8 hbase h
/-- what lies below base and the blocks X stays -/
def Stay (X : Nat → Prop) (base : Nat) (w w' : World) : Prop := Below base w w' ∧ ∀ k, X k → w'.heap[k]? = w.heap[k]?
theorem Stay.refl (X : Nat → Prop) (base : Nat) (w : World) : Stay X base w w := ⟨Below.refl _ _, fun _ _ => rfl⟩
theorem Stay.trans {X : Nat → Prop} {base : Nat} {a b c : World} (h : Stay X base a b) (k : Stay X base b c) : Stay X base a c := ⟨h.1.trans k.1, fun j hj => (k.2 j hj).trans (h.2 j hj)⟩
/-- the memory of a call of Encode or Decode: the five boxes of regroup from n on, the box T of the text, the text's row -/
structure Hp (X : Nat → Prop) (base n T : Nat) (fr to : Int) (use : Value) (b k : Int) (xs : List UInt8) (w : World) : Prop where
  hT : base ≤ T
  hn : base ≤ n
  hTn : ¬ (n ≤ T ∧ T < n + 5)
  hX : ∀ j, X j → j < w.heap.size ∧ j ≠ T ∧ ¬ (n ≤ j ∧ j < n + 5)
  b0 : Box w n [.int .i64 fr]
  b1 : Box w (n + 1) [.int .i64 to]
  b2 : Box w (n + 2) [use]
  b3 : Box w (n + 3) [.int .i64 b]
  b4 : Box w (n + 4) [.int .i64 k]
  row : ∃ v, Box w T [v] ∧ w.ownsRow base 5 1 v xs.length (cB xs) ∧ ∀ g, v.ownBlock = some g → g ≠ T ∧ ¬ (n ≤ g ∧ g < n + 5) ∧ ¬ X g
end Go.Proofs.YtoilcigmpeaedaaGreatDoor.B64
