/-
  StaA StaB
-/
import Derived.OwnWalk
import Derived.Maps.AppendAt
import Derived.Lib.SmallJoins
import Derived.Test.YtmboekpomjgnnaaGreatDoorF2
import Derived.Test.YtmboekpomjgnnaaGreatDoorF5
import Derived.Test.YtmboekpomjgnnaaGreatDoorF9
namespace Go.Proofs.YtmboekpomjgnnaaGreatDoor.Sta
open Go.RowKit Utf Par

/-- a slice of bytes -/
def RB (w : World) (v : Value) (bs : List UInt8) : Prop := ∃ A c, v = .slice A bs.length c ∧ bs.length ≤ c ∧ Rd w A (cB bs)
theorem RB.keep {w w' : World} {v : Value} {bs : List UInt8} (h : RB w v bs) (hb : Below w.heap.size w w') : RB w' v bs := by
  obtain ⟨A, c, h1, h2, h4⟩ := h
  exact ⟨A, c, h1, h2, h4.below hb⟩
theorem RB.nil (w : World) : RB w (.slice none 0 0) [] := ⟨none, 0, rfl, Nat.le_refl _, Rd.nil _ _⟩
theorem RB.form {w : World} {v : Value} {bs : List UInt8} (h : RB w v bs) : ∃ A c, v = .slice A bs.length c := by
  obtain ⟨A, c, rfl, -⟩ := h
  exact ⟨A, c, rfl⟩
/-- a parse's cells -/
def cS (p : PS) (u q : Value) : Array Value := #[.int .i64 p.st, u, .int .u8 (p.pr.toNat : Int), .int .u8 (p.fi.toNat : Int), q, .string p.it, .string p.tx, .bool p.bad]
/-- the slices that a parse holds -/
def RS (w : World) (u q : Value) (p : PS) : Prop := RB w u p.utf ∧ RL w q p.ps
theorem RS.keep {w w' : World} {u q : Value} {p : PS} (h : RS w u q p) (hb : Below w.heap.size w w') : RS w' u q p := ⟨h.1.keep hb, h.2.keep hb⟩
theorem RS.nil (w : World) (p : PS) (h1 : p.utf = []) (h2 : p.ps = []) : RS w (.slice none 0 0) (.slice none 0 0) p := by
  unfold RS; rw [h1, h2]; exact ⟨RB.nil w, RL.nil w⟩
/-- an event, and where its parameters lie -/
structure EQ where
  e : EV
  A : Option Addr
  n : Nat
  c : Nat
def cE (x : EQ) : List Value := [.int .i64 x.e.k, .int .i64 x.e.c, .int .u8 (x.e.pr.toNat : Int), .int .u8 (x.e.fi.toNat : Int), .slice x.A x.n x.c, .string x.e.it, .string x.e.tx]
/-- the events of a slice, where they lie -/
def RdE (w : World) (A : Option Addr) (xs : List EQ) : Prop := ∀ j x, xs[j]? = some x → ∃ b o, A = some ⟨b, o, none⟩ ∧ b < w.heap.size ∧ w.rangeAt b (o + j * 7) (cE x)
theorem RdE.keep {w w' : World} {A : Option Addr} {xs : List EQ} (h : RdE w A xs) (hb : Below w.heap.size w w') : RdE w' A xs := fun j p hp => by
  obtain ⟨b, o, hA, hlt, hr⟩ := h j p hp
  exact ⟨b, o, hA, Nat.lt_of_lt_of_le hlt hb.size, fun i v hv => (hb.cell (p := ⟨b, o + j * 7 + i, none⟩) hlt).trans (hr i v hv)⟩
theorem RdE.nil (w : World) (A : Option Addr) : RdE w A [] := fun j p hp => by simp at hp
/-- each event's parameters -/
def QsE (w : World) (xs : List EQ) : Prop := ∀ x ∈ xs, RL w (.slice x.A x.n x.c) x.e.ps
theorem QsE.keep {w w' : World} {xs : List EQ} (h : QsE w xs) (hb : Below w.heap.size w w') : QsE w' xs := fun x hx => (h x hx).keep hb
theorem QsE.nil (w : World) : QsE w [] := fun x hx => by cases hx
theorem QsE.app {w : World} {xs ys : List EQ} (h : QsE w xs) (h' : QsE w ys) : QsE w (xs ++ ys) := fun x hx => by
  rcases List.mem_append.1 hx with h1 | h1
  · exact h x h1
  · exact h' x h1
/-- a slice of events -/
def RV (w : World) (v : Value) (l : List EV) : Prop := ∃ A c xs, v = .slice A l.length c ∧ l.length ≤ c ∧ c ≤ maxLen ∧ xs.map (·.e) = l ∧ RdE w A xs ∧ QsE w xs
theorem RV.keep {w w' : World} {v : Value} {l : List EV} (h : RV w v l) (hb : Below w.heap.size w w') : RV w' v l := by
  obtain ⟨A, c, xs, h1, h2, h3, h4, h5, h6⟩ := h
  exact ⟨A, c, xs, h1, h2, h3, h4, h5.keep hb, h6.keep hb⟩
theorem RV.nil (w : World) : RV w (.slice none 0 0) [] := ⟨none, 0, [], rfl, Nat.le_refl _, Nat.zero_le _, rfl, RdE.nil _ _, QsE.nil _⟩
theorem RV.form {w : World} {v : Value} {l : List EV} (h : RV w v l) : ∃ A c, v = .slice A l.length c := by
  obtain ⟨A, c, xs, rfl, -⟩ := h
  exact ⟨A, c, rfl⟩
/-- one event, new -/
theorem RdE.of {w : World} {B : Nat} {cs : Array Value} {t : TypeId} {fr : Nat × Nat} (h : w.heap[B]? = some (.cells cs t fr)) (xs : List EQ) (hc : ∀ j p, xs[j]? = some p → ∀ i v, (cE p)[i]? = some v → cs[j * 7 + i]? = some v) : RdE w (some ⟨B, 0, none⟩) xs := fun j p hp =>
  ⟨B, 0, rfl, (Array.getElem?_eq_some_iff.1 h).1, fun i v hv => by
    rw [Joins.cell_of_block h]
    rw [Nat.zero_add]
    exact hc j p hp i v hv⟩
theorem RdE.one (w : World) (x : EQ) (t : TypeId) : RdE (w.alloc (.cells (cE x).toArray t)) (some ⟨w.heap.size, 0, none⟩) [x] :=
  RdE.of (heap_alloc_new w _) [x] fun j q hq i v hv => by
    cases j with
    | zero => cases hq; simpa using hv
    | succ j => simp at hq
theorem RV.one (w : World) (e : EV) (A : Option Addr) (n c : Nat) (t : TypeId) (h : RL w (.slice A n c) e.ps) : RV (w.alloc (.cells #[.int .i64 e.k, .int .i64 e.c, .int .u8 (e.pr.toNat : Int), .int .u8 (e.fi.toNat : Int), .slice A n c, .string e.it, .string e.tx] t)) (.slice (some ⟨w.heap.size, 0, none⟩) 1 1) [e] :=
  ⟨_, 1, [⟨e, A, n, c⟩], rfl, Nat.le_refl _, by decide, rfl, RdE.one w ⟨e, A, n, c⟩ t, fun x hx => by
    obtain rfl : x = ⟨e, A, n, c⟩ := by simpa using hx
    exact h.keep (below_box w _)⟩
/-- a row of events of the call's own -/
def OwnV (w : World) (base : Nat) (v : Value) (xs : List EQ) : Prop := w.ownsRow base 27 7 v xs.length (xs.flatMap cE)
theorem flat_len : ∀ xs : List EQ, (xs.flatMap cE).length = xs.length * 7
  | [] => rfl
  | p :: r => by rw [List.flatMap_cons, List.length_append, flat_len r, List.length_cons]; show 7 + _ = _; omega
theorem flat_at : ∀ (xs : List EQ) (j : Nat) (p : EQ) (i : Nat), xs[j]? = some p → i < 7 → (xs.flatMap cE)[j * 7 + i]? = (cE p)[i]?
  | [], j, p, i, h, _ => by simp at h
  | x :: r, 0, p, i, h, hi => by
    obtain rfl : x = p := by simpa using h
    rw [List.flatMap_cons, List.getElem?_append_left (by show 0 * 7 + i < 7; omega)]
    simp
  | x :: r, j + 1, p, i, h, hi => by
    rw [List.flatMap_cons, List.getElem?_append_right (by show 7 ≤ (j + 1) * 7 + i; omega)]
    rw [show (j + 1) * 7 + i - (cE x).length = j * 7 + i from by show (j + 1) * 7 + i - 7 = _; omega]
    exact flat_at r j p i (by simpa using h) hi
theorem flat_one (xs : List EQ) : ∀ u ∈ xs.flatMap cE, u.oneCell' = true := fun u hu => by
  obtain ⟨p, _, h⟩ := List.mem_flatMap.1 hu
  simp [cE] at h
  rcases h with rfl | rfl | rfl | rfl | rfl | rfl | rfl <;> rfl
theorem OwnV.nil (w : World) (base : Nat) : OwnV w base (.slice none 0 0) [] := World.ownsRow_nil _ _ _ _
theorem OwnV.rd {w : World} {base n c : Nat} {A : Option Addr} {xs : List EQ} (h : OwnV w base (.slice A n c) xs) : RdE w A xs := fun j p hp => by
  have hj : j < xs.length := (List.getElem?_eq_some_iff.1 hp).1
  rcases h.2 with ⟨_, h0⟩ | ⟨g, cap, cur, hv, _, hg, _, _, _, ht⟩
  · omega
  · cases hv
    refine ⟨g, 0, rfl, (Array.getElem?_eq_some_iff.1 hg).1, fun i v hv => ?_⟩
    have hi : i < 7 := (List.getElem?_eq_some_iff.1 hv).1
    have h1 := flat_at xs j p i hp hi
    rw [← ht, List.getElem?_take_of_lt (by omega), hv] at h1
    unfold World.cell?
    rw [hg, Nat.zero_add]
    simpa using h1
theorem OwnV.form {w : World} {base : Nat} {v : Value} {xs : List EQ} (h : OwnV w base v xs) : ∃ A c, v = .slice A xs.length c ∧ xs.length ≤ c ∧ c ≤ maxLen := by
  rcases h.2 with ⟨hv, h0⟩ | ⟨g, cap, cur, hv, _, _, h1, h2, _⟩
  · exact ⟨none, 0, by rw [hv, h0], by omega, by unfold maxLen; omega⟩
  · exact ⟨_, _, hv, h1, h2⟩
theorem OwnV.keep {w w' : World} {base : Nat} {v : Value} {xs : List EQ} (h : OwnV w base v xs) (hb : Below w.heap.size w w') : OwnV w' base v xs := by
  rcases h with ⟨h0, hv | ⟨g, cap, cur, hv, h1, hg, h2⟩⟩
  · exact ⟨h0, .inl hv⟩
  · exact ⟨h0, .inr ⟨g, cap, cur, hv, h1, (hb.block g (Array.getElem?_eq_some_iff.1 hg).1).trans hg, h2⟩⟩
theorem OwnV.rv {w : World} {base : Nat} {v : Value} {xs : List EQ} (h : OwnV w base v xs) (hq : QsE w xs) : RV w v (xs.map (·.e)) := by
  obtain ⟨A, c, rfl, h1, h2⟩ := h.form
  exact ⟨A, c, xs, by simp, by simpa using h1, h2, rfl, h.rd, hq⟩
theorem infoE : (Tryz.prog.info? 27).map (fun i => (i.zero, i.size, i.bytes)) = some (some (.agg #[.int .i64 0, .int .i64 0, .int .u8 0, .int .u8 0, .slice none 0 0, .string ⟨#[]⟩, .string ⟨#[]⟩]), 7, 80) := by kernel_rfl
/-- an append onto such a row, the source nil, empty or not: its run -/
theorem run_appV (w : World) (base : Nat) (ty : TypeId) (v : Value) (xs : List EQ) (hown : OwnV w base v xs) (A : Option Addr) (m c : Nat) (ys : List EQ) (hm : ys.length = m) (hr : RdE w A ys)
    (hsmall : xs.length + m ≤ 100000) (hbase : base ≤ w.heap.size) :
    ∃ v' w', (Builtin.append_ #[41, 41] ty #[v, .slice A m c]).run Tryz.prog w = .ok v' w' ∧ OwnV w' base v' (xs ++ ys) ∧ w.grownBy w' v.ownBlock := by
  obtain ⟨i, hi, hz, hs, hb⟩ := info_parts infoE
  cases A with
  | none =>
    obtain rfl : ys = [] := by
      cases ys with
      | nil => rfl
      | cons y r =>
        obtain ⟨b, o, h, _⟩ := hr 0 y rfl
        cases h
    obtain rfl : m = 0 := hm.symm
    have hrun : (Builtin.append_ #[41, 41] ty #[v, .slice none 0 c]).run Tryz.prog w = .ok v w := by
      rcases hown.2 with ⟨rfl, h0⟩ | ⟨g, cap, cur, rfl, _, _, hnc, _⟩
      · simp [Builtin.append_, run_underlying Tryz.underlying41, sizeOf, typeInfo, hi, Builtin.lenOf, Builtin.firstCells]
      · simp [Builtin.append_, run_underlying Tryz.underlying41, sizeOf, typeInfo, hi, Builtin.lenOf, Builtin.firstCells, hnc, storeCells]
    exact ⟨v, w, hrun, by simpa using hown, ⟨rfl, rfl, rfl, Nat.le_refl _, fun _ _ _ => rfl⟩⟩
  | some ad =>
    have hcells : ∀ j u, (ys.flatMap cE)[j]? = some u → w.cell? (ad.add j) = some u := fun j u hu => by
      have hj : j < ys.length * 7 := by rw [← flat_len]; exact (List.getElem?_eq_some_iff.1 hu).1
      have hq : ∃ p, ys[j / 7]? = some p := ⟨_, List.getElem?_eq_getElem (by omega)⟩
      obtain ⟨p, hp⟩ := hq
      obtain ⟨b, o, hA', _, hc⟩ := hr _ p hp
      cases hA'
      have h1 := flat_at ys (j / 7) p (j % 7) hp (by omega)
      rw [show j / 7 * 7 + j % 7 = j by omega, hu] at h1
      have h2 := hc (j % 7) u h1.symm
      rw [show o + j / 7 * 7 + j % 7 = o + j by omega] at h2
      rw [Addr.add_mid]
      exact h2
    obtain ⟨v', w', hrun, h2, h3, _, _⟩ := run_append_own_at (P := Tryz.prog) w base 41 ty 27 i _ 7 80 Tryz.underlying41 hi hz hs hb rfl (by omega) v xs.length (xs.flatMap cE) hown ad m c (ys.flatMap cE) (by rw [flat_len, hm]) hcells (flat_one ys) (by unfold maxLen; omega) (by omega) hbase
    refine ⟨v', w', hrun, ?_, h3⟩
    have := h2
    rw [← List.flatMap_append, ← hm, ← List.length_append] at this
    exact this
theorem wp_appV (w : World) {o : Oper} {a : Act} {K : Act → World → Prop} {Q : Exit → Act → World → Prop} (s x : Operand)
    (ho : o.op = .call { callee := .builtin .append, args := #[s, x], argTypes := #[41, 41] })
    (base : Nat) (v : Value) (xs : List EQ) (hs : a.eval s = v) (hown : OwnV w base v xs) (A : Option Addr) (m c : Nat) (ys : List EQ) (hx : a.eval x = .slice A m c) (hm : ys.length = m) (hr : RdE w A ys)
    (hsmall : xs.length + m ≤ 100000) (hbase : base ≤ w.heap.size) (h : ∀ v' w', OwnV w' base v' (xs ++ ys) → Below base w w' → w.grownBy w' v.ownBlock → K (a.put o.dst v') w') : o.wp Tryz.prog a w K Q := by
  obtain ⟨v', w', hrun, h2, h3⟩ := run_appV w base o.type v xs hown A m c ys hm hr hsmall hbase
  unfold Oper.wp execOp
  simp only [ho, resolve, invoke, builtin, Sem.run_bind, Sem.run_pure, Result.andThen_ok, List.map_toArray, List.map_cons, List.map_nil, hs, hx, hrun]
  exact h v' w' h2 ((Below.refl _ _).grown h3 hbase fun k hk => (hown.lt k hk).1) h3
theorem wpList_appV (w : World) {ops : Array Oper} {rest : List Oper} {o : Oper} {a : Act} {Q : Exit → Act → World → Prop} (hgd : o.guard = none) (s x : Operand)
    (ho : o.op = .call { callee := .builtin .append, args := #[s, x], argTypes := #[41, 41] })
    (base : Nat) (v : Value) (xs : List EQ) (hs : a.eval s = v) (hown : OwnV w base v xs) (A : Option Addr) (m c : Nat) (ys : List EQ) (hx : a.eval x = .slice A m c) (hm : ys.length = m) (hr : RdE w A ys)
    (hsmall : xs.length + m ≤ 100000) (hbase : base ≤ w.heap.size) (h : ∀ v' w', OwnV w' base v' (xs ++ ys) → Below base w w' → w.grownBy w' v.ownBlock → wpList Tryz.prog ops Q rest (a.put o.dst v') w') : wpList Tryz.prog ops Q (o :: rest) a w :=
  wpList_plain hgd fun _ hK => wp_appV w s x ho base v xs hs hown A m c ys hx hm hr hsmall hbase fun v' w' h2 h3 h4 => hK _ _ (h v' w' h2 h3 h4)
end Go.Proofs.YtmboekpomjgnnaaGreatDoor.Sta

namespace Go.Proofs.YtmboekpomjgnnaaGreatDoor.Sta
open Go.RowKit Utf Par

theorem hasB_hit {n : Int} {l : List Int} {k : Nat} (h : l[k]? = some n) : hasB n l = true := decide_eq_true (List.mem_of_getElem? h)
theorem not_take_succ {n z : Int} {l : List Int} {k : Nat} (h : l[k]? = some z) (hn : n ∉ l.take k) (hz : z ≠ n) : n ∉ l.take (k + 1) := by
  rw [List.take_add_one, h]
  simp only [Option.toList_some, List.mem_append, List.mem_singleton, not_or]
  exact ⟨hn, fun e => hz e.symm⟩
set_option maxRecDepth 100000 in
set_option maxHeartbeats 2000000 in
theorem has_any (n : Int) (A : Option Addr) (m c : Nat) (l : List Int) (w : World) (hm : m = l.length) (h : Rd w A (cI l)) (hl : m ≤ 1000) :
    Calls Tryz.prog 43 #[.int .i64 n, .slice A m c] w fun e w' => e = .returned (.bool (hasB n l)) ∧ Below w.heap.size w w' := by
  have HX := Lib.hid h; clear h
  have HM := Lib.hid hm; clear hm
  go_enter Tryz.func43, Tryz.ntmps43
  go_wp2
  go_loopw [5] (fun i wr => ∃ k : Nat, k ≤ m ∧ i = .int .i64 k ∧ Hid (n ∉ l.take k ∧ Below w.heap.size w wr)) (fun i _ => m - (intOf i).toNat)
  case atStart => exact ⟨0, Nat.zero_le _, rfl, by simp, Below.refl _ _⟩
  case round =>
    obtain ⟨k, hk, rfl, hid⟩ := hrel
    by_cases hlt : k < m
    · obtain ⟨z, hz⟩ := get_some l k (by rw [← HM.out]; exact hlt)
      obtain ⟨ad, rfl, _, hc⟩ := (HX.out.below hid.out.2) k _ (cI_at l k z hz)
      have Hz := Lib.hid hz; clear hz
      have i1 : (0 : Int) ≤ (k : Int) := by omega
      have i2 : (k : Int) < (m : Int) := by omega
      by_cases e : z = n
      · subst e
        go_wp2
        go_ret
        refine ⟨?_, hid.out.2⟩
        rw [hasB_hit Hz.out]
        rfl
      · have e1 : (z == n) = false := by simpa using e
        go_wp2
        exact ⟨⟨k + 1, by omega, by go_num, not_take_succ Hz.out hid.out.1 e, hid.out.2⟩, by simp [intOf]; omega⟩
    · go_wp2
      go_ret
      refine ⟨?_, hid.out.2⟩
      have he := hid.out.1
      rw [List.take_of_length_le (by rw [← HM.out]; omega)] at he
      rw [show hasB n l = false from decide_eq_false he]
      rfl
def sigC (c : UInt8) : Bool := decide (32 ≤ c.toNat) && decide (c.toNat ≤ 47)
def texC (c : UInt8) : Bool := decide (32 ≤ c.toNat) && !decide (c.toNat = 127)
theorem all_take {α : Type} (p : α → Bool) (l : List α) (k : Nat) (x : α) (h : l[k]? = some x) : (l.take (k + 1)).all p = ((l.take k).all p && p x) := by
  rw [List.take_add_one, h]; simp
theorem all_miss {α : Type} (p : α → Bool) (l : List α) (k : Nat) (x : α) (h : l[k]? = some x) (hp : p x = false) : l.all p = false := by
  rw [List.all_eq_false]
  exact ⟨x, List.mem_of_getElem? h, by simp [hp]⟩
set_option maxRecDepth 100000 in
set_option maxHeartbeats 2000000 in
theorem signs_any (s : ByteArray) (lo hi : Nat) (w : World) (hs : s.size ≤ 1000000) :
    Calls Tryz.prog 46 #[.string s, .int .i64 lo, .int .i64 hi] w fun e w' => e = .returned (.bool (sigB s lo hi)) ∧ Below w.heap.size w w' := by
  have hlen : s.data.toList.length = s.size := by simp
  have HL := Lib.hid hlen; clear hlen
  go_enter Tryz.func46, Tryz.ntmps46
  go_wp2
  go_loopw [7] (fun i wr => ∃ k : Nat, k ≤ s.size ∧ i = .int .i64 k ∧ Hid ((s.data.toList.take k).all sigC = true ∧ Below w.heap.size w wr)) (fun i _ => s.size - (intOf i).toNat)
  case atStart => exact ⟨0, Nat.zero_le _, rfl, by simp, Below.refl _ _⟩
  case round =>
    obtain ⟨k, hk, rfl, hid⟩ := hrel
    by_cases hlt : k < s.size
    · obtain ⟨c, hc⟩ := get_some s.data.toList k (by rw [HL.out]; exact hlt)
      have at1 := fun W => at_str s k c hc W
      have Hc := Lib.hid hc; clear hc
      have i1 : (0 : Int) ≤ (k : Int) := by omega
      have i2 : (k : Int) < (s.size : Int) := by omega
      have miss : sigC c = false → sigB s lo hi = false := fun h => by
        unfold sigB
        rw [show (fun c : UInt8 => decide (32 ≤ c.toNat) && decide (c.toNat ≤ 47)) = sigC from rfl, all_miss sigC _ k c Hc.out h]; rfl
      have HM := Lib.hid miss; clear miss
      by_cases e1 : c.toNat < 32
      · have d1 : decide ((c.toNat : Int) < 32) = true := decide_eq_true (by omega)
        go_wp2
        go_ret
        refine ⟨?_, hid.out.2⟩
        rw [HM.out (by unfold sigC; rw [decide_eq_false (by omega)]; rfl)]
        rfl
      · have d1 : decide ((c.toNat : Int) < 32) = false := decide_eq_false (by omega)
        by_cases e2 : 47 < c.toNat
        · have d2 : decide ((47 : Int) < (c.toNat : Int)) = true := decide_eq_true (by omega)
          go_wp2
          go_ret
          refine ⟨?_, hid.out.2⟩
          rw [HM.out (by unfold sigC; rw [decide_eq_false (show ¬ c.toNat ≤ 47 by omega)]; simp)]
          rfl
        · have d2 : decide ((47 : Int) < (c.toNat : Int)) = false := decide_eq_false (by omega)
          go_wp2
          exact ⟨⟨k + 1, by omega, by go_num, by rw [all_take sigC _ k c Hc.out, hid.out.1]; unfold sigC; rw [decide_eq_true (show 32 ≤ c.toNat by omega), decide_eq_true (show c.toNat ≤ 47 by omega)]; rfl, hid.out.2⟩, by simp [intOf]; omega⟩
    · have he := hid.out.1
      rw [List.take_of_length_le (by rw [HL.out]; omega)] at he
      have HB := Lib.hid (show sigB s lo hi = (decide (lo ≤ s.size) && decide (s.size ≤ hi)) by
        unfold sigB
        rw [show (fun c : UInt8 => decide (32 ≤ c.toNat) && decide (c.toNat ≤ 47)) = sigC from rfl, he]; rfl)
      clear he
      obtain rfl : k = s.size := by omega
      by_cases e1 : lo ≤ s.size
      · have d1 : decide ((lo : Int) ≤ (s.size : Int)) = true := decide_eq_true (by omega)
        go_wp2
        all_goals
          go_ret
          refine ⟨?_, hid.out.2⟩
          rw [HB.out, decide_eq_true e1]
          simp_all
      · have d1 : decide ((lo : Int) ≤ (s.size : Int)) = false := decide_eq_false (by omega)
        go_wp2
        all_goals
          go_ret
          refine ⟨?_, hid.out.2⟩
          rw [HB.out, decide_eq_false e1]
          rfl
set_option maxRecDepth 100000 in
set_option maxHeartbeats 2000000 in
theorem text_any (s : ByteArray) (w : World) (hs : s.size ≤ 1000000) :
    Calls Tryz.prog 47 #[.string s] w fun e w' => e = .returned (.bool (texB s)) ∧ Below w.heap.size w w' := by
  have hlen : s.data.toList.length = s.size := by simp
  have HL := Lib.hid hlen; clear hlen
  go_enter Tryz.func47, Tryz.ntmps47
  go_wp2
  go_loopw [3] (fun i wr => ∃ k : Nat, k ≤ s.size ∧ i = .int .i64 k ∧ Hid ((s.data.toList.take k).all texC = true ∧ Below w.heap.size w wr)) (fun i _ => s.size - (intOf i).toNat)
  case atStart => exact ⟨0, Nat.zero_le _, rfl, by simp, Below.refl _ _⟩
  case round =>
    obtain ⟨k, hk, rfl, hid⟩ := hrel
    by_cases hlt : k < s.size
    · obtain ⟨c, hc⟩ := get_some s.data.toList k (by rw [HL.out]; exact hlt)
      have at1 := fun W => at_str s k c hc W
      have Hc := Lib.hid hc; clear hc
      have i1 : (0 : Int) ≤ (k : Int) := by omega
      have i2 : (k : Int) < (s.size : Int) := by omega
      have miss : texC c = false → texB s = false := fun h => by
        unfold texB
        rw [show (fun c : UInt8 => decide (32 ≤ c.toNat) && !decide (c.toNat = 127)) = texC from rfl, all_miss texC _ k c Hc.out h]; rfl
      have HM := Lib.hid miss; clear miss
      by_cases e1 : c.toNat < 32
      · have d1 : decide ((c.toNat : Int) < 32) = true := decide_eq_true (by omega)
        go_wp2
        go_ret
        refine ⟨?_, hid.out.2⟩
        rw [HM.out (by unfold texC; rw [decide_eq_false (show ¬ 32 ≤ c.toNat by omega)]; rfl)]
        rfl
      · have d1 : decide ((c.toNat : Int) < 32) = false := decide_eq_false (by omega)
        by_cases e2 : c.toNat = 127
        · have d2 : ((c.toNat : Int) == 127) = true := by simp; omega
          go_wp2
          go_ret
          refine ⟨?_, hid.out.2⟩
          rw [HM.out (by unfold texC; rw [decide_eq_true e2]; simp)]
          rfl
        · have d2 : ((c.toNat : Int) == 127) = false := by simp; omega
          go_wp2
          exact ⟨⟨k + 1, by omega, by go_num, by rw [all_take texC _ k c Hc.out, hid.out.1]; unfold texC; rw [decide_eq_true (show 32 ≤ c.toNat by omega), decide_eq_false e2]; rfl, hid.out.2⟩, by simp [intOf]; omega⟩
    · have he := hid.out.1
      rw [List.take_of_length_le (by rw [HL.out]; omega)] at he
      have HB := Lib.hid (show texB s = decide (s.size ≤ 512) by
        unfold texB
        rw [show (fun c : UInt8 => decide (32 ≤ c.toNat) && !decide (c.toNat = 127)) = texC from rfl, he]; rfl)
      clear he
      obtain rfl : k = s.size := by omega
      by_cases e1 : s.size ≤ 512
      · have d1 : decide ((s.size : Int) ≤ 512) = true := decide_eq_true (by omega)
        go_wp2
        all_goals
          go_ret
          refine ⟨?_, hid.out.2⟩
          rw [HB.out, decide_eq_true e1]
          rfl
      · have d1 : decide ((s.size : Int) ≤ 512) = false := decide_eq_false (by omega)
        go_wp2
        all_goals
          go_ret
          refine ⟨?_, hid.out.2⟩
          rw [HB.out, decide_eq_false e1]
          rfl
end Go.Proofs.YtmboekpomjgnnaaGreatDoor.Sta
