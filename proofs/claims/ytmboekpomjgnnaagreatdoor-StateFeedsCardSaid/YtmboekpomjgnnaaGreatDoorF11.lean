/-
  StaC StaV StaH StaW StaAf StaF StaAg StaX StaG
-/
import Derived.Laws.ResultCell
import Derived.Deep.RegionWith
import Derived.Deep.RegionHeld3
import Derived.Deep.DeepCutAuto
import Derived.Deep.QuietTactic
import Derived.BigQuiet
import Derived.Deep.RegionLawGrows
import Derived.Test.YtmboekpomjgnnaaGreatDoorF3
import Derived.Test.YtmboekpomjgnnaaGreatDoorF7
import Derived.Test.YtmboekpomjgnnaaGreatDoorF9
import Derived.Test.YtmboekpomjgnnaaGreatDoorF10
namespace Go.Proofs.YtmboekpomjgnnaaGreatDoor.Sta
open Go.RowKit Utf Par

theorem ret_cell1 {P : Program} {fn : Func} {p : Tmp} {ty : TypeId} (h : fn.results = #[.cell p ty]) (tmps : Array Value) (w : World) (a : Addr) (v : Value) (ha : tmps.getD p undef = .pointer (some a)) (hl : (loadVar ty a).run P w = .ok v w) :
    (results fn tmps).run P w = .ok v w := by
  have ha' : tmps[p]?.getD undef = .pointer (some a) := by simpa using ha
  simp only [results, h]
  simp [ha', asAddr, hl]
/-- a parse's cells as a list -/
def cL (p : PS) (u q : Value) : List Value := [.int .i64 p.st, u, .int .u8 (p.pr.toNat : Int), .int .u8 (p.fi.toNat : Int), q, .string p.it, .string p.tx, .bool p.bad]
theorem load_par8 (w : World) (b : Nat) (x0 x1 x2 x3 x4 x5 x6 x7 : Value) (h : Box w b [x0, x1, x2, x3, x4, x5, x6, x7]) : (loadVar 25 ⟨b, 0, none⟩).run Tryz.prog w = .ok (.agg #[x0, x1, x2, x3, x4, x5, x6, x7]) w :=
  (run_loadVar_mid w b 0 25 [x0, x1, x2, x3, x4, x5, x6, x7] _ h.2.1 Tryz.underlying25 rfl (by kernel_rfl)).trans rfl
theorem begin_any (n : Int) (w : World) : Calls Tryz.prog 52 #[.int .i64 n] w fun e w' => e = .returned (.agg #[.int .i64 n, .slice none 0 0, .int .u8 0, .int .u8 0, .slice none 0 0, .string ⟨#[]⟩, .string ⟨#[]⟩, .bool false]) ∧ Below w.heap.size w w' := by
  go_enter Tryz.func52, Tryz.ntmps52
  go_wp2
  refine bodyPost_ret (ret_cell1 rfl _ _ ⟨w.heap.size, 0, none⟩ _ rfl (load_par8 _ _ _ _ _ _ _ _ _ _ (Box.new _ _ _))) rfl ?_
  exact ⟨rfl, below_box _ _⟩
theorem spoilt_any (n : Int) (w : World) : Calls Tryz.prog 72 #[.int .i64 n] w fun e w' => e = .returned (.agg #[.int .i64 n, .slice none 0 0, .int .u8 0, .int .u8 0, .slice none 0 0, .string ⟨#[]⟩, .string ⟨#[]⟩, .bool true]) ∧ Below w.heap.size w w' := by
  go_enter Tryz.func72, Tryz.ntmps72
  go_wp2
  refine bodyPost_ret (ret_cell1 rfl _ _ ⟨w.heap.size, 0, none⟩ _ rfl (load_par8 _ _ _ _ _ _ _ _ _ _ (Box.new _ _ _))) rfl ?_
  exact ⟨rfl, below_box _ _⟩
/-- what stands where a block has been taken out of a world -/
def hole : Obj := .stringIter ⟨#[]⟩ 0
/-- w has what w0 has, block for block, but for the blocks that have been taken out of w0: there w is free -/
structure Pre (w0 w : World) : Prop where
  size : w0.heap.size ≤ w.heap.size
  block : ∀ (k : Nat) (o : Obj), w0.heap[k]? = some o → o ≠ hole → w.heap[k]? = some o
theorem Pre.of_below {w0 w : World} (h : Below w0.heap.size w0 w) : Pre w0 w :=
  ⟨h.size, fun k _ hk _ => (h.block k (Array.getElem?_eq_some_iff.1 hk).1).trans hk⟩
theorem upP {w0 w w' : World} (h : Pre w0 w) (hb : Below w.heap.size w w') : Pre w0 w' :=
  ⟨Nat.le_trans h.size hb.size, fun k o hk hn => (hb.block k (Array.getElem?_eq_some_iff.1 (h.block k o hk hn)).1).trans (h.block k o hk hn)⟩
theorem Pre.cell {w0 w : World} (h : Pre w0 w) {a : Addr} {v : Value} (hc : w0.cell? a = some v) : w.cell? a = some v := by
  have hlt := World.block_lt_of_cell? w0 a hc
  obtain ⟨o, ho⟩ : ∃ o, w0.heap[a.block]? = some o := ⟨_, Array.getElem?_eq_getElem hlt⟩
  have hne : o ≠ hole := fun e => by
    subst e
    unfold World.cell? at hc
    rw [ho] at hc
    cases hc
  exact (World.cell?_of_block ((h.block _ o ho hne).trans ho.symm)).trans hc
theorem Rd.keepP {w w' : World} {A : Option Addr} {xs : List Value} (h : Rd w A xs) (hp : Pre w w') : Rd w' A xs := fun j u hu => by
  obtain ⟨ad, rfl, hlt, hc⟩ := h j u hu
  exact ⟨ad, rfl, Nat.lt_of_lt_of_le hlt hp.size, hp.cell hc⟩
theorem RB.keepP {w w' : World} {v : Value} {bs : List UInt8} (h : RB w v bs) (hp : Pre w w') : RB w' v bs := by
  obtain ⟨A, c, h1, h2, h4⟩ := h
  exact ⟨A, c, h1, h2, Rd.keepP h4 hp⟩
theorem RI.keepP {w w' : World} {v : Value} {zs : List Int} (h : RI w v zs) (hp : Pre w w') : RI w' v zs := by
  obtain ⟨A, c, h1, h2, h3, h4, h5⟩ := h
  exact ⟨A, c, h1, h2, h3, h4, Rd.keepP h5 hp⟩
theorem RL.keepP {w w' : World} {v : Value} {l : List (List Int)} (h : RL w v l) (hp : Pre w w') : RL w' v l := by
  obtain ⟨A, c, vs, h1, h2, h3, h4, h5, h6, h7⟩ := h
  exact ⟨A, c, vs, h1, h2, h3, h4, h5, Rd.keepP h6 hp, fun j x p hx hq => RI.keepP (h7 j x p hx hq) hp⟩
theorem RS.keepP {w w' : World} {u q : Value} {p : PS} (h : RS w u q p) (hp : Pre w w') : RS w' u q p := ⟨h.1.keepP hp, RL.keepP h.2 hp⟩
/-- a world in which the slices of a call's results read as at its end: what w0 has is there, and what the call made -/
def Agr (w0 w w' W : World) : Prop := Pre w0 W ∧ ∀ k, w.heap.size ≤ k → k < w'.heap.size → W.heap[k]? = w'.heap[k]?
/-- what a call returns that hands back a parse and events; w0: where its arguments' slices are read -/
def Ret2 (r : PS × List EV) (w0 w : World) (e : Ending) (w' : World) : Prop := ∃ u q v, e = .returned (.tuple #[.agg (cS r.1 u q), v]) ∧ (∀ W, Agr w0 w w' W → RS W u q r.1 ∧ RV W v r.2) ∧ Below w.heap.size w w'
def sz0 (s : ByteArray) : Bool := decide (s.size = 0)
theorem nil_list : (⟨#[]⟩ : ByteArray).toList = [] := by rw [ByteArray.toList_eq]
theorem str_nil (s : ByteArray) : s.toList = [] ↔ s.size = 0 := by
  rw [ByteArray.toList_eq]
  constructor
  · intro h
    have : s.data.toList.length = s.size := by simp
    rw [h] at this
    exact this.symm
  · intro h
    have : s.data.toList.length = s.size := by simp
    exact List.eq_nil_of_length_eq_zero (by omega)
theorem str_eq0 (s : ByteArray) : (s.toList == (⟨#[]⟩ : ByteArray).toList) = sz0 s := by
  unfold sz0
  rw [nil_list]
  by_cases h : s.size = 0
  · rw [(str_nil s).2 h, decide_eq_true h]; rfl
  · rw [decide_eq_false h]
    cases hs : s.toList with
    | nil => exact absurd ((str_nil s).1 hs) h
    | cons a l => rfl
set_option maxRecDepth 100000 in
set_option maxHeartbeats 8000000 in
theorem empty_any (p : PS) (au aq : Option Addr) (nu cu nq cq : Nat) (w : World) (h1 : nu = p.utf.length) (h2 : nq = p.ps.length) :
    Calls Tryz.prog 42 #[.agg (cS p (.slice au nu cu) (.slice aq nq cq))] w fun e w' => e = .returned (.bool (empB p)) ∧ Below w.heap.size w w' := by
  have HB := Lib.hid (show empB p = (decide (nu = 0) && decide (p.pr.toNat = 0) && decide (p.fi.toNat = 0) && decide (nq = 0) && decide (p.it.size = 0) && decide (p.tx.size = 0)) by
    unfold empB
    rw [h1, h2, show decide (p.utf = []) = decide (p.utf.length = 0) by simp, show decide (p.ps = []) = decide (p.ps.length = 0) by simp,
      show decide (p.pr = 0) = decide (p.pr.toNat = 0) from decide_eq_decide.2 ⟨fun h => by rw [h]; rfl, fun h => UInt8.toNat_inj.1 h⟩, show decide (p.fi = 0) = decide (p.fi.toNat = 0) from decide_eq_decide.2 ⟨fun h => by rw [h]; rfl, fun h => UInt8.toNat_inj.1 h⟩])
  rw [HB.out]
  clear h1 h2 HB
  obtain ⟨st, utf, pr, fi, pp, it, tx, bad⟩ := p
  unfold cS
  dsimp only
  have t1 := str_eq0 it
  have t2 := str_eq0 tx
  have n1 := str_nil it
  have n2 := str_nil tx
  unfold sz0 at t1 t2
  generalize pr.toNat = a
  generalize fi.toNat = b
  generalize it.size = c at t1 n1 ⊢
  generalize tx.size = d at t2 n2 ⊢
  go_enter Tryz.func42, Tryz.ntmps42
  go_wp2
  all_goals
    go_ret
    refine ⟨?_, below_box _ _⟩
    simp_all
end Go.Proofs.YtmboekpomjgnnaaGreatDoor.Sta

namespace Go.Proofs.YtmboekpomjgnnaaGreatDoor.Sta
open Go.RowKit Utf Par

variable {X : Nat → Prop}
/-- a slice that lies neither in block b nor in block g, and in a block that X allows -/
def Off (X : Nat → Prop) (b : Nat) (g : Option Nat) (v : Value) : Prop := ∀ ad n c, v = .slice (some ad) n c → 0 < n → ad.block ≠ b ∧ some ad.block ≠ g ∧ X ad.block
/-- all blocks but b and g are as they were -/
structure AgX (b : Nat) (g : Option Nat) (w w' : World) : Prop where
  size : w.heap.size ≤ w'.heap.size
  block : ∀ k, k < w.heap.size → k ≠ b → some k ≠ g → w'.heap[k]? = w.heap[k]?
structure Frm (b : Nat) (g g' : Option Nat) (w w' : World) : Prop where
  below : Below b w w'
  agx : AgX b g w w'
  new : g' = g ∨ ∃ k, g' = some k ∧ w.heap.size ≤ k
theorem Frm.refl {b : Nat} {g : Option Nat} (w : World) : Frm b g g w w := ⟨Below.refl _ _, ⟨Nat.le_refl _, fun _ _ _ _ => rfl⟩, .inl rfl⟩
theorem Frm.trans {b : Nat} {g g1 g2 : Option Nat} {w w1 w2 : World} (h : Frm b g g1 w w1) (k : Frm b g1 g2 w1 w2) : Frm b g g2 w w2 := by
  refine ⟨h.below.trans k.below, ⟨Nat.le_trans h.agx.size k.agx.size, fun i hi hb hg => ?_⟩, ?_⟩
  · have h1 := h.agx.block i hi hb hg
    have hg1 : some i ≠ g1 := by
      rcases h.new with e | ⟨n, e, hn⟩
      · rw [e]; exact hg
      · rw [e]; intro x; injection x with x; omega
    exact (k.agx.block i (Nat.lt_of_lt_of_le hi h.agx.size) hb hg1).trans h1
  · rcases k.new with e | ⟨n, e, hn⟩
    · rw [e]; exact h.new
    · exact .inr ⟨n, e, Nat.le_trans h.agx.size hn⟩
/-- a call that leaves all old blocks alone -/
theorem Frm.of_below {b : Nat} {g : Option Nat} {w w' : World} (h : Below w.heap.size w w') (hb : b ≤ w.heap.size) : Frm b g g w w' :=
  ⟨h.mono hb, ⟨h.size, fun k hk _ _ => h.block k hk⟩, .inl rfl⟩
theorem Frm.of_set {b : Nat} {g : Option Nat} {w w' : World} (h : w.grownBy w' (some b)) (hb : b ≤ w.heap.size) : Frm b g g w w' :=
  ⟨(Below.refl b w).grown h hb (fun k hk => by cases hk; exact Nat.le_refl _), ⟨h.size, fun k hk hne _ => h.block k hk (by intro e; injection e with e; exact hne e)⟩, .inl rfl⟩
theorem Frm.of_grow {b : Nat} {g g' : Option Nat} {w w' : World} (h : w.grownBy w' g) (hb : b ≤ w.heap.size) (hg : ∀ k, g = some k → b ≤ k) (hn : g' = g ∨ ∃ k, g' = some k ∧ w.heap.size ≤ k) : Frm b g g' w w' :=
  ⟨(Below.refl b w).grown h hb hg, ⟨h.size, fun k hk _ hne => h.block k hk hne⟩, hn⟩
theorem Rd.agx {b : Nat} {g : Option Nat} {w w' : World} {A : Option Addr} {xs : List Value} (h : Rd w A xs) (ha : AgX b g w w') (ho : ∀ ad, A = some ad → 0 < xs.length → ad.block ≠ b ∧ some ad.block ≠ g) : Rd w' A xs := fun j u hu => by
  obtain ⟨ad, rfl, hlt, hc⟩ := h j u hu
  have hj : j < xs.length := (List.getElem?_eq_some_iff.1 hu).1
  obtain ⟨o1, o2⟩ := ho ad rfl (by omega)
  have e : (ad.add j).block = ad.block := by unfold Addr.add; split <;> rfl
  exact ⟨ad, rfl, Nat.lt_of_lt_of_le hlt ha.size, (World.cell?_of_block (by rw [e]; exact ha.block _ hlt o1 o2)).trans hc⟩
theorem RI.agx {b : Nat} {g : Option Nat} {w w' : World} {v : Value} {zs : List Int} (h : RI w v zs) (ha : AgX b g w w') (ho : Off X b g v) : RI w' v zs := by
  obtain ⟨A, c, rfl, h2, h3, h4, h5⟩ := h
  exact ⟨A, c, rfl, h2, h3, h4, Rd.agx h5 ha (fun ad e hn => have := ho ad _ _ (by rw [e]) (by simpa [cI_len] using hn); ⟨this.1, this.2.1⟩)⟩
def RBx (X : Nat → Prop) (b : Nat) (g : Option Nat) (w : World) (v : Value) (bs : List UInt8) : Prop := RB w v bs ∧ Off X b g v
def RLx (X : Nat → Prop) (b : Nat) (g : Option Nat) (w : World) (v : Value) (l : List (List Int)) : Prop := RL w v l ∧ Off X b g v ∧ PL (Off X b g) w v
theorem off_new {b : Nat} {g g' : Option Nat} {w : World} {v : Value} (h : Off X b g v) (hn : g' = g ∨ ∃ k, g' = some k ∧ w.heap.size ≤ k) (hv : ∀ ad n c, v = .slice (some ad) n c → 0 < n → ad.block < w.heap.size) : Off X b g' v := fun ad n c e h0 => by
  refine ⟨(h ad n c e h0).1, ?_, (h ad n c e h0).2.2⟩
  rcases hn with x | ⟨k, x, hk⟩
  · rw [x]; exact (h ad n c e h0).2.1
  · rw [x]; intro y; injection y with y; have := hv ad n c e h0; omega
theorem RI.lt {w : World} {v : Value} {zs : List Int} (h : RI w v zs) : ∀ ad n c, v = .slice (some ad) n c → 0 < n → ad.block < w.heap.size := fun ad n c e h0 => by
  obtain ⟨A, c', rfl, h2, h3, h4, h5⟩ := h
  injection e with e1 e2 e3
  obtain ⟨z, hz⟩ := get_some zs 0 (by omega)
  obtain ⟨ad', e', hlt, _⟩ := h5 0 _ (cI_at zs 0 z hz)
  rw [e1] at e'; injection e' with e'; rw [e']; exact hlt
theorem RL.lt {w : World} {v : Value} {l : List (List Int)} (h : RL w v l) : ∀ ad n c, v = .slice (some ad) n c → 0 < n → ad.block < w.heap.size := fun ad n c e h0 => by
  obtain ⟨A, c', vs, rfl, h2, h3, h4, hl, h5, _⟩ := h
  injection e with e1 e2 e3
  obtain ⟨z, hz⟩ := get_some vs 0 (by omega)
  obtain ⟨ad', e', hlt, _⟩ := h5 0 _ hz
  rw [e1] at e'; injection e' with e'; rw [e']; exact hlt
theorem RB.lt {w : World} {v : Value} {bs : List UInt8} (h : RB w v bs) : ∀ ad n c, v = .slice (some ad) n c → 0 < n → ad.block < w.heap.size := fun ad n c e h0 => by
  obtain ⟨A, c', rfl, h2, h5⟩ := h
  injection e with e1 e2 e3
  obtain ⟨z, hz⟩ := get_some bs 0 (by omega)
  obtain ⟨ad', e', hlt, _⟩ := h5 0 _ (cB_at bs 0 z hz)
  rw [e1] at e'; injection e' with e'; rw [e']; exact hlt
theorem RBx.frm {b : Nat} {g g' : Option Nat} {w w' : World} {v : Value} {bs : List UInt8} (h : RBx X b g w v bs) (hf : Frm b g g' w w') : RBx X b g' w' v bs := by
  refine ⟨?_, off_new h.2 hf.new (RB.lt h.1)⟩
  obtain ⟨⟨A, c, rfl, h2, h4⟩, ho⟩ := h
  exact ⟨A, c, rfl, h2, Rd.agx h4 hf.agx (fun ad e hn => have := ho ad _ _ (by rw [e]) (by simpa [cB_len] using hn); ⟨this.1, this.2.1⟩)⟩
theorem RLx.frm {b : Nat} {g g' : Option Nat} {w w' : World} {v : Value} {l : List (List Int)} (h : RLx X b g w v l) (hf : Frm b g g' w w') : RLx X b g' w' v l := by
  obtain ⟨hr, ho, hp⟩ := h
  have hr' := hr
  obtain ⟨A, c, vs, rfl, h2, h3, h4, hl, h5, h6⟩ := hr
  have hoff : ∀ j x, vs[j]? = some x → Off X b g x := fun j x hx => by
    obtain ⟨ad, e, _, hc⟩ := h5 j x hx
    exact hp ad _ _ j x (by rw [e]) (by have := (List.getElem?_eq_some_iff.1 hx).1; omega) hc
  have hrd' : Rd w' A vs := Rd.agx h5 hf.agx (fun ad e hn => have := ho ad _ _ (by rw [e]) (by omega); ⟨this.1, this.2.1⟩)
  refine ⟨⟨A, c, vs, rfl, h2, h3, h4, hl, hrd', fun j x p hx hq => RI.agx (h6 j x p hx hq) hf.agx (hoff j x hx)⟩, off_new ho hf.new (RL.lt hr'), ?_⟩
  intro A' n' c' j x hv hj hx
  injection hv with e1 e2 e3
  obtain ⟨y, hy⟩ := get_some vs j (by omega)
  obtain ⟨ad, e, _, hc⟩ := hrd' j y hy
  rw [e1] at e; injection e with e
  rw [e, hc] at hx
  injection hx with hx
  subst hx
  obtain ⟨p, hp'⟩ := get_some l j (by omega)
  exact off_new (hoff j y hy) hf.new (RI.lt (h6 j y p hy hp'))
theorem RBx.nil (b : Nat) (g : Option Nat) (w : World) : RBx X b g w (.slice none 0 0) [] := ⟨RB.nil w, fun _ _ _ e => by cases e⟩
theorem RLx.nil (b : Nat) (g : Option Nat) (w : World) : RLx X b g w (.slice none 0 0) [] := ⟨RL.nil w, (fun _ _ _ e => by cases e), (fun _ _ _ _ _ e => by cases e)⟩
/-- what param.Step hands back -/
theorem RLx.of_rop {b : Nat} {g : Option Nat} {B : Nat} {w : World} {v : Value} {l : List (List Int)} (h : ROP (Off X b g) B w v l) (hX : ∀ k, b < k → X k) (hb : b < B) (hg : ∀ k, g = some k → k < B) : RLx X b g w v l := by
  obtain ⟨h1, vs, h2, h3⟩ := h
  refine ⟨h1, fun ad n c e _ => ?_, fun A n c j x e hj hx => ?_⟩
  · have := Hi.own h2 ad n c e
    refine ⟨by omega, fun x => ?_, hX _ (by omega)⟩
    have := hg _ x.symm
    omega
  · rcases h2.2 with ⟨hv, h0⟩ | ⟨k, cap, cur, hv, _⟩
    · rw [hv] at e; cases e
    · rw [hv] at e
      injection e with e1 e2 e3
      injection e1 with e1
      subst e1
      obtain ⟨y, hy⟩ := get_some vs j (by have := h2.1; omega)
      have hc := h2.cells (g := k) (by rw [hv]; rfl) j y hy
      rw [hx] at hc
      injection hc with hc
      subst hc
      exact h3 x (List.mem_of_getElem? hy)
theorem fresh_off {b : Nat} {g : Option Nat} {B : Nat} (hX : ∀ k, b < k → X k) (hb : b < B) (hg : ∀ k, g = some k → k < B) : Fresh (Off X b g) B := fun x hx ad n c e _ => by
  have := hx ad n c e
  refine ⟨by omega, fun y => ?_, hX _ (by omega)⟩
  have := hg _ y.symm
  omega
/-- events whose parameters lie elsewhere -/
def QEx (X : Nat → Prop) (b : Nat) (g : Option Nat) (w : World) (xs : List EQ) : Prop := ∀ x ∈ xs, RLx X b g w (.slice x.A x.n x.c) x.e.ps
theorem QEx.frm {b : Nat} {g g' : Option Nat} {w w' : World} {xs : List EQ} (h : QEx X b g w xs) (hf : Frm b g g' w w') : QEx X b g' w' xs := fun x hx => (h x hx).frm hf
/-- a decoder's cells -/
def cD (p : PS) (u q v : Value) : List Value := [.int .i64 p.st, u, .int .u8 (p.pr.toNat : Int), .int .u8 (p.fi.toNat : Int), q, .string p.it, .string p.tx, .bool p.bad, v]
/-- a decoder at block b, with its events so far in block g -/
def Dec (X : Nat → Prop) (b : Nat) (g : Option Nat) (w : World) (p : PS) (l : List EV) : Prop :=
  ∃ u q v xs, Box w b (cD p u q v) ∧ OwnV w (b + 1) v xs ∧ xs.map (·.e) = l ∧ v.ownBlock = g ∧ RBx X b g w u p.utf ∧ RLx X b g w q p.ps ∧ QEx X b g w xs ∧ (∀ k, b < k → X k)
theorem OwnV.at {w w' : World} {base : Nat} {v : Value} {xs : List EQ} (h : OwnV w base v xs) (hb : ∀ k, v.ownBlock = some k → base ≤ k → k < w.heap.size → w'.heap[k]? = w.heap[k]?) : OwnV w' base v xs := by
  rcases h with ⟨h0, hv | ⟨k, cap, cur, hv, h1, hg, h2⟩⟩
  · exact ⟨h0, .inl hv⟩
  · exact ⟨h0, .inr ⟨k, cap, cur, hv, h1, (hb k (by rw [hv]; rfl) h1 (Array.getElem?_eq_some_iff.1 hg).1).trans hg, h2⟩⟩
theorem OwnV.blk {w : World} {base : Nat} {v : Value} {xs : List EQ} (h : OwnV w base v xs) : ∀ k, v.ownBlock = some k → base ≤ k ∧ k < w.heap.size := fun k hk => by
  rcases h with ⟨h0, ⟨hv, _⟩ | ⟨k', cap, cur, hv, h1, hg, h2⟩⟩
  · rw [hv] at hk; cases hk
  · rw [hv] at hk
    injection hk with hk
    subst hk
    exact ⟨h1, (Array.getElem?_eq_some_iff.1 hg).1⟩
/-- the decoder's own block has changed -/
theorem Dec.put {b : Nat} {g : Option Nat} {w w' : World} {p' : PS} {l : List EV} {u' q' v : Value} {xs : List EQ} (hX : ∀ k, b < k → X k) (hv : OwnV w (b + 1) v xs) (hl : xs.map (·.e) = l) (hg : v.ownBlock = g) (hxs : QEx X b g w xs)
    (hb : b < w.heap.size) (hgr : w.grownBy w' (some b)) (hx : Box w' b (cD p' u' q' v)) (hu : RBx X b g w u' p'.utf) (hq : RLx X b g w q' p'.ps) : Dec X b g w' p' l ∧ Frm b g g w w' := by
  have hf : Frm b g g w w' := Frm.of_set hgr (Nat.le_of_lt hb)
  exact ⟨⟨u', q', v, xs, hx, hv.at (fun k _ h1 h2 => hgr.block k h2 (by intro e; injection e with e; omega)), hl, hg, hu.frm hf, hq.frm hf, hxs.frm hf, hX⟩, hf⟩
/-- a call that leaves all old blocks alone -/
theorem Dec.below {b : Nat} {g : Option Nat} {w w' : World} {p : PS} {l : List EV} (h : Dec X b g w p l) (hb : Below w.heap.size w w') : Dec X b g w' p l := by
  obtain ⟨u, q, v, xs, hx, hv, hl, hg, hu, hq, hxs, hX⟩ := h
  have hf : Frm b g g w w' := Frm.of_below hb (Nat.le_of_lt hx.1)
  exact ⟨u, q, v, xs, hx.keep hb, hv.keep hb, hl, hg, hu.frm hf, hq.frm hf, hxs.frm hf, hX⟩
/-- what a method of the decoder does -/
def Did (X : Nat → Prop) (b : Nat) (g : Option Nat) (w : World) (r : PS × List EV) (l : List EV) (e : Ending) (w' : World) : Prop := e = .returned (.tuple #[]) ∧ ∃ g', Dec X b g' w' r.1 (l ++ r.2) ∧ Frm b g g' w w'
end Go.Proofs.YtmboekpomjgnnaaGreatDoor.Sta

namespace Go.Proofs.YtmboekpomjgnnaaGreatDoor.Sta
open Go.RowKit Utf Par

theorem below_set8 {B : Nat} {a w : World} (b : Nat) (x0 x1 x2 x3 x4 x5 x6 x7 : Value) (h : Below B a w) (hb : B ≤ b) : Below B a ((((((((w.setCell ⟨b, 0, none⟩ x0).setCell ⟨b, 1, none⟩ x1).setCell ⟨b, 2, none⟩ x2).setCell ⟨b, 3, none⟩ x3).setCell ⟨b, 4, none⟩ x4).setCell ⟨b, 5, none⟩ x5).setCell ⟨b, 6, none⟩ x6).setCell ⟨b, 7, none⟩ x7) :=
  ((((((((h.setCell (p := ⟨b, 0, none⟩) hb _).setCell (p := ⟨b, 1, none⟩) hb _).setCell (p := ⟨b, 2, none⟩) hb _).setCell (p := ⟨b, 3, none⟩) hb _).setCell (p := ⟨b, 4, none⟩) hb _).setCell (p := ⟨b, 5, none⟩) hb _).setCell (p := ⟨b, 6, none⟩) hb _).setCell (p := ⟨b, 7, none⟩) hb _)
theorem below_set8a {B : Nat} {a w : World} (b : Nat) (x0 x1 x2 x3 x4 x5 x6 x7 : Value) (o : Obj) (h : Below B a w) (hb : B ≤ b) (ha : B ≤ a.heap.size) : Below B a (((((((((w.setCell ⟨b, 0, none⟩ x0).setCell ⟨b, 1, none⟩ x1).setCell ⟨b, 2, none⟩ x2).setCell ⟨b, 3, none⟩ x3).setCell ⟨b, 4, none⟩ x4).setCell ⟨b, 5, none⟩ x5).setCell ⟨b, 6, none⟩ x6).setCell ⟨b, 7, none⟩ x7).alloc o) :=
  (below_set8 b x0 x1 x2 x3 x4 x5 x6 x7 h hb).alloc (Nat.le_trans ha (below_set8 b x0 x1 x2 x3 x4 x5 x6 x7 h hb).size) o
theorem box_set8 {w : World} {b : Nat} {y0 y1 y2 y3 y4 y5 y6 y7 : Value} (x0 x1 x2 x3 x4 x5 x6 x7 : Value) (h : Box w b [y0, y1, y2, y3, y4, y5, y6, y7]) : Box ((((((((w.setCell ⟨b, 0, none⟩ x0).setCell ⟨b, 1, none⟩ x1).setCell ⟨b, 2, none⟩ x2).setCell ⟨b, 3, none⟩ x3).setCell ⟨b, 4, none⟩ x4).setCell ⟨b, 5, none⟩ x5).setCell ⟨b, 6, none⟩ x6).setCell ⟨b, 7, none⟩ x7) b [x0, x1, x2, x3, x4, x5, x6, x7] :=
  (((((((h.set 0 x0).set 1 x1).set 2 x2).set 3 x3).set 4 x4).set 5 x5).set 6 x6).set 7 x7
theorem grown_set8 (w : World) (b : Nat) (x0 x1 x2 x3 x4 x5 x6 x7 : Value) : w.grownBy ((((((((w.setCell ⟨b, 0, none⟩ x0).setCell ⟨b, 1, none⟩ x1).setCell ⟨b, 2, none⟩ x2).setCell ⟨b, 3, none⟩ x3).setCell ⟨b, 4, none⟩ x4).setCell ⟨b, 5, none⟩ x5).setCell ⟨b, 6, none⟩ x6).setCell ⟨b, 7, none⟩ x7) (some b) :=
  (((((((grown_set w b 0 x0).trans (grown_set _ b 1 x1)).trans (grown_set _ b 2 x2)).trans (grown_set _ b 3 x3)).trans (grown_set _ b 4 x4)).trans (grown_set _ b 5 x5)).trans (grown_set _ b 6 x6)).trans (grown_set _ b 7 x7)
theorem size_set8 (w : World) (b : Nat) (x0 x1 x2 x3 x4 x5 x6 x7 : Value) : ((((((((w.setCell ⟨b, 0, none⟩ x0).setCell ⟨b, 1, none⟩ x1).setCell ⟨b, 2, none⟩ x2).setCell ⟨b, 3, none⟩ x3).setCell ⟨b, 4, none⟩ x4).setCell ⟨b, 5, none⟩ x5).setCell ⟨b, 6, none⟩ x6).setCell ⟨b, 7, none⟩ x7).heap.size = w.heap.size := by simp
theorem RdE.grown {w w' : World} {b R : Nat} {xs : List EQ} (h : RdE w (some ⟨b, 0, none⟩) xs) (hg : w.grownBy w' (some R)) (hne : b ≠ R) : RdE w' (some ⟨b, 0, none⟩) xs := fun j p hp => by
  obtain ⟨b', o, hA, hlt, hr⟩ := h j p hp
  cases hA
  exact ⟨b, 0, rfl, Nat.lt_of_lt_of_le hlt hg.size, fun i v hv => (World.cell?_of_block (a := ⟨b, 0 + j * 7 + i, none⟩) (hg.block b hlt (by simpa using hne))).trans (hr i v hv)⟩
theorem RV.mk1 {W : World} {b : Nat} {e : EV} {A : Option Addr} {n c : Nat} (h : RdE W (some ⟨b, 0, none⟩) [⟨e, A, n, c⟩]) (hq : RL W (.slice A n c) e.ps) : RV W (.slice (some ⟨b, 0, none⟩) 1 1) [e] :=
  ⟨_, 1, [⟨e, A, n, c⟩], rfl, Nat.le_refl _, by decide, rfl, h, fun x hx => by
    obtain rfl : x = ⟨e, A, n, c⟩ := by simpa using hx
    exact hq⟩
theorem RdE.at {w' W : World} {b : Nat} {xs : List EQ} (h : RdE w' (some ⟨b, 0, none⟩) xs) (hl : b < w'.heap.size) (hb : W.heap[b]? = w'.heap[b]?) : RdE W (some ⟨b, 0, none⟩) xs := fun j p hp => by
  obtain ⟨b', o, hA, _, hr⟩ := h j p hp
  cases hA
  have hlt : b < W.heap.size := by
    have : (W.heap[b]?).isSome := by rw [hb]; simp [hl]
    simpa using this
  exact ⟨b, 0, rfl, hlt, fun i v hv => (World.cell?_of_block (a := ⟨b, 0 + j * 7 + i, none⟩) hb).trans (hr i v hv)⟩
/-- what told hands back: the initial state, and events -/
def Told (l : List EV) (w0 w : World) (e : Ending) (w' : World) : Prop := ∃ v, e = .returned (.tuple #[.agg #[.int .i64 0, .slice none 0 0, .int .u8 0, .int .u8 0, .slice none 0 0, .string ⟨#[]⟩, .string ⟨#[]⟩, .bool false], v]) ∧ (∀ W, Agr w0 w w' W → RV W v l) ∧ Below w.heap.size w w'
set_option maxRecDepth 100000 in
set_option maxHeartbeats 8000000 in
theorem told_is (p : PS) (e : EV) (au aq ae : Option Addr) (nu cu nq cq ne ce : Nat) (w0 w : World) (he : RL w0 (.slice ae ne ce) e.ps) :
    Calls Tryz.prog 71 #[.agg (cS p (.slice au nu cu) (.slice aq nq cq)), .agg (cE ⟨e, ae, ne, ce⟩).toArray] w (Told (tolS p e).2 w0 w) := by
  obtain ⟨st, utf, pr, fi, pp, it, tx, bad⟩ := p
  obtain ⟨k, c, epr, efi, eps, eit, etx⟩ := e
  have HE := Lib.hid he; clear he
  unfold cS cE
  dsimp only at *
  generalize pr.toNat = x
  generalize fi.toNat = y
  obtain ⟨x', hx'⟩ : ∃ x', x' = epr.toNat := ⟨_, rfl⟩
  obtain ⟨y', hy'⟩ : ∃ y', y' = efi.toNat := ⟨_, rfl⟩
  rw [← hx', ← hy']
  have HX' := Lib.hid hx'
  have HY' := Lib.hid hy'
  clear hx' hy'
  have hb1 : Below w.heap.size w (((w.alloc (.cells #[.int .i64 st, .slice au nu cu, .int .u8 (x : Int), .int .u8 (y : Int), .slice aq nq cq, .string it, .string tx, .bool bad] 25)).alloc (.cells #[.int .i64 k, .int .i64 c, .int .u8 (x' : Int), .int .u8 (y' : Int), .slice ae ne ce, .string eit, .string etx] 27)).alloc (.cells #[.int .i64 0, .slice none 0 0, .int .u8 0, .int .u8 0, .slice none 0 0, .string ⟨#[]⟩, .string ⟨#[]⟩, .bool false] 25)) := up (up (below_box _ _) (below_box _ _)) (below_box _ _)
  have he1 := (Box.new (w.alloc (.cells #[.int .i64 st, .slice au nu cu, .int .u8 (x : Int), .int .u8 (y : Int), .slice aq nq cq, .string it, .string tx, .bool bad] 25)) #[.int .i64 k, .int .i64 c, .int .u8 (x' : Int), .int .u8 (y' : Int), .slice ae ne ce, .string eit, .string etx] 27).alloc (.cells #[.int .i64 0, .slice none 0 0, .int .u8 0, .int .u8 0, .slice none 0 0, .string ⟨#[]⟩, .string ⟨#[]⟩, .bool false] 25)
  have hp1 := ((Box.new w #[.int .i64 st, .slice au nu cu, .int .u8 (x : Int), .int .u8 (y : Int), .slice aq nq cq, .string it, .string tx, .bool bad] 25).alloc (.cells #[.int .i64 k, .int .i64 c, .int .u8 (x' : Int), .int .u8 (y' : Int), .slice ae ne ce, .string eit, .string etx] 27)).alloc (.cells #[.int .i64 0, .slice none 0 0, .int .u8 0, .int .u8 0, .slice none 0 0, .string ⟨#[]⟩, .string ⟨#[]⟩, .bool false] 25)
  have hr1 := Box.new ((w.alloc (.cells #[.int .i64 st, .slice au nu cu, .int .u8 (x : Int), .int .u8 (y : Int), .slice aq nq cq, .string it, .string tx, .bool bad] 25)).alloc (.cells #[.int .i64 k, .int .i64 c, .int .u8 (x' : Int), .int .u8 (y' : Int), .slice ae ne ce, .string eit, .string etx] 27)) #[.int .i64 0, .slice none 0 0, .int .u8 0, .int .u8 0, .slice none 0 0, .string ⟨#[]⟩, .string ⟨#[]⟩, .bool false] 25
  rw [World.size_alloc] at he1
  rw [World.size_alloc, World.size_alloc] at hr1
  go_enter Tryz.func71, Tryz.ntmps71
  go_upto_region 1 with fail
  generalize (((w.alloc (.cells #[.int .i64 st, .slice au nu cu, .int .u8 (x : Int), .int .u8 (y : Int), .slice aq nq cq, .string it, .string tx, .bool bad] 25)).alloc (.cells #[.int .i64 k, .int .i64 c, .int .u8 (x' : Int), .int .u8 (y' : Int), .slice ae ne ce, .string eit, .string etx] 27)).alloc (.cells #[.int .i64 0, .slice none 0 0, .int .u8 0, .int .u8 0, .slice none 0 0, .string ⟨#[]⟩, .string ⟨#[]⟩, .bool false] 25)) = w1 at hb1 he1 hp1 hr1 ⊢
  have hs : w.heap.size ≤ w.heap.size + 1 + 1 := by omega
  obtain ⟨P, hP⟩ : ∃ P, P = w.heap.size := ⟨_, rfl⟩
  obtain ⟨E, hE⟩ : ∃ E, E = w.heap.size + 1 := ⟨_, rfl⟩
  obtain ⟨R, hR⟩ : ∃ R, R = w.heap.size + 1 + 1 := ⟨_, rfl⟩
  rw [← hR] at hr1 hs ⊢
  rw [← hE] at he1 ⊢
  rw [← hP] at hp1 ⊢
  have n1 : E < R := by omega
  have HS := Lib.hid hs
  have HB := Lib.hid hb1
  have HR1 := Lib.hid hr1
  have p7 := hp1.cell 7 _ rfl
  have hER : E ≠ R := by omega
  cases bad with
  | true =>
    clear hE hR hP he1 hp1 hb1 hr1
    go_wp2_with (go_at_call 52; refine (begin_any _ _).mono ?_; rintro e w3 ⟨rfl, hb3⟩; have hx3 := HR1.out.keep hb3; obtain ⟨z0, v0, z1, v1, z2, v2, z3, v3, z4, v4, z5, v5, z6, v6, z7, v7⟩ := cf8 hx3; have HX3 := Lib.hid hx3; clear hx3)
    refine bodyPost_ret (ret_cell rfl _ _ ⟨R, 0, none⟩ _ rfl (load_par8 _ _ _ _ _ _ _ _ _ _ (box_set8 _ _ _ _ _ _ _ _ HX3.out))) rfl ?_
    exact ⟨_, rfl, fun W _ => RV.nil _, below_set8 _ _ _ _ _ _ _ _ _ (up HB.out hb3) HS.out⟩
  | false =>
    have HK := Lib.hid (show ∀ W, Below R w1 W → (W.cell? ⟨E, 0, none⟩ = some (.int .i64 k) ∧ W.cell? ⟨E, 1, none⟩ = some (.int .i64 c) ∧ W.cell? ⟨E, 2, none⟩ = some (.int .u8 (x' : Int)) ∧ W.cell? ⟨E, 3, none⟩ = some (.int .u8 (y' : Int)) ∧ W.cell? ⟨E, 4, none⟩ = some (.slice ae ne ce) ∧ W.cell? ⟨E, 5, none⟩ = some (.string eit) ∧ W.cell? ⟨E, 6, none⟩ = some (.string etx)) ∧ Below R w1 W from fun W hW => ⟨⟨(he1.below hW n1).cell 0 _ rfl, (he1.below hW n1).cell 1 _ rfl, (he1.below hW n1).cell 2 _ rfl, (he1.below hW n1).cell 3 _ rfl, (he1.below hW n1).cell 4 _ rfl, (he1.below hW n1).cell 5 _ rfl, (he1.below hW n1).cell 6 _ rfl⟩, hW⟩)
    have hsz : R ≤ w1.heap.size := by have := hr1.1; omega
    have D : Below R w1 w1.drew := (Below.refl R w1).drew
    have hszd : R ≤ w1.drew.heap.size := Nat.le_trans hsz D.size
    clear hE hR hP he1 hp1 hb1 hr1
    go_wp2_with fail
    go_region_held3 (fun W => (W.cell? ⟨E, 0, none⟩ = some (.int .i64 k) ∧ W.cell? ⟨E, 1, none⟩ = some (.int .i64 c) ∧ W.cell? ⟨E, 2, none⟩ = some (.int .u8 (x' : Int)) ∧ W.cell? ⟨E, 3, none⟩ = some (.int .u8 (y' : Int)) ∧ W.cell? ⟨E, 4, none⟩ = some (.slice ae ne ce) ∧ W.cell? ⟨E, 5, none⟩ = some (.string eit) ∧ W.cell? ⟨E, 6, none⟩ = some (.string etx)) ∧ Below R w1 W)
      (first
        | with_reducible exact HK.out _ D
        | with_reducible exact HK.out _ ((Below.alloc (Below.refl R w1) hsz _).drew)
        | with_reducible exact HK.out _ f3
        | with_reducible exact HK.out _ (Below.alloc f3 (Nat.le_trans hsz f3.size) _)
        | with_reducible exact HK.out _ (below_set8 _ _ _ _ _ _ _ _ _ f3 (Nat.le_refl _))
        | with_reducible exact HK.out _ (below_set8 _ _ _ _ _ _ _ _ _ (Below.alloc f3 (Nat.le_trans hsz f3.size) _) (Nat.le_refl _))
        | with_reducible exact HK.out _ (below_set8a _ _ _ _ _ _ _ _ _ _ f3 (Nat.le_refl _) hsz)
        | with_reducible assumption)
      (first
        | (go_at_call 52; refine (begin_any _ _).mono ?_; rintro e w3 ⟨rfl, hb3⟩; have hx3 : Box w3 R _ := (by first | with_reducible exact HR1.out.drew.keep hb3 | with_reducible exact (HR1.out.alloc _).drew.keep hb3); have f3 : Below R w1 w3 := (by first | with_reducible exact D.trans (hb3.mono hszd) | with_reducible exact ((Below.alloc (Below.refl R w1) hsz _).drew).trans (hb3.mono (Nat.le_trans hsz ((Below.alloc (Below.refl R w1) hsz _).drew).size))); obtain ⟨z0, v0, z1, v1, z2, v2, z3, v3, z4, v4, z5, v5, z6, v6, z7, v7⟩ := cf8 hx3; have l3 := hx3.1; have HX3 := Lib.hid hx3; clear hx3))
    · have b8 := box_set8 (.int .i64 0) (.slice none 0 0) (.int .u8 0) (.int .u8 0) (.slice none 0 0) (.string ⟨#[]⟩) (.string ⟨#[]⟩) (.bool false) HX3.out
      have z8 := size_set8 w3 R (.int .i64 0) (.slice none 0 0) (.int .u8 0) (.int .u8 0) (.slice none 0 0) (.string ⟨#[]⟩) (.string ⟨#[]⟩) (.bool false)
      have d8 := below_set8 R (.int .i64 0) (.slice none 0 0) (.int .u8 0) (.int .u8 0) (.slice none 0 0) (.string ⟨#[]⟩) (.string ⟨#[]⟩) (.bool false) (HB.out.trans (f3.mono HS.out)) HS.out
      generalize ((((((((w3.setCell ⟨R, 0, none⟩ (.int .i64 0)).setCell ⟨R, 1, none⟩ (.slice none 0 0)).setCell ⟨R, 2, none⟩ (.int .u8 0)).setCell ⟨R, 3, none⟩ (.int .u8 0)).setCell ⟨R, 4, none⟩ (.slice none 0 0)).setCell ⟨R, 5, none⟩ (.string ⟨#[]⟩)).setCell ⟨R, 6, none⟩ (.string ⟨#[]⟩)).setCell ⟨R, 7, none⟩ (.bool false)) = W8 at b8 z8 d8 ⊢
      rw [← z8]
      obtain rfl := HX'.out
      obtain rfl := HY'.out
      have B8 := Lib.hid b8
      have D8 := Lib.hid d8
      clear z8 b8 d8
      go_wp2
      refine bodyPost_ret (ret_cell rfl _ _ ⟨R, 0, none⟩ _ rfl (load_par8 _ _ _ _ _ _ _ _ _ _ (B8.out.alloc _))) rfl ?_
      exact ⟨_, rfl, fun W hW => RV.mk1 ((RdE.one _ ⟨⟨k, c, epr, efi, eps, eit, etx⟩, ae, ne, ce⟩ _).at (by simp) (hW.2 _ D8.out.size (by simp))) (RL.keepP HE.out hW.1), D8.out.alloc D8.out.size _⟩
    · have b8 := box_set8 (.int .i64 0) (.slice none 0 0) (.int .u8 0) (.int .u8 0) (.slice none 0 0) (.string ⟨#[]⟩) (.string ⟨#[]⟩) (.bool false) HX3.out
      have z8 := size_set8 w3 R (.int .i64 0) (.slice none 0 0) (.int .u8 0) (.int .u8 0) (.slice none 0 0) (.string ⟨#[]⟩) (.string ⟨#[]⟩) (.bool false)
      have d8 := below_set8 R (.int .i64 0) (.slice none 0 0) (.int .u8 0) (.int .u8 0) (.slice none 0 0) (.string ⟨#[]⟩) (.string ⟨#[]⟩) (.bool false) (HB.out.trans (f3.mono HS.out)) HS.out
      generalize ((((((((w3.setCell ⟨R, 0, none⟩ (.int .i64 0)).setCell ⟨R, 1, none⟩ (.slice none 0 0)).setCell ⟨R, 2, none⟩ (.int .u8 0)).setCell ⟨R, 3, none⟩ (.int .u8 0)).setCell ⟨R, 4, none⟩ (.slice none 0 0)).setCell ⟨R, 5, none⟩ (.string ⟨#[]⟩)).setCell ⟨R, 6, none⟩ (.string ⟨#[]⟩)).setCell ⟨R, 7, none⟩ (.bool false)) = W8 at b8 z8 d8 ⊢
      rw [← z8]
      obtain rfl := HX'.out
      obtain rfl := HY'.out
      have B8 := Lib.hid b8
      have D8 := Lib.hid d8
      clear z8 b8 d8
      go_wp2
      refine bodyPost_ret (ret_cell rfl _ _ ⟨R, 0, none⟩ _ rfl (load_par8 _ _ _ _ _ _ _ _ _ _ (B8.out.alloc _))) rfl ?_
      exact ⟨_, rfl, fun W hW => RV.mk1 ((RdE.one _ ⟨⟨k, c, epr, efi, eps, eit, etx⟩, ae, ne, ce⟩ _).at (by simp) (hW.2 _ D8.out.size (by simp))) (RL.keepP HE.out hW.1), D8.out.alloc D8.out.size _⟩
    · have b8 := box_set8 (.int .i64 0) (.slice none 0 0) (.int .u8 0) (.int .u8 0) (.slice none 0 0) (.string ⟨#[]⟩) (.string ⟨#[]⟩) (.bool false) HX3.out
      have d8 := below_set8 R (.int .i64 0) (.slice none 0 0) (.int .u8 0) (.int .u8 0) (.slice none 0 0) (.string ⟨#[]⟩) (.string ⟨#[]⟩) (.bool false) (HB.out.trans (f3.mono HS.out)) HS.out
      have g8 := grown_set8 w3 R (.int .i64 0) (.slice none 0 0) (.int .u8 0) (.int .u8 0) (.slice none 0 0) (.string ⟨#[]⟩) (.string ⟨#[]⟩) (.bool false)
      obtain rfl := HX'.out
      obtain rfl := HY'.out
      have hrd := ((RdE.one w1 ⟨⟨k, c, epr, efi, eps, eit, etx⟩, ae, ne, ce⟩ 27).keep (up (Below.refl _ _).drew hb3)).grown g8 (by have := HR1.out.1; omega)
      generalize ((((((((w3.setCell ⟨R, 0, none⟩ (.int .i64 0)).setCell ⟨R, 1, none⟩ (.slice none 0 0)).setCell ⟨R, 2, none⟩ (.int .u8 0)).setCell ⟨R, 3, none⟩ (.int .u8 0)).setCell ⟨R, 4, none⟩ (.slice none 0 0)).setCell ⟨R, 5, none⟩ (.string ⟨#[]⟩)).setCell ⟨R, 6, none⟩ (.string ⟨#[]⟩)).setCell ⟨R, 7, none⟩ (.bool false)) = W8 at b8 g8 d8 hrd ⊢
      have B8 := Lib.hid b8
      have D8 := Lib.hid d8
      have HRD := Lib.hid hrd
      clear b8 g8 d8 hrd
      go_wp2
      refine bodyPost_ret (ret_cell rfl _ _ ⟨R, 0, none⟩ _ rfl (load_par8 _ _ _ _ _ _ _ _ _ _ B8.out)) rfl ?_
      have hlt : w1.heap.size < W8.heap.size := by
        obtain ⟨b', o', hA, hl, _⟩ := HRD.out 0 _ rfl
        cases hA
        exact hl
      exact ⟨_, rfl, fun W hW => RV.mk1 (HRD.out.at hlt (hW.2 _ HB.out.size hlt)) (RL.keepP HE.out hW.1), D8.out⟩
theorem tolS_fst (p : PS) (e : EV) : (tolS p e).1 = begS 0 := by unfold tolS; split <;> rfl
theorem told_any (p : PS) (e : EV) (au aq ae : Option Addr) (nu cu nq cq ne ce : Nat) (w0 w : World) (he : RL w0 (.slice ae ne ce) e.ps) :
    Calls Tryz.prog 71 #[.agg (cS p (.slice au nu cu) (.slice aq nq cq)), .agg (cE ⟨e, ae, ne, ce⟩).toArray] w (Ret2 (tolS p e) w0 w) := by
  refine (told_is p e au aq ae nu cu nq cq ne ce w0 w he).mono ?_
  rintro r w' ⟨v, rfl, h1, h2⟩
  refine ⟨.slice none 0 0, .slice none 0 0, v, ?_, fun W hW => ⟨?_, h1 W hW⟩, h2⟩
  · rw [tolS_fst]; rfl
  · rw [tolS_fst]; exact RS.nil _ _ rfl rfl
end Go.Proofs.YtmboekpomjgnnaaGreatDoor.Sta

namespace Go.Proofs.YtmboekpomjgnnaaGreatDoor.Sta
open Go.RowKit Utf Par
variable {X : Nat → Prop}

theorem isSign_any (b : UInt8) (w : World) : Calls Tryz.prog 39 #[.int .u8 (b.toNat : Int)] w fun e w' => e = .returned (.bool (signB b)) ∧ w = w' := by
  have hb : signB b = (decide ((32 : Int) ≤ (b.toNat : Int)) && decide ((b.toNat : Int) ≤ 47)) := by
    unfold signB
    rw [show decide ((32 : Int) ≤ (b.toNat : Int)) = decide (32 ≤ b.toNat) from decide_eq_decide.2 (by omega), show decide ((b.toNat : Int) ≤ 47) = decide (b.toNat ≤ 47) from decide_eq_decide.2 (by omega)]
  rw [hb]
  clear hb
  go_enter Tryz.func39, Tryz.ntmps39
  go_wp2
  all_goals
    go_ret
    refine ⟨?_, rfl⟩
    first
      | (simp_all; done)
      | (simp_all; omega)
theorem isPrivate_any (b : UInt8) (w : World) : Calls Tryz.prog 36 #[.int .u8 (b.toNat : Int)] w fun e w' => e = .returned (.bool (privB b)) ∧ w = w' := by
  have hb : privB b = (decide ((60 : Int) ≤ (b.toNat : Int)) && decide ((b.toNat : Int) ≤ 63)) := by
    unfold privB
    rw [show decide ((60 : Int) ≤ (b.toNat : Int)) = decide (60 ≤ b.toNat) from decide_eq_decide.2 (by omega), show decide ((b.toNat : Int) ≤ 63) = decide (b.toNat ≤ 63) from decide_eq_decide.2 (by omega)]
  rw [hb]
  clear hb
  go_enter Tryz.func36, Tryz.ntmps36
  go_wp2
  all_goals
    go_ret
    refine ⟨?_, rfl⟩
    first
      | (simp_all; done)
      | (simp_all; omega)
theorem isFinal_any (b : UInt8) (w : World) : Calls Tryz.prog 40 #[.int .u8 (b.toNat : Int)] w fun e w' => e = .returned (.bool (finlB b)) ∧ w = w' := by
  have hb : finlB b = (decide ((64 : Int) ≤ (b.toNat : Int)) && decide ((b.toNat : Int) < 127)) := by
    unfold finlB
    rw [show decide ((64 : Int) ≤ (b.toNat : Int)) = decide (64 ≤ b.toNat) from decide_eq_decide.2 (by omega), show decide ((b.toNat : Int) < 127) = decide (b.toNat < 127) from decide_eq_decide.2 (by omega)]
  rw [hb]
  clear hb
  go_enter Tryz.func40, Tryz.ntmps40
  go_wp2
  all_goals
    go_ret
    refine ⟨?_, rfl⟩
    first
      | (simp_all; done)
      | (simp_all; omega)
theorem isPrintable_any (b : UInt8) (w : World) : Calls Tryz.prog 60 #[.int .u8 (b.toNat : Int)] w fun e w' => e = .returned (.bool (prnbB b)) ∧ w = w' := by
  have hb : prnbB b = (decide ((32 : Int) ≤ (b.toNat : Int)) && decide ((b.toNat : Int) < 127)) := by
    unfold prnbB
    rw [show decide ((32 : Int) ≤ (b.toNat : Int)) = decide (32 ≤ b.toNat) from decide_eq_decide.2 (by omega), show decide ((b.toNat : Int) < 127) = decide (b.toNat < 127) from decide_eq_decide.2 (by omega)]
  rw [hb]
  clear hb
  go_enter Tryz.func60, Tryz.ntmps60
  go_wp2
  all_goals
    go_ret
    refine ⟨?_, rfl⟩
    first
      | (simp_all; done)
      | (simp_all; omega)
theorem isText_any (b : UInt8) (w : World) : Calls Tryz.prog 41 #[.int .u8 (b.toNat : Int)] w fun e w' => e = .returned (.bool (textB b)) ∧ w = w' := by
  have hb : textB b = (decide ((32 : Int) ≤ (b.toNat : Int)) && ((b.toNat : Int) != 127)) := by
    unfold textB
    rw [show decide ((32 : Int) ≤ (b.toNat : Int)) = decide (32 ≤ b.toNat) from decide_eq_decide.2 (by omega)]
    by_cases h : b.toNat = 127
    · have : ((b.toNat : Int) != 127) = false := by simp; omega
      rw [this, decide_eq_true h]; simp
    · have : ((b.toNat : Int) != 127) = true := by simp; omega
      rw [this, decide_eq_false h]; simp
  rw [hb]
  clear hb
  go_enter Tryz.func41, Tryz.ntmps41
  go_wp2
  all_goals
    go_ret
    refine ⟨?_, rfl⟩
    first
      | (simp_all; done)
      | (simp_all; omega)
theorem Did.of {b : Nat} {g : Option Nat} {w w' : World} {p' : PS} {l : List EV} (h : Dec X b g w' p' l ∧ Frm b g g w w') : Did X b g w (p', []) l (.returned (.tuple #[])) w' :=
  ⟨rfl, g, by rw [List.append_nil]; exact h.1, h.2⟩
/-- the cells of a decoder, all nine -/
theorem Box.all8 {w : World} {b : Nat} {x0 x1 x2 x3 x4 x5 x6 x7 v : Value} (y0 y1 y2 y3 y4 y5 y6 y7 : Value) (h : Box w b [x0, x1, x2, x3, x4, x5, x6, x7, v]) : Box ((((((((w.setCell ⟨b, 0, none⟩ y0).setCell ⟨b, 1, none⟩ y1).setCell ⟨b, 2, none⟩ y2).setCell ⟨b, 3, none⟩ y3).setCell ⟨b, 4, none⟩ y4).setCell ⟨b, 5, none⟩ y5).setCell ⟨b, 6, none⟩ y6).setCell ⟨b, 7, none⟩ y7) b [y0, y1, y2, y3, y4, y5, y6, y7, v] :=
  (((((((Box.set h 0 y0).set 1 y1).set 2 y2).set 3 y3).set 4 y4).set 5 y5).set 6 y6).set 7 y7
set_option maxRecDepth 100000 in
set_option maxHeartbeats 2000000 in
theorem enter_any (b : Nat) (g : Option Nat) (w : World) (p : PS) (l : List EV) (n : Int) (h : Dec X b g w p l) :
    Calls Tryz.prog 57 #[.pointer (some ⟨b, 0, none⟩), .int .i64 n] w (Did X b g w (begS n, []) l) := by
  obtain ⟨u, q, v, xs, hx, hv, hl, hg, hu, hq, hxs, hX⟩ := h
  have c0 := hx.cell 0 _ rfl
  have c1 := hx.cell 1 _ rfl
  have c2 := hx.cell 2 _ rfl
  have c3 := hx.cell 3 _ rfl
  have c4 := hx.cell 4 _ rfl
  have c5 := hx.cell 5 _ rfl
  have c6 := hx.cell 6 _ rfl
  have c7 := hx.cell 7 _ rfl
  have f0 := hx.free 0 (by show 0 < 9; decide)
  have f1 := hx.free 1 (by show 1 < 9; decide)
  have f2 := hx.free 2 (by show 2 < 9; decide)
  have f3 := hx.free 3 (by show 3 < 9; decide)
  have f4 := hx.free 4 (by show 4 < 9; decide)
  have f5 := hx.free 5 (by show 5 < 9; decide)
  have f6 := hx.free 6 (by show 6 < 9; decide)
  have f7 := hx.free 7 (by show 7 < 9; decide)
  have HX := Lib.hid hx
  have HL := Lib.hid hl
  have HG := Lib.hid hg
  have HV := Lib.hid hv
  have HXS := Lib.hid hxs
  have HXX := Lib.hid hX
  have HU := Lib.hid hu
  have HQ := Lib.hid hq
  clear hl hg hx hv hxs hu hq hX
  go_enter Tryz.func57, Tryz.ntmps57
  go_wp2
  go_end0
  exact Did.of (Dec.put HXX.out HV.out HL.out HG.out HXS.out HX.out.1 (grown_set8 _ _ _ _ _ _ _ _ _ _) (Box.all8 _ _ _ _ _ _ _ _ HX.out) (RBx.nil _ _ _) (RLx.nil _ _ _))
set_option maxRecDepth 100000 in
set_option maxHeartbeats 2000000 in
theorem spoil_any (b : Nat) (g : Option Nat) (w : World) (p : PS) (l : List EV) (h : Dec X b g w p l) :
    Calls Tryz.prog 63 #[.pointer (some ⟨b, 0, none⟩)] w (Did X b g w (spoS p.st, []) l) := by
  obtain ⟨u, q, v, xs, hx, hv, hl, hg, hu, hq, hxs, hX⟩ := h
  have c0 := hx.cell 0 _ rfl
  have c1 := hx.cell 1 _ rfl
  have c2 := hx.cell 2 _ rfl
  have c3 := hx.cell 3 _ rfl
  have c4 := hx.cell 4 _ rfl
  have c5 := hx.cell 5 _ rfl
  have c6 := hx.cell 6 _ rfl
  have c7 := hx.cell 7 _ rfl
  have f0 := hx.free 0 (by show 0 < 9; decide)
  have f1 := hx.free 1 (by show 1 < 9; decide)
  have f2 := hx.free 2 (by show 2 < 9; decide)
  have f3 := hx.free 3 (by show 3 < 9; decide)
  have f4 := hx.free 4 (by show 4 < 9; decide)
  have f5 := hx.free 5 (by show 5 < 9; decide)
  have f6 := hx.free 6 (by show 6 < 9; decide)
  have f7 := hx.free 7 (by show 7 < 9; decide)
  have HX := Lib.hid hx
  have HL := Lib.hid hl
  have HG := Lib.hid hg
  have HV := Lib.hid hv
  have HXS := Lib.hid hxs
  have HXX := Lib.hid hX
  have HU := Lib.hid hu
  have HQ := Lib.hid hq
  clear hl hg hx hv hxs hu hq hX
  go_enter Tryz.func63, Tryz.ntmps63
  go_wp2
  go_end0
  exact Did.of (Dec.put HXX.out HV.out HL.out HG.out HXS.out HX.out.1 (grown_set8 _ _ _ _ _ _ _ _ _ _) (Box.all8 _ _ _ _ _ _ _ _ HX.out) (RBx.nil _ _ _) (RLx.nil _ _ _))
end Go.Proofs.YtmboekpomjgnnaaGreatDoor.Sta

namespace Go.Proofs.YtmboekpomjgnnaaGreatDoor.Sta
open Go.RowKit Utf Par

def onlV (t : Bool) (n : Int) : Int := if t = true then n else 0
theorem only_any (t : Bool) (n : Int) (w : World) : Calls Tryz.prog 64 #[.bool t, .int .i64 n] w fun e w' => e = .returned (.int .i64 (onlV t n)) ∧ w = w' := by
  unfold onlV
  cases t
  all_goals
    go_enter Tryz.func64, Tryz.ntmps64
    go_wp2
    go_ret
    exact ⟨rfl, rfl⟩
def filN (a b c d e f : Bool) : Int := bits .or .i64 (bits .or .i64 (bits .or .i64 (bits .or .i64 (bits .or .i64 (onlV a 1) (onlV b 2)) (onlV c 4)) (onlV d 8)) (onlV e 16)) (onlV f 32)
theorem bne_zero (x : Nat) : (((x : Nat) : Int) != 0) = !decide (x = 0) := by
  by_cases h : x = 0
  · subst h; rfl
  · rw [decide_eq_false h]; simp; omega
theorem emp_sz (s : ByteArray) : s.toList.isEmpty = sz0 s := by
  rw [← str_eq0, nil_list]
  cases s.toList <;> rfl
set_option maxRecDepth 100000 in
set_option maxHeartbeats 8000000 in
theorem filled_any (st : Int) (au aq : Option Addr) (nu cu nq cq x y : Nat) (it tx : ByteArray) (bad : Bool) (w : World) :
    Calls Tryz.prog 33 #[.agg #[.int .i64 st, .slice au nu cu, .int .u8 (x : Int), .int .u8 (y : Int), .slice aq nq cq, .string it, .string tx, .bool bad]] w fun e w' => e = .returned (.int .i64 (filN (decide (0 < nu)) (!decide (x = 0)) (decide (0 < nq)) (!sz0 it) (!decide (y = 0)) (!sz0 tx))) ∧ Below w.heap.size w w' := by
  rw [← emp_sz, ← emp_sz, ← bne_zero, ← bne_zero]
  go_enter Tryz.func33, Tryz.ntmps33
  go_wp2_with fail
  go_quiet ((go_at_call 64; exact (only_any _ _ _).mono fun _ _ ⟨he, hm⟩ => ⟨he, _, hm.symm⟩))
  go_wp2
  go_ret
  exact ⟨rfl, below_drewN' (below_box _ _) _⟩
/-- what has led to a state is there -/
def whoB (st : Int) (i b q f : Bool) : Bool :=
  if st = 2 ∨ st = 5 ∨ st = 10 then i else if st = 4 ∨ st = 9 then b || q else if st = 11 ∨ st = 12 then f else true
set_option maxRecDepth 100000 in
set_option maxHeartbeats 8000000 in
theorem whole_any (st : Int) (au aq : Option Addr) (nu cu nq cq x y : Nat) (it tx : ByteArray) (bad : Bool) (w : World) :
    Calls Tryz.prog 34 #[.agg #[.int .i64 st, .slice au nu cu, .int .u8 (x : Int), .int .u8 (y : Int), .slice aq nq cq, .string it, .string tx, .bool bad]] w fun e w' => e = .returned (.bool (whoB st (!sz0 it) (!decide (x = 0)) (decide (0 < nq)) (!decide (y = 0)))) ∧ Below w.heap.size w w' := by
  rw [← emp_sz, ← bne_zero, ← bne_zero]
  by_cases h1 : st = 2 ∨ st = 5 ∨ st = 10
  · rw [show ∀ i b q f, whoB st i b q f = i from fun i b q f => by unfold whoB; rw [if_pos h1]]
    rcases h1 with h | h | h
    all_goals
      subst h
      go_enter Tryz.func34, Tryz.ntmps34
      go_wp2
      go_ret
      exact ⟨rfl, below_box _ _⟩
  · have k1 : (st == 2) = false := by simp; omega
    have k2 : (st == 5) = false := by simp; omega
    have k3 : (st == 10) = false := by simp; omega
    by_cases h2 : st = 4 ∨ st = 9
    · rw [show ∀ i b q f, whoB st i b q f = (b || q) from fun i b q f => by unfold whoB; rw [if_neg h1, if_pos h2]]
      clear h1
      rcases h2 with h | h
      all_goals
        subst h
        clear k1 k2 k3
        go_enter Tryz.func34, Tryz.ntmps34
        go_wp2
        all_goals
          go_ret
          refine ⟨?_, below_box _ _⟩
          first
            | (simp_all; done)
            | (simp_all; omega)
    · have k4 : (st == 4) = false := by simp; omega
      have k5 : (st == 9) = false := by simp; omega
      by_cases h3 : st = 11 ∨ st = 12
      · rw [show ∀ i b q f, whoB st i b q f = f from fun i b q f => by unfold whoB; rw [if_neg h1, if_neg h2, if_pos h3]]
        clear h1 h2
        rcases h3 with h | h
        all_goals
          subst h
          clear k1 k2 k3 k4 k5
          go_enter Tryz.func34, Tryz.ntmps34
          go_wp2
          go_ret
          exact ⟨rfl, below_box _ _⟩
      · have k6 : (st == 11) = false := by simp; omega
        have k7 : (st == 12) = false := by simp; omega
        rw [show ∀ i b q f, whoB st i b q f = true from fun i b q f => by unfold whoB; rw [if_neg h1, if_neg h2, if_neg h3]]
        clear h1 h2 h3
        go_enter Tryz.func34, Tryz.ntmps34
        go_wp2
        go_ret
        exact ⟨rfl, below_box _ _⟩
def allB (P : UInt8 → Bool) (s : ByteArray) : Bool := s.data.toList.all P
theorem all_take' {α : Type} (p : α → Bool) (l : List α) (k : Nat) (x : α) (h : l[k]? = some x) : (l.take (k + 1)).all p = ((l.take k).all p && p x) := by
  rw [List.take_add_one, h]; simp
theorem all_miss' {α : Type} (p : α → Bool) (l : List α) (k : Nat) (x : α) (h : l[k]? = some x) (hp : p x = false) : l.all p = false := by
  rw [List.all_eq_false]
  exact ⟨x, List.mem_of_getElem? h, by simp [hp]⟩
set_option maxRecDepth 100000 in
set_option maxHeartbeats 2000000 in
theorem all_isSign (s : ByteArray) (w : World) (hs : s.size ≤ 1000000) :
    Calls Tryz.prog 38 #[.string s, .func (.func 39) #[] #[]] w fun e w' => e = .returned (.bool (allB signB s)) ∧ w = w' := by
  have hlen : s.data.toList.length = s.size := by simp
  have HL := Lib.hid hlen; clear hlen
  go_enter Tryz.func38, Tryz.ntmps38
  go_wp2
  go_loop [8] (fun i => ∃ k : Nat, k ≤ s.size ∧ i = .int .i64 k ∧ Hid ((s.data.toList.take k).all signB = true)) (fun i => s.size - (intOf i).toNat)
  case atStart => exact ⟨0, Nat.zero_le _, rfl, Lib.hid (by simp)⟩
  case round =>
    obtain ⟨k, hk, rfl, hid⟩ := hrel
    by_cases hlt : k < s.size
    · obtain ⟨c, hc⟩ := get_some s.data.toList k (by rw [HL.out]; exact hlt)
      have at1 := fun W => at_str s k c hc W
      have Hc := Lib.hid hc; clear hc
      have i1 : (0 : Int) ≤ (k : Int) := by omega
      have i2 : (k : Int) < (s.size : Int) := by omega
      obtain ⟨t, ht⟩ : ∃ t, signB c = t := ⟨_, rfl⟩
      have HT := Lib.hid ht
      clear ht
      cases t
      · go_wp2_with (go_at_call 39; refine (isSign_any c _).mono ?_; rintro e w1 ⟨rfl, rfl⟩; rw [HT.out])
        go_ret
        refine ⟨?_, rfl⟩
        rw [show allB signB s = false from all_miss' signB _ k c Hc.out HT.out]
        rfl
      · go_wp2_with (go_at_call 39; refine (isSign_any c _).mono ?_; rintro e w1 ⟨rfl, rfl⟩; rw [HT.out])
        go_round
        case rel => exact ⟨k + 1, by omega, by go_num, by rw [all_take' signB _ k c Hc.out, hid.out, HT.out]; rfl⟩
        case measure => simp [intOf]; omega
    · have he := hid.out
      rw [List.take_of_length_le (by rw [HL.out]; omega)] at he
      have HE := Lib.hid he
      clear he
      go_wp2
      go_ret
      exact ⟨by rw [show allB signB s = true from HE.out]; rfl, rfl⟩
set_option maxRecDepth 100000 in
set_option maxHeartbeats 2000000 in
theorem all_isText (s : ByteArray) (w : World) (hs : s.size ≤ 1000000) :
    Calls Tryz.prog 38 #[.string s, .func (.func 41) #[] #[]] w fun e w' => e = .returned (.bool (allB textB s)) ∧ w = w' := by
  have hlen : s.data.toList.length = s.size := by simp
  have HL := Lib.hid hlen; clear hlen
  go_enter Tryz.func38, Tryz.ntmps38
  go_wp2
  go_loop [8] (fun i => ∃ k : Nat, k ≤ s.size ∧ i = .int .i64 k ∧ Hid ((s.data.toList.take k).all textB = true)) (fun i => s.size - (intOf i).toNat)
  case atStart => exact ⟨0, Nat.zero_le _, rfl, Lib.hid (by simp)⟩
  case round =>
    obtain ⟨k, hk, rfl, hid⟩ := hrel
    by_cases hlt : k < s.size
    · obtain ⟨c, hc⟩ := get_some s.data.toList k (by rw [HL.out]; exact hlt)
      have at1 := fun W => at_str s k c hc W
      have Hc := Lib.hid hc; clear hc
      have i1 : (0 : Int) ≤ (k : Int) := by omega
      have i2 : (k : Int) < (s.size : Int) := by omega
      obtain ⟨t, ht⟩ : ∃ t, textB c = t := ⟨_, rfl⟩
      have HT := Lib.hid ht
      clear ht
      cases t
      · go_wp2_with (go_at_call 41; refine (isText_any c _).mono ?_; rintro e w1 ⟨rfl, rfl⟩; rw [HT.out])
        go_ret
        refine ⟨?_, rfl⟩
        rw [show allB textB s = false from all_miss' textB _ k c Hc.out HT.out]
        rfl
      · go_wp2_with (go_at_call 41; refine (isText_any c _).mono ?_; rintro e w1 ⟨rfl, rfl⟩; rw [HT.out])
        go_round
        case rel => exact ⟨k + 1, by omega, by go_num, by rw [all_take' textB _ k c Hc.out, hid.out, HT.out]; rfl⟩
        case measure => simp [intOf]; omega
    · have he := hid.out
      rw [List.take_of_length_le (by rw [HL.out]; omega)] at he
      have HE := Lib.hid he
      clear he
      go_wp2
      go_ret
      exact ⟨by rw [show allB textB s = true from HE.out]; rfl, rfl⟩
end Go.Proofs.YtmboekpomjgnnaaGreatDoor.Sta

namespace Go.Proofs.YtmboekpomjgnnaaGreatDoor.Sta
open Go.RowKit Utf Par

theorem str_of (w : World) (A : Option Addr) (c : Nat) (l : List UInt8) (h : Rd w A (cB l)) : (convert 22 9 (.slice A l.length c)).run Tryz.prog w = .ok (.string ⟨l.toArray⟩) w := by
  cases A with
  | none =>
    have : l = [] := by
      cases l with
      | nil => rfl
      | cons x r =>
        obtain ⟨ad, e, _⟩ := h 0 (.int .u8 (x.toNat : Int)) rfl
        cases e
    subst this
    rw [show ([] : List UInt8).length = 0 from rfl, run_convert_bytes_string w 22 9 5 none 0 c Tryz.underlying22 Tryz.underlying5 Tryz.underlying9]
    rfl
  | some a =>
    refine run_convert_bytes_back w 22 9 5 a c l Tryz.underlying22 Tryz.underlying5 Tryz.underlying9 fun j hj => ?_
    obtain ⟨ad, e, _, hc⟩ := h j _ (cB_at l j l[j] (by simp [hj]))
    cases e
    exact hc
def eqB (a b : ByteArray) : Bool := decide (a = b)
theorem eqB_list (a b : ByteArray) : (a.toList == b.toList) = eqB a b := by
  unfold eqB
  by_cases h : a = b
  · rw [h, decide_eq_true rfl]; simp
  · rw [decide_eq_false h]
    have : a.toList ≠ b.toList := fun e => h (by
      rw [ByteArray.toList_eq, ByteArray.toList_eq] at e
      exact ByteArray.ext (Array.ext' e))
    simp [this]
theorem eqB_arr (a b : List UInt8) : eqB ⟨a.toArray⟩ ⟨b.toArray⟩ = decide (a = b) := by
  unfold eqB
  refine decide_eq_decide.2 ⟨fun h => ?_, fun h => by rw [h]⟩
  have := congrArg (fun s : ByteArray => s.data.toList) h
  simpa using this
def eqS (p q : PS) : Bool := decide (p.st = q.st) && (decide (p.utf = q.utf) && (decide (p.pr.toNat = q.pr.toNat) && (decide (p.fi.toNat = q.fi.toNat) && (decide (p.ps = q.ps) && (eqB p.it q.it && (eqB p.tx q.tx && (p.bad == q.bad)))))))
def eqE (p q : EV) : Bool := decide (p.k = q.k) && (decide (p.c = q.c) && (decide (p.pr.toNat = q.pr.toNat) && (decide (p.fi.toNat = q.fi.toNat) && (decide (p.ps = q.ps) && (eqB p.it q.it && eqB p.tx q.tx)))))
theorem eqS_iff (p q : PS) : eqS p q = true ↔ p = q := by
  constructor
  · intro h
    unfold eqS eqB at h
    simp only [Bool.and_eq_true, decide_eq_true_eq, beq_iff_eq] at h
    obtain ⟨h1, h2, h3, h4, h5, h6, h7, h8⟩ := h
    cases p; cases q
    simp only at *
    subst h1; subst h2; subst h5; subst h6; subst h7; subst h8
    rw [UInt8.toNat_inj.1 h3, UInt8.toNat_inj.1 h4]
  · rintro rfl
    simp [eqS, eqB]
theorem eqE_iff (p q : EV) : eqE p q = true ↔ p = q := by
  constructor
  · intro h
    unfold eqE eqB at h
    simp only [Bool.and_eq_true, decide_eq_true_eq] at h
    obtain ⟨h1, h2, h3, h4, h5, h6, h7⟩ := h
    cases p; cases q
    simp only at *
    subst h1; subst h2; subst h5; subst h6; subst h7
    rw [UInt8.toNat_inj.1 h3, UInt8.toNat_inj.1 h4]
  · rintro rfl
    simp [eqE, eqB]
/-- sizes of parameters that a comparison bears -/
def Kq (l : List (List Int)) : Prop := l.length ≤ 1000000 ∧ ∀ p ∈ l, p.length ≤ 1000000
/-- sizes of parameters whatever their row -/
def Kb (l : List (List Int)) : Prop := l.length ≤ 9223372036854775807 ∧ ∀ p ∈ l, p.length ≤ 9223372036854775807
theorem Kq.kb {l : List (List Int)} (h : Kq l) : Kb l := ⟨Nat.le_trans h.1 (by decide), fun p hp => Nat.le_trans (h.2 p hp) (by decide)⟩
theorem kb_rl {w : World} {v : Value} {l : List (List Int)} (h : RL w v l) : Kb l := by
  obtain ⟨A, c, vs, _, h1, h2, _, hl, _, h3⟩ := h
  have hm : maxLen = 9223372036854775807 := by decide
  refine ⟨by omega, fun p hp => ?_⟩
  obtain ⟨j, hj⟩ := List.getElem?_of_mem hp
  obtain ⟨x, hx⟩ := get_some vs j (by have := (List.getElem?_eq_some_iff.1 hj).1; omega)
  obtain ⟨A2, c2, _, g1, g2, _⟩ := h3 j x p hx hj
  omega
set_option maxRecDepth 100000 in
set_option maxHeartbeats 8000000 in
theorem ralike_any (p q : EV) (a1 a2 : Option Addr) (n1 n2 c1 c2 : Nat) (w : World) (h1 : RL w (.slice a1 n1 c1) p.ps) (h2 : RL w (.slice a2 n2 c2) q.ps) (k1 : Kb p.ps) (k2 : Kb q.ps) :
    Calls Tryz.prog 13 #[.agg (cE ⟨p, a1, n1, c1⟩).toArray, .agg (cE ⟨q, a2, n2, c2⟩).toArray] w fun e w' => e = .returned (.bool (eqE p q)) ∧ Below w.heap.size w w' := by
  have HS := fun W (hb : Below w.heap.size w W) => Lib.hid (rsame_big _ _ p.ps q.ps W (h1.keep hb) (h2.keep hb) k1.1 k1.2 k2.2)
  clear h1 h2 k1 k2
  obtain ⟨k, c, pr, fi, pp, it, tx⟩ := p
  obtain ⟨k', c', pr', fi', pp', it', tx'⟩ := q
  unfold cE eqE
  dsimp only at *
  have f5 := eqB_list it it'
  have f6 := eqB_list tx tx'
  generalize eqB it it' = b5 at f5 ⊢
  generalize eqB tx tx' = b6 at f6 ⊢
  generalize decide (pp = pp') = b4 at HS ⊢
  generalize pr.toNat = x
  generalize pr'.toNat = x'
  generalize fi.toNat = y
  generalize fi'.toNat = y'
  rw [show decide (x = x') = decide ((x : Int) = (x' : Int)) from decide_eq_decide.2 (by omega), show decide (y = y') = decide ((y : Int) = (y' : Int)) from decide_eq_decide.2 (by omega)]
  have hb1 : Below w.heap.size w ((w.alloc (.cells #[.int .i64 k, .int .i64 c, .int .u8 (x : Int), .int .u8 (y : Int), .slice a1 n1 c1, .string it, .string tx] 27)).alloc (.cells #[.int .i64 k', .int .i64 c', .int .u8 (x' : Int), .int .u8 (y' : Int), .slice a2 n2 c2, .string it', .string tx'] 27)) := up (below_box _ _) (below_box _ _)
  have hx := (Box.new w #[.int .i64 k, .int .i64 c, .int .u8 (x : Int), .int .u8 (y : Int), .slice a1 n1 c1, .string it, .string tx] 27).alloc (.cells #[.int .i64 k', .int .i64 c', .int .u8 (x' : Int), .int .u8 (y' : Int), .slice a2 n2 c2, .string it', .string tx'] 27)
  have hy := Box.new (w.alloc (.cells #[.int .i64 k, .int .i64 c, .int .u8 (x : Int), .int .u8 (y : Int), .slice a1 n1 c1, .string it, .string tx] 27)) #[.int .i64 k', .int .i64 c', .int .u8 (x' : Int), .int .u8 (y' : Int), .slice a2 n2 c2, .string it', .string tx'] 27
  rw [World.size_alloc] at hy
  go_enter Tryz.func13, Tryz.ntmps13
  go_upto_region 1 with fail
  generalize ((w.alloc (.cells #[.int .i64 k, .int .i64 c, .int .u8 (x : Int), .int .u8 (y : Int), .slice a1 n1 c1, .string it, .string tx] 27)).alloc (.cells #[.int .i64 k', .int .i64 c', .int .u8 (x' : Int), .int .u8 (y' : Int), .slice a2 n2 c2, .string it', .string tx'] 27)) = w1 at hb1 hx hy ⊢
  have HK := Lib.hid (show ∀ W, Below w1.heap.size w1 W → W.cell? ⟨w.heap.size, 0, none⟩ = some (.int .i64 k) ∧ W.cell? ⟨w.heap.size, 1, none⟩ = some (.int .i64 c) ∧ W.cell? ⟨w.heap.size, 2, none⟩ = some (.int .u8 (x : Int)) ∧ W.cell? ⟨w.heap.size, 3, none⟩ = some (.int .u8 (y : Int)) ∧ W.cell? ⟨w.heap.size, 4, none⟩ = some (.slice a1 n1 c1) ∧ W.cell? ⟨w.heap.size, 5, none⟩ = some (.string it) ∧ W.cell? ⟨w.heap.size, 6, none⟩ = some (.string tx) ∧ W.cell? ⟨w.heap.size + 1, 0, none⟩ = some (.int .i64 k') ∧ W.cell? ⟨w.heap.size + 1, 1, none⟩ = some (.int .i64 c') ∧ W.cell? ⟨w.heap.size + 1, 2, none⟩ = some (.int .u8 (x' : Int)) ∧ W.cell? ⟨w.heap.size + 1, 3, none⟩ = some (.int .u8 (y' : Int)) ∧ W.cell? ⟨w.heap.size + 1, 4, none⟩ = some (.slice a2 n2 c2) ∧ W.cell? ⟨w.heap.size + 1, 5, none⟩ = some (.string it') ∧ W.cell? ⟨w.heap.size + 1, 6, none⟩ = some (.string tx') from fun W hW =>
    ⟨(hx.keep hW).cell 0 _ rfl, (hx.keep hW).cell 1 _ rfl, (hx.keep hW).cell 2 _ rfl, (hx.keep hW).cell 3 _ rfl, (hx.keep hW).cell 4 _ rfl, (hx.keep hW).cell 5 _ rfl, (hx.keep hW).cell 6 _ rfl, (hy.keep hW).cell 0 _ rfl, (hy.keep hW).cell 1 _ rfl, (hy.keep hW).cell 2 _ rfl, (hy.keep hW).cell 3 _ rfl, (hy.keep hW).cell 4 _ rfl, (hy.keep hW).cell 5 _ rfl, (hy.keep hW).cell 6 _ rfl⟩)
  have HB1 := Lib.hid hb1
  have hB := Below.refl w1.heap.size w1
  obtain ⟨x0, x1, x2, x3, x4, x5, x6, y0, y1, y2, y3, y4, y5, y6⟩ := HK.out _ hB
  clear hb1 hx hy
  generalize w.heap.size + 1 = B1 at HK y0 y1 y2 y3 y4 y5 y6 ⊢
  generalize w.heap.size = B0 at HK x0 x1 x2 x3 x4 x5 x6 ⊢
  go_wp2_with (go_at_call 24; refine (HS _ (up HB1.out hB)).out.mono ?_; rintro e w' ⟨rfl, hb'⟩; have hB := up hB hb'; clear x0 x1 x2 x3 x4 x5 x6 y0 y1 y2 y3 y4 y5 y6; obtain ⟨x0, x1, x2, x3, x4, x5, x6, y0, y1, y2, y3, y4, y5, y6⟩ := HK.out _ hB)
  all_goals
    go_ret
    refine ⟨?_, up HB1.out hB⟩
    clear HS HK HB1 hB x0 x1 x2 x3 x4 x5 x6 y0 y1 y2 y3 y4 y5 y6
    refine congrArg (fun z => Ending.returned (Value.bool z)) ?_
    first
      | (simp_all; done)
      | (simp_all; omega)
set_option maxRecDepth 100000 in
set_option maxHeartbeats 8000000 in
theorem rsame6_any (p q : PS) (u1 u2 a1 a2 : Option Addr) (m1 m2 d1 d2 n1 n2 c1 c2 : Nat) (w : World) (h1 : RS w (.slice u1 m1 d1) (.slice a1 n1 c1) p) (h2 : RS w (.slice u2 m2 d2) (.slice a2 n2 c2) q) (k1 : Kq p.ps) (k2 : Kq q.ps) :
    Calls Tryz.prog 11 #[.agg (cS p (.slice u1 m1 d1) (.slice a1 n1 c1)), .agg (cS q (.slice u2 m2 d2) (.slice a2 n2 c2))] w fun e w' => e = .returned (.bool (eqS p q)) ∧ Below w.heap.size w w' := by
  have HS := fun W (hb : Below w.heap.size w W) => Lib.hid (rsame_any _ _ p.ps q.ps W (h1.2.keep hb) (h2.2.keep hb) k1.1 k1.2 k2.2)
  have HU1 := Lib.hid (show Rd w u1 (cB p.utf) by obtain ⟨A, c, he, _, h⟩ := h1.1; cases he; exact h)
  have HU2 := Lib.hid (show Rd w u2 (cB q.utf) by obtain ⟨A, c, he, _, h⟩ := h2.1; cases he; exact h)
  have HM1 := Lib.hid (show m1 = p.utf.length by obtain ⟨A, c, he, _, h⟩ := h1.1; cases he; rfl)
  have HM2 := Lib.hid (show m2 = q.utf.length by obtain ⟨A, c, he, _, h⟩ := h2.1; cases he; rfl)
  clear h1 h2 k1 k2
  obtain ⟨st, utf, pr, fi, pp, it, tx, bad⟩ := p
  obtain ⟨st', utf', pr', fi', pp', it', tx', bad'⟩ := q
  unfold cS eqS
  dsimp only at *
  have f1 := eqB_list ⟨utf.toArray⟩ ⟨utf'.toArray⟩
  rw [eqB_arr] at f1
  have f5 := eqB_list it it'
  have f6 := eqB_list tx tx'
  generalize eqB it it' = b5 at f5 ⊢
  generalize eqB tx tx' = b6 at f6 ⊢
  generalize decide (pp = pp') = b4 at HS ⊢
  generalize pr.toNat = x
  generalize pr'.toNat = x'
  generalize fi.toNat = y
  generalize fi'.toNat = y'
  rw [show decide (x = x') = decide ((x : Int) = (x' : Int)) from decide_eq_decide.2 (by omega), show decide (y = y') = decide ((y : Int) = (y' : Int)) from decide_eq_decide.2 (by omega)]
  have hb1 : Below w.heap.size w ((w.alloc (.cells #[.int .i64 st, .slice u1 m1 d1, .int .u8 (x : Int), .int .u8 (y : Int), .slice a1 n1 c1, .string it, .string tx, .bool bad] 25)).alloc (.cells #[.int .i64 st', .slice u2 m2 d2, .int .u8 (x' : Int), .int .u8 (y' : Int), .slice a2 n2 c2, .string it', .string tx', .bool bad'] 25)) := up (below_box _ _) (below_box _ _)
  have hx := (Box.new w #[.int .i64 st, .slice u1 m1 d1, .int .u8 (x : Int), .int .u8 (y : Int), .slice a1 n1 c1, .string it, .string tx, .bool bad] 25).alloc (.cells #[.int .i64 st', .slice u2 m2 d2, .int .u8 (x' : Int), .int .u8 (y' : Int), .slice a2 n2 c2, .string it', .string tx', .bool bad'] 25)
  have hy := Box.new (w.alloc (.cells #[.int .i64 st, .slice u1 m1 d1, .int .u8 (x : Int), .int .u8 (y : Int), .slice a1 n1 c1, .string it, .string tx, .bool bad] 25)) #[.int .i64 st', .slice u2 m2 d2, .int .u8 (x' : Int), .int .u8 (y' : Int), .slice a2 n2 c2, .string it', .string tx', .bool bad'] 25
  rw [World.size_alloc] at hy
  go_enter Tryz.func11, Tryz.ntmps11
  go_upto_region 1 with fail
  generalize ((w.alloc (.cells #[.int .i64 st, .slice u1 m1 d1, .int .u8 (x : Int), .int .u8 (y : Int), .slice a1 n1 c1, .string it, .string tx, .bool bad] 25)).alloc (.cells #[.int .i64 st', .slice u2 m2 d2, .int .u8 (x' : Int), .int .u8 (y' : Int), .slice a2 n2 c2, .string it', .string tx', .bool bad'] 25)) = w1 at hb1 hx hy ⊢
  have HK := Lib.hid (show ∀ W, Below w1.heap.size w1 W → W.cell? ⟨w.heap.size, 0, none⟩ = some (.int .i64 st) ∧ W.cell? ⟨w.heap.size, 1, none⟩ = some (.slice u1 m1 d1) ∧ W.cell? ⟨w.heap.size, 2, none⟩ = some (.int .u8 (x : Int)) ∧ W.cell? ⟨w.heap.size, 3, none⟩ = some (.int .u8 (y : Int)) ∧ W.cell? ⟨w.heap.size, 4, none⟩ = some (.slice a1 n1 c1) ∧ W.cell? ⟨w.heap.size, 5, none⟩ = some (.string it) ∧ W.cell? ⟨w.heap.size, 6, none⟩ = some (.string tx) ∧ W.cell? ⟨w.heap.size, 7, none⟩ = some (.bool bad) ∧ W.cell? ⟨w.heap.size + 1, 0, none⟩ = some (.int .i64 st') ∧ W.cell? ⟨w.heap.size + 1, 1, none⟩ = some (.slice u2 m2 d2) ∧ W.cell? ⟨w.heap.size + 1, 2, none⟩ = some (.int .u8 (x' : Int)) ∧ W.cell? ⟨w.heap.size + 1, 3, none⟩ = some (.int .u8 (y' : Int)) ∧ W.cell? ⟨w.heap.size + 1, 4, none⟩ = some (.slice a2 n2 c2) ∧ W.cell? ⟨w.heap.size + 1, 5, none⟩ = some (.string it') ∧ W.cell? ⟨w.heap.size + 1, 6, none⟩ = some (.string tx') ∧ W.cell? ⟨w.heap.size + 1, 7, none⟩ = some (.bool bad') from fun W hW =>
    ⟨(hx.keep hW).cell 0 _ rfl, (hx.keep hW).cell 1 _ rfl, (hx.keep hW).cell 2 _ rfl, (hx.keep hW).cell 3 _ rfl, (hx.keep hW).cell 4 _ rfl, (hx.keep hW).cell 5 _ rfl, (hx.keep hW).cell 6 _ rfl, (hx.keep hW).cell 7 _ rfl, (hy.keep hW).cell 0 _ rfl, (hy.keep hW).cell 1 _ rfl, (hy.keep hW).cell 2 _ rfl, (hy.keep hW).cell 3 _ rfl, (hy.keep hW).cell 4 _ rfl, (hy.keep hW).cell 5 _ rfl, (hy.keep hW).cell 6 _ rfl, (hy.keep hW).cell 7 _ rfl⟩)
  have HB1 := Lib.hid hb1
  have hB := Below.refl w1.heap.size w1
  obtain ⟨x0, x1, x2, x3, x4, x5, x6, x7, y0, y1, y2, y3, y4, y5, y6, y7⟩ := HK.out _ hB
  clear hb1 hx hy
  generalize w.heap.size + 1 = B1 at HK y0 y1 y2 y3 y4 y5 y6 y7 ⊢
  generalize w.heap.size = B0 at HK x0 x1 x2 x3 x4 x5 x6 x7 ⊢
  have q1 := fun W (hb : Below w1.heap.size w1 W) => str_of W u1 d1 utf (HU1.out.below (up HB1.out hb))
  have q2 := fun W (hb : Below w1.heap.size w1 W) => str_of W u2 d2 utf' (HU2.out.below (up HB1.out hb))
  rw [← HM1.out] at q1
  rw [← HM2.out] at q2
  have r1 := q1 _ hB
  have r2 := q2 _ hB
  go_wp2_with (go_at_call 24; refine (HS _ (up HB1.out hB)).out.mono ?_; rintro e w' ⟨rfl, hb'⟩; have hB := up hB hb'; clear x0 x1 x2 x3 x4 x5 x6 x7 y0 y1 y2 y3 y4 y5 y6 y7; obtain ⟨x0, x1, x2, x3, x4, x5, x6, x7, y0, y1, y2, y3, y4, y5, y6, y7⟩ := HK.out _ hB)
  all_goals
    go_ret
    refine ⟨?_, up HB1.out hB⟩
    clear HS HK HB1 hB q1 q2 r1 r2 x0 x1 x2 x3 x4 x5 x6 x7 y0 y1 y2 y3 y4 y5 y6 y7
    refine congrArg (fun z => Ending.returned (Value.bool z)) ?_
    first
      | (simp_all; done)
      | (simp_all; omega)
end Go.Proofs.YtmboekpomjgnnaaGreatDoor.Sta

namespace Go.Proofs.YtmboekpomjgnnaaGreatDoor.Sta
open Go.RowKit Utf Par

set_option maxRecDepth 100000 in
set_option maxHeartbeats 2000000 in
theorem bequal_any (A B : Option Addr) (c d : Nat) (a b : List UInt8) (w : World) (h1 : Rd w A (cB a)) (h2 : Rd w B (cB b)) :
    Calls Tryz.prog 22 #[.slice A a.length c, .slice B b.length d] w fun e w' => e = .returned (.bool (decide (a = b))) ∧ w = w' := by
  have q1 := str_of w A c a h1
  have q2 := str_of w B d b h2
  have f1 := eqB_list ⟨a.toArray⟩ ⟨b.toArray⟩
  rw [eqB_arr] at f1
  generalize decide (a = b) = t at f1 ⊢
  generalize a.length = n at q1 ⊢
  generalize b.length = m at q2 ⊢
  clear h1 h2
  go_enter Tryz.func22, Tryz.ntmps22
  go_wp2
  go_ret
  refine ⟨?_, rfl⟩
  simp_all
set_option maxRecDepth 100000 in
set_option maxHeartbeats 8000000 in
theorem alike6_any (p q : EV) (a1 a2 : Option Addr) (n1 n2 c1 c2 : Nat) (w : World) (h1 : RL w (.slice a1 n1 c1) p.ps) (h2 : RL w (.slice a2 n2 c2) q.ps) (k1 : Kb p.ps) :
    Calls Tryz.prog 12 #[.agg (cE ⟨p, a1, n1, c1⟩).toArray, .agg (cE ⟨q, a2, n2, c2⟩).toArray] w fun e w' => e = .returned (.bool (eqE p q)) ∧ Below w.heap.size w w' := by
  have HS := fun W (hb : Below w.heap.size w W) => Lib.hid (same_big _ _ p.ps q.ps W (h1.keep hb) (h2.keep hb) k1.1 k1.2)
  clear h1 h2 k1
  obtain ⟨k, c, pr, fi, pp, it, tx⟩ := p
  obtain ⟨k', c', pr', fi', pp', it', tx'⟩ := q
  unfold cE eqE
  dsimp only at *
  have f5 := eqB_list it it'
  have f6 := eqB_list tx tx'
  generalize eqB it it' = b5 at f5 ⊢
  generalize eqB tx tx' = b6 at f6 ⊢
  generalize decide (pp = pp') = b4 at HS ⊢
  generalize pr.toNat = x
  generalize pr'.toNat = x'
  generalize fi.toNat = y
  generalize fi'.toNat = y'
  rw [show decide (x = x') = decide ((x : Int) = (x' : Int)) from decide_eq_decide.2 (by omega), show decide (y = y') = decide ((y : Int) = (y' : Int)) from decide_eq_decide.2 (by omega)]
  have hb1 : Below w.heap.size w ((w.alloc (.cells #[.int .i64 k, .int .i64 c, .int .u8 (x : Int), .int .u8 (y : Int), .slice a1 n1 c1, .string it, .string tx] 27)).alloc (.cells #[.int .i64 k', .int .i64 c', .int .u8 (x' : Int), .int .u8 (y' : Int), .slice a2 n2 c2, .string it', .string tx'] 27)) := up (below_box _ _) (below_box _ _)
  have hx := (Box.new w #[.int .i64 k, .int .i64 c, .int .u8 (x : Int), .int .u8 (y : Int), .slice a1 n1 c1, .string it, .string tx] 27).alloc (.cells #[.int .i64 k', .int .i64 c', .int .u8 (x' : Int), .int .u8 (y' : Int), .slice a2 n2 c2, .string it', .string tx'] 27)
  have hy := Box.new (w.alloc (.cells #[.int .i64 k, .int .i64 c, .int .u8 (x : Int), .int .u8 (y : Int), .slice a1 n1 c1, .string it, .string tx] 27)) #[.int .i64 k', .int .i64 c', .int .u8 (x' : Int), .int .u8 (y' : Int), .slice a2 n2 c2, .string it', .string tx'] 27
  rw [World.size_alloc] at hy
  go_enter Tryz.func12, Tryz.ntmps12
  go_upto_region 1 with fail
  generalize ((w.alloc (.cells #[.int .i64 k, .int .i64 c, .int .u8 (x : Int), .int .u8 (y : Int), .slice a1 n1 c1, .string it, .string tx] 27)).alloc (.cells #[.int .i64 k', .int .i64 c', .int .u8 (x' : Int), .int .u8 (y' : Int), .slice a2 n2 c2, .string it', .string tx'] 27)) = w1 at hb1 hx hy ⊢
  have HK := Lib.hid (show ∀ W, Below w1.heap.size w1 W → W.cell? ⟨w.heap.size, 0, none⟩ = some (.int .i64 k) ∧ W.cell? ⟨w.heap.size, 1, none⟩ = some (.int .i64 c) ∧ W.cell? ⟨w.heap.size, 2, none⟩ = some (.int .u8 (x : Int)) ∧ W.cell? ⟨w.heap.size, 3, none⟩ = some (.int .u8 (y : Int)) ∧ W.cell? ⟨w.heap.size, 4, none⟩ = some (.slice a1 n1 c1) ∧ W.cell? ⟨w.heap.size, 5, none⟩ = some (.string it) ∧ W.cell? ⟨w.heap.size, 6, none⟩ = some (.string tx) ∧ W.cell? ⟨w.heap.size + 1, 0, none⟩ = some (.int .i64 k') ∧ W.cell? ⟨w.heap.size + 1, 1, none⟩ = some (.int .i64 c') ∧ W.cell? ⟨w.heap.size + 1, 2, none⟩ = some (.int .u8 (x' : Int)) ∧ W.cell? ⟨w.heap.size + 1, 3, none⟩ = some (.int .u8 (y' : Int)) ∧ W.cell? ⟨w.heap.size + 1, 4, none⟩ = some (.slice a2 n2 c2) ∧ W.cell? ⟨w.heap.size + 1, 5, none⟩ = some (.string it') ∧ W.cell? ⟨w.heap.size + 1, 6, none⟩ = some (.string tx') from fun W hW =>
    ⟨(hx.keep hW).cell 0 _ rfl, (hx.keep hW).cell 1 _ rfl, (hx.keep hW).cell 2 _ rfl, (hx.keep hW).cell 3 _ rfl, (hx.keep hW).cell 4 _ rfl, (hx.keep hW).cell 5 _ rfl, (hx.keep hW).cell 6 _ rfl, (hy.keep hW).cell 0 _ rfl, (hy.keep hW).cell 1 _ rfl, (hy.keep hW).cell 2 _ rfl, (hy.keep hW).cell 3 _ rfl, (hy.keep hW).cell 4 _ rfl, (hy.keep hW).cell 5 _ rfl, (hy.keep hW).cell 6 _ rfl⟩)
  have HB1 := Lib.hid hb1
  have hB := Below.refl w1.heap.size w1
  obtain ⟨x0, x1, x2, x3, x4, x5, x6, y0, y1, y2, y3, y4, y5, y6⟩ := HK.out _ hB
  clear hb1 hx hy
  generalize w.heap.size + 1 = B1 at HK y0 y1 y2 y3 y4 y5 y6 ⊢
  generalize w.heap.size = B0 at HK x0 x1 x2 x3 x4 x5 x6 ⊢
  go_wp2_with (go_at_call 23; refine (HS _ (up HB1.out hB)).out.mono ?_; rintro e w' ⟨rfl, hb'⟩; have hB := up hB hb'; clear x0 x1 x2 x3 x4 x5 x6 y0 y1 y2 y3 y4 y5 y6; obtain ⟨x0, x1, x2, x3, x4, x5, x6, y0, y1, y2, y3, y4, y5, y6⟩ := HK.out _ hB)
  all_goals
    go_ret
    refine ⟨?_, up HB1.out hB⟩
    clear HS HK HB1 hB x0 x1 x2 x3 x4 x5 x6 y0 y1 y2 y3 y4 y5 y6
    refine congrArg (fun z => Ending.returned (Value.bool z)) ?_
    first
      | (simp_all; done)
      | (simp_all; omega)
set_option maxRecDepth 100000 in
set_option maxHeartbeats 8000000 in
theorem same6_any (p q : PS) (u1 u2 a1 a2 : Option Addr) (m1 m2 d1 d2 n1 n2 c1 c2 : Nat) (w : World) (h1 : RS w (.slice u1 m1 d1) (.slice a1 n1 c1) p) (h2 : RS w (.slice u2 m2 d2) (.slice a2 n2 c2) q) (k1 : Kq p.ps) :
    Calls Tryz.prog 10 #[.agg (cS p (.slice u1 m1 d1) (.slice a1 n1 c1)), .agg (cS q (.slice u2 m2 d2) (.slice a2 n2 c2))] w fun e w' => e = .returned (.bool (eqS p q)) ∧ Below w.heap.size w w' := by
  have HS := fun W (hb : Below w.heap.size w W) => Lib.hid (same_any _ _ p.ps q.ps W (h1.2.keep hb) (h2.2.keep hb) k1.1 k1.2)
  have HE := fun W (hb : Below w.heap.size w W) => Lib.hid (show Calls Tryz.prog 22 #[.slice u1 m1 d1, .slice u2 m2 d2] W fun e w' => e = .returned (.bool (decide (p.utf = q.utf))) ∧ W = w' from by
    obtain ⟨A, c, he, _, h⟩ := h1.1.keep hb
    cases he
    obtain ⟨A', c', he', _, h'⟩ := h2.1.keep hb
    cases he'
    exact bequal_any _ _ _ _ p.utf q.utf W h h')
  clear h1 h2 k1
  obtain ⟨st, utf, pr, fi, pp, it, tx, bad⟩ := p
  obtain ⟨st', utf', pr', fi', pp', it', tx', bad'⟩ := q
  unfold cS eqS
  dsimp only at *
  generalize decide (utf = utf') = b1 at HE ⊢
  have f5 := eqB_list it it'
  have f6 := eqB_list tx tx'
  generalize eqB it it' = b5 at f5 ⊢
  generalize eqB tx tx' = b6 at f6 ⊢
  generalize decide (pp = pp') = b4 at HS ⊢
  generalize pr.toNat = x
  generalize pr'.toNat = x'
  generalize fi.toNat = y
  generalize fi'.toNat = y'
  rw [show decide (x = x') = decide ((x : Int) = (x' : Int)) from decide_eq_decide.2 (by omega), show decide (y = y') = decide ((y : Int) = (y' : Int)) from decide_eq_decide.2 (by omega)]
  have hb1 : Below w.heap.size w ((w.alloc (.cells #[.int .i64 st, .slice u1 m1 d1, .int .u8 (x : Int), .int .u8 (y : Int), .slice a1 n1 c1, .string it, .string tx, .bool bad] 25)).alloc (.cells #[.int .i64 st', .slice u2 m2 d2, .int .u8 (x' : Int), .int .u8 (y' : Int), .slice a2 n2 c2, .string it', .string tx', .bool bad'] 25)) := up (below_box _ _) (below_box _ _)
  have hx := (Box.new w #[.int .i64 st, .slice u1 m1 d1, .int .u8 (x : Int), .int .u8 (y : Int), .slice a1 n1 c1, .string it, .string tx, .bool bad] 25).alloc (.cells #[.int .i64 st', .slice u2 m2 d2, .int .u8 (x' : Int), .int .u8 (y' : Int), .slice a2 n2 c2, .string it', .string tx', .bool bad'] 25)
  have hy := Box.new (w.alloc (.cells #[.int .i64 st, .slice u1 m1 d1, .int .u8 (x : Int), .int .u8 (y : Int), .slice a1 n1 c1, .string it, .string tx, .bool bad] 25)) #[.int .i64 st', .slice u2 m2 d2, .int .u8 (x' : Int), .int .u8 (y' : Int), .slice a2 n2 c2, .string it', .string tx', .bool bad'] 25
  rw [World.size_alloc] at hy
  go_enter Tryz.func10, Tryz.ntmps10
  go_upto_region 1 with fail
  generalize ((w.alloc (.cells #[.int .i64 st, .slice u1 m1 d1, .int .u8 (x : Int), .int .u8 (y : Int), .slice a1 n1 c1, .string it, .string tx, .bool bad] 25)).alloc (.cells #[.int .i64 st', .slice u2 m2 d2, .int .u8 (x' : Int), .int .u8 (y' : Int), .slice a2 n2 c2, .string it', .string tx', .bool bad'] 25)) = w1 at hb1 hx hy ⊢
  have HK := Lib.hid (show ∀ W, Below w1.heap.size w1 W → W.cell? ⟨w.heap.size, 0, none⟩ = some (.int .i64 st) ∧ W.cell? ⟨w.heap.size, 1, none⟩ = some (.slice u1 m1 d1) ∧ W.cell? ⟨w.heap.size, 2, none⟩ = some (.int .u8 (x : Int)) ∧ W.cell? ⟨w.heap.size, 3, none⟩ = some (.int .u8 (y : Int)) ∧ W.cell? ⟨w.heap.size, 4, none⟩ = some (.slice a1 n1 c1) ∧ W.cell? ⟨w.heap.size, 5, none⟩ = some (.string it) ∧ W.cell? ⟨w.heap.size, 6, none⟩ = some (.string tx) ∧ W.cell? ⟨w.heap.size, 7, none⟩ = some (.bool bad) ∧ W.cell? ⟨w.heap.size + 1, 0, none⟩ = some (.int .i64 st') ∧ W.cell? ⟨w.heap.size + 1, 1, none⟩ = some (.slice u2 m2 d2) ∧ W.cell? ⟨w.heap.size + 1, 2, none⟩ = some (.int .u8 (x' : Int)) ∧ W.cell? ⟨w.heap.size + 1, 3, none⟩ = some (.int .u8 (y' : Int)) ∧ W.cell? ⟨w.heap.size + 1, 4, none⟩ = some (.slice a2 n2 c2) ∧ W.cell? ⟨w.heap.size + 1, 5, none⟩ = some (.string it') ∧ W.cell? ⟨w.heap.size + 1, 6, none⟩ = some (.string tx') ∧ W.cell? ⟨w.heap.size + 1, 7, none⟩ = some (.bool bad') from fun W hW =>
    ⟨(hx.keep hW).cell 0 _ rfl, (hx.keep hW).cell 1 _ rfl, (hx.keep hW).cell 2 _ rfl, (hx.keep hW).cell 3 _ rfl, (hx.keep hW).cell 4 _ rfl, (hx.keep hW).cell 5 _ rfl, (hx.keep hW).cell 6 _ rfl, (hx.keep hW).cell 7 _ rfl, (hy.keep hW).cell 0 _ rfl, (hy.keep hW).cell 1 _ rfl, (hy.keep hW).cell 2 _ rfl, (hy.keep hW).cell 3 _ rfl, (hy.keep hW).cell 4 _ rfl, (hy.keep hW).cell 5 _ rfl, (hy.keep hW).cell 6 _ rfl, (hy.keep hW).cell 7 _ rfl⟩)
  have HB1 := Lib.hid hb1
  have hB := Below.refl w1.heap.size w1
  obtain ⟨x0, x1, x2, x3, x4, x5, x6, x7, y0, y1, y2, y3, y4, y5, y6, y7⟩ := HK.out _ hB
  clear hb1 hx hy
  generalize w.heap.size + 1 = B1 at HK y0 y1 y2 y3 y4 y5 y6 y7 ⊢
  generalize w.heap.size = B0 at HK x0 x1 x2 x3 x4 x5 x6 x7 ⊢
  go_wp2_with (first
    | (go_at_call 22; refine (HE _ (up HB1.out hB)).out.mono ?_; rintro e w' ⟨rfl, rfl⟩)
    | (go_at_call 23; refine (HS _ (up HB1.out hB)).out.mono ?_; rintro e w' ⟨rfl, hb'⟩; have hB := up hB hb'; clear x0 x1 x2 x3 x4 x5 x6 x7 y0 y1 y2 y3 y4 y5 y6 y7; obtain ⟨x0, x1, x2, x3, x4, x5, x6, x7, y0, y1, y2, y3, y4, y5, y6, y7⟩ := HK.out _ hB))
  all_goals
    go_ret
    refine ⟨?_, up HB1.out hB⟩
    clear HS HE HK HB1 hB x0 x1 x2 x3 x4 x5 x6 x7 y0 y1 y2 y3 y4 y5 y6 y7
    refine congrArg (fun z => Ending.returned (Value.bool z)) ?_
    first
      | (simp_all; done)
      | (simp_all; omega)
end Go.Proofs.YtmboekpomjgnnaaGreatDoor.Sta

namespace Go.Proofs.YtmboekpomjgnnaaGreatDoor.Sta
open Go.RowKit Utf Par
variable {X : Nat → Prop}

/-- an append of some events, with where the row lies behind it -/
theorem run_appV1 (w : World) (base : Nat) (ty : TypeId) (v : Value) (xs : List EQ) (hown : OwnV w base v xs) (ad : Addr) (m c : Nat) (ys : List EQ) (hm : ys.length = m) (hr : RdE w (some ad) ys)
    (hsmall : xs.length + m ≤ 100000) (hbase : base ≤ w.heap.size) :
    ∃ v' w', (Builtin.append_ #[41, 41] ty #[v, .slice (some ad) m c]).run Tryz.prog w = .ok v' w' ∧ OwnV w' base v' (xs ++ ys) ∧ w.grownBy w' v.ownBlock ∧ (v'.ownBlock = v.ownBlock ∨ v'.ownBlock = some w.heap.size) := by
  obtain ⟨i, hi, hz, hs, hb⟩ := info_parts infoE
  have hcells : ∀ j u, (ys.flatMap cE)[j]? = some u → w.cell? (ad.add j) = some u := fun j u hu => by
    have hj : j < ys.length * 7 := by rw [← flat_len]; exact (List.getElem?_eq_some_iff.1 hu).1
    have hq : ∃ p, ys[j / 7]? = some p := ⟨_, List.getElem?_eq_getElem (by omega)⟩
    obtain ⟨p, hp⟩ := hq
    obtain ⟨b, o, hA', _, hc⟩ := hr _ p hp
    cases hA'
    have h1 := flat_at ys (j / 7) p (j % 7) hp (by omega)
    rw [show j / 7 * 7 + j % 7 = j by omega, hu] at h1
    have h2 := hc (j % 7) u h1.symm
    rw [show o + j / 7 * 7 + j % 7 = o + j by omega] at h2
    rw [Addr.add_mid]
    exact h2
  obtain ⟨v', w', hrun, h2, h3, _, h4⟩ := run_append_own_at (P := Tryz.prog) w base 41 ty 27 i _ 7 80 Tryz.underlying41 hi hz hs hb rfl (by omega) v xs.length (xs.flatMap cE) hown ad m c (ys.flatMap cE) (by rw [flat_len, hm]) hcells (flat_one ys) (by unfold maxLen; omega) (by omega) hbase
  refine ⟨v', w', hrun, ?_, h3, h4⟩
  have := h2
  rw [← List.flatMap_append, ← hm, ← List.length_append] at this
  exact this
theorem step_appV (w : World) {ops : Array Oper} {o : Oper} {a : Act} {K : Act → World → Prop} {Q : Exit → Act → World → Prop} {E : Prop} (hgd : o.guard = none) (s x : Operand)
    (ho : o.op = .call { callee := .builtin .append, args := #[s, x], argTypes := #[41, 41] })
    (base : Nat) (v : Value) (xs : List EQ) (hs : a.eval s = v) (hown : OwnV w base v xs) (ad : Addr) (m c : Nat) (ys : List EQ) (hx : a.eval x = .slice (some ad) m c) (hm : ys.length = m) (hr : RdE w (some ad) ys)
    (hsmall : xs.length + m ≤ 100000) (hbase : base ≤ w.heap.size) (h : ∀ v' w', OwnV w' base v' (xs ++ ys) → (v'.ownBlock = v.ownBlock ∨ v'.ownBlock = some w.heap.size) → w.grownBy w' v.ownBlock → K (a.put o.dst v') w') :
    if Region.wanted o (yielded ops a.tmps) = true then Oper.wp Tryz.prog o a w K Q else E := by
  have hw : Region.wanted o (yielded ops a.tmps) = true := by simp [Region.wanted, hgd]
  rw [if_pos hw]
  obtain ⟨v', w', hrun, h2, h3, h4⟩ := run_appV1 w base o.type v xs hown ad m c ys hm hr hsmall hbase
  unfold Oper.wp execOp
  simp only [ho, resolve, invoke, builtin, Sem.run_bind, Sem.run_pure, Result.andThen_ok, List.map_toArray, List.map_cons, List.map_nil, hs, hx, hrun]
  exact h v' w' h2 h4 h3
set_option maxRecDepth 100000 in
set_option maxHeartbeats 4000000 in
theorem report_any (b : Nat) (g : Option Nat) (w : World) (p : PS) (l : List EV) (e : EV) (A : Option Addr) (n c : Nat) (h : Dec X b g w p l) (he : RLx X b g w (.slice A n c) e.ps) (hs : l.length ≤ 90000) :
    Calls Tryz.prog 62 #[.pointer (some ⟨b, 0, none⟩), .agg #[.int .i64 e.k, .int .i64 e.c, .int .u8 (e.pr.toNat : Int), .int .u8 (e.fi.toNat : Int), .slice A n c, .string e.it, .string e.tx]] w (Did X b g w (p, [e]) l) := by
  obtain ⟨u, q, v, xs, hx, hv, hl, hg, hu, hq, hxs, hX⟩ := h
  have hsm : xs.length + 1 ≤ 100000 := by rw [← hl, List.length_map] at hs; omega
  clear hs
  have hbs := hx.1
  have e1 := Box.new w #[.int .i64 e.k, .int .i64 e.c, .int .u8 (e.pr.toNat : Int), .int .u8 (e.fi.toNat : Int), .slice A n c, .string e.it, .string e.tx] 27
  have hx1 := (hx.alloc (.cells #[.int .i64 e.k, .int .i64 e.c, .int .u8 (e.pr.toNat : Int), .int .u8 (e.fi.toNat : Int), .slice A n c, .string e.it, .string e.tx] 27))
  have hb1 := below_box w (.cells #[.int .i64 e.k, .int .i64 e.c, .int .u8 (e.pr.toNat : Int), .int .u8 (e.fi.toNat : Int), .slice A n c, .string e.it, .string e.tx] 27)
  have HX := Lib.hid hx
  have HL := Lib.hid hl
  have HG := Lib.hid hg
  have HV := Lib.hid hv
  have HXS := Lib.hid hxs
  have HXX := Lib.hid hX
  have HU := Lib.hid hu
  have HQ := Lib.hid hq
  have HE := Lib.hid he
  clear hl hg hx hv hxs hu hq hX he
  obtain ⟨ek, ec, epr, efi, eps, eit, etx⟩ := e
  dsimp only at *
  go_enter Tryz.func62, Tryz.ntmps62
  go_wp2_with fail
  have HB1 := Lib.hid hb1
  have hz1 : (w.alloc (.cells #[.int .i64 ek, .int .i64 ec, .int .u8 (epr.toNat : Int), .int .u8 (efi.toNat : Int), .slice A n c, .string eit, .string etx] 27)).heap.size = w.heap.size + 1 := World.size_alloc ..
  generalize w.alloc (.cells #[.int .i64 ek, .int .i64 ec, .int .u8 (epr.toNat : Int), .int .u8 (efi.toNat : Int), .slice A n c, .string eit, .string etx] 27) = w1 at e1 hx1 HB1 hz1 hb1 ⊢
  clear hb1
  have c8 := hx1.cell 8 _ rfl
  have f8 := hx1.free 8 (by show 8 < 9; decide)
  have x0 := e1.cell 0 _ rfl
  have x1 := e1.cell 1 _ rfl
  have x2 := e1.cell 2 _ rfl
  have x3 := e1.cell 3 _ rfl
  have x4 := e1.cell 4 _ rfl
  have x5 := e1.cell 5 _ rfl
  have x6 := e1.cell 6 _ rfl
  have HX1 := Lib.hid hx1
  have HZ1 := Lib.hid hz1
  have hbs1 : b < w1.heap.size := hx1.1
  have HV1 := Lib.hid (OwnV.keep HV.out HB1.out)
  have HN := Lib.hid (show v.ownBlock ≠ some b from fun x => by have := (OwnV.blk HV.out b x).1; omega)
  obtain ⟨W2, hW2⟩ : ∃ W2, W2 = (w1.alloc (.cells #[.int .i64 ek, .int .i64 ec, .int .u8 (epr.toNat : Int), .int .u8 (efi.toNat : Int), .slice A n c, .string eit, .string etx] 27)).drew := ⟨_, rfl⟩
  have HE2 := Lib.hid (show RdE W2 (some ⟨w1.heap.size, 0, none⟩) [⟨⟨ek, ec, epr, efi, eps, eit, etx⟩, A, n, c⟩] by rw [hW2]; exact (RdE.one w1 ⟨⟨ek, ec, epr, efi, eps, eit, etx⟩, A, n, c⟩ 27).keep ((Below.refl _ _).drew))
  have HV2 := Lib.hid (show OwnV W2 (b + 1) v xs by rw [hW2]; exact HV1.out.keep ((below_box _ _).drew))
  have HX2 := Lib.hid (show Box W2 b (cD p u q v) by rw [hW2]; exact (hx1.alloc _).drew)
  have HS2 := Lib.hid (show b + 1 ≤ W2.heap.size by rw [hW2]; show b + 1 ≤ (w1.alloc _).heap.size; rw [World.size_alloc]; omega)
  have HB2 := Lib.hid (show Below w1.heap.size w1 W2 by rw [hW2]; exact (below_box _ _).drew)
  have HW2 := Lib.hid hW2
  clear hx1 e1 hz1 hW2
  go_region_law (rw [← HW2.out]; refine step_appV _ rfl (.tmp 8) (.tmp 10) rfl (b + 1) v xs (by simp [Act.eval]) HV2.out ⟨w1.heap.size, 0, none⟩ 1 1 [⟨⟨ek, ec, epr, efi, eps, eit, etx⟩, A, n, c⟩] (by simp [Act.eval]) rfl HE2.out hsm HS2.out ?_; intro v' w' hown hnew hgrow; have HNew := Lib.hid hnew; clear hnew; have hx3 := HX2.out.grown hgrow (fun x => HN.out x.symm); have y8 := hx3.cell 8 _ rfl; have z8 := hx3.free 8 (by show 8 < 9; decide); have HX3 := Lib.hid hx3; clear hx3; obtain ⟨A2, c2, hv2, hc2, hc3⟩ := hown.form; subst hv2; have HO := Lib.hid hown; clear hown; generalize (xs ++ [(⟨⟨ek, ec, epr, efi, eps, eit, etx⟩, A, n, c⟩ : EQ)]).length = m at HO HNew ⊢)
  all_goals
    go_end0
    have hf1 : Frm b g g w w1 := Frm.of_below HB1.out (Nat.le_of_lt hbs)
    have hf2 : Frm b g g w1 W2 := Frm.of_below HB2.out (Nat.le_of_lt hbs1)
    have hf3 : Frm b g _ W2 w' := Frm.of_grow (HG.out ▸ hgrow) (by have := HS2.out; omega) (fun k hk => by have := (OwnV.blk HV2.out k (HG.out.trans hk)).1; omega) (by rcases HNew.out with x | x; exact .inl (x.trans HG.out); exact .inr ⟨_, x, Nat.le_refl _⟩)
    have hf := (hf1.trans hf2).trans hf3
    obtain ⟨h1, h2⟩ := Dec.put HXX.out HO.out rfl rfl (fun x hx => by
        rcases List.mem_append.1 hx with h | h
        · exact (HXS.out x h).frm hf
        · obtain rfl := List.mem_singleton.1 h
          exact HE.out.frm hf) HX3.out.1 (grown_set _ b 8 _) (Box.set HX3.out 8 _) (HU.out.frm hf) (HQ.out.frm hf)
    refine ⟨rfl, _, ?_, hf.trans h2⟩
    rw [← HL.out]
    rw [List.map_append] at h1
    exact h1
end Go.Proofs.YtmboekpomjgnnaaGreatDoor.Sta

namespace Go.Proofs.YtmboekpomjgnnaaGreatDoor.Sta
open Go.RowKit Utf Par

def evB : List EV → List EV → Bool
  | [], [] => true
  | x :: a, y :: b => eqE x y && evB a b
  | _, _ => false
theorem evB_iff (a b : List EV) : evB a b = true ↔ a = b := by
  induction a generalizing b with
  | nil => cases b <;> simp [evB]
  | cons x a ih =>
    cases b with
    | nil => simp [evB]
    | cons y b => rw [evB, Bool.and_eq_true, eqE_iff, ih]; simp
theorem evB_ne {a b : List EV} (h : a ≠ b) : evB a b = false := by
  cases hb : evB a b with
  | false => rfl
  | true => exact absurd ((evB_iff a b).1 hb) h
/-- sizes of events' parameters that a comparison bears -/
def Kv (l : List EV) : Prop := ∀ e ∈ l, Kq e.ps
set_option maxRecDepth 100000 in
theorem ixE (b o n c k : Nat) (h : k < n) (w : World) : (Instr.indexAt 41 (.slice (some ⟨b, o, none⟩) n c) (.int .i64 (k : Int))).run Tryz.prog w = .ok (.pointer (some ⟨b, o + k * 7, none⟩)) w := by
  have h1 : (k : Int) < (n : Int) := by omega
  rw [run_indexAt_slice w 41 _ _ _ _ _ Tryz.underlying41]
  go_simp
theorem RV.item {w : World} {A : Option Addr} {n c : Nat} {l : List EV} (h : RV w (.slice A n c) l) {k : Nat} {e : EV} (he : l[k]? = some e) : ∃ b o aq nq cq, A = some ⟨b, o, none⟩ ∧ b < w.heap.size ∧ w.rangeAt b (o + k * 7) (cE ⟨e, aq, nq, cq⟩) ∧ RL w (.slice aq nq cq) e.ps := by
  obtain ⟨A', c', xs, hv, h1, h2, h3, h4, h5⟩ := h
  cases hv
  have hk : k < xs.length := by have := (List.getElem?_eq_some_iff.1 he).1; rw [← h3] at this; simpa using this
  obtain ⟨x, hx⟩ := get_some xs k hk
  have : x.e = e := by
    rw [← h3, List.getElem?_map, hx] at he
    simpa using he
  subst this
  obtain ⟨b, o, hA, hlt, hr⟩ := h4 k x hx
  exact ⟨b, o, x.A, x.n, x.c, hA, hlt, hr, h5 x (List.mem_of_getElem? hx)⟩
theorem range7 {w : World} {b o : Nat} {e : EV} {aq : Option Addr} {nq cq : Nat} (h : w.rangeAt b o (cE ⟨e, aq, nq, cq⟩)) :
    w.cell? ⟨b, o, none⟩ = some (.int .i64 e.k) ∧ w.cell? ⟨b, o + 1, none⟩ = some (.int .i64 e.c) ∧ w.cell? ⟨b, o + 2, none⟩ = some (.int .u8 (e.pr.toNat : Int)) ∧ w.cell? ⟨b, o + 3, none⟩ = some (.int .u8 (e.fi.toNat : Int)) ∧ w.cell? ⟨b, o + 4, none⟩ = some (.slice aq nq cq) ∧ w.cell? ⟨b, o + 5, none⟩ = some (.string e.it) ∧ w.cell? ⟨b, o + 6, none⟩ = some (.string e.tx) :=
  ⟨h 0 _ rfl, h 1 _ rfl, h 2 _ rfl, h 3 _ rfl, h 4 _ rfl, h 5 _ rfl, h 6 _ rfl⟩
set_option maxRecDepth 100000 in
set_option maxHeartbeats 8000000 in
theorem revents_any (u v : Value) (a b : List EV) (w : World) (ha : RV w u a) (hb : RV w v b) (ka : Kv a) (kb : Kv b) :
    Calls Tryz.prog 17 #[u, v] w fun e w' => e = .returned (.bool (evB a b)) ∧ Below w.heap.size w w' := by
  obtain ⟨A, c, rfl⟩ := ha.form
  obtain ⟨B, d, rfl⟩ := hb.form
  obtain ⟨n, hn⟩ : ∃ n, n = a.length := ⟨_, rfl⟩
  obtain ⟨m, hm⟩ : ∃ m, m = b.length := ⟨_, rfl⟩
  rw [← hn] at ha ⊢
  rw [← hm] at hb ⊢
  have hnl : n ≤ 9223372036854775807 := by
    obtain ⟨_, _, _, e, h1, h2, _⟩ := ha
    unfold maxLen at h2
    omega
  by_cases hne : n = m
  · subst hne
    have HA := Lib.hid ha
    have HB := Lib.hid hb
    have HN := Lib.hid hn
    have HM := Lib.hid hm
    have KA := Lib.hid ka
    have KB := Lib.hid kb
    clear ha hb hn hm ka kb
    go_enter Tryz.func17, Tryz.ntmps17
    go_wp2
    go_loopw [5] (fun i wr => ∃ k : Nat, k ≤ n ∧ i = .int .i64 k ∧ Hid (a.take k = b.take k ∧ Below w.heap.size w wr)) (fun i _ => n - (intOf i).toNat)
    case atStart => exact ⟨0, Nat.zero_le _, rfl, rfl, Below.refl _ _⟩
    case round =>
      obtain ⟨k, hk, rfl, hid⟩ := hrel
      by_cases hlt : k < n
      · obtain ⟨x, hx⟩ := get_some a k (by rw [← HN.out]; exact hlt)
        obtain ⟨y, hy⟩ := get_some b k (by rw [← HM.out]; exact hlt)
        obtain ⟨g, o, aq, nq, cq, rfl, hg, r1, q1⟩ := (HA.out.keep hid.out.2).item hx
        obtain ⟨g', o', aq', nq', cq', rfl, hg', r2, q2⟩ := (HB.out.keep hid.out.2).item hy
        have x1 := fun W => ixE g o n c k hlt W
        have x2 := fun W => ixE g' o' n d k hlt W
        have i1 : (0 : Int) ≤ (k : Int) := by omega
        have i2 : (k : Int) < (n : Int) := by omega
        have c1 : decide ((k : Int) < (n : Int)) = true := decide_eq_true i2
        have HX := Lib.hid hx
        have HY := Lib.hid hy
        have HS := fun W (hb : Below wr.heap.size wr W) => Lib.hid (ralike_any x y aq aq' nq nq' cq cq' W (q1.keep hb) (q2.keep hb) (KA.out x (List.mem_of_getElem? hx)).kb (KB.out y (List.mem_of_getElem? hy)).kb)
        clear hx hy q1 q2
        generalize o + k * 7 = O at r1 x1
        generalize o' + k * 7 = O' at r2 x2
        have HK := Lib.hid (show ∀ W, Below wr.heap.size wr W → (W.rangeAt g O (cE ⟨x, aq, nq, cq⟩) ∧ W.rangeAt g' O' (cE ⟨y, aq', nq', cq'⟩)) ∧ Below wr.heap.size wr W from fun W hW =>
          ⟨⟨fun i v hv => (hW.cell (p := ⟨g, O + i, none⟩) hg).trans (r1 i v hv), fun i v hv => (hW.cell (p := ⟨g', O' + i, none⟩) hg').trans (r2 i v hv)⟩, hW⟩)
        obtain ⟨⟨r3, r4⟩, hd⟩ := HK.out _ (Below.refl _ wr).drew
        obtain ⟨p0, p1, p2, p3, p4, p5, p6⟩ := range7 r3
        obtain ⟨s0, s1, s2, s3, s4, s5, s6⟩ := range7 r4
        clear r1 r2 r3 r4
        have hq : eqE x y = true ↔ x = y := eqE_iff x y
        have HQ := Lib.hid hq
        clear hq
        unfold cE at HS
        dsimp only at HS
        cases hxy : eqE x y with
        | true =>
          rw [hxy] at HS
          go_upto_region 6 with fail
          go_region_with (go_at_call 13; refine (HS _ hd).out.mono ?_; rintro e w2 ⟨rfl, hb2⟩)
          all_goals
            go_wp2
            exact ⟨⟨k + 1, by omega, by go_num, by rw [get_take a k x HX.out, get_take b k y HY.out, hid.out.1, (HQ.out).1 hxy], up hid.out.2 (up hd hb2)⟩, by simp [intOf]; omega⟩
        | false =>
          rw [hxy] at HS
          have hxne : x ≠ y := fun e => by rw [(HQ.out).2 e] at hxy; cases hxy
          have hab : evB a b = false := evB_ne fun e => hxne (by
            have h1 := HX.out
            rw [e, HY.out] at h1
            exact (Option.some.inj h1).symm)
          have HAB := Lib.hid hab
          clear hab hxne
          go_upto_region 6 with fail
          go_region_with (go_at_call 13; refine (HS _ hd).out.mono ?_; rintro e w2 ⟨rfl, hb2⟩)
          all_goals
            go_wp2
            go_ret
            rw [HAB.out]
            exact ⟨rfl, up hid.out.2 (up hd hb2)⟩
      · have c1 : decide ((k : Int) < (n : Int)) = false := decide_eq_false (by omega)
        have he := hid.out.1
        rw [List.take_of_length_le (by rw [← HN.out]; omega), List.take_of_length_le (by rw [← HM.out]; omega)] at he
        have HAB := Lib.hid ((evB_iff a b).2 he)
        clear he
        go_wp2
        go_ret
        rw [HAB.out]
        exact ⟨rfl, hid.out.2⟩
  · have hab : evB a b = false := evB_ne fun e => hne (by rw [hn, hm, e])
    rw [hab]
    have c1 : ((n : Int) != (m : Int)) = true := by simp; omega
    clear ha hb ka kb hn hm hab
    go_enter Tryz.func17, Tryz.ntmps17
    go_wp2
    go_ret
    exact ⟨rfl, Below.refl _ _⟩
end Go.Proofs.YtmboekpomjgnnaaGreatDoor.Sta
