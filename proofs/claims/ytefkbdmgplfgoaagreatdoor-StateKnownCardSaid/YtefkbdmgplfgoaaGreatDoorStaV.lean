/-
  The program's decoder in memory: a block of nine cells, a row of events of the call's own, slices that lie elsewhere.
-/
import Derived.Test.YtefkbdmgplfgoaaGreatDoorStaU
import Derived.Test.YtefkbdmgplfgoaaGreatDoorStaC
import Derived.Test.YtefkbdmgplfgoaaGreatDoorUtfWords
namespace Go.Proofs.YtefkbdmgplfgoaaGreatDoor.Sta
open Go.RowKit Utf Par

variable {X : Nat → Prop}
/-- a slice that lies neither in block b nor in block g, and in a block that X allows -/
def Off (X : Nat → Prop) (b : Nat) (g : Option Nat) (v : Value) : Prop := ∀ ad n c, v = .slice (some ad) n c → 0 < n → ad.block ≠ b ∧ some ad.block ≠ g ∧ X ad.block
/-- all blocks but b and g are as they were -/
structure AgX (b : Nat) (g : Option Nat) (w w' : World) : Prop where
  size : w.heap.size ≤ w'.heap.size
  block : ∀ k, k < w.heap.size → k ≠ b → some k ≠ g → w'.heap[k]? = w.heap[k]?
structure Frm (b : Nat) (g g' : Option Nat) (w w' : World) : Prop where
  below : Below b w w'
  agx : AgX b g w w'
  new : g' = g ∨ ∃ k, g' = some k ∧ w.heap.size ≤ k
theorem Frm.refl {b : Nat} {g : Option Nat} (w : World) : Frm b g g w w := ⟨Below.refl _ _, ⟨Nat.le_refl _, fun _ _ _ _ => rfl⟩, .inl rfl⟩
theorem Frm.trans {b : Nat} {g g1 g2 : Option Nat} {w w1 w2 : World} (h : Frm b g g1 w w1) (k : Frm b g1 g2 w1 w2) : Frm b g g2 w w2 := by
  refine ⟨h.below.trans k.below, ⟨Nat.le_trans h.agx.size k.agx.size, fun i hi hb hg => ?_⟩, ?_⟩
  · have h1 := h.agx.block i hi hb hg
    have hg1 : some i ≠ g1 := by
      rcases h.new with e | ⟨n, e, hn⟩
      · rw [e]; exact hg
      · rw [e]; intro x; injection x with x; omega
    exact (k.agx.block i (Nat.lt_of_lt_of_le hi h.agx.size) hb hg1).trans h1
  · rcases k.new with e | ⟨n, e, hn⟩
    · rw [e]; exact h.new
    · exact .inr ⟨n, e, Nat.le_trans h.agx.size hn⟩
/-- a call that leaves all old blocks alone -/
theorem Frm.of_below {b : Nat} {g : Option Nat} {w w' : World} (h : Below w.heap.size w w') (hb : b ≤ w.heap.size) : Frm b g g w w' :=
  ⟨h.mono hb, ⟨h.size, fun k hk _ _ => h.block k hk⟩, .inl rfl⟩
theorem Frm.of_set {b : Nat} {g : Option Nat} {w w' : World} (h : w.grownBy w' (some b)) (hb : b ≤ w.heap.size) : Frm b g g w w' :=
  ⟨(Below.refl b w).grown h hb (fun k hk => by cases hk; exact Nat.le_refl _), ⟨h.size, fun k hk hne _ => h.block k hk (by intro e; injection e with e; exact hne e)⟩, .inl rfl⟩
theorem Frm.of_grow {b : Nat} {g g' : Option Nat} {w w' : World} (h : w.grownBy w' g) (hb : b ≤ w.heap.size) (hg : ∀ k, g = some k → b ≤ k) (hn : g' = g ∨ ∃ k, g' = some k ∧ w.heap.size ≤ k) : Frm b g g' w w' :=
  ⟨(Below.refl b w).grown h hb hg, ⟨h.size, fun k hk _ hne => h.block k hk hne⟩, hn⟩
theorem Rd.agx {b : Nat} {g : Option Nat} {w w' : World} {A : Option Addr} {xs : List Value} (h : Rd w A xs) (ha : AgX b g w w') (ho : ∀ ad, A = some ad → 0 < xs.length → ad.block ≠ b ∧ some ad.block ≠ g) : Rd w' A xs := fun j u hu => by
  obtain ⟨ad, rfl, hlt, hc⟩ := h j u hu
  have hj : j < xs.length := (List.getElem?_eq_some_iff.1 hu).1
  obtain ⟨o1, o2⟩ := ho ad rfl (by omega)
  have e : (ad.add j).block = ad.block := by unfold Addr.add; split <;> rfl
  exact ⟨ad, rfl, Nat.lt_of_lt_of_le hlt ha.size, (World.cell?_of_block (by rw [e]; exact ha.block _ hlt o1 o2)).trans hc⟩
theorem RI.agx {b : Nat} {g : Option Nat} {w w' : World} {v : Value} {zs : List Int} (h : RI w v zs) (ha : AgX b g w w') (ho : Off X b g v) : RI w' v zs := by
  obtain ⟨A, c, rfl, h2, h3, h4, h5⟩ := h
  exact ⟨A, c, rfl, h2, h3, h4, Rd.agx h5 ha (fun ad e hn => have := ho ad _ _ (by rw [e]) (by simpa [cI_len] using hn); ⟨this.1, this.2.1⟩)⟩
def RBx (X : Nat → Prop) (b : Nat) (g : Option Nat) (w : World) (v : Value) (bs : List UInt8) : Prop := RB w v bs ∧ Off X b g v
def RLx (X : Nat → Prop) (b : Nat) (g : Option Nat) (w : World) (v : Value) (l : List (List Int)) : Prop := RL w v l ∧ Off X b g v ∧ PL (Off X b g) w v
theorem off_new {b : Nat} {g g' : Option Nat} {w : World} {v : Value} (h : Off X b g v) (hn : g' = g ∨ ∃ k, g' = some k ∧ w.heap.size ≤ k) (hv : ∀ ad n c, v = .slice (some ad) n c → 0 < n → ad.block < w.heap.size) : Off X b g' v := fun ad n c e h0 => by
  refine ⟨(h ad n c e h0).1, ?_, (h ad n c e h0).2.2⟩
  rcases hn with x | ⟨k, x, hk⟩
  · rw [x]; exact (h ad n c e h0).2.1
  · rw [x]; intro y; injection y with y; have := hv ad n c e h0; omega
theorem RI.lt {w : World} {v : Value} {zs : List Int} (h : RI w v zs) : ∀ ad n c, v = .slice (some ad) n c → 0 < n → ad.block < w.heap.size := fun ad n c e h0 => by
  obtain ⟨A, c', rfl, h2, h3, h4, h5⟩ := h
  injection e with e1 e2 e3
  obtain ⟨z, hz⟩ := get_some zs 0 (by omega)
  obtain ⟨ad', e', hlt, _⟩ := h5 0 _ (cI_at zs 0 z hz)
  rw [e1] at e'; injection e' with e'; rw [e']; exact hlt
theorem RL.lt {w : World} {v : Value} {l : List (List Int)} (h : RL w v l) : ∀ ad n c, v = .slice (some ad) n c → 0 < n → ad.block < w.heap.size := fun ad n c e h0 => by
  obtain ⟨A, c', vs, rfl, h2, h3, h4, hl, h5, _⟩ := h
  injection e with e1 e2 e3
  obtain ⟨z, hz⟩ := get_some vs 0 (by omega)
  obtain ⟨ad', e', hlt, _⟩ := h5 0 _ hz
  rw [e1] at e'; injection e' with e'; rw [e']; exact hlt
theorem RB.lt {w : World} {v : Value} {bs : List UInt8} (h : RB w v bs) : ∀ ad n c, v = .slice (some ad) n c → 0 < n → ad.block < w.heap.size := fun ad n c e h0 => by
  obtain ⟨A, c', rfl, h2, h5⟩ := h
  injection e with e1 e2 e3
  obtain ⟨z, hz⟩ := get_some bs 0 (by omega)
  obtain ⟨ad', e', hlt, _⟩ := h5 0 _ (cB_at bs 0 z hz)
  rw [e1] at e'; injection e' with e'; rw [e']; exact hlt
theorem RBx.frm {b : Nat} {g g' : Option Nat} {w w' : World} {v : Value} {bs : List UInt8} (h : RBx X b g w v bs) (hf : Frm b g g' w w') : RBx X b g' w' v bs := by
  refine ⟨?_, off_new h.2 hf.new (RB.lt h.1)⟩
  obtain ⟨⟨A, c, rfl, h2, h4⟩, ho⟩ := h
  exact ⟨A, c, rfl, h2, Rd.agx h4 hf.agx (fun ad e hn => have := ho ad _ _ (by rw [e]) (by simpa [cB_len] using hn); ⟨this.1, this.2.1⟩)⟩
theorem RLx.frm {b : Nat} {g g' : Option Nat} {w w' : World} {v : Value} {l : List (List Int)} (h : RLx X b g w v l) (hf : Frm b g g' w w') : RLx X b g' w' v l := by
  obtain ⟨hr, ho, hp⟩ := h
  have hr' := hr
  obtain ⟨A, c, vs, rfl, h2, h3, h4, hl, h5, h6⟩ := hr
  have hoff : ∀ j x, vs[j]? = some x → Off X b g x := fun j x hx => by
    obtain ⟨ad, e, _, hc⟩ := h5 j x hx
    exact hp ad _ _ j x (by rw [e]) (by have := (List.getElem?_eq_some_iff.1 hx).1; omega) hc
  have hrd' : Rd w' A vs := Rd.agx h5 hf.agx (fun ad e hn => have := ho ad _ _ (by rw [e]) (by omega); ⟨this.1, this.2.1⟩)
  refine ⟨⟨A, c, vs, rfl, h2, h3, h4, hl, hrd', fun j x p hx hq => RI.agx (h6 j x p hx hq) hf.agx (hoff j x hx)⟩, off_new ho hf.new (RL.lt hr'), ?_⟩
  intro A' n' c' j x hv hj hx
  injection hv with e1 e2 e3
  obtain ⟨y, hy⟩ := get_some vs j (by omega)
  obtain ⟨ad, e, _, hc⟩ := hrd' j y hy
  rw [e1] at e; injection e with e
  rw [e, hc] at hx
  injection hx with hx
  subst hx
  obtain ⟨p, hp'⟩ := get_some l j (by omega)
  exact off_new (hoff j y hy) hf.new (RI.lt (h6 j y p hy hp'))
theorem RBx.nil (b : Nat) (g : Option Nat) (w : World) : RBx X b g w (.slice none 0 0) [] := ⟨RB.nil w, fun _ _ _ e => by cases e⟩
theorem RLx.nil (b : Nat) (g : Option Nat) (w : World) : RLx X b g w (.slice none 0 0) [] := ⟨RL.nil w, (fun _ _ _ e => by cases e), (fun _ _ _ _ _ e => by cases e)⟩
/-- what param.Step hands back -/
theorem RLx.of_rop {b : Nat} {g : Option Nat} {B : Nat} {w : World} {v : Value} {l : List (List Int)} (h : ROP (Off X b g) B w v l) (hX : ∀ k, b < k → X k) (hb : b < B) (hg : ∀ k, g = some k → k < B) : RLx X b g w v l := by
  obtain ⟨h1, vs, h2, h3⟩ := h
  refine ⟨h1, fun ad n c e _ => ?_, fun A n c j x e hj hx => ?_⟩
  · have := Hi.own h2 ad n c e
    refine ⟨by omega, fun x => ?_, hX _ (by omega)⟩
    have := hg _ x.symm
    omega
  · rcases h2.2 with ⟨hv, h0⟩ | ⟨k, cap, cur, hv, _⟩
    · rw [hv] at e; cases e
    · rw [hv] at e
      injection e with e1 e2 e3
      injection e1 with e1
      subst e1
      obtain ⟨y, hy⟩ := get_some vs j (by have := h2.1; omega)
      have hc := h2.cells (g := k) (by rw [hv]; rfl) j y hy
      rw [hx] at hc
      injection hc with hc
      subst hc
      exact h3 x (List.mem_of_getElem? hy)
theorem fresh_off {b : Nat} {g : Option Nat} {B : Nat} (hX : ∀ k, b < k → X k) (hb : b < B) (hg : ∀ k, g = some k → k < B) : Fresh (Off X b g) B := fun x hx ad n c e _ => by
  have := hx ad n c e
  refine ⟨by omega, fun y => ?_, hX _ (by omega)⟩
  have := hg _ y.symm
  omega
/-- events whose parameters lie elsewhere -/
def QEx (X : Nat → Prop) (b : Nat) (g : Option Nat) (w : World) (xs : List EQ) : Prop := ∀ x ∈ xs, RLx X b g w (.slice x.A x.n x.c) x.e.ps
theorem QEx.frm {b : Nat} {g g' : Option Nat} {w w' : World} {xs : List EQ} (h : QEx X b g w xs) (hf : Frm b g g' w w') : QEx X b g' w' xs := fun x hx => (h x hx).frm hf
/-- a decoder's cells -/
def cD (p : PS) (u q v : Value) : List Value := [.int .i64 p.st, u, .int .u8 (p.pr.toNat : Int), .int .u8 (p.fi.toNat : Int), q, .string p.it, .string p.tx, .bool p.bad, v]
/-- a decoder at block b, with its events so far in block g -/
def Dec (X : Nat → Prop) (b : Nat) (g : Option Nat) (w : World) (p : PS) (l : List EV) : Prop :=
  ∃ u q v xs, Box w b (cD p u q v) ∧ OwnV w (b + 1) v xs ∧ xs.map (·.e) = l ∧ v.ownBlock = g ∧ RBx X b g w u p.utf ∧ RLx X b g w q p.ps ∧ QEx X b g w xs ∧ (∀ k, b < k → X k)
theorem OwnV.at {w w' : World} {base : Nat} {v : Value} {xs : List EQ} (h : OwnV w base v xs) (hb : ∀ k, v.ownBlock = some k → base ≤ k → k < w.heap.size → w'.heap[k]? = w.heap[k]?) : OwnV w' base v xs := by
  rcases h with ⟨h0, hv | ⟨k, cap, cur, hv, h1, hg, h2⟩⟩
  · exact ⟨h0, .inl hv⟩
  · exact ⟨h0, .inr ⟨k, cap, cur, hv, h1, (hb k (by rw [hv]; rfl) h1 (Array.getElem?_eq_some_iff.1 hg).1).trans hg, h2⟩⟩
theorem OwnV.blk {w : World} {base : Nat} {v : Value} {xs : List EQ} (h : OwnV w base v xs) : ∀ k, v.ownBlock = some k → base ≤ k ∧ k < w.heap.size := fun k hk => by
  rcases h with ⟨h0, ⟨hv, _⟩ | ⟨k', cap, cur, hv, h1, hg, h2⟩⟩
  · rw [hv] at hk; cases hk
  · rw [hv] at hk
    injection hk with hk
    subst hk
    exact ⟨h1, (Array.getElem?_eq_some_iff.1 hg).1⟩
/-- the decoder's own block has changed -/
theorem Dec.put {b : Nat} {g : Option Nat} {w w' : World} {p' : PS} {l : List EV} {u' q' v : Value} {xs : List EQ} (hX : ∀ k, b < k → X k) (hv : OwnV w (b + 1) v xs) (hl : xs.map (·.e) = l) (hg : v.ownBlock = g) (hxs : QEx X b g w xs)
    (hb : b < w.heap.size) (hgr : w.grownBy w' (some b)) (hx : Box w' b (cD p' u' q' v)) (hu : RBx X b g w u' p'.utf) (hq : RLx X b g w q' p'.ps) : Dec X b g w' p' l ∧ Frm b g g w w' := by
  have hf : Frm b g g w w' := Frm.of_set hgr (Nat.le_of_lt hb)
  exact ⟨⟨u', q', v, xs, hx, hv.at (fun k _ h1 h2 => hgr.block k h2 (by intro e; injection e with e; omega)), hl, hg, hu.frm hf, hq.frm hf, hxs.frm hf, hX⟩, hf⟩
/-- a call that leaves all old blocks alone -/
theorem Dec.below {b : Nat} {g : Option Nat} {w w' : World} {p : PS} {l : List EV} (h : Dec X b g w p l) (hb : Below w.heap.size w w') : Dec X b g w' p l := by
  obtain ⟨u, q, v, xs, hx, hv, hl, hg, hu, hq, hxs, hX⟩ := h
  have hf : Frm b g g w w' := Frm.of_below hb (Nat.le_of_lt hx.1)
  exact ⟨u, q, v, xs, hx.keep hb, hv.keep hb, hl, hg, hu.frm hf, hq.frm hf, hxs.frm hf, hX⟩
/-- what a method of the decoder does -/
def Did (X : Nat → Prop) (b : Nat) (g : Option Nat) (w : World) (r : PS × List EV) (l : List EV) (e : Ending) (w' : World) : Prop := e = .returned (.tuple #[]) ∧ ∃ g', Dec X b g' w' r.1 (l ++ r.2) ∧ Frm b g g' w w'
end Go.Proofs.YtefkbdmgplfgoaaGreatDoor.Sta
