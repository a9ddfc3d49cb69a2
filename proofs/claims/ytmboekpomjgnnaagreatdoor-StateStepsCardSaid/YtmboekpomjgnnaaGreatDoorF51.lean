/-
  StaOc
-/
import Derived.Test.YtmboekpomjgnnaaGreatDoorF11
import Derived.Test.YtmboekpomjgnnaaGreatDoorF43
import Derived.Test.YtmboekpomjgnnaaGreatDoorF48
import Derived.Test.YtmboekpomjgnnaaGreatDoorF50
namespace Go.Proofs.YtmboekpomjgnnaaGreatDoor.Sta
open Go.RowKit Utf Par

def mn300 (n : Nat) : Nat := min n 300
def mn400 (n : Nat) : Nat := min n 400
theorem min_300 (n : Nat) : (if (300 : Int) < (n : Int) then (300 : Int) else (n : Int)) = ((mn300 n : Nat) : Int) := by unfold mn300; split <;> omega
theorem min_400 (n : Nat) : (if (400 : Int) < (n : Int) then (400 : Int) else (n : Int)) = ((mn400 n : Nat) : Int) := by unfold mn400; split <;> omega
theorem rd_take {w : World} {A : Option Addr} {bs : List UInt8} (h : Rd w A (cB bs)) (k : Nat) : Rd w A (cB (bs.take k)) := fun j u hu => h j u (by
  have hj : j < (cB (bs.take k)).length := (List.getElem?_eq_some_iff.1 hu).1
  rw [cB_len, List.length_take] at hj
  rw [← hu]
  unfold cB
  simp [show j < k by omega])
/-- a parse's sizes -/
def Lim (p : PS) : Prop := p.utf.length ≤ 1000000 ∧ Kq p.ps ∧ p.it.size ≤ 1000000 ∧ p.tx.size ≤ 1000000
theorem Lim.kp {p : PS} (h : Lim p) : Kp p := ⟨h.1, h.2.1.1, h.2.2.1, h.2.2.2⟩
theorem ks_kq {l : List (List Int)} (h : Ks l) : Kq l := ⟨Nat.le_trans h.1 (by decide), fun p hp => Nat.le_trans (h.2 p hp) (by decide)⟩
theorem lim_may {p : PS} (h : mayS p = true) : Lim p := by
  obtain ⟨_, _, h3, h4, h5, h6⟩ := may_bnd h
  exact ⟨by omega, ks_kq h6, h5, h4⟩
theorem lim_beg (n : Int) : Lim (begS n) := ⟨Nat.zero_le _, ⟨Nat.zero_le _, fun x hx => by cases hx⟩, Nat.zero_le _, Nat.zero_le _⟩
theorem lim_fed (p : PS) (bs : List UInt8) : Lim (fedS p bs).1 := by
  unfold fedS
  cases h : mayS p with
  | false => exact lim_beg 0
  | true =>
    rw [if_pos rfl]
    split
    · exact lim_beg 0
    · exact lim_may (run_may bs (p, []) h)
theorem lim_sh (p : PS) : Lim (shS p) := by
  refine ⟨?_, ks_kq (shL9_ks _), ?_, ?_⟩
  · show (p.utf.take 6).length ≤ 1000000
    rw [List.length_take]; omega
  · show (p.it.extract 0 (mn6 p.it.size)).size ≤ 1000000
    rw [ByteArray.size_extract]; unfold mn6; omega
  · show (p.tx.extract 0 (mn600 p.tx.size)).size ≤ 1000000
    rw [ByteArray.size_extract]; unfold mn600; omega
/-- a parse as a value -/
def Prs (w : World) (V : Value) (p : PS) : Prop := ∃ au aq cu cq, V = .agg (cS p (.slice au p.utf.length cu) (.slice aq p.ps.length cq)) ∧ RS w (.slice au p.utf.length cu) (.slice aq p.ps.length cq) p ∧ Lim p
theorem Prs.of {w : World} {u q : Value} {p : PS} (h : RS w u q p) (hl : Lim p) : Prs w (.agg (cS p u q)) p := by
  obtain ⟨A, c, rfl⟩ := h.1.form
  obtain ⟨A', c', rfl⟩ := h.2.form
  exact ⟨A, A', c, c', rfl, h, hl⟩
theorem Prs.keep {w w' : World} {V : Value} {p : PS} (h : Prs w V p) (hb : Below w.heap.size w w') : Prs w' V p := by
  obtain ⟨a, b, c, d, e, h1, h2⟩ := h
  exact ⟨a, b, c, d, e, h1.keep hb, h2⟩
theorem Prs.nil (w : World) : Prs w (.agg #[.int .i64 0, .slice none 0 0, .int .u8 0, .int .u8 0, .slice none 0 0, .string ⟨#[]⟩, .string ⟨#[]⟩, .bool false]) (begS 0) :=
  ⟨none, none, 0, 0, rfl, RS.nil _ _ rfl rfl, lim_beg 0⟩
theorem fed_stp {X : Nat → Prop} {r : PS × List EV × Int} {w : World} {e : Ending} {w' : World} (h : FedPost X r w e w') : StpPost r w e w' := by
  obtain ⟨u, q, v, xs, rfl, h1, h2, h3, h4, h5⟩ := h
  refine ⟨u, q, v, rfl, h1.1, ?_, h5⟩
  rw [← h3]
  exact h2.rv fun x hx => (h4 x hx).1
theorem step_prs {p : PS} (b : UInt8) {V : Value} {w : World} (h : Prs w V p) (hm : Mk w) (ht : Tf w) : Calls Tryz.prog 15 #[V, .int .u8 (b.toNat : Int)] w (StpPost (stpS p b) w) := by
  obtain ⟨au, aq, cu, cq, rfl, h1, h2⟩ := h
  exact step6_all p b au aq _ cu _ cq w h1 hm ht h2.1 h2.2.1 h2.2.2.1 h2.2.2.2
theorem rstep_prs {p : PS} (b : UInt8) {V : Value} {w : World} (h : Prs w V p) : Calls Tryz.prog 16 #[V, .int .u8 (b.toNat : Int)] w (StpPost (stpS p b) w) := by
  obtain ⟨au, aq, cu, cq, rfl, h1, h2⟩ := h
  exact rstep6_any p b au aq _ cu _ cq w h1 rfl rfl h2.kp
theorem feed_prs {p : PS} {V : Value} {w : World} (h : Prs w V p) (hm : Mk w) (ht : Tf w) (A : Option Addr) (nb cb : Nat) (bs : List UInt8) (hb : Rd w A (cB bs)) (hn : nb = bs.length) (h6 : nb ≤ 1000000) : Calls Tryz.prog 18 #[V, .slice A nb cb] w (StpPost (fedS p bs) w) := by
  obtain ⟨au, aq, cu, cq, rfl, h1, h2⟩ := h
  exact (feed_all (fun _ => True) p au aq A _ cu _ cq nb cb bs w (PX.on (Nat.le_refl _) (fun _ _ => rfl) (RS.lt h1) (fun _ _ => trivial)) (fun _ _ => trivial) hm ht hb hn h6 h2.1 h2.2.1 h2.2.2.1 h2.2.2.2).mono fun _ _ h => fed_stp h
theorem rfeed_prs {p : PS} {V : Value} {w : World} (h : Prs w V p) (A : Option Addr) (nb cb : Nat) (bs : List UInt8) (hb : Rd w A (cB bs)) (hn : nb = bs.length) (h6 : nb ≤ 1000000) : Calls Tryz.prog 19 #[V, .slice A nb cb] w (StpPost (fedS p bs) w) := by
  obtain ⟨au, aq, cu, cq, rfl, h1, h2⟩ := h
  exact (rfeed_any (fun _ => True) p au aq A _ cu _ cq nb cb bs w (PX.on (Nat.le_refl _) (fun _ _ => rfl) (RS.lt h1) (fun _ _ => trivial)) (fun _ _ => trivial) rfl rfl h2.kp hb hn h6).mono fun _ _ h => fed_stp h
theorem check_prs {p : PS} {V : Value} {w : World} (h : Prs w V p) (hm : Mk w) (ht : Tf w) : Calls Tryz.prog 8 #[V] w fun e w' => e = .returned (.int .i64 (if mayS p = true then 0 else 160)) ∧ Below w.heap.size w w' := by
  obtain ⟨au, aq, cu, cq, rfl, h1, h2⟩ := h
  exact check6_all p au aq _ cu _ cq w h1 hm ht h2.1 h2.2.1 h2.2.2.1 h2.2.2.2
theorem rsame_prs {p q : PS} {V U : Value} {w : World} (h : Prs w V p) (g : Prs w U q) : Calls Tryz.prog 11 #[V, U] w fun e w' => e = .returned (.bool (eqS p q)) ∧ Below w.heap.size w w' := by
  obtain ⟨au, aq, cu, cq, rfl, h1, h2⟩ := h
  obtain ⟨bu, bq, du, dq, rfl, g1, g2⟩ := g
  exact rsame6_any p q _ _ _ _ _ _ _ _ _ _ _ _ w h1 g1 h2.2.1 g2.2.1
theorem rsame_yes {p : PS} {V U : Value} {w : World} (h : Prs w V p) (g : Prs w U p) : Calls Tryz.prog 11 #[V, U] w fun e w' => e = .returned (.bool true) ∧ Below w.heap.size w w' := by
  have h1 := rsame_prs h g
  rwa [(eqS_iff p p).2 rfl] at h1
theorem revents_yes {u v : Value} {a : List EV} {w : World} (ha : RV w u a) (hb : RV w v a) (ka : Kv a) : Calls Tryz.prog 17 #[u, v] w fun e w' => e = .returned (.bool true) ∧ Below w.heap.size w w' := by
  have h1 := revents_any u v a a w ha hb ka ka
  rwa [(evB_iff a a).2 rfl] at h1
theorem kv_stp (p : PS) (b : UInt8) : Kv (stpS p b).2.1 := by rw [← fed_one]; exact (fed_kv p [b]).1
theorem lim_stp (p : PS) (b : UInt8) : Lim (stpS p b).1 := by rw [← fed_one]; exact lim_fed p [b]
end Go.Proofs.YtmboekpomjgnnaaGreatDoor.Sta
