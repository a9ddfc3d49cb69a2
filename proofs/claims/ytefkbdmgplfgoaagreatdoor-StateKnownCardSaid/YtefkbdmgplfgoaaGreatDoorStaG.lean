/-
  Contract of the reference's Events.
-/
import Derived.Test.YtefkbdmgplfgoaaGreatDoorStaF
import Derived.Test.YtefkbdmgplfgoaaGreatDoorParM
import Derived.Deep.RegionHeld3
import Derived.Deep.RegionWith
namespace Go.Proofs.YtefkbdmgplfgoaaGreatDoor.Sta
open Go.RowKit Utf Par

def evB : List EV → List EV → Bool
  | [], [] => true
  | x :: a, y :: b => eqE x y && evB a b
  | _, _ => false
theorem evB_iff (a b : List EV) : evB a b = true ↔ a = b := by
  induction a generalizing b with
  | nil => cases b <;> simp [evB]
  | cons x a ih =>
    cases b with
    | nil => simp [evB]
    | cons y b => rw [evB, Bool.and_eq_true, eqE_iff, ih]; simp
theorem evB_ne {a b : List EV} (h : a ≠ b) : evB a b = false := by
  cases hb : evB a b with
  | false => rfl
  | true => exact absurd ((evB_iff a b).1 hb) h
/-- sizes of events' parameters that a comparison bears -/
def Kv (l : List EV) : Prop := ∀ e ∈ l, Kq e.ps
set_option maxRecDepth 100000 in
theorem ixE (b o n c k : Nat) (h : k < n) (w : World) : (Instr.indexAt 41 (.slice (some ⟨b, o, none⟩) n c) (.int .i64 (k : Int))).run Tryz.prog w = .ok (.pointer (some ⟨b, o + k * 7, none⟩)) w := by
  have h1 : (k : Int) < (n : Int) := by omega
  rw [run_indexAt_slice w 41 _ _ _ _ _ Tryz.underlying41]
  go_simp
theorem RV.item {w : World} {A : Option Addr} {n c : Nat} {l : List EV} (h : RV w (.slice A n c) l) {k : Nat} {e : EV} (he : l[k]? = some e) : ∃ b o aq nq cq, A = some ⟨b, o, none⟩ ∧ b < w.heap.size ∧ w.rangeAt b (o + k * 7) (cE ⟨e, aq, nq, cq⟩) ∧ RL w (.slice aq nq cq) e.ps := by
  obtain ⟨A', c', xs, hv, h1, h2, h3, h4, h5⟩ := h
  cases hv
  have hk : k < xs.length := by have := (List.getElem?_eq_some_iff.1 he).1; rw [← h3] at this; simpa using this
  obtain ⟨x, hx⟩ := get_some xs k hk
  have : x.e = e := by
    rw [← h3, List.getElem?_map, hx] at he
    simpa using he
  subst this
  obtain ⟨b, o, hA, hlt, hr⟩ := h4 k x hx
  exact ⟨b, o, x.A, x.n, x.c, hA, hlt, hr, h5 x (List.mem_of_getElem? hx)⟩
theorem range7 {w : World} {b o : Nat} {e : EV} {aq : Option Addr} {nq cq : Nat} (h : w.rangeAt b o (cE ⟨e, aq, nq, cq⟩)) :
    w.cell? ⟨b, o, none⟩ = some (.int .i64 e.k) ∧ w.cell? ⟨b, o + 1, none⟩ = some (.int .i64 e.c) ∧ w.cell? ⟨b, o + 2, none⟩ = some (.int .u8 (e.pr.toNat : Int)) ∧ w.cell? ⟨b, o + 3, none⟩ = some (.int .u8 (e.fi.toNat : Int)) ∧ w.cell? ⟨b, o + 4, none⟩ = some (.slice aq nq cq) ∧ w.cell? ⟨b, o + 5, none⟩ = some (.string e.it) ∧ w.cell? ⟨b, o + 6, none⟩ = some (.string e.tx) :=
  ⟨h 0 _ rfl, h 1 _ rfl, h 2 _ rfl, h 3 _ rfl, h 4 _ rfl, h 5 _ rfl, h 6 _ rfl⟩
set_option maxRecDepth 100000 in
set_option maxHeartbeats 8000000 in
theorem revents_any (u v : Value) (a b : List EV) (w : World) (ha : RV w u a) (hb : RV w v b) (ka : Kv a) (kb : Kv b) :
    Calls Tryz.prog 18 #[u, v] w fun e w' => e = .returned (.bool (evB a b)) ∧ Below w.heap.size w w' := by
  obtain ⟨A, c, rfl⟩ := ha.form
  obtain ⟨B, d, rfl⟩ := hb.form
  obtain ⟨n, hn⟩ : ∃ n, n = a.length := ⟨_, rfl⟩
  obtain ⟨m, hm⟩ : ∃ m, m = b.length := ⟨_, rfl⟩
  rw [← hn] at ha ⊢
  rw [← hm] at hb ⊢
  have hnl : n ≤ 9223372036854775807 := by
    obtain ⟨_, _, _, e, h1, h2, _⟩ := ha
    unfold maxLen at h2
    omega
  by_cases hne : n = m
  · subst hne
    have HA := Lib.hid ha
    have HB := Lib.hid hb
    have HN := Lib.hid hn
    have HM := Lib.hid hm
    have KA := Lib.hid ka
    have KB := Lib.hid kb
    clear ha hb hn hm ka kb
    go_enter Tryz.func18, Tryz.ntmps18
    go_wp2
    go_loopw [5] (fun i wr => ∃ k : Nat, k ≤ n ∧ i = .int .i64 k ∧ Hid (a.take k = b.take k ∧ Below w.heap.size w wr)) (fun i _ => n - (intOf i).toNat)
    case atStart => exact ⟨0, Nat.zero_le _, rfl, rfl, Below.refl _ _⟩
    case round =>
      obtain ⟨k, hk, rfl, hid⟩ := hrel
      by_cases hlt : k < n
      · obtain ⟨x, hx⟩ := get_some a k (by rw [← HN.out]; exact hlt)
        obtain ⟨y, hy⟩ := get_some b k (by rw [← HM.out]; exact hlt)
        obtain ⟨g, o, aq, nq, cq, rfl, hg, r1, q1⟩ := (HA.out.keep hid.out.2).item hx
        obtain ⟨g', o', aq', nq', cq', rfl, hg', r2, q2⟩ := (HB.out.keep hid.out.2).item hy
        have x1 := fun W => ixE g o n c k hlt W
        have x2 := fun W => ixE g' o' n d k hlt W
        have i1 : (0 : Int) ≤ (k : Int) := by omega
        have i2 : (k : Int) < (n : Int) := by omega
        have c1 : decide ((k : Int) < (n : Int)) = true := decide_eq_true i2
        have HX := Lib.hid hx
        have HY := Lib.hid hy
        have HS := fun W (hb : Below wr.heap.size wr W) => Lib.hid (ralike_any x y aq aq' nq nq' cq cq' W (q1.keep hb) (q2.keep hb) (KA.out x (List.mem_of_getElem? hx)) (KB.out y (List.mem_of_getElem? hy)))
        clear hx hy q1 q2
        generalize o + k * 7 = O at r1 x1
        generalize o' + k * 7 = O' at r2 x2
        have HK := Lib.hid (show ∀ W, Below wr.heap.size wr W → (W.rangeAt g O (cE ⟨x, aq, nq, cq⟩) ∧ W.rangeAt g' O' (cE ⟨y, aq', nq', cq'⟩)) ∧ Below wr.heap.size wr W from fun W hW =>
          ⟨⟨fun i v hv => (hW.cell (p := ⟨g, O + i, none⟩) hg).trans (r1 i v hv), fun i v hv => (hW.cell (p := ⟨g', O' + i, none⟩) hg').trans (r2 i v hv)⟩, hW⟩)
        obtain ⟨⟨r3, r4⟩, hd⟩ := HK.out _ (Below.refl _ wr).drew
        obtain ⟨p0, p1, p2, p3, p4, p5, p6⟩ := range7 r3
        obtain ⟨s0, s1, s2, s3, s4, s5, s6⟩ := range7 r4
        clear r1 r2 r3 r4
        have hq : eqE x y = true ↔ x = y := eqE_iff x y
        have HQ := Lib.hid hq
        clear hq
        unfold cE at HS
        dsimp only at HS
        cases hxy : eqE x y with
        | true =>
          rw [hxy] at HS
          go_upto_region 6 with fail
          go_region_with (go_at_call 14; refine (HS _ hd).out.mono ?_; rintro e w2 ⟨rfl, hb2⟩)
          all_goals
            go_wp2
            exact ⟨⟨k + 1, by omega, by go_num, by rw [get_take a k x HX.out, get_take b k y HY.out, hid.out.1, (HQ.out).1 hxy], up hid.out.2 (up hd hb2)⟩, by simp [intOf]; omega⟩
        | false =>
          rw [hxy] at HS
          have hxne : x ≠ y := fun e => by rw [(HQ.out).2 e] at hxy; cases hxy
          have hab : evB a b = false := evB_ne fun e => hxne (by
            have h1 := HX.out
            rw [e, HY.out] at h1
            exact (Option.some.inj h1).symm)
          have HAB := Lib.hid hab
          clear hab hxne
          go_upto_region 6 with fail
          go_region_with (go_at_call 14; refine (HS _ hd).out.mono ?_; rintro e w2 ⟨rfl, hb2⟩)
          all_goals
            go_wp2
            go_ret
            rw [HAB.out]
            exact ⟨rfl, up hid.out.2 (up hd hb2)⟩
      · have c1 : decide ((k : Int) < (n : Int)) = false := decide_eq_false (by omega)
        have he := hid.out.1
        rw [List.take_of_length_le (by rw [← HN.out]; omega), List.take_of_length_le (by rw [← HM.out]; omega)] at he
        have HAB := Lib.hid ((evB_iff a b).2 he)
        clear he
        go_wp2
        go_ret
        rw [HAB.out]
        exact ⟨rfl, hid.out.2⟩
  · have hab : evB a b = false := evB_ne fun e => hne (by rw [hn, hm, e])
    rw [hab]
    have c1 : ((n : Int) != (m : Int)) = true := by simp; omega
    clear ha hb ka kb hn hm hab
    go_enter Tryz.func18, Tryz.ntmps18
    go_wp2
    go_ret
    exact ⟨rfl, Below.refl _ _⟩
end Go.Proofs.YtefkbdmgplfgoaaGreatDoor.Sta
