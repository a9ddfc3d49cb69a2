/-
  SgrC SgrG
-/
import Derived.Test.YteepfecplabinaaDoorP10
import Derived.Test.YteepfecplabinaaDoorP12
import Derived.Test.YteepfecplabinaaDoorP14
namespace Go.Proofs.YteepfecplabinaaDoor.Sgr
open Go.RowKit Utf

open Par in
set_option maxRecDepth 100000 in
set_option maxHeartbeats 1000000 in
theorem indexB_any (A : Option Addr) (n c : Nat) (zs : List Int) (w : World) (hn : n = zs.length) (hx : Rd w A (cI zs)) (hl : n ≤ 1000000) :
    Calls Tryd.prog 106 #[.slice A n c, .func (.func 107) #[] #[]] w fun e w' => (∃ k : Int, e = .returned (.int .i64 k) ∧ decide (0 ≤ k) = zs.any noB) ∧ Below w.heap.size w w' := by
  have HX := Lib.hid hx; clear hx
  have Hn := Lib.hid hn; clear hn
  go_enter Tryd.func106, Tryd.ntmps106
  go_wp2
  go_loopw [8] (fun i wr => ∃ k : Nat, k ≤ n ∧ i = .int .i64 k ∧ Hid ((zs.take k).any noB = false ∧ Below w.heap.size w wr)) (fun i _ => n - (intOf i).toNat)
  case atStart => exact ⟨0, Nat.zero_le _, rfl, by simp [Hid]; exact Below.refl _ _⟩
  case round =>
    obtain ⟨k, hk, rfl, hid⟩ := hrel
    by_cases hlt : k < n
    · obtain ⟨z, hz⟩ := get_some zs k (by rw [← Hn.out]; exact hlt)
      obtain ⟨ad, rfl, _, hc⟩ := (HX.out.below hid.out.2) k _ (cI_at zs k z hz)
      have Hz := Lib.hid hz; clear hz
      have i1 : (0 : Int) ≤ (k : Int) := by omega
      have i2 : (k : Int) < (n : Int) := by omega
      go_wp2_with (go_at_call 107; refine (isNoByte_any _ _).mono ?_; rintro e w1 ⟨rfl, rfl⟩)
      · have hh : noB z = true := by assumption
        go_ret
        refine ⟨⟨_, rfl, ?_⟩, hid.out.2⟩
        rw [any_hit noB zs k z Hz.out hh]
        simp
      · have hh : noB z = false := by assumption
        go_roundw
        case rel => exact ⟨k + 1, by omega, by go_num, by rw [any_take noB zs k z Hz.out, hid.out.1, hh]; rfl, hid.out.2⟩
        case measure => simp [intOf]; omega
    · go_wp2
      go_ret
      have he := hid.out.1
      rw [List.take_of_length_le (by rw [← Hn.out]; omega)] at he
      exact ⟨⟨_, rfl, by rw [he]; decide⟩, hid.out.2⟩
theorem containsB_any (A : Option Addr) (n c : Nat) (zs : List Int) (w : World) (hn : n = zs.length) (hx : Rd w A (cI zs)) (hl : n ≤ 1000000) :
    Calls Tryd.prog 73 #[.slice A n c, .func (.func 107) #[] #[]] w fun e w' => e = .returned (.bool (zs.any noB)) ∧ Below w.heap.size w w' := by
  have HC := Lib.hid (indexB_any A n c zs w hn hx hl); clear hx hn
  go_enter Tryd.func73, Tryd.ntmps73
  go_wp2_with (go_at_call 106; refine HC.out.mono ?_; rintro e w1 ⟨⟨k, rfl, hk⟩, hb⟩)
  go_ret
  exact ⟨by rw [← hk]; rfl, hb⟩
open Par in
set_option maxRecDepth 100000 in
set_option maxHeartbeats 1000000 in
theorem indexH_any (v : Value) (l : List (List Int)) (w : World) (h : RL w v l) (hl : l.length ≤ 1000000) :
    Calls Tryd.prog 72 #[v, .func (.func 91) #[] #[]] w fun e w' => (∃ k : Int, e = .returned (.int .i64 k) ∧ decide (0 ≤ k) = l.any manyB) ∧ Below w.heap.size w w' := by
  obtain ⟨A, c, vs, rfl, hc, hc2, hA, hv, hr, hi⟩ := h
  obtain ⟨n, hn⟩ : ∃ n, n = l.length := ⟨_, rfl⟩
  rw [← hn] at hl hc hv ⊢
  have HX := Lib.hid hr; clear hr
  have HI := Lib.hid hi; clear hi
  have Hn := Lib.hid hn; clear hn
  have Hv := Lib.hid hv; clear hv
  clear hA hc hc2
  go_enter Tryd.func72, Tryd.ntmps72
  go_wp2
  go_loopw [8] (fun i wr => ∃ k : Nat, k ≤ n ∧ i = .int .i64 k ∧ Hid ((l.take k).any manyB = false ∧ Below w.heap.size w wr)) (fun i _ => n - (intOf i).toNat)
  case atStart => exact ⟨0, Nat.zero_le _, rfl, by simp [Hid]; exact Below.refl _ _⟩
  case round =>
    obtain ⟨k, hk, rfl, hid⟩ := hrel
    by_cases hlt : k < n
    · obtain ⟨p, hp⟩ := get_some l k (by rw [← Hn.out]; exact hlt)
      obtain ⟨x, hx⟩ := get_some vs k (by rw [Hv.out]; exact hlt)
      obtain ⟨ad, rfl, _, hc⟩ := (HX.out.below hid.out.2) k _ hx
      have HC := Lib.hid (hasParts_any x p wr ((HI.out k x p hx hp).keep hid.out.2))
      have Hp := Lib.hid hp; clear hp hx
      have i1 : (0 : Int) ≤ (k : Int) := by omega
      have i2 : (k : Int) < (n : Int) := by omega
      go_wp2_with (go_at_call 91; refine HC.out.mono ?_; rintro e w1 ⟨rfl, hb1⟩)
      · have hh : manyB p = true := by assumption
        go_ret
        refine ⟨⟨_, rfl, ?_⟩, up hid.out.2 hb1⟩
        rw [any_hit manyB l k p Hp.out hh]
        simp
      · have hh : manyB p = false := by assumption
        go_roundw
        case rel => exact ⟨k + 1, by omega, by go_num, by rw [any_take manyB l k p Hp.out, hid.out.1, hh]; rfl, up hid.out.2 hb1⟩
        case measure => simp [intOf]; omega
    · go_wp2
      go_ret
      have he := hid.out.1
      rw [List.take_of_length_le (by rw [← Hn.out]; omega)] at he
      exact ⟨⟨_, rfl, by rw [he]; decide⟩, hid.out.2⟩
open Par in
theorem containsH_any (v : Value) (l : List (List Int)) (w : World) (h : RL w v l) (hl : l.length ≤ 1000000) :
    Calls Tryd.prog 43 #[v, .func (.func 91) #[] #[]] w fun e w' => e = .returned (.bool (l.any manyB)) ∧ Below w.heap.size w w' := by
  have HC := Lib.hid (indexH_any v l w h hl)
  obtain ⟨A, c, _, rfl, _⟩ := h
  go_enter Tryd.func43, Tryd.ntmps43
  go_wp2_with (go_at_call 72; refine HC.out.mono ?_; rintro e w1 ⟨⟨k, rfl, hk⟩, hb⟩)
  go_ret
  exact ⟨by rw [← hk]; rfl, hb⟩
open Sty in
def badP (p : P6) : Bool := !okP p
open Sty in
theorem isWrong_p (p : P6) (w : World) (h : Tl w) : Calls Tryd.prog 36 #[.agg #[.int .i64 p.k, .int .i64 p.n, .int .i64 p.m, .int .i64 p.c0, .int .i64 p.c1, .string p.t]] w fun e w' => e = .returned (.bool (badP p)) ∧ Below w.heap.size w w' := isWrong_any p.k p.n p.m p.c0 p.c1 p.t w h
open Sty in
set_option maxRecDepth 100000 in
set_option maxHeartbeats 1000000 in
theorem indexA_any (A : Option Addr) (n c : Nat) (ps : List P6) (w : World) (ht : Tl w) (hn : n = ps.length) (hx : RdP w A ps) (hl : n ≤ 1000000) :
    Calls Tryd.prog 59 #[.slice A n c, .func (.func 36) #[] #[]] w fun e w' => (∃ k : Int, e = .returned (.int .i64 k) ∧ decide (0 ≤ k) = ps.any badP) ∧ Below w.heap.size w w' := by
  have HX := Lib.hid hx; clear hx
  have Hn := Lib.hid hn; clear hn
  have HT := Lib.hid ht; clear ht
  go_enter Tryd.func59, Tryd.ntmps59
  go_wp2
  go_loopw [8] (fun i wr => ∃ k : Nat, k ≤ n ∧ i = .int .i64 k ∧ Hid ((ps.take k).any badP = false ∧ Below w.heap.size w wr)) (fun i _ => n - (intOf i).toNat)
  case atStart => exact ⟨0, Nat.zero_le _, rfl, by simp [Hid]; exact Below.refl _ _⟩
  case round =>
    obtain ⟨k, hk, rfl, hid⟩ := hrel
    by_cases hlt : k < n
    · obtain ⟨p, hp⟩ := Par.get_some ps k (by rw [← Hn.out]; exact hlt)
      obtain ⟨b, o, rfl, hbl, hrg⟩ := HX.out k p hp
      have e1 := fun W => ix_run b o n c k hlt W
      have hrg' : wr.rangeAt b (o + k * 6) (cP p) := fun i v hv => (hid.out.2.cell (p := ⟨b, o + k * 6 + i, none⟩) hbl).trans (hrg i v hv)
      have y0 : wr.cell? ⟨b, o + k * 6, none⟩ = some (.int .i64 p.k) := hrg' 0 _ rfl
      have y1 : wr.cell? ⟨b, o + k * 6 + 1, none⟩ = some (.int .i64 p.n) := hrg' 1 _ rfl
      have y2 : wr.cell? ⟨b, o + k * 6 + 2, none⟩ = some (.int .i64 p.m) := hrg' 2 _ rfl
      have y3 : wr.cell? ⟨b, o + k * 6 + 3, none⟩ = some (.int .i64 p.c0) := hrg' 3 _ rfl
      have y4 : wr.cell? ⟨b, o + k * 6 + 4, none⟩ = some (.int .i64 p.c1) := hrg' 4 _ rfl
      have y5 : wr.cell? ⟨b, o + k * 6 + 5, none⟩ = some (.string p.t) := hrg' 5 _ rfl
      clear hrg hrg'
      have HC := Lib.hid (isWrong_p p wr (HT.out.keep hid.out.2))
      have Hp := Lib.hid hp; clear hp
      have i1 : (0 : Int) ≤ (k : Int) := by omega
      have i2 : (k : Int) < (n : Int) := by omega
      go_wp2_with (go_at_call 36; refine HC.out.mono ?_; rintro e w1 ⟨rfl, hb1⟩)
      · have hh : badP p = true := by assumption
        go_ret
        refine ⟨⟨_, rfl, ?_⟩, Par.up hid.out.2 hb1⟩
        rw [Par.any_hit badP ps k p Hp.out hh]
        simp
      · have hh : badP p = false := by assumption
        go_roundw
        case rel => exact ⟨k + 1, by omega, by go_num, by rw [Par.any_take badP ps k p Hp.out, hid.out.1, hh]; rfl, Par.up hid.out.2 hb1⟩
        case measure => simp [intOf]; omega
    · go_wp2
      go_ret
      have he := hid.out.1
      rw [List.take_of_length_le (by rw [← Hn.out]; omega)] at he
      exact ⟨⟨_, rfl, by rw [he]; decide⟩, hid.out.2⟩
open Sty in
theorem containsA_any (A : Option Addr) (n c : Nat) (ps : List P6) (w : World) (ht : Tl w) (hn : n = ps.length) (hx : RdP w A ps) (hl : n ≤ 1000000) :
    Calls Tryd.prog 35 #[.slice A n c, .func (.func 36) #[] #[]] w fun e w' => e = .returned (.bool (ps.any badP)) ∧ Below w.heap.size w w' := by
  have HC := Lib.hid (indexA_any A n c ps w ht hn hx hl); clear hx hn ht
  go_enter Tryd.func35, Tryd.ntmps35
  go_wp2_with (go_at_call 59; refine HC.out.mono ?_; rintro e w1 ⟨⟨k, rfl, hk⟩, hb⟩)
  go_ret
  exact ⟨by rw [← hk]; rfl, hb⟩
end Go.Proofs.YteepfecplabinaaDoor.Sgr

namespace Go.Proofs.YteepfecplabinaaDoor.Sgr
open Go.RowKit Utf Par

theorem add_add (a : Addr) (k j : Nat) : (a.add k).add j = a.add (k + j) := by
  unfold Addr.add
  obtain ⟨b, o, s⟩ := a
  by_cases h1 : k = 0 <;> by_cases h2 : j = 0 <;> simp [h1, h2] <;> omega
theorem Rd.from {w : World} {ad : Addr} {vs : List Value} (h : Rd w (some ad) vs) (k : Nat) : Rd w (some (ad.add k)) (vs.drop k) := fun j u hu => by
  rw [List.getElem?_drop] at hu
  obtain ⟨a, ha, hlt, hc⟩ := h (k + j) u hu
  cases ha
  exact ⟨_, rfl, by rw [add_block]; exact hlt, by rw [add_add]; exact hc⟩
set_option maxRecDepth 100000 in
theorem from_i (A : Option Addr) (n c k : Nat) (hk : k ≤ n) (hc : n ≤ c) : ∃ A', (c ≠ k → A' = A.map (·.add k)) ∧ (c = k → A' = A) ∧
    (∀ W, (Instr.sliceAt 39 (.slice A n c) (some (.int .i64 (k : Int))) none none).run Tryd.prog W = .ok (.slice A' (n - k) (c - k)) W) ∧
    (∀ W, (Instr.slice 39 (.slice A n c) (some (.int .i64 (k : Int))) none none).run Tryd.prog W = .ok (.slice A' (n - k) (c - k)) W) := by
  have e1 : ((n : Int) - k).toNat = n - k := by omega
  by_cases h : c = k
  · subst h
    refine ⟨A, fun h => absurd rfl h, fun _ => rfl, ?_, ?_⟩ <;> intro W <;> go_simp
  · refine ⟨A.map (·.add k), fun _ => rfl, fun h' => absurd h' h, ?_, ?_⟩ <;> intro W <;> go_simp
set_option maxRecDepth 100000 in
theorem from_p (A : Option Addr) (n c k : Nat) (hk : k ≤ n) (hc : n ≤ c) : ∃ A', (c ≠ k → A' = A.map (·.add k)) ∧ (c = k → A' = A) ∧
    (∀ W, (Instr.sliceAt 22 (.slice A n c) (some (.int .i64 (k : Int))) none none).run Tryd.prog W = .ok (.slice A' (n - k) (c - k)) W) ∧
    (∀ W, (Instr.slice 22 (.slice A n c) (some (.int .i64 (k : Int))) none none).run Tryd.prog W = .ok (.slice A' (n - k) (c - k)) W) := by
  have e1 : ((n : Int) - k).toNat = n - k := by omega
  by_cases h : c = k
  · subst h
    refine ⟨A, fun h => absurd rfl h, fun _ => rfl, ?_, ?_⟩ <;> intro W <;> go_simp
  · refine ⟨A.map (·.add k), fun _ => rfl, fun h' => absurd h' h, ?_, ?_⟩ <;> intro W <;> go_simp
set_option maxRecDepth 100000 in
theorem upto_p (A : Option Addr) (n c k : Nat) (hk : k ≤ c) :
    (∀ W, (Instr.sliceAt 22 (.slice A n c) none (some (.int .i64 (k : Int))) none).run Tryd.prog W = .ok (.slice A k c) W) ∧
    (∀ W, (Instr.slice 22 (.slice A n c) none (some (.int .i64 (k : Int))) none).run Tryd.prog W = .ok (.slice A k c) W) := by
  have ez : ∀ a : Addr, a.add 0 = a := fun a => by unfold Addr.add; simp
  cases A with
  | none => refine ⟨?_, ?_⟩ <;> intro W <;> go_simp
  | some ad => refine ⟨?_, ?_⟩ <;> intro W <;> (go_simp; try simp [ez])
theorem RI.from {w : World} {A : Option Addr} {n c : Nat} {zs : List Int} (h : RI w (.slice A n c) zs) (k : Nat) (hk : k ≤ n) :
    ∃ A', (∀ W, (Instr.sliceAt 39 (.slice A n c) (some (.int .i64 (k : Int))) none none).run Tryd.prog W = .ok (.slice A' (n - k) (c - k)) W) ∧
    (∀ W, (Instr.slice 39 (.slice A n c) (some (.int .i64 (k : Int))) none none).run Tryd.prog W = .ok (.slice A' (n - k) (c - k)) W) ∧ RI w (.slice A' (n - k) (c - k)) (zs.drop k) := by
  obtain ⟨A0, c0, he, hc, hm, hA, hr⟩ := h
  cases he
  obtain ⟨A', h1, h2, h3, h4⟩ := from_i A zs.length c k hk hc
  refine ⟨A', h3, h4, A', c - k, by rw [List.length_drop], by rw [List.length_drop]; omega, by unfold maxLen at *; omega, fun h => ?_, fun j u hu => ?_⟩
  · by_cases hck : c = k
    · omega
    · rw [h1 hck] at h
      cases A with
      | none => have := hA rfl; omega
      | some ad => cases h
  · have hj : j < (zs.drop k).length := by have := (List.getElem?_eq_some_iff.1 hu).1; rwa [cI_len] at this
    rw [List.length_drop] at hj
    rw [h1 (by omega)]
    have h0 : ∃ u0, (cI zs)[0]? = some u0 := ⟨(cI zs)[0]'(by rw [cI_len]; omega), by rw [List.getElem?_eq_getElem]⟩
    obtain ⟨u0, hu0⟩ := h0
    obtain ⟨ad, rfl, _, _⟩ := hr 0 u0 hu0
    have hd : cI (zs.drop k) = (cI zs).drop k := by unfold cI; rw [List.map_drop]
    rw [hd] at hu
    exact Rd.from hr k j u hu
theorem RL.from {w : World} {A : Option Addr} {n c : Nat} {l : List (List Int)} (h : RL w (.slice A n c) l) (k : Nat) (hk : k ≤ n) :
    ∃ A', (∀ W, (Instr.sliceAt 22 (.slice A n c) (some (.int .i64 (k : Int))) none none).run Tryd.prog W = .ok (.slice A' (n - k) (c - k)) W) ∧
    (∀ W, (Instr.slice 22 (.slice A n c) (some (.int .i64 (k : Int))) none none).run Tryd.prog W = .ok (.slice A' (n - k) (c - k)) W) ∧ RL w (.slice A' (n - k) (c - k)) (l.drop k) := by
  obtain ⟨A0, c0, vs, he, hc, hm, hA, hv, hr, hi⟩ := h
  cases he
  obtain ⟨A', h1, h2, h3, h4⟩ := from_p A l.length c k hk hc
  refine ⟨A', h3, h4, A', c - k, vs.drop k, by rw [List.length_drop], by rw [List.length_drop]; omega, by unfold maxLen at *; omega, fun h => ?_, by rw [List.length_drop, List.length_drop, hv], fun j u hu => ?_, fun j x p hx hp => ?_⟩
  · by_cases hck : c = k
    · omega
    · rw [h1 hck] at h
      cases A with
      | none => have := hA rfl; omega
      | some ad => cases h
  · have hj : j < (vs.drop k).length := (List.getElem?_eq_some_iff.1 hu).1
    rw [List.length_drop] at hj
    rw [h1 (by omega)]
    have h0 : ∃ u0, vs[0]? = some u0 := ⟨vs[0]'(by omega), by rw [List.getElem?_eq_getElem]⟩
    obtain ⟨u0, hu0⟩ := h0
    obtain ⟨ad, rfl, _, _⟩ := hr 0 u0 hu0
    exact Rd.from hr k j u hu
  · rw [List.getElem?_drop] at hx hp
    exact hi _ x p hx hp
theorem RL.upto {w : World} {A : Option Addr} {n c : Nat} {l : List (List Int)} (h : RL w (.slice A n c) l) (k : Nat) (hk : k ≤ n) :
    (∀ W, (Instr.sliceAt 22 (.slice A n c) none (some (.int .i64 (k : Int))) none).run Tryd.prog W = .ok (.slice A k c) W) ∧
    (∀ W, (Instr.slice 22 (.slice A n c) none (some (.int .i64 (k : Int))) none).run Tryd.prog W = .ok (.slice A k c) W) ∧ RL w (.slice A k c) (l.take k) := by
  obtain ⟨A0, c0, vs, he, hc, hm, hA, hv, hr, hi⟩ := h
  cases he
  obtain ⟨h3, h4⟩ := upto_p A l.length c k (by omega)
  have hl : (l.take k).length = k := by rw [List.length_take]; omega
  refine ⟨h3, h4, A, c, vs.take k, by rw [hl], by rw [hl]; omega, hm, hA, by rw [hl, List.length_take]; omega, fun j u hu => ?_, fun j x p hx hp => ?_⟩
  · have hj := (List.getElem?_eq_some_iff.1 hu).1
    rw [List.length_take] at hj
    rw [List.getElem?_take_of_lt (by omega)] at hu
    exact hr j u hu
  · have hj := (List.getElem?_eq_some_iff.1 hx).1
    rw [List.length_take] at hj
    rw [List.getElem?_take_of_lt (by omega)] at hx hp
    exact hi _ x p hx hp
end Go.Proofs.YteepfecplabinaaDoor.Sgr
