/-
  SgrQ SgrR SgrRow SgrV SgrW SgrX
-/
import Derived.WalkKit
import Derived.ProofKit
import Derived.OpenShut
import Derived.Deep.DeepHandedRow
import Derived.Lib.LaidTab
import Derived.Lib.LaidU8
import Derived.Lib.SmallJoins
import Derived.IntWalk
import Derived.Test.YteepfecplabinaaDoorCards
import Derived.Test.YteepfecplabinaaDoorTie
import Derived.Test.YteepfecplabinaaDoorP23
import Derived.Test.YteepfecplabinaaDoorP27
import Derived.Test.YteepfecplabinaaDoorP28
import Derived.Test.YteepfecplabinaaDoorP31
namespace Go.Proofs.YteepfecplabinaaDoor.Sgr
open Go.RowKit Utf

theorem lpen_any (n m : Int) (w : World) : Calls Tryd.prog 27 #[.int .i64 n, .int .i64 m] w fun e w' => e = .returned (qV (pq n m)) ∧ Below w.heap.size w w' := by
  go_enter Tryd.func27, Tryd.ntmps27
  go_wp2
  refine bodyPost_ret (ret_cell1 rfl _ _ ⟨w.heap.size, 0, none⟩ _ rfl (load_q (q := pq n m) (Par.Box.new w _ _))) rfl ?_
  exact ⟨rfl, below_box _ _⟩
theorem lcolored_any (n k c : Int) (w : World) : Calls Tryd.prog 28 #[.int .i64 n, .int .i64 k, .int .i64 c] w fun e w' => e = .returned (qV (cq n k c)) ∧ Below w.heap.size w w' := by
  go_enter Tryd.func28, Tryd.ntmps28
  go_wp2
  refine bodyPost_ret (ret_cell1 rfl _ _ ⟨w.heap.size, 0, none⟩ _ rfl (load_q (q := cq n k c) (Par.Box.new w _ _))) rfl ?_
  exact ⟨rfl, below_box _ _⟩
theorem eq_pP (a b : Q4) : Sty.eqP (pP a) (pP b) = decide (a = b) := by
  obtain ⟨n, m, x, y⟩ := a
  obtain ⟨n', m', x', y'⟩ := b
  unfold Sty.eqP pP
  simp
  rfl
theorem take_eq {a b : List Q4} {k : Nat} {x y : Q4} (hx : a[k]? = some x) (hy : b[k]? = some y) (h : a.take k = b.take k) : x = y → a.take (k + 1) = b.take (k + 1) := fun e => by
  rw [List.take_add_one, List.take_add_one, hx, hy, h, e]
set_option maxRecDepth 100000 in
set_option maxHeartbeats 2000000 in
/-- two rows of pens are the same -/
theorem same9_any (A B : Option Addr) (n m c d : Nat) (us vs : List Q4) (w : World) (hn : n = us.length) (hm : m = vs.length) (ha : Sty.RdP w A (pPs us)) (hb : Sty.RdP w B (pPs vs)) (hl : n ≤ 1000000) :
    Calls Tryd.prog 15 #[.slice A n c, .slice B m d] w fun e w' => e = .returned (.bool (decide (us = vs))) ∧ Below w.heap.size w w' := by
  by_cases hne : n = m
  · subst hne
    have HA := Lib.hid ha; clear ha
    have HB := Lib.hid hb; clear hb
    have Hn := Lib.hid hn; clear hn
    have Hm := Lib.hid hm; clear hm
    have hb1 : ((n : Int) != (n : Int)) = false := by simp
    go_enter Tryd.func15, Tryd.ntmps15
    go_wp2
    go_loopw [5] (fun i wr => ∃ k : Nat, k ≤ n ∧ i = .int .i64 k ∧ Hid (us.take k = vs.take k ∧ Below w.heap.size w wr)) (fun i _ => n - (intOf i).toNat)
    case atStart => exact ⟨0, Nat.zero_le _, rfl, by simp [Hid]; exact Below.refl _ _⟩
    case round =>
      obtain ⟨k, hk, rfl, hid⟩ := hrel
      by_cases hlt : k < n
      · obtain ⟨x, hx⟩ := Par.get_some us k (by rw [← Hn.out]; exact hlt)
        obtain ⟨y, hy⟩ := Par.get_some vs k (by rw [← Hm.out]; exact hlt)
        obtain ⟨b, o, rfl, hbl, hrg⟩ := HA.out k (pP x) (by unfold pPs; simp [hx])
        obtain ⟨b2, o2, rfl, hbl2, hrg2⟩ := HB.out k (pP y) (by unfold pPs; simp [hy])
        have e1 := fun W => Sty.ix_run b o n c k hlt W
        have e2 := fun W => Sty.ix_run b2 o2 n d k hlt W
        have hw : Below w.heap.size w wr.drew := hid.out.2.drew
        have x0 : wr.drew.cell? ⟨b, o + k * 6, none⟩ = some (.int .i64 39) := (hw.cell (p := ⟨b, o + k * 6, none⟩) hbl).trans (hrg 0 _ rfl)
        have x1 : wr.drew.cell? ⟨b, o + k * 6 + 1, none⟩ = some (.int .i64 x.n) := (hw.cell (p := ⟨b, o + k * 6 + 1, none⟩) hbl).trans (hrg 1 _ rfl)
        have x2 : wr.drew.cell? ⟨b, o + k * 6 + 2, none⟩ = some (.int .i64 x.m) := (hw.cell (p := ⟨b, o + k * 6 + 2, none⟩) hbl).trans (hrg 2 _ rfl)
        have x3 : wr.drew.cell? ⟨b, o + k * 6 + 3, none⟩ = some (.int .i64 x.c0) := (hw.cell (p := ⟨b, o + k * 6 + 3, none⟩) hbl).trans (hrg 3 _ rfl)
        have x4 : wr.drew.cell? ⟨b, o + k * 6 + 4, none⟩ = some (.int .i64 x.c1) := (hw.cell (p := ⟨b, o + k * 6 + 4, none⟩) hbl).trans (hrg 4 _ rfl)
        have x5 : wr.drew.cell? ⟨b, o + k * 6 + 5, none⟩ = some (.string ⟨#[]⟩) := (hw.cell (p := ⟨b, o + k * 6 + 5, none⟩) hbl).trans (hrg 5 _ rfl)
        have y0 : wr.drew.cell? ⟨b2, o2 + k * 6, none⟩ = some (.int .i64 39) := (hw.cell (p := ⟨b2, o2 + k * 6, none⟩) hbl2).trans (hrg2 0 _ rfl)
        have y1 : wr.drew.cell? ⟨b2, o2 + k * 6 + 1, none⟩ = some (.int .i64 y.n) := (hw.cell (p := ⟨b2, o2 + k * 6 + 1, none⟩) hbl2).trans (hrg2 1 _ rfl)
        have y2 : wr.drew.cell? ⟨b2, o2 + k * 6 + 2, none⟩ = some (.int .i64 y.m) := (hw.cell (p := ⟨b2, o2 + k * 6 + 2, none⟩) hbl2).trans (hrg2 2 _ rfl)
        have y3 : wr.drew.cell? ⟨b2, o2 + k * 6 + 3, none⟩ = some (.int .i64 y.c0) := (hw.cell (p := ⟨b2, o2 + k * 6 + 3, none⟩) hbl2).trans (hrg2 3 _ rfl)
        have y4 : wr.drew.cell? ⟨b2, o2 + k * 6 + 4, none⟩ = some (.int .i64 y.c1) := (hw.cell (p := ⟨b2, o2 + k * 6 + 4, none⟩) hbl2).trans (hrg2 4 _ rfl)
        have y5 : wr.drew.cell? ⟨b2, o2 + k * 6 + 5, none⟩ = some (.string ⟨#[]⟩) := (hw.cell (p := ⟨b2, o2 + k * 6 + 5, none⟩) hbl2).trans (hrg2 5 _ rfl)
        have HW := Lib.hid hw
        have He := eq_pP x y
        have e3 := fun W => Sty.neqP 39 x.n x.m x.c0 x.c1 39 y.n y.m y.c0 y.c1 ⟨#[]⟩ ⟨#[]⟩ W
        have He2 : Sty.eqP ⟨39, x.n, x.m, x.c0, x.c1, ⟨#[]⟩⟩ ⟨39, y.n, y.m, y.c0, y.c1, ⟨#[]⟩⟩ = decide (x = y) := He
        rw [He2] at e3
        have HxK := Lib.hid hx
        have HyK := Lib.hid hy
        clear hrg hrg2 hw He He2 hx hy
        by_cases hxy : x = y
        · rw [decide_eq_true hxy, Bool.not_true] at e3
          have Hxy := Lib.hid hxy; clear hxy
          go_wp2
          go_region
          all_goals
            go_wp2
            go_roundw
            case rel => exact ⟨k + 1, by omega, by go_num, take_eq HxK.out HyK.out hid.out.1 Hxy.out, HW.out⟩
            case measure => simp [intOf]; omega
        · rw [decide_eq_false hxy, Bool.not_false] at e3
          have Hxy := Lib.hid hxy; clear hxy
          go_wp2
          go_region
          all_goals
            go_wp2
            go_ret
            refine ⟨?_, HW.out⟩
            rw [decide_eq_false (fun e : us = vs => Hxy.out (by have h1 := HxK.out; rw [e, HyK.out] at h1; simpa using h1.symm))]; rfl
      · go_wp2
        go_ret
        have he : us = vs := by
          have := hid.out.1
          rw [List.take_of_length_le (by rw [← Hn.out]; omega), List.take_of_length_le (by rw [← Hm.out]; omega)] at this
          exact this
        exact ⟨by rw [decide_eq_true he]; rfl, hid.out.2⟩
  · have hb1 : ((n : Int) != (m : Int)) = true := by rw [bne_iff_ne]; omega
    have Hd := Lib.hid (show decide (us = vs) = false from decide_eq_false fun e => hne (by rw [hn, hm, e]))
    clear ha hb hn hm hne
    go_enter Tryd.func15, Tryd.ntmps15
    go_wp2
    go_ret
    exact ⟨by rw [Hd.out]; rfl, Below.refl _ _⟩
theorem own_form {w : World} {B : Nat} {v : Value} {qs : List Q4} (h : Sty.OwnP w B v (pPs qs)) : ∃ A c, v = .slice A qs.length c ∧ Sty.RdP w A (pPs qs) := by
  obtain ⟨A, c, rfl, -, -⟩ := h.form
  refine ⟨A, c, ?_, h.rd⟩
  unfold pPs
  rw [List.length_map]
theorem pensV_len (x : List (List Int)) (h : x.length ≤ 1000000) : (pensV x).1.length ≤ 1000000 := by
  unfold pensV
  split
  · exact Nat.zero_le _
  · have := pensL_len x
    show (pensL x).length ≤ _
    omega
set_option maxRecDepth 100000 in
set_option maxHeartbeats 2000000 in
/-- a text denotes these pens -/
theorem says_yes (s : ByteArray) (x : List (List Int)) (qs : List Q4) (A : Option Addr) (n c : Nat) (w : World) (he : Env w) (hn : n = qs.length) (hr : Sty.RdP w A (pPs qs)) (hp : Par.prsV s.data.toList = (x, 0)) (hq : pensV x = (qs, 0)) :
    Calls Tryd.prog 26 #[.string s, .slice A n c] w fun e w' => e = .returned (.bool true) ∧ Below w.heap.size w w' := by
  have HP := Lib.hid (Par.parse_any s w)
  have hsz := Par.sz_prsV s.data.toList
  rw [hp] at HP hsz
  have hqn : n ≤ 1000000 := by
    have := pensV_len x hsz.1
    rw [hq] at this
    rw [hn]; exact this
  have HQ := Lib.hid (fun v W he h => pens_any v x W he h hsz.1 hsz.2)
  unfold PensPost at HQ
  rw [hq] at HQ
  have HE := Lib.hid he
  have HR := Lib.hid hr
  have Hn := Lib.hid hn
  clear hp hq hsz he hr hn
  go_enter Tryd.func26, Tryd.ntmps26
  go_wp2_with (first
    | (go_at_call 22; refine HP.out.mono ?_; rintro e w1 ⟨v1, rfl, hv1, hb1⟩; obtain ⟨A1, c1, hs1⟩ := hv1.1.form; subst hs1; have HV1 := Lib.hid hv1.1; have HB1 := Lib.hid hb1; clear hv1 hb1)
    | (go_at_call 13; refine (HQ.out _ _ (HE.out.keep HB1.out) HV1.out).mono ?_; rintro e w2 ⟨v2, rfl, hv2, hb2⟩; obtain ⟨A2, c2, hs2, hr2⟩ := own_form hv2; subst hs2; have HR2 := Lib.hid hr2; have HB2 := Lib.hid (Par.up HB1.out hb2); clear hv2 hr2 hb2)
    | (go_at_call 15; refine (same9_any A2 A qs.length n c2 c qs qs _ rfl Hn.out HR2.out (HR.out.keep HB2.out) (by rw [← Hn.out]; exact hqn)).mono ?_; rw [decide_eq_true (rfl : qs = qs)]; rintro e w3 ⟨rfl, hb3⟩; have HB3 := Lib.hid (Par.up HB2.out hb3); clear hb3))
  go_ret
  exact ⟨rfl, HB3.out⟩
end Go.Proofs.YteepfecplabinaaDoor.Sgr

namespace Go.Proofs.YteepfecplabinaaDoor.Sgr
open Go.RowKit Utf

/-- a literal of pens -/
theorem lit_rd (W : World) (qs : List Q4) (cs : Array Value) (h : cs.toList = (pPs qs).flatMap Sty.cP) (hl : (pPs qs).length ≤ maxLen) : Sty.RdP (W.alloc (.cells cs 48)) (some ⟨W.heap.size, 0, none⟩) (pPs qs) :=
  (Sty.OwnP.new W 0 (Nat.zero_le _) (pPs qs) cs h hl).rd
/-- as the laws want it -/
structure EnvT (w : World) : Prop where
  e : Env w
  t : Par.Tab w
theorem EnvT.keep {w w' : World} (h : EnvT w) (hb : Below w.heap.size w w') : EnvT w' := ⟨h.e.keep hb, h.t.keep hb⟩
set_option maxRecDepth 100000 in
set_option maxHeartbeats 4000000 in
theorem works_any (w : World) (het : EnvT w) : Calls Tryd.prog 16 #[] w fun e w' => e = .returned (.bool true) ∧ Below w.heap.size w w' := by
  have S0 := Lib.hid (show ∀ W, Env W → Calls Tryd.prog 26 #[.string ⟨#[]⟩, .slice (some ⟨W.heap.size, 0, none⟩) 1 1] (W.alloc (.cells #[.int .i64 39, .int .i64 0, .int .i64 0, .int .i64 0, .int .i64 0, .string ⟨#[]⟩] 48)) fun e w' => e = .returned (.bool true) ∧ Below (W.alloc (.cells #[.int .i64 39, .int .i64 0, .int .i64 0, .int .i64 0, .int .i64 0, .string ⟨#[]⟩] 48)).heap.size (W.alloc (.cells #[.int .i64 39, .int .i64 0, .int .i64 0, .int .i64 0, .int .i64 0, .string ⟨#[]⟩] 48)) w' from fun W h =>
    says_yes _ _ [(pq 0 0)] _ _ _ _ (h.keep (below_box _ _)) rfl (lit_rd W [(pq 0 0)] #[.int .i64 39, .int .i64 0, .int .i64 0, .int .i64 0, .int .i64 0, .string ⟨#[]⟩] rfl (by decide)) (by decide +kernel : Par.prsV [] = ((Par.prsV []).1, 0)) (by decide +kernel))
  have S1 := Lib.hid (show ∀ W, Env W → Calls Tryd.prog 26 #[.string ⟨#[48]⟩, .slice (some ⟨W.heap.size, 0, none⟩) 1 1] (W.alloc (.cells #[.int .i64 39, .int .i64 0, .int .i64 0, .int .i64 0, .int .i64 0, .string ⟨#[]⟩] 48)) fun e w' => e = .returned (.bool true) ∧ Below (W.alloc (.cells #[.int .i64 39, .int .i64 0, .int .i64 0, .int .i64 0, .int .i64 0, .string ⟨#[]⟩] 48)).heap.size (W.alloc (.cells #[.int .i64 39, .int .i64 0, .int .i64 0, .int .i64 0, .int .i64 0, .string ⟨#[]⟩] 48)) w' from fun W h =>
    says_yes _ _ [(pq 0 0)] _ _ _ _ (h.keep (below_box _ _)) rfl (lit_rd W [(pq 0 0)] #[.int .i64 39, .int .i64 0, .int .i64 0, .int .i64 0, .int .i64 0, .string ⟨#[]⟩] rfl (by decide)) (by decide +kernel : Par.prsV [48] = ((Par.prsV [48]).1, 0)) (by decide +kernel))
  have S2 := Lib.hid (show ∀ W, Env W → Calls Tryd.prog 26 #[.string ⟨#[59]⟩, .slice (some ⟨W.heap.size, 0, none⟩) 2 2] (W.alloc (.cells #[.int .i64 39, .int .i64 0, .int .i64 0, .int .i64 0, .int .i64 0, .string ⟨#[]⟩, .int .i64 39, .int .i64 0, .int .i64 0, .int .i64 0, .int .i64 0, .string ⟨#[]⟩] 48)) fun e w' => e = .returned (.bool true) ∧ Below (W.alloc (.cells #[.int .i64 39, .int .i64 0, .int .i64 0, .int .i64 0, .int .i64 0, .string ⟨#[]⟩, .int .i64 39, .int .i64 0, .int .i64 0, .int .i64 0, .int .i64 0, .string ⟨#[]⟩] 48)).heap.size (W.alloc (.cells #[.int .i64 39, .int .i64 0, .int .i64 0, .int .i64 0, .int .i64 0, .string ⟨#[]⟩, .int .i64 39, .int .i64 0, .int .i64 0, .int .i64 0, .int .i64 0, .string ⟨#[]⟩] 48)) w' from fun W h =>
    says_yes _ _ [(pq 0 0), (pq 0 0)] _ _ _ _ (h.keep (below_box _ _)) rfl (lit_rd W [(pq 0 0), (pq 0 0)] #[.int .i64 39, .int .i64 0, .int .i64 0, .int .i64 0, .int .i64 0, .string ⟨#[]⟩, .int .i64 39, .int .i64 0, .int .i64 0, .int .i64 0, .int .i64 0, .string ⟨#[]⟩] rfl (by decide)) (by decide +kernel : Par.prsV [59] = ((Par.prsV [59]).1, 0)) (by decide +kernel))
  have S3 := Lib.hid (show ∀ W, Env W → Calls Tryd.prog 26 #[.string ⟨#[49, 59, 51, 49, 59, 52, 58, 51]⟩, .slice (some ⟨W.heap.size, 0, none⟩) 3 3] (W.alloc (.cells #[.int .i64 39, .int .i64 1, .int .i64 1, .int .i64 0, .int .i64 0, .string ⟨#[]⟩, .int .i64 39, .int .i64 4, .int .i64 0, .int .i64 1, .int .i64 1, .string ⟨#[]⟩, .int .i64 39, .int .i64 3, .int .i64 3, .int .i64 0, .int .i64 0, .string ⟨#[]⟩] 48)) fun e w' => e = .returned (.bool true) ∧ Below (W.alloc (.cells #[.int .i64 39, .int .i64 1, .int .i64 1, .int .i64 0, .int .i64 0, .string ⟨#[]⟩, .int .i64 39, .int .i64 4, .int .i64 0, .int .i64 1, .int .i64 1, .string ⟨#[]⟩, .int .i64 39, .int .i64 3, .int .i64 3, .int .i64 0, .int .i64 0, .string ⟨#[]⟩] 48)).heap.size (W.alloc (.cells #[.int .i64 39, .int .i64 1, .int .i64 1, .int .i64 0, .int .i64 0, .string ⟨#[]⟩, .int .i64 39, .int .i64 4, .int .i64 0, .int .i64 1, .int .i64 1, .string ⟨#[]⟩, .int .i64 39, .int .i64 3, .int .i64 3, .int .i64 0, .int .i64 0, .string ⟨#[]⟩] 48)) w' from fun W h =>
    says_yes _ _ [(pq 1 1), (cq 4 1 1), (pq 3 3)] _ _ _ _ (h.keep (below_box _ _)) rfl (lit_rd W [(pq 1 1), (cq 4 1 1), (pq 3 3)] #[.int .i64 39, .int .i64 1, .int .i64 1, .int .i64 0, .int .i64 0, .string ⟨#[]⟩, .int .i64 39, .int .i64 4, .int .i64 0, .int .i64 1, .int .i64 1, .string ⟨#[]⟩, .int .i64 39, .int .i64 3, .int .i64 3, .int .i64 0, .int .i64 0, .string ⟨#[]⟩] rfl (by decide)) (by decide +kernel : Par.prsV [49, 59, 51, 49, 59, 52, 58, 51] = ((Par.prsV [49, 59, 51, 49, 59, 52, 58, 51]).1, 0)) (by decide +kernel))
  have S4 := Lib.hid (show ∀ W, Env W → Calls Tryd.prog 26 #[.string ⟨#[51, 56, 59, 53, 59, 50, 48, 48, 59, 55]⟩, .slice (some ⟨W.heap.size, 0, none⟩) 2 2] (W.alloc (.cells #[.int .i64 39, .int .i64 4, .int .i64 0, .int .i64 1, .int .i64 200, .string ⟨#[]⟩, .int .i64 39, .int .i64 1, .int .i64 16, .int .i64 0, .int .i64 0, .string ⟨#[]⟩] 48)) fun e w' => e = .returned (.bool true) ∧ Below (W.alloc (.cells #[.int .i64 39, .int .i64 4, .int .i64 0, .int .i64 1, .int .i64 200, .string ⟨#[]⟩, .int .i64 39, .int .i64 1, .int .i64 16, .int .i64 0, .int .i64 0, .string ⟨#[]⟩] 48)).heap.size (W.alloc (.cells #[.int .i64 39, .int .i64 4, .int .i64 0, .int .i64 1, .int .i64 200, .string ⟨#[]⟩, .int .i64 39, .int .i64 1, .int .i64 16, .int .i64 0, .int .i64 0, .string ⟨#[]⟩] 48)) w' from fun W h =>
    says_yes _ _ [(cq 4 1 200), (pq 1 16)] _ _ _ _ (h.keep (below_box _ _)) rfl (lit_rd W [(cq 4 1 200), (pq 1 16)] #[.int .i64 39, .int .i64 4, .int .i64 0, .int .i64 1, .int .i64 200, .string ⟨#[]⟩, .int .i64 39, .int .i64 1, .int .i64 16, .int .i64 0, .int .i64 0, .string ⟨#[]⟩] rfl (by decide)) (by decide +kernel : Par.prsV [51, 56, 59, 53, 59, 50, 48, 48, 59, 55] = ((Par.prsV [51, 56, 59, 53, 59, 50, 48, 48, 59, 55]).1, 0)) (by decide +kernel))
  have S5 := Lib.hid (show ∀ W, Env W → Calls Tryd.prog 26 #[.string ⟨#[52, 56, 58, 50, 58, 58, 49, 58, 50, 58, 51]⟩, .slice (some ⟨W.heap.size, 0, none⟩) 1 1] (W.alloc (.cells #[.int .i64 39, .int .i64 5, .int .i64 0, .int .i64 2, .int .i64 66051, .string ⟨#[]⟩] 48)) fun e w' => e = .returned (.bool true) ∧ Below (W.alloc (.cells #[.int .i64 39, .int .i64 5, .int .i64 0, .int .i64 2, .int .i64 66051, .string ⟨#[]⟩] 48)).heap.size (W.alloc (.cells #[.int .i64 39, .int .i64 5, .int .i64 0, .int .i64 2, .int .i64 66051, .string ⟨#[]⟩] 48)) w' from fun W h =>
    says_yes _ _ [(cq 5 2 66051)] _ _ _ _ (h.keep (below_box _ _)) rfl (lit_rd W [(cq 5 2 66051)] #[.int .i64 39, .int .i64 5, .int .i64 0, .int .i64 2, .int .i64 66051, .string ⟨#[]⟩] rfl (by decide)) (by decide +kernel : Par.prsV [52, 56, 58, 50, 58, 58, 49, 58, 50, 58, 51] = ((Par.prsV [52, 56, 58, 50, 58, 58, 49, 58, 50, 58, 51]).1, 0)) (by decide +kernel))
  have S6 := Lib.hid (show ∀ W, Env W → Calls Tryd.prog 26 #[.string ⟨#[53, 56, 58, 50, 58, 49, 58, 50, 58, 51]⟩, .slice (some ⟨W.heap.size, 0, none⟩) 1 1] (W.alloc (.cells #[.int .i64 39, .int .i64 6, .int .i64 0, .int .i64 2, .int .i64 66051, .string ⟨#[]⟩] 48)) fun e w' => e = .returned (.bool true) ∧ Below (W.alloc (.cells #[.int .i64 39, .int .i64 6, .int .i64 0, .int .i64 2, .int .i64 66051, .string ⟨#[]⟩] 48)).heap.size (W.alloc (.cells #[.int .i64 39, .int .i64 6, .int .i64 0, .int .i64 2, .int .i64 66051, .string ⟨#[]⟩] 48)) w' from fun W h =>
    says_yes _ _ [(cq 6 2 66051)] _ _ _ _ (h.keep (below_box _ _)) rfl (lit_rd W [(cq 6 2 66051)] #[.int .i64 39, .int .i64 6, .int .i64 0, .int .i64 2, .int .i64 66051, .string ⟨#[]⟩] rfl (by decide)) (by decide +kernel : Par.prsV [53, 56, 58, 50, 58, 49, 58, 50, 58, 51] = ((Par.prsV [53, 56, 58, 50, 58, 49, 58, 50, 58, 51]).1, 0)) (by decide +kernel))
  have S7 := Lib.hid (show ∀ W, Env W → Calls Tryd.prog 26 #[.string ⟨#[51, 56, 59, 53, 59, 50, 53, 54, 59, 49]⟩, .slice (some ⟨W.heap.size, 0, none⟩) 1 1] (W.alloc (.cells #[.int .i64 39, .int .i64 1, .int .i64 1, .int .i64 0, .int .i64 0, .string ⟨#[]⟩] 48)) fun e w' => e = .returned (.bool true) ∧ Below (W.alloc (.cells #[.int .i64 39, .int .i64 1, .int .i64 1, .int .i64 0, .int .i64 0, .string ⟨#[]⟩] 48)).heap.size (W.alloc (.cells #[.int .i64 39, .int .i64 1, .int .i64 1, .int .i64 0, .int .i64 0, .string ⟨#[]⟩] 48)) w' from fun W h =>
    says_yes _ _ [(pq 1 1)] _ _ _ _ (h.keep (below_box _ _)) rfl (lit_rd W [(pq 1 1)] #[.int .i64 39, .int .i64 1, .int .i64 1, .int .i64 0, .int .i64 0, .string ⟨#[]⟩] rfl (by decide)) (by decide +kernel : Par.prsV [51, 56, 59, 53, 59, 50, 53, 54, 59, 49] = ((Par.prsV [51, 56, 59, 53, 59, 50, 53, 54, 59, 49]).1, 0)) (by decide +kernel))
  have S8 := Lib.hid (show ∀ W, Env W → Calls Tryd.prog 26 #[.string ⟨#[51, 56, 59, 50, 59, 49, 59, 50]⟩, .slice none 0 0] W fun e w' => e = .returned (.bool true) ∧ Below W.heap.size W w' from fun W h =>
    says_yes _ _ [] _ _ _ _ h rfl (fun j p h => by simp [pPs] at h) (by decide +kernel : Par.prsV [51, 56, 59, 50, 59, 49, 59, 50] = ((Par.prsV [51, 56, 59, 50, 59, 49, 59, 50]).1, 0)) (by decide +kernel))
  have S9 := Lib.hid (show ∀ W, Env W → Calls Tryd.prog 26 #[.string ⟨#[51, 56, 59, 49]⟩, .slice (some ⟨W.heap.size, 0, none⟩) 1 1] (W.alloc (.cells #[.int .i64 39, .int .i64 1, .int .i64 1, .int .i64 0, .int .i64 0, .string ⟨#[]⟩] 48)) fun e w' => e = .returned (.bool true) ∧ Below (W.alloc (.cells #[.int .i64 39, .int .i64 1, .int .i64 1, .int .i64 0, .int .i64 0, .string ⟨#[]⟩] 48)).heap.size (W.alloc (.cells #[.int .i64 39, .int .i64 1, .int .i64 1, .int .i64 0, .int .i64 0, .string ⟨#[]⟩] 48)) w' from fun W h =>
    says_yes _ _ [(pq 1 1)] _ _ _ _ (h.keep (below_box _ _)) rfl (lit_rd W [(pq 1 1)] #[.int .i64 39, .int .i64 1, .int .i64 1, .int .i64 0, .int .i64 0, .string ⟨#[]⟩] rfl (by decide)) (by decide +kernel : Par.prsV [51, 56, 59, 49] = ((Par.prsV [51, 56, 59, 49]).1, 0)) (by decide +kernel))
  have S10 := Lib.hid (show ∀ W, Env W → Calls Tryd.prog 26 #[.string ⟨#[57, 55, 59, 49, 48, 52, 59, 50, 49, 59, 57, 57]⟩, .slice (some ⟨W.heap.size, 0, none⟩) 3 3] (W.alloc (.cells #[.int .i64 39, .int .i64 4, .int .i64 0, .int .i64 1, .int .i64 15, .string ⟨#[]⟩, .int .i64 39, .int .i64 5, .int .i64 0, .int .i64 1, .int .i64 12, .string ⟨#[]⟩, .int .i64 39, .int .i64 3, .int .i64 2, .int .i64 0, .int .i64 0, .string ⟨#[]⟩] 48)) fun e w' => e = .returned (.bool true) ∧ Below (W.alloc (.cells #[.int .i64 39, .int .i64 4, .int .i64 0, .int .i64 1, .int .i64 15, .string ⟨#[]⟩, .int .i64 39, .int .i64 5, .int .i64 0, .int .i64 1, .int .i64 12, .string ⟨#[]⟩, .int .i64 39, .int .i64 3, .int .i64 2, .int .i64 0, .int .i64 0, .string ⟨#[]⟩] 48)).heap.size (W.alloc (.cells #[.int .i64 39, .int .i64 4, .int .i64 0, .int .i64 1, .int .i64 15, .string ⟨#[]⟩, .int .i64 39, .int .i64 5, .int .i64 0, .int .i64 1, .int .i64 12, .string ⟨#[]⟩, .int .i64 39, .int .i64 3, .int .i64 2, .int .i64 0, .int .i64 0, .string ⟨#[]⟩] 48)) w' from fun W h =>
    says_yes _ _ [(cq 4 1 15), (cq 5 1 12), (pq 3 2)] _ _ _ _ (h.keep (below_box _ _)) rfl (lit_rd W [(cq 4 1 15), (cq 5 1 12), (pq 3 2)] #[.int .i64 39, .int .i64 4, .int .i64 0, .int .i64 1, .int .i64 15, .string ⟨#[]⟩, .int .i64 39, .int .i64 5, .int .i64 0, .int .i64 1, .int .i64 12, .string ⟨#[]⟩, .int .i64 39, .int .i64 3, .int .i64 2, .int .i64 0, .int .i64 0, .string ⟨#[]⟩] rfl (by decide)) (by decide +kernel : Par.prsV [57, 55, 59, 49, 48, 52, 59, 50, 49, 59, 57, 57] = ((Par.prsV [57, 55, 59, 49, 48, 52, 59, 50, 49, 59, 57, 57]).1, 0)) (by decide +kernel))
  have HQ := Lib.hid (show ∀ W, Env W → Calls Tryd.prog 18 #[.slice (some ⟨W.heap.size, 0, none⟩) 3 3] (W.alloc (.cells #[.int .i64 39, .int .i64 2, .int .i64 3, .int .i64 0, .int .i64 0, .string ⟨#[]⟩, .int .i64 39, .int .i64 5, .int .i64 0, .int .i64 1, .int .i64 9, .string ⟨#[]⟩, .int .i64 39, .int .i64 3, .int .i64 1, .int .i64 0, .int .i64 0, .string ⟨#[]⟩] 48)) (fun e w' => ∃ v, e = .returned (.tuple #[v, .int .i64 0]) ∧ Par.OwnL w' (W.heap.size + 1) v [[22], [101], [4]] ∧ Below (W.alloc (.cells #[.int .i64 39, .int .i64 2, .int .i64 3, .int .i64 0, .int .i64 0, .string ⟨#[]⟩, .int .i64 39, .int .i64 5, .int .i64 0, .int .i64 1, .int .i64 9, .string ⟨#[]⟩, .int .i64 39, .int .i64 3, .int .i64 1, .int .i64 0, .int .i64 0, .string ⟨#[]⟩] 48)).heap.size (W.alloc (.cells #[.int .i64 39, .int .i64 2, .int .i64 3, .int .i64 0, .int .i64 0, .string ⟨#[]⟩, .int .i64 39, .int .i64 5, .int .i64 0, .int .i64 1, .int .i64 9, .string ⟨#[]⟩, .int .i64 39, .int .i64 3, .int .i64 1, .int .i64 0, .int .i64 0, .string ⟨#[]⟩] 48)) w') from fun W h => by
    have := params_any (some ⟨W.heap.size, 0, none⟩) 3 3 (pPs [(pq 2 3), (cq 5 1 9), (pq 3 1)]) _ (h.keep (below_box W (.cells #[.int .i64 39, .int .i64 2, .int .i64 3, .int .i64 0, .int .i64 0, .string ⟨#[]⟩, .int .i64 39, .int .i64 5, .int .i64 0, .int .i64 1, .int .i64 9, .string ⟨#[]⟩, .int .i64 39, .int .i64 3, .int .i64 1, .int .i64 0, .int .i64 0, .string ⟨#[]⟩] 48))) rfl (lit_rd W [(pq 2 3), (cq 5 1 9), (pq 3 1)] #[.int .i64 39, .int .i64 2, .int .i64 3, .int .i64 0, .int .i64 0, .string ⟨#[]⟩, .int .i64 39, .int .i64 5, .int .i64 0, .int .i64 1, .int .i64 9, .string ⟨#[]⟩, .int .i64 39, .int .i64 3, .int .i64 1, .int .i64 0, .int .i64 0, .string ⟨#[]⟩] rfl (by decide)) (by decide)
    unfold ParsPost at this
    rw [show parsV (pPs [(pq 2 3), (cq 5 1 9), (pq 3 1)]) = ([[22], [101], [4]], 0) by decide +kernel, World.size_alloc] at this
    rw [World.size_alloc]
    exact this)
  have HPr := Lib.hid (show ∀ v W, Par.RL W v [[22], [101], [4]] → Par.Tab W → Calls Tryd.prog 21 #[v] W (fun e w' => e = .returned (.tuple #[.string ⟨#[50, 50, 59, 49, 48, 49, 59, 52]⟩, .int .i64 0]) ∧ Below W.heap.size W w') from fun v W h ht => by
    have := Par.print_any v _ W h ⟨by decide, by decide⟩ ht
    rwa [show Par.prtV [[22], [101], [4]] = ⟨#[50, 50, 59, 49, 48, 49, 59, 52]⟩ by decide +kernel, show Par.chkV [[22], [101], [4]] = 0 by decide +kernel] at this)
  have HE := Lib.hid het.e
  have HT := Lib.hid het.t
  have HB := Lib.hid (Below.refl w.heap.size w)
  clear het
  go_enter Tryd.func16, Tryd.ntmps16
  go_upto_region 2 with (go_at_call 27; refine (lpen_any _ _ _).mono ?_; unfold qV pq; rintro e U ⟨rfl, hb⟩; have HB := Lib.hid (Par.up HB.out hb); clear hb)
  have X1 := ((Sty.Box.new U #[.int .i64 39, .int .i64 0, .int .i64 0, .int .i64 0, .int .i64 0, .string ⟨#[]⟩] 48).alloc (.cells #[.int .i64 39, .int .i64 1, .int .i64 1, .int .i64 0, .int .i64 0, .string ⟨#[]⟩] 48)).alloc (.cells #[.int .i64 39, .int .i64 1, .int .i64 16, .int .i64 0, .int .i64 0, .string ⟨#[]⟩] 48)
  have X2 := (Sty.Box.new (U.alloc (.cells #[.int .i64 39, .int .i64 0, .int .i64 0, .int .i64 0, .int .i64 0, .string ⟨#[]⟩] 48)) #[.int .i64 39, .int .i64 1, .int .i64 1, .int .i64 0, .int .i64 0, .string ⟨#[]⟩] 48).alloc (.cells #[.int .i64 39, .int .i64 1, .int .i64 16, .int .i64 0, .int .i64 0, .string ⟨#[]⟩] 48)
  have X3 := Sty.Box.new ((U.alloc (.cells #[.int .i64 39, .int .i64 0, .int .i64 0, .int .i64 0, .int .i64 0, .string ⟨#[]⟩] 48)).alloc (.cells #[.int .i64 39, .int .i64 1, .int .i64 1, .int .i64 0, .int .i64 0, .string ⟨#[]⟩] 48)) #[.int .i64 39, .int .i64 1, .int .i64 16, .int .i64 0, .int .i64 0, .string ⟨#[]⟩] 48
  have HB := Lib.hid (Par.up (Par.up (Par.up HB.out (below_box U (.cells #[.int .i64 39, .int .i64 0, .int .i64 0, .int .i64 0, .int .i64 0, .string ⟨#[]⟩] 48))) (below_box _ (.cells #[.int .i64 39, .int .i64 1, .int .i64 1, .int .i64 0, .int .i64 0, .string ⟨#[]⟩] 48))) (below_box _ (.cells #[.int .i64 39, .int .i64 1, .int .i64 16, .int .i64 0, .int .i64 0, .string ⟨#[]⟩] 48)))
  rw [World.size_alloc] at X2 X3
  rw [World.size_alloc] at X3
  generalize ((U.alloc (.cells #[.int .i64 39, .int .i64 0, .int .i64 0, .int .i64 0, .int .i64 0, .string ⟨#[]⟩] 48)).alloc (.cells #[.int .i64 39, .int .i64 1, .int .i64 1, .int .i64 0, .int .i64 0, .string ⟨#[]⟩] 48)).alloc (.cells #[.int .i64 39, .int .i64 1, .int .i64 16, .int .i64 0, .int .i64 0, .string ⟨#[]⟩] 48) = w1 at X1 X2 X3 HB ⊢
  generalize U.heap.size = B at X1 X2 X3 ⊢
  have HK := Lib.hid (show ∀ W, Below w1.heap.size w1 W → W.cell? ⟨B, 0, none⟩ = some (.int .i64 39) ∧ W.cell? ⟨B, 1, none⟩ = some (.int .i64 0) ∧ W.cell? ⟨B, 2, none⟩ = some (.int .i64 0) ∧ W.cell? ⟨B, 3, none⟩ = some (.int .i64 0) ∧ W.cell? ⟨B, 4, none⟩ = some (.int .i64 0) ∧ W.cell? ⟨B, 5, none⟩ = some (.string ⟨#[]⟩) ∧ W.cell? ⟨B + 1, 0, none⟩ = some (.int .i64 39) ∧ W.cell? ⟨B + 1, 1, none⟩ = some (.int .i64 1) ∧ W.cell? ⟨B + 1, 2, none⟩ = some (.int .i64 1) ∧ W.cell? ⟨B + 1, 3, none⟩ = some (.int .i64 0) ∧ W.cell? ⟨B + 1, 4, none⟩ = some (.int .i64 0) ∧ W.cell? ⟨B + 1, 5, none⟩ = some (.string ⟨#[]⟩) ∧ W.cell? ⟨B + 1 + 1, 0, none⟩ = some (.int .i64 39) ∧ W.cell? ⟨B + 1 + 1, 1, none⟩ = some (.int .i64 1) ∧ W.cell? ⟨B + 1 + 1, 2, none⟩ = some (.int .i64 16) ∧ W.cell? ⟨B + 1 + 1, 3, none⟩ = some (.int .i64 0) ∧ W.cell? ⟨B + 1 + 1, 4, none⟩ = some (.int .i64 0) ∧ W.cell? ⟨B + 1 + 1, 5, none⟩ = some (.string ⟨#[]⟩) from fun W h => ⟨(X1.keep h).cell 0 _ rfl, (X1.keep h).cell 1 _ rfl, (X1.keep h).cell 2 _ rfl, (X1.keep h).cell 3 _ rfl, (X1.keep h).cell 4 _ rfl, (X1.keep h).cell 5 _ rfl, (X2.keep h).cell 0 _ rfl, (X2.keep h).cell 1 _ rfl, (X2.keep h).cell 2 _ rfl, (X2.keep h).cell 3 _ rfl, (X2.keep h).cell 4 _ rfl, (X2.keep h).cell 5 _ rfl, (X3.keep h).cell 0 _ rfl, (X3.keep h).cell 1 _ rfl, (X3.keep h).cell 2 _ rfl, (X3.keep h).cell 3 _ rfl, (X3.keep h).cell 4 _ rfl, (X3.keep h).cell 5 _ rfl⟩)
  have HG := Lib.hid (Below.refl w1.heap.size w1).drew
  clear X1 X2 X3
  go_region_held3 (fun W => W.cell? ⟨B, 0, none⟩ = some (.int .i64 39) ∧ W.cell? ⟨B, 1, none⟩ = some (.int .i64 0) ∧ W.cell? ⟨B, 2, none⟩ = some (.int .i64 0) ∧ W.cell? ⟨B, 3, none⟩ = some (.int .i64 0) ∧ W.cell? ⟨B, 4, none⟩ = some (.int .i64 0) ∧ W.cell? ⟨B, 5, none⟩ = some (.string ⟨#[]⟩) ∧ W.cell? ⟨B + 1, 0, none⟩ = some (.int .i64 39) ∧ W.cell? ⟨B + 1, 1, none⟩ = some (.int .i64 1) ∧ W.cell? ⟨B + 1, 2, none⟩ = some (.int .i64 1) ∧ W.cell? ⟨B + 1, 3, none⟩ = some (.int .i64 0) ∧ W.cell? ⟨B + 1, 4, none⟩ = some (.int .i64 0) ∧ W.cell? ⟨B + 1, 5, none⟩ = some (.string ⟨#[]⟩) ∧ W.cell? ⟨B + 1 + 1, 0, none⟩ = some (.int .i64 39) ∧ W.cell? ⟨B + 1 + 1, 1, none⟩ = some (.int .i64 1) ∧ W.cell? ⟨B + 1 + 1, 2, none⟩ = some (.int .i64 16) ∧ W.cell? ⟨B + 1 + 1, 3, none⟩ = some (.int .i64 0) ∧ W.cell? ⟨B + 1 + 1, 4, none⟩ = some (.int .i64 0) ∧ W.cell? ⟨B + 1 + 1, 5, none⟩ = some (.string ⟨#[]⟩))
    (first
      | (with_reducible exact HK.out _ HG.out)
      | (with_reducible exact HK.out _ (Par.up HG.out (below_box _ _))))
    (first
      | (go_at_call_of 26 (Value.string ⟨#[]⟩); refine (S0.out _ (HE.out.keep (Par.up HB.out HG.out))).mono ?_; rintro e U ⟨rfl, hb⟩; have HG := Lib.hid (Par.up (Par.up HG.out (below_box _ _)) hb); clear hb)
      | (go_at_call_of 26 (Value.string ⟨#[48]⟩); refine (S1.out _ (HE.out.keep (Par.up HB.out HG.out))).mono ?_; rintro e U ⟨rfl, hb⟩; have HG := Lib.hid (Par.up (Par.up HG.out (below_box _ _)) hb); clear hb)
      | (go_at_call_of 26 (Value.string ⟨#[59]⟩); refine (S2.out _ (HE.out.keep (Par.up HB.out HG.out))).mono ?_; rintro e U ⟨rfl, hb⟩; have HG := Lib.hid (Par.up (Par.up HG.out (below_box _ _)) hb); clear hb)
      | (go_at_call_of 26 (Value.string ⟨#[49, 59, 51, 49, 59, 52, 58, 51]⟩); refine (S3.out _ (HE.out.keep (Par.up HB.out HG.out))).mono ?_; rintro e U ⟨rfl, hb⟩; have HG := Lib.hid (Par.up (Par.up HG.out (below_box _ _)) hb); clear hb)
      | (go_at_call_of 26 (Value.string ⟨#[51, 56, 59, 53, 59, 50, 48, 48, 59, 55]⟩); refine (S4.out _ (HE.out.keep (Par.up HB.out HG.out))).mono ?_; rintro e U ⟨rfl, hb⟩; have HG := Lib.hid (Par.up (Par.up HG.out (below_box _ _)) hb); clear hb)
      | (go_at_call 27; refine (lpen_any _ _ _).mono ?_; unfold qV pq; rintro e U ⟨rfl, hb⟩; have HG := Lib.hid (Par.up HG.out hb); clear hb)
      | (go_at_call 28; refine (lcolored_any _ _ _ _).mono ?_; unfold qV cq; rintro e U ⟨rfl, hb⟩; have HG := Lib.hid (Par.up HG.out hb); clear hb))
  obtain ⟨-, -, -, -, -, -, b0, b1, b2, b3, b4, b5, -⟩ := HK.out _ HG.out
  go_upto_region 4 with (first
    | (go_at_call_of 26 (Value.string ⟨#[52, 56, 58, 50, 58, 58, 49, 58, 50, 58, 51]⟩); refine (S5.out _ (HE.out.keep (Par.up HB.out HG.out))).mono ?_; rintro e U ⟨rfl, hb⟩; have HG := Lib.hid (Par.up (Par.up HG.out (below_box _ _)) hb); clear hb; obtain ⟨-, -, -, -, -, -, b0, b1, b2, b3, b4, b5, -⟩ := HK.out _ HG.out)
    | (go_at_call_of 26 (Value.string ⟨#[53, 56, 58, 50, 58, 49, 58, 50, 58, 51]⟩); refine (S6.out _ (HE.out.keep (Par.up HB.out HG.out))).mono ?_; rintro e U ⟨rfl, hb⟩; have HG := Lib.hid (Par.up (Par.up HG.out (below_box _ _)) hb); clear hb; obtain ⟨-, -, -, -, -, -, b0, b1, b2, b3, b4, b5, -⟩ := HK.out _ HG.out)
    | (go_at_call_of 26 (Value.string ⟨#[51, 56, 59, 53, 59, 50, 53, 54, 59, 49]⟩); refine (S7.out _ (HE.out.keep (Par.up HB.out HG.out))).mono ?_; rintro e U ⟨rfl, hb⟩; have HG := Lib.hid (Par.up (Par.up HG.out (below_box _ _)) hb); clear hb; obtain ⟨-, -, -, -, -, -, b0, b1, b2, b3, b4, b5, -⟩ := HK.out _ HG.out)
    | (go_at_call_of 26 (Value.string ⟨#[51, 56, 59, 50, 59, 49, 59, 50]⟩); refine (S8.out _ (HE.out.keep (Par.up HB.out HG.out))).mono ?_; rintro e U ⟨rfl, hb⟩; have HG := Lib.hid (Par.up HG.out hb); clear hb; obtain ⟨-, -, -, -, -, -, b0, b1, b2, b3, b4, b5, -⟩ := HK.out _ HG.out)
    | (go_at_call_of 26 (Value.string ⟨#[51, 56, 59, 49]⟩); refine (S9.out _ (HE.out.keep (Par.up HB.out HG.out))).mono ?_; rintro e U ⟨rfl, hb⟩; have HG := Lib.hid (Par.up (Par.up HG.out (below_box _ _)) hb); clear hb; obtain ⟨-, -, -, -, -, -, b0, b1, b2, b3, b4, b5, -⟩ := HK.out _ HG.out)
    | (go_at_call 27; refine (lpen_any _ _ _).mono ?_; unfold qV pq; rintro e U ⟨rfl, hb⟩; have HG := Lib.hid (Par.up HG.out hb); clear hb; obtain ⟨-, -, -, -, -, -, b0, b1, b2, b3, b4, b5, -⟩ := HK.out _ HG.out)
    | (go_at_call 28; refine (lcolored_any _ _ _ _).mono ?_; unfold qV cq; rintro e U ⟨rfl, hb⟩; have HG := Lib.hid (Par.up HG.out hb); clear hb; obtain ⟨-, -, -, -, -, -, b0, b1, b2, b3, b4, b5, -⟩ := HK.out _ HG.out))
  go_upto_region 5 with (first
    | (go_at_call_of 26 (Value.string ⟨#[57, 55, 59, 49, 48, 52, 59, 50, 49, 59, 57, 57]⟩); refine (S10.out _ (HE.out.keep (Par.up HB.out HG.out))).mono ?_; rintro e U ⟨rfl, hb⟩; have HG := Lib.hid (Par.up (Par.up HG.out (below_box _ _)) hb); clear hb)
    | (go_at_call 27; refine (lpen_any _ _ _).mono ?_; unfold qV pq; rintro e U ⟨rfl, hb⟩; have HG := Lib.hid (Par.up HG.out hb); clear hb)
    | (go_at_call 28; refine (lcolored_any _ _ _ _).mono ?_; unfold qV cq; rintro e U ⟨rfl, hb⟩; have HG := Lib.hid (Par.up HG.out hb); clear hb))
  go_upto_region 6 with (first
    | (go_at_call 18; refine (HQ.out _ (HE.out.keep (Par.up HB.out HG.out))).mono ?_; rintro e U ⟨v, rfl, hv, hb⟩; obtain ⟨A, c, hs⟩ := hv.rl.form; subst hs; have HV := Lib.hid hv.rl; have HG := Lib.hid (Par.up (Par.up HG.out (below_box _ _)) hb); clear hb hv)
    | (go_at_call 27; refine (lpen_any _ _ _).mono ?_; unfold qV pq; rintro e U ⟨rfl, hb⟩; have HG := Lib.hid (Par.up HG.out hb); clear hb)
    | (go_at_call 28; refine (lcolored_any _ _ _ _).mono ?_; unfold qV cq; rintro e U ⟨rfl, hb⟩; have HG := Lib.hid (Par.up HG.out hb); clear hb))
  go_wp2_with (go_at_call 21; refine (HPr.out _ _ HV.out (HT.out.keep (Par.up HB.out HG.out))).mono ?_; rintro e U ⟨rfl, hb⟩; have HG := Lib.hid (Par.up HG.out hb); clear hb)
  go_ret
  exact ⟨rfl, Par.up HB.out HG.out⟩
end Go.Proofs.YteepfecplabinaaDoor.Sgr

section
set_option maxRecDepth 100000
namespace Go.Proofs.YteepfecplabinaaDoor.Sgr
open Go.ChangeShapes Go.WideShapes Go.ChangeAt Go.RowKit Utf

theorem own : ownKnob Tryd.prog.godebug = none := by kernel_rfl
theorem laidOut : laidOutB Tryd.prog = true := by kernel_rfl
theorem gL : Tryd.prog.globalNamed "fenestra/color.limits" = some 2 := by kernel_rfl
theorem gLType : (Tryd.prog.globals[2]?).map (·.type) = some 118 := by kernel_rfl
theorem gLCells : Tryd.prog.cellsOf 118 = 3 := by kernel_rfl
theorem gS : Tryd.prog.globalNamed "fenestra/sgr.setters" = some 0 := by kernel_rfl
theorem gSType : (Tryd.prog.globals[0]?).map (·.type) = some 109 := by kernel_rfl
theorem gC : Tryd.prog.globalNamed "fenestra/sgr.clearers" = some 1 := by kernel_rfl
theorem gCType : (Tryd.prog.globals[1]?).map (·.type) = some 109 := by kernel_rfl
theorem gSCells : Tryd.prog.cellsOf 109 = 8 := by kernel_rfl
theorem gD : Tryd.prog.globalNamed "math/bits.deBruijn64tab" = some 4 := by kernel_rfl
theorem gDType : (Tryd.prog.globals[4]?).map (·.type) = some 149 := by kernel_rfl
theorem gDCells : Tryd.prog.cellsOf 149 = 64 := by kernel_rfl
theorem gP : Tryd.prog.globalNamed "internal/strconv.uint64pow10" = some 5 := by kernel_rfl
theorem gPType : (Tryd.prog.globals[5]?).map (·.type) = some 158 := by kernel_rfl
theorem gPCells : Tryd.prog.cellsOf 158 = 20 := by kernel_rfl
theorem cells64 : Tryd.prog.cellsOf 139 = 1 := by kernel_rfl
theorem cellsI : Tryd.prog.cellsOf 3 = 1 := by kernel_rfl
theorem cellsU : Tryd.prog.cellsOf 5 = 1 := by kernel_rfl
theorem range_of {W : World} {name : String} {g t n : Nat} (zs : List Int) (hg : Tryd.prog.globalNamed name = some g) (hty : (Tryd.prog.globals[g]?).map (·.type) = some t) (ht : Tryd.prog.underlying t = some (.array n 3)) (hct : Tryd.prog.cellsOf t = n) (h0 : 0 < zs.length)
    (h : Lib.VarReads Tryd.prog W name (Lib.tabData .i64 zs)) : g < W.heap.size ∧ W.rangeAt g 0 (cI zs) := by
  obtain ⟨g', t', cs, fuel, p, hg', ht', hvar, hd⟩ := h
  obtain rfl := Option.some.inj (hg.symm.trans hg')
  obtain rfl := Option.some.inj (hty.symm.trans ht')
  have hc : cs.toList = cI zs := Lib.cells_of_tab ht Tryd.underlying3 cellsI hct hd
  have hr : W.rangeAt g 0 (cI zs) := fun j u hu => by
    rw [Nat.zero_add, World.var?_cell hg hvar j]
    rw [← hc] at hu
    simpa using hu
  refine ⟨?_, hr⟩
  exact World.block_lt_of_cell? W _ (hr 0 _ (cI_at zs 0 zs[0] (List.getElem?_eq_getElem h0)))
theorem range_u {W : World} {name : String} {g t n : Nat} (zs : List Int) (hg : Tryd.prog.globalNamed name = some g) (hty : (Tryd.prog.globals[g]?).map (·.type) = some t) (ht : Tryd.prog.underlying t = some (.array n 5)) (hct : Tryd.prog.cellsOf t = n) (h0 : 0 < zs.length)
    (h : Lib.VarReads Tryd.prog W name (Lib.tabData .u8 zs)) : g < W.heap.size ∧ W.rangeAt g 0 (cU zs) := by
  obtain ⟨g', t', cs, fuel, p, hg', ht', hvar, hd⟩ := h
  obtain rfl := Option.some.inj (hg.symm.trans hg')
  obtain rfl := Option.some.inj (hty.symm.trans ht')
  have hc : cs.toList = cU zs := Lib.cells_of_tab ht Tryd.underlying5 cellsU hct hd
  have hr : W.rangeAt g 0 (cU zs) := fun j u hu => by
    rw [Nat.zero_add, World.var?_cell hg hvar j]
    rw [← hc] at hu
    simpa using hu
  refine ⟨?_, hr⟩
  exact World.block_lt_of_cell? W _ (hr 0 _ (cU_at zs 0 zs[0] (List.getElem?_eq_getElem h0)))
theorem env_of {W : World} (h : laidMetH Tryd.prog Rows.sgrKnownRow.laid W) : EnvT W := by
  have h' : laidMet Tryd.prog [("fenestra/color.limits", Lib.tabData .i64 Col.limT), ("math/bits.deBruijn32tab", Rows.laid_math_bits_deBruijn32tab), ("math/bits.deBruijn64tab", Lib.tabData .u8 deB), ("internal/strconv.uint64pow10", Lib.tabData .u64 Lib.pow10Tab), ("fenestra/sgr.setters", Lib.tabData .i64 setT), ("fenestra/sgr.clearers", Lib.tabData .i64 clrT)] W := h
  refine ⟨⟨?_, ?_, ?_, ?_⟩, ?_⟩
  · exact range_of Col.limT gL gLType Tryd.underlying118 gLCells (by decide) (Lib.laidMet.reads h' (by simp))
  · exact range_of setT gS gSType Tryd.underlying109 gSCells (by decide) (Lib.laidMet.reads h' (by simp))
  · exact range_of clrT gC gCType Tryd.underlying109 gSCells (by decide) (Lib.laidMet.reads h' (by simp))
  · exact range_u deB gD gDType Tryd.underlying149 gDCells (by decide) (Lib.laidMet.reads h' (by simp))
  · obtain ⟨g', t', cs, fuel, p, hg', ht', hvar, hd⟩ := Lib.laidMet.reads h' (n := "internal/strconv.uint64pow10") (d := Lib.tabData .u64 Lib.pow10Tab) (by simp)
    obtain rfl := Option.some.inj (gP.symm.trans hg')
    obtain rfl := Option.some.inj (gPType.symm.trans ht')
    have hc := Lib.cells_of_tab Tryd.underlying158 Tryd.underlying139 cells64 gPCells hd
    refine Lib.tabBelow_of_tabIs ?_
    rw [Lib.TabIs, hvar, ← hc]
def litW : DataW Unit → Value
  | .lit (.int k z) => .int k z
  | _ => undef
def valsOf : DataW Unit → Array Value
  | .agg l => (l.map litW).toArray
  | _ => #[]
def setO (cs : Array Value) : Obj → Obj
  | .cells _ t frozen => .cells cs t frozen
  | o => o
/-- a world for the witnesses: the settled one, the blocks of the six variables holding what their texts lay -/
noncomputable def laidWorld (os : Os) : World :=
  { World.holding Tryd.prog os ⟨#[], #[], []⟩ with heap := (((((((World.holding Tryd.prog os ⟨#[], #[], []⟩).heap.modify 2 (setO (valsOf Rows.laid_fenestra_color_limits))).modify 3 (setO (valsOf Rows.laid_math_bits_deBruijn32tab))).modify 4 (setO (valsOf Rows.laid_math_bits_deBruijn64tab))).modify 5 (setO (valsOf Rows.laid_internal_strconv_uint64pow10))).modify 0 (setO (valsOf Rows.laid_fenestra_sgr_setters))).modify 1 (setO (valsOf Rows.laid_fenestra_sgr_clearers))) }
end Go.Proofs.YteepfecplabinaaDoor.Sgr
end

namespace Go.Proofs.YteepfecplabinaaDoor.Sgr
open Go.RowKit Utf

set_option maxRecDepth 100000 in
theorem rwhich_any (v : Int) (w : World) : Calls Tryd.prog 54 #[.int .i64 v] w fun e w' => e = .returned (.int .i64 (whV v)) ∧ w = w' := by
  unfold whV
  by_cases h1 : v = 38
  · subst h1
    go_enter Tryd.func54, Tryd.ntmps54
    go_wp2
    go_ret
    exact ⟨rfl, rfl⟩
  · have b1 : (v == 38) = false := by simp [h1]
    by_cases h2 : v = 48
    · subst h2
      go_enter Tryd.func54, Tryd.ntmps54
      go_wp2
      go_ret
      exact ⟨rfl, rfl⟩
    · have b2 : (v == 48) = false := by simp [h2]
      by_cases h3 : v = 58
      · subst h3
        go_enter Tryd.func54, Tryd.ntmps54
        go_wp2
        go_ret
        exact ⟨rfl, rfl⟩
      · have b3 : (v == 58) = false := by simp [h3]
        rw [if_neg h1, if_neg h2, if_neg h3]
        go_enter Tryd.func54, Tryd.ntmps54
        go_wp2
        go_ret
        exact ⟨rfl, rfl⟩
theorem rpen_any (n m : Int) (w : World) : Calls Tryd.prog 32 #[.int .i64 n, .int .i64 m] w fun e w' => e = .returned (qV (pq n m)) ∧ Below w.heap.size w w' := by
  go_enter Tryd.func32, Tryd.ntmps32
  go_wp2
  refine bodyPost_ret (ret_cell1 rfl _ _ ⟨w.heap.size, 0, none⟩ _ rfl (load_q (q := pq n m) (Par.Box.new w _ _))) rfl ?_
  exact ⟨rfl, below_box _ _⟩
theorem rcolored_any (n k c : Int) (w : World) : Calls Tryd.prog 56 #[.int .i64 n, .int .i64 k, .int .i64 c] w fun e w' => e = .returned (qV (cq n k c)) ∧ Below w.heap.size w w' := by
  go_enter Tryd.func56, Tryd.ntmps56
  go_wp2
  refine bodyPost_ret (ret_cell1 rfl _ _ ⟨w.heap.size, 0, none⟩ _ rfl (load_q (q := cq n k c) (Par.Box.new w _ _))) rfl ?_
  exact ⟨rfl, below_box _ _⟩
set_option maxRecDepth 100000 in
theorem rgb_any (n r g b : Int) (hr : 0 ≤ r ∧ r ≤ 255) (hg : 0 ≤ g ∧ g ≤ 255) (hb : 0 ≤ b ∧ b ≤ 255) (w : World) : Calls Tryd.prog 57 #[.int .i64 n, .int .i64 r, .int .i64 g, .int .i64 b] w fun e w' => e = .returned (qV (rgbQ n r g b)) ∧ Below w.heap.size w w' := by
  have e1 : IntKind.i64.wrap (r * 65536) = r * 65536 := IntWalk.i64_in _ (by omega)
  have e2 : IntKind.i64.wrap (g * 256) = g * 256 := IntWalk.i64_in _ (by omega)
  have e3 : IntKind.i64.wrap (r * 65536 + g * 256) = r * 65536 + g * 256 := IntWalk.i64_in _ (by omega)
  have e4 : IntKind.i64.wrap (r * 65536 + g * 256 + b) = r * 65536 + g * 256 + b := IntWalk.i64_in _ (by omega)
  have HC := Lib.hid (fun W => rcolored_any n 2 (r * 65536 + g * 256 + b) W)
  unfold qV cq at HC
  clear hr hg hb
  have HX := Lib.hid (show Sty.Box (w.alloc (.cells #[.int .i64 0, .int .i64 0, .int .i64 0, .int .i64 0, .int .i64 0, .string ⟨#[]⟩] 48)) w.heap.size (Sty.cP zP) from Sty.Box.new w _ _)
  go_enter Tryd.func57, Tryd.ntmps57
  go_wp2_with (go_at_call 56; refine (HC.out _).mono ?_; rintro e w2 ⟨rfl, hb2⟩; have HX2 := Lib.hid (HX.out.keep hb2); have HB := Lib.hid (Par.up (below_box w _) hb2); have x0 := HX2.out.cell 0 _ rfl; have f0 := HX2.out.free 0 (by show 0 < 6; decide); have x1 := HX2.out.cell 1 _ rfl; have f1 := HX2.out.free 1 (by show 1 < 6; decide); have x2 := HX2.out.cell 2 _ rfl; have f2 := HX2.out.free 2 (by show 2 < 6; decide); have x3 := HX2.out.cell 3 _ rfl; have f3 := HX2.out.free 3 (by show 3 < 6; decide); have x4 := HX2.out.cell 4 _ rfl; have f4 := HX2.out.free 4 (by show 4 < 6; decide); have x5 := HX2.out.cell 5 _ rfl; have f5 := HX2.out.free 5 (by show 5 < 6; decide); clear hb2)
  refine bodyPost_ret (ret_cell1 rfl _ _ ⟨w.heap.size, 0, none⟩ _ rfl (put_c6 39 n 0 2 (r * 65536 + g * 256 + b) ⟨#[]⟩ HX2.out)) rfl ?_
  exact ⟨rfl, below_c6 w.heap.size 39 n 0 2 (r * 65536 + g * 256 + b) ⟨#[]⟩ HB.out (Nat.le_refl _)⟩
theorem all_no {zs : List Int} {k : Nat} {z : Int} (hz : zs[k]? = some z) (h : inB z = false) : zs.all inB = false := List.all_eq_false.2 ⟨z, List.mem_of_getElem? hz, by rw [h]; decide⟩
set_option maxRecDepth 100000 in
theorem rwithin_any (A : Option Addr) (n c : Nat) (zs : List Int) (w : World) (hn : n = zs.length) (hr : Rd w A (cI zs)) (hl : n ≤ 1000000) : Calls Tryd.prog 55 #[.slice A n c] w fun e w' => e = .returned (.bool (zs.all inB)) ∧ w = w' := by
  have HR := Lib.hid hr
  have HN := Lib.hid hn
  clear hr hn
  go_enter Tryd.func55, Tryd.ntmps55
  go_wp2_with fail
  go_loopw [3] (fun i wr => ∃ k : Nat, k ≤ n ∧ i = .int .i64 k ∧ wr = w ∧ (zs.take k).all inB = true) (fun i _ => n - (intOf i).toNat)
  case atStart => exact ⟨0, by omega, rfl, rfl, rfl⟩
  case round =>
    obtain ⟨k, hk, rfl, rfl, hall⟩ := hrel
    have HA := Lib.hid hall
    clear hall
    by_cases hk2 : k < n
    · have q1 : (k : Int) < (n : Int) := by omega
      obtain ⟨z, hz⟩ : ∃ z, zs[k]? = some z := ⟨_, List.getElem?_eq_getElem (by have := HN.out; omega)⟩
      obtain ⟨ad, rfl, hlt, hc⟩ := HR.out k _ (cI_at zs k z hz)
      have HZ := Lib.hid hz
      clear hz
      by_cases h1 : z < 0
      · go_wp2_with fail
        go_ret
        exact ⟨by rw [all_no HZ.out (by simp [inB]; omega)]; rfl, rfl⟩
      · by_cases h2 : 255 < z
        · go_wp2_with fail
          go_ret
          exact ⟨by rw [all_no HZ.out (by simp [inB]; omega)]; rfl, rfl⟩
        · go_wp2_with fail
          go_roundw
          case rel => exact ⟨k + 1, by omega, by go_num, by first | rfl | trivial, by rw [List.take_add_one, HZ.out, List.all_append, HA.out]; simp [inB]; omega⟩
          case measure => simp [intOf]; omega
    · obtain rfl : k = n := by omega
      go_wp2_with fail
      go_ret
      refine ⟨?_, rfl⟩
      have h := HA.out
      rw [HN.out, List.take_length] at h
      rw [h]
      rfl
end Go.Proofs.YteepfecplabinaaDoor.Sgr

namespace Go.Proofs.YteepfecplabinaaDoor.Sgr
open Go.RowKit Utf

set_option maxRecDepth 100000 in
theorem rattrs_any (w : World) : Calls Tryd.prog 65 #[] w fun e w' => e = .returned (.slice (some ⟨w.heap.size, 0, none⟩) 8 8) ∧ w' = w.alloc (.cells #[.int .i64 1, .int .i64 1, .int .i64 22, .int .i64 2, .int .i64 2, .int .i64 22, .int .i64 3, .int .i64 4, .int .i64 23, .int .i64 5, .int .i64 8, .int .i64 25, .int .i64 7, .int .i64 16, .int .i64 27, .int .i64 8, .int .i64 32, .int .i64 28, .int .i64 9, .int .i64 64, .int .i64 29, .int .i64 53, .int .i64 128, .int .i64 55] 118) := by
  go_enter Tryd.func65, Tryd.ntmps65
  go_wp2
  go_ret
  exact ⟨rfl, rfl⟩
theorem rpen_lit (n m : Int) (w : World) : Calls Tryd.prog 32 #[.int .i64 n, .int .i64 m] w fun e w' => e = .returned (.agg #[.int .i64 39, .int .i64 n, .int .i64 m, .int .i64 0, .int .i64 0, .string ⟨#[]⟩]) ∧ Below w.heap.size w w' := rpen_any n m w
theorem rcol_lit (n k c : Int) (w : World) : Calls Tryd.prog 56 #[.int .i64 n, .int .i64 k, .int .i64 c] w fun e w' => e = .returned (.agg #[.int .i64 39, .int .i64 n, .int .i64 0, .int .i64 k, .int .i64 c, .string ⟨#[]⟩]) ∧ Below w.heap.size w w' := rcolored_any n k c w
def codes : List Int := [1, 2, 3, 5, 7, 8, 9, 53]
def clears : List Int := [22, 22, 23, 25, 27, 28, 29, 55]
/-- none of the first rows is the value's -/
def Past (v : Int) (k : Nat) : Prop := ∀ j, j < k → v ≠ codes.getD j 0 ∧ (clears.getD j 0 ≠ 22 → v ≠ clears.getD j 0)
theorem Past.next {v : Int} {k : Nat} (h : Past v k) (h1 : v ≠ codes.getD k 0) (h2 : clears.getD k 0 ≠ 22 → v ≠ clears.getD k 0) : Past v (k + 1) := fun j hj => by
  by_cases e : j = k
  · subst e; exact ⟨h1, h2⟩
  · exact h j (by omega)
set_option maxRecDepth 100000 in
set_option maxHeartbeats 8000000 in
theorem rsimple_any (v : Int) (w : World) (hv : -9223372036854775808 ≤ v ∧ v ≤ 9223372036854775807) : Calls Tryd.prog 96 #[.int .i64 v] w (OptPost w (simV v)) := by
  have HX := Lib.hid (show Sty.Box (w.alloc (.cells #[.int .i64 0, .int .i64 0, .int .i64 0, .int .i64 0, .int .i64 0, .string ⟨#[]⟩] 48)) w.heap.size (Sty.cP zP) from Sty.Box.new w _ _)
  have HB := Lib.hid (below_box w (.cells #[.int .i64 0, .int .i64 0, .int .i64 0, .int .i64 0, .int .i64 0, .string ⟨#[]⟩] 48))
  go_enter Tryd.func96, Tryd.ntmps96
  go_upto_region 2 with (go_at_call 65; refine (rattrs_any _).mono ?_; rintro e w2 ⟨rfl, rfl⟩)
  have hA := Par.Box.new (w.alloc (.cells #[.int .i64 0, .int .i64 0, .int .i64 0, .int .i64 0, .int .i64 0, .string ⟨#[]⟩] 48)) #[.int .i64 1, .int .i64 1, .int .i64 22, .int .i64 2, .int .i64 2, .int .i64 22, .int .i64 3, .int .i64 4, .int .i64 23, .int .i64 5, .int .i64 8, .int .i64 25, .int .i64 7, .int .i64 16, .int .i64 27, .int .i64 8, .int .i64 32, .int .i64 28, .int .i64 9, .int .i64 64, .int .i64 29, .int .i64 53, .int .i64 128, .int .i64 55] 118
  rw [World.size_alloc] at hA
  have HA := Lib.hid hA
  have HX := Lib.hid (HX.out.keep (below_box _ (.cells #[.int .i64 1, .int .i64 1, .int .i64 22, .int .i64 2, .int .i64 2, .int .i64 22, .int .i64 3, .int .i64 4, .int .i64 23, .int .i64 5, .int .i64 8, .int .i64 25, .int .i64 7, .int .i64 16, .int .i64 27, .int .i64 8, .int .i64 32, .int .i64 28, .int .i64 9, .int .i64 64, .int .i64 29, .int .i64 53, .int .i64 128, .int .i64 55] 118)))
  have HB := Lib.hid (Par.up HB.out (below_box _ (.cells #[.int .i64 1, .int .i64 1, .int .i64 22, .int .i64 2, .int .i64 2, .int .i64 22, .int .i64 3, .int .i64 4, .int .i64 23, .int .i64 5, .int .i64 8, .int .i64 25, .int .i64 7, .int .i64 16, .int .i64 27, .int .i64 8, .int .i64 32, .int .i64 28, .int .i64 9, .int .i64 64, .int .i64 29, .int .i64 53, .int .i64 128, .int .i64 55] 118)))
  clear hA
  generalize (w.alloc (.cells #[.int .i64 0, .int .i64 0, .int .i64 0, .int .i64 0, .int .i64 0, .string ⟨#[]⟩] 48)).alloc (.cells #[.int .i64 1, .int .i64 1, .int .i64 22, .int .i64 2, .int .i64 2, .int .i64 22, .int .i64 3, .int .i64 4, .int .i64 23, .int .i64 5, .int .i64 8, .int .i64 25, .int .i64 7, .int .i64 16, .int .i64 27, .int .i64 8, .int .i64 32, .int .i64 28, .int .i64 9, .int .i64 64, .int .i64 29, .int .i64 53, .int .i64 128, .int .i64 55] 118) = w2 at HA HX HB ⊢
  generalize w.heap.size + 1 = G at HA ⊢
  go_wp2_with fail
  go_loopw [5] (fun i wr => ∃ k : Nat, k ≤ 8 ∧ i = .int .i64 k ∧ wr = w2 ∧ Past v k) (fun i _ => 8 - (intOf i).toNat)
  case atStart => exact ⟨0, by omega, rfl, rfl, fun j hj => by omega⟩
  case round =>
    obtain ⟨k, hk, rfl, rfl, hp⟩ := hrel
    have a0 := HA.out.cell 0 _ rfl
    have a1 := HA.out.cell 1 _ rfl
    have a2 := HA.out.cell 2 _ rfl
    have a3 := HA.out.cell 3 _ rfl
    have a4 := HA.out.cell 4 _ rfl
    have a5 := HA.out.cell 5 _ rfl
    have a6 := HA.out.cell 6 _ rfl
    have a7 := HA.out.cell 7 _ rfl
    have a8 := HA.out.cell 8 _ rfl
    have a9 := HA.out.cell 9 _ rfl
    have a10 := HA.out.cell 10 _ rfl
    have a11 := HA.out.cell 11 _ rfl
    have a12 := HA.out.cell 12 _ rfl
    have a13 := HA.out.cell 13 _ rfl
    have a14 := HA.out.cell 14 _ rfl
    have a15 := HA.out.cell 15 _ rfl
    have a16 := HA.out.cell 16 _ rfl
    have a17 := HA.out.cell 17 _ rfl
    have a18 := HA.out.cell 18 _ rfl
    have a19 := HA.out.cell 19 _ rfl
    have a20 := HA.out.cell 20 _ rfl
    have a21 := HA.out.cell 21 _ rfl
    have a22 := HA.out.cell 22 _ rfl
    have a23 := HA.out.cell 23 _ rfl
    rcases (show k = 0 ∨ k = 1 ∨ k = 2 ∨ k = 3 ∨ k = 4 ∨ k = 5 ∨ k = 6 ∨ k = 7 ∨ k = 8 by omega) with rfl | rfl | rfl | rfl | rfl | rfl | rfl | rfl | rfl
    · by_cases h1 : v = 1
      · subst h1
        clear hp hv
        go_wp2_with (go_at_call 32; refine (rpen_lit _ _ _).mono ?_; rintro e w3 ⟨rfl, hb3⟩; have HX2 := Lib.hid (HX.out.keep hb3); have HB2 := Lib.hid (Par.up HB.out hb3); have x0 := HX2.out.cell 0 _ rfl; have f0 := HX2.out.free 0 (by show 0 < 6; decide); have x1 := HX2.out.cell 1 _ rfl; have f1 := HX2.out.free 1 (by show 1 < 6; decide); have x2 := HX2.out.cell 2 _ rfl; have f2 := HX2.out.free 2 (by show 2 < 6; decide); have x3 := HX2.out.cell 3 _ rfl; have f3 := HX2.out.free 3 (by show 3 < 6; decide); have x4 := HX2.out.cell 4 _ rfl; have f4 := HX2.out.free 4 (by show 4 < 6; decide); have x5 := HX2.out.cell 5 _ rfl; have f5 := HX2.out.free 5 (by show 5 < 6; decide); clear hb3)
        refine bodyPost_ret (ret_cell2 rfl _ _ ⟨w.heap.size, 0, none⟩ _ rfl (put_c6 _ _ _ _ _ _ HX2.out)) rfl ?_
        exact ⟨rfl, below_c6 _ _ _ _ _ _ _ HB2.out (Nat.le_refl _)⟩
      · have b1 : (v == 1) = false := by simp [h1]
        by_cases h2 : v = 22
        · subst h2
          go_wp2_with fail
          go_roundw
          case rel => exact ⟨1, by omega, by go_num, by first | rfl | trivial, hp.next h1 (fun h => absurd rfl h)⟩
          case measure => simp [intOf]
        · have b2 : (v == 22) = false := by simp [h2]
          go_wp2_with fail
          go_roundw
          case rel => exact ⟨1, by omega, by go_num, by first | rfl | trivial, hp.next h1 (fun h => absurd rfl h)⟩
          case measure => simp [intOf]
    · by_cases h1 : v = 2
      · subst h1
        clear hp hv
        go_wp2_with (go_at_call 32; refine (rpen_lit _ _ _).mono ?_; rintro e w3 ⟨rfl, hb3⟩; have HX2 := Lib.hid (HX.out.keep hb3); have HB2 := Lib.hid (Par.up HB.out hb3); have x0 := HX2.out.cell 0 _ rfl; have f0 := HX2.out.free 0 (by show 0 < 6; decide); have x1 := HX2.out.cell 1 _ rfl; have f1 := HX2.out.free 1 (by show 1 < 6; decide); have x2 := HX2.out.cell 2 _ rfl; have f2 := HX2.out.free 2 (by show 2 < 6; decide); have x3 := HX2.out.cell 3 _ rfl; have f3 := HX2.out.free 3 (by show 3 < 6; decide); have x4 := HX2.out.cell 4 _ rfl; have f4 := HX2.out.free 4 (by show 4 < 6; decide); have x5 := HX2.out.cell 5 _ rfl; have f5 := HX2.out.free 5 (by show 5 < 6; decide); clear hb3)
        refine bodyPost_ret (ret_cell2 rfl _ _ ⟨w.heap.size, 0, none⟩ _ rfl (put_c6 _ _ _ _ _ _ HX2.out)) rfl ?_
        exact ⟨rfl, below_c6 _ _ _ _ _ _ _ HB2.out (Nat.le_refl _)⟩
      · have b1 : (v == 2) = false := by simp [h1]
        by_cases h2 : v = 22
        · subst h2
          go_wp2_with fail
          go_roundw
          case rel => exact ⟨2, by omega, by go_num, by first | rfl | trivial, hp.next h1 (fun h => absurd rfl h)⟩
          case measure => simp [intOf]
        · have b2 : (v == 22) = false := by simp [h2]
          go_wp2_with fail
          go_roundw
          case rel => exact ⟨2, by omega, by go_num, by first | rfl | trivial, hp.next h1 (fun h => absurd rfl h)⟩
          case measure => simp [intOf]
    · by_cases h1 : v = 3
      · subst h1
        clear hp hv
        go_wp2_with (go_at_call 32; refine (rpen_lit _ _ _).mono ?_; rintro e w3 ⟨rfl, hb3⟩; have HX2 := Lib.hid (HX.out.keep hb3); have HB2 := Lib.hid (Par.up HB.out hb3); have x0 := HX2.out.cell 0 _ rfl; have f0 := HX2.out.free 0 (by show 0 < 6; decide); have x1 := HX2.out.cell 1 _ rfl; have f1 := HX2.out.free 1 (by show 1 < 6; decide); have x2 := HX2.out.cell 2 _ rfl; have f2 := HX2.out.free 2 (by show 2 < 6; decide); have x3 := HX2.out.cell 3 _ rfl; have f3 := HX2.out.free 3 (by show 3 < 6; decide); have x4 := HX2.out.cell 4 _ rfl; have f4 := HX2.out.free 4 (by show 4 < 6; decide); have x5 := HX2.out.cell 5 _ rfl; have f5 := HX2.out.free 5 (by show 5 < 6; decide); clear hb3)
        refine bodyPost_ret (ret_cell2 rfl _ _ ⟨w.heap.size, 0, none⟩ _ rfl (put_c6 _ _ _ _ _ _ HX2.out)) rfl ?_
        exact ⟨rfl, below_c6 _ _ _ _ _ _ _ HB2.out (Nat.le_refl _)⟩
      · have b1 : (v == 3) = false := by simp [h1]
        by_cases h2 : v = 23
        · subst h2
          clear hp hv
          go_wp2_with (go_at_call 32; refine (rpen_lit _ _ _).mono ?_; rintro e w3 ⟨rfl, hb3⟩; have HX2 := Lib.hid (HX.out.keep hb3); have HB2 := Lib.hid (Par.up HB.out hb3); have x0 := HX2.out.cell 0 _ rfl; have f0 := HX2.out.free 0 (by show 0 < 6; decide); have x1 := HX2.out.cell 1 _ rfl; have f1 := HX2.out.free 1 (by show 1 < 6; decide); have x2 := HX2.out.cell 2 _ rfl; have f2 := HX2.out.free 2 (by show 2 < 6; decide); have x3 := HX2.out.cell 3 _ rfl; have f3 := HX2.out.free 3 (by show 3 < 6; decide); have x4 := HX2.out.cell 4 _ rfl; have f4 := HX2.out.free 4 (by show 4 < 6; decide); have x5 := HX2.out.cell 5 _ rfl; have f5 := HX2.out.free 5 (by show 5 < 6; decide); clear hb3)
          refine bodyPost_ret (ret_cell2 rfl _ _ ⟨w.heap.size, 0, none⟩ _ rfl (put_c6 _ _ _ _ _ _ HX2.out)) rfl ?_
          exact ⟨rfl, below_c6 _ _ _ _ _ _ _ HB2.out (Nat.le_refl _)⟩
        · have b2 : (v == 23) = false := by simp [h2]
          go_wp2_with fail
          go_roundw
          case rel => exact ⟨3, by omega, by go_num, by first | rfl | trivial, hp.next h1 (fun _ => h2)⟩
          case measure => simp [intOf]
    · by_cases h1 : v = 5
      · subst h1
        clear hp hv
        go_wp2_with (go_at_call 32; refine (rpen_lit _ _ _).mono ?_; rintro e w3 ⟨rfl, hb3⟩; have HX2 := Lib.hid (HX.out.keep hb3); have HB2 := Lib.hid (Par.up HB.out hb3); have x0 := HX2.out.cell 0 _ rfl; have f0 := HX2.out.free 0 (by show 0 < 6; decide); have x1 := HX2.out.cell 1 _ rfl; have f1 := HX2.out.free 1 (by show 1 < 6; decide); have x2 := HX2.out.cell 2 _ rfl; have f2 := HX2.out.free 2 (by show 2 < 6; decide); have x3 := HX2.out.cell 3 _ rfl; have f3 := HX2.out.free 3 (by show 3 < 6; decide); have x4 := HX2.out.cell 4 _ rfl; have f4 := HX2.out.free 4 (by show 4 < 6; decide); have x5 := HX2.out.cell 5 _ rfl; have f5 := HX2.out.free 5 (by show 5 < 6; decide); clear hb3)
        refine bodyPost_ret (ret_cell2 rfl _ _ ⟨w.heap.size, 0, none⟩ _ rfl (put_c6 _ _ _ _ _ _ HX2.out)) rfl ?_
        exact ⟨rfl, below_c6 _ _ _ _ _ _ _ HB2.out (Nat.le_refl _)⟩
      · have b1 : (v == 5) = false := by simp [h1]
        by_cases h2 : v = 25
        · subst h2
          clear hp hv
          go_wp2_with (go_at_call 32; refine (rpen_lit _ _ _).mono ?_; rintro e w3 ⟨rfl, hb3⟩; have HX2 := Lib.hid (HX.out.keep hb3); have HB2 := Lib.hid (Par.up HB.out hb3); have x0 := HX2.out.cell 0 _ rfl; have f0 := HX2.out.free 0 (by show 0 < 6; decide); have x1 := HX2.out.cell 1 _ rfl; have f1 := HX2.out.free 1 (by show 1 < 6; decide); have x2 := HX2.out.cell 2 _ rfl; have f2 := HX2.out.free 2 (by show 2 < 6; decide); have x3 := HX2.out.cell 3 _ rfl; have f3 := HX2.out.free 3 (by show 3 < 6; decide); have x4 := HX2.out.cell 4 _ rfl; have f4 := HX2.out.free 4 (by show 4 < 6; decide); have x5 := HX2.out.cell 5 _ rfl; have f5 := HX2.out.free 5 (by show 5 < 6; decide); clear hb3)
          refine bodyPost_ret (ret_cell2 rfl _ _ ⟨w.heap.size, 0, none⟩ _ rfl (put_c6 _ _ _ _ _ _ HX2.out)) rfl ?_
          exact ⟨rfl, below_c6 _ _ _ _ _ _ _ HB2.out (Nat.le_refl _)⟩
        · have b2 : (v == 25) = false := by simp [h2]
          go_wp2_with fail
          go_roundw
          case rel => exact ⟨4, by omega, by go_num, by first | rfl | trivial, hp.next h1 (fun _ => h2)⟩
          case measure => simp [intOf]
    · by_cases h1 : v = 7
      · subst h1
        clear hp hv
        go_wp2_with (go_at_call 32; refine (rpen_lit _ _ _).mono ?_; rintro e w3 ⟨rfl, hb3⟩; have HX2 := Lib.hid (HX.out.keep hb3); have HB2 := Lib.hid (Par.up HB.out hb3); have x0 := HX2.out.cell 0 _ rfl; have f0 := HX2.out.free 0 (by show 0 < 6; decide); have x1 := HX2.out.cell 1 _ rfl; have f1 := HX2.out.free 1 (by show 1 < 6; decide); have x2 := HX2.out.cell 2 _ rfl; have f2 := HX2.out.free 2 (by show 2 < 6; decide); have x3 := HX2.out.cell 3 _ rfl; have f3 := HX2.out.free 3 (by show 3 < 6; decide); have x4 := HX2.out.cell 4 _ rfl; have f4 := HX2.out.free 4 (by show 4 < 6; decide); have x5 := HX2.out.cell 5 _ rfl; have f5 := HX2.out.free 5 (by show 5 < 6; decide); clear hb3)
        refine bodyPost_ret (ret_cell2 rfl _ _ ⟨w.heap.size, 0, none⟩ _ rfl (put_c6 _ _ _ _ _ _ HX2.out)) rfl ?_
        exact ⟨rfl, below_c6 _ _ _ _ _ _ _ HB2.out (Nat.le_refl _)⟩
      · have b1 : (v == 7) = false := by simp [h1]
        by_cases h2 : v = 27
        · subst h2
          clear hp hv
          go_wp2_with (go_at_call 32; refine (rpen_lit _ _ _).mono ?_; rintro e w3 ⟨rfl, hb3⟩; have HX2 := Lib.hid (HX.out.keep hb3); have HB2 := Lib.hid (Par.up HB.out hb3); have x0 := HX2.out.cell 0 _ rfl; have f0 := HX2.out.free 0 (by show 0 < 6; decide); have x1 := HX2.out.cell 1 _ rfl; have f1 := HX2.out.free 1 (by show 1 < 6; decide); have x2 := HX2.out.cell 2 _ rfl; have f2 := HX2.out.free 2 (by show 2 < 6; decide); have x3 := HX2.out.cell 3 _ rfl; have f3 := HX2.out.free 3 (by show 3 < 6; decide); have x4 := HX2.out.cell 4 _ rfl; have f4 := HX2.out.free 4 (by show 4 < 6; decide); have x5 := HX2.out.cell 5 _ rfl; have f5 := HX2.out.free 5 (by show 5 < 6; decide); clear hb3)
          refine bodyPost_ret (ret_cell2 rfl _ _ ⟨w.heap.size, 0, none⟩ _ rfl (put_c6 _ _ _ _ _ _ HX2.out)) rfl ?_
          exact ⟨rfl, below_c6 _ _ _ _ _ _ _ HB2.out (Nat.le_refl _)⟩
        · have b2 : (v == 27) = false := by simp [h2]
          go_wp2_with fail
          go_roundw
          case rel => exact ⟨5, by omega, by go_num, by first | rfl | trivial, hp.next h1 (fun _ => h2)⟩
          case measure => simp [intOf]
    · by_cases h1 : v = 8
      · subst h1
        clear hp hv
        go_wp2_with (go_at_call 32; refine (rpen_lit _ _ _).mono ?_; rintro e w3 ⟨rfl, hb3⟩; have HX2 := Lib.hid (HX.out.keep hb3); have HB2 := Lib.hid (Par.up HB.out hb3); have x0 := HX2.out.cell 0 _ rfl; have f0 := HX2.out.free 0 (by show 0 < 6; decide); have x1 := HX2.out.cell 1 _ rfl; have f1 := HX2.out.free 1 (by show 1 < 6; decide); have x2 := HX2.out.cell 2 _ rfl; have f2 := HX2.out.free 2 (by show 2 < 6; decide); have x3 := HX2.out.cell 3 _ rfl; have f3 := HX2.out.free 3 (by show 3 < 6; decide); have x4 := HX2.out.cell 4 _ rfl; have f4 := HX2.out.free 4 (by show 4 < 6; decide); have x5 := HX2.out.cell 5 _ rfl; have f5 := HX2.out.free 5 (by show 5 < 6; decide); clear hb3)
        refine bodyPost_ret (ret_cell2 rfl _ _ ⟨w.heap.size, 0, none⟩ _ rfl (put_c6 _ _ _ _ _ _ HX2.out)) rfl ?_
        exact ⟨rfl, below_c6 _ _ _ _ _ _ _ HB2.out (Nat.le_refl _)⟩
      · have b1 : (v == 8) = false := by simp [h1]
        by_cases h2 : v = 28
        · subst h2
          clear hp hv
          go_wp2_with (go_at_call 32; refine (rpen_lit _ _ _).mono ?_; rintro e w3 ⟨rfl, hb3⟩; have HX2 := Lib.hid (HX.out.keep hb3); have HB2 := Lib.hid (Par.up HB.out hb3); have x0 := HX2.out.cell 0 _ rfl; have f0 := HX2.out.free 0 (by show 0 < 6; decide); have x1 := HX2.out.cell 1 _ rfl; have f1 := HX2.out.free 1 (by show 1 < 6; decide); have x2 := HX2.out.cell 2 _ rfl; have f2 := HX2.out.free 2 (by show 2 < 6; decide); have x3 := HX2.out.cell 3 _ rfl; have f3 := HX2.out.free 3 (by show 3 < 6; decide); have x4 := HX2.out.cell 4 _ rfl; have f4 := HX2.out.free 4 (by show 4 < 6; decide); have x5 := HX2.out.cell 5 _ rfl; have f5 := HX2.out.free 5 (by show 5 < 6; decide); clear hb3)
          refine bodyPost_ret (ret_cell2 rfl _ _ ⟨w.heap.size, 0, none⟩ _ rfl (put_c6 _ _ _ _ _ _ HX2.out)) rfl ?_
          exact ⟨rfl, below_c6 _ _ _ _ _ _ _ HB2.out (Nat.le_refl _)⟩
        · have b2 : (v == 28) = false := by simp [h2]
          go_wp2_with fail
          go_roundw
          case rel => exact ⟨6, by omega, by go_num, by first | rfl | trivial, hp.next h1 (fun _ => h2)⟩
          case measure => simp [intOf]
    · by_cases h1 : v = 9
      · subst h1
        clear hp hv
        go_wp2_with (go_at_call 32; refine (rpen_lit _ _ _).mono ?_; rintro e w3 ⟨rfl, hb3⟩; have HX2 := Lib.hid (HX.out.keep hb3); have HB2 := Lib.hid (Par.up HB.out hb3); have x0 := HX2.out.cell 0 _ rfl; have f0 := HX2.out.free 0 (by show 0 < 6; decide); have x1 := HX2.out.cell 1 _ rfl; have f1 := HX2.out.free 1 (by show 1 < 6; decide); have x2 := HX2.out.cell 2 _ rfl; have f2 := HX2.out.free 2 (by show 2 < 6; decide); have x3 := HX2.out.cell 3 _ rfl; have f3 := HX2.out.free 3 (by show 3 < 6; decide); have x4 := HX2.out.cell 4 _ rfl; have f4 := HX2.out.free 4 (by show 4 < 6; decide); have x5 := HX2.out.cell 5 _ rfl; have f5 := HX2.out.free 5 (by show 5 < 6; decide); clear hb3)
        refine bodyPost_ret (ret_cell2 rfl _ _ ⟨w.heap.size, 0, none⟩ _ rfl (put_c6 _ _ _ _ _ _ HX2.out)) rfl ?_
        exact ⟨rfl, below_c6 _ _ _ _ _ _ _ HB2.out (Nat.le_refl _)⟩
      · have b1 : (v == 9) = false := by simp [h1]
        by_cases h2 : v = 29
        · subst h2
          clear hp hv
          go_wp2_with (go_at_call 32; refine (rpen_lit _ _ _).mono ?_; rintro e w3 ⟨rfl, hb3⟩; have HX2 := Lib.hid (HX.out.keep hb3); have HB2 := Lib.hid (Par.up HB.out hb3); have x0 := HX2.out.cell 0 _ rfl; have f0 := HX2.out.free 0 (by show 0 < 6; decide); have x1 := HX2.out.cell 1 _ rfl; have f1 := HX2.out.free 1 (by show 1 < 6; decide); have x2 := HX2.out.cell 2 _ rfl; have f2 := HX2.out.free 2 (by show 2 < 6; decide); have x3 := HX2.out.cell 3 _ rfl; have f3 := HX2.out.free 3 (by show 3 < 6; decide); have x4 := HX2.out.cell 4 _ rfl; have f4 := HX2.out.free 4 (by show 4 < 6; decide); have x5 := HX2.out.cell 5 _ rfl; have f5 := HX2.out.free 5 (by show 5 < 6; decide); clear hb3)
          refine bodyPost_ret (ret_cell2 rfl _ _ ⟨w.heap.size, 0, none⟩ _ rfl (put_c6 _ _ _ _ _ _ HX2.out)) rfl ?_
          exact ⟨rfl, below_c6 _ _ _ _ _ _ _ HB2.out (Nat.le_refl _)⟩
        · have b2 : (v == 29) = false := by simp [h2]
          go_wp2_with fail
          go_roundw
          case rel => exact ⟨7, by omega, by go_num, by first | rfl | trivial, hp.next h1 (fun _ => h2)⟩
          case measure => simp [intOf]
    · by_cases h1 : v = 53
      · subst h1
        clear hp hv
        go_wp2_with (go_at_call 32; refine (rpen_lit _ _ _).mono ?_; rintro e w3 ⟨rfl, hb3⟩; have HX2 := Lib.hid (HX.out.keep hb3); have HB2 := Lib.hid (Par.up HB.out hb3); have x0 := HX2.out.cell 0 _ rfl; have f0 := HX2.out.free 0 (by show 0 < 6; decide); have x1 := HX2.out.cell 1 _ rfl; have f1 := HX2.out.free 1 (by show 1 < 6; decide); have x2 := HX2.out.cell 2 _ rfl; have f2 := HX2.out.free 2 (by show 2 < 6; decide); have x3 := HX2.out.cell 3 _ rfl; have f3 := HX2.out.free 3 (by show 3 < 6; decide); have x4 := HX2.out.cell 4 _ rfl; have f4 := HX2.out.free 4 (by show 4 < 6; decide); have x5 := HX2.out.cell 5 _ rfl; have f5 := HX2.out.free 5 (by show 5 < 6; decide); clear hb3)
        refine bodyPost_ret (ret_cell2 rfl _ _ ⟨w.heap.size, 0, none⟩ _ rfl (put_c6 _ _ _ _ _ _ HX2.out)) rfl ?_
        exact ⟨rfl, below_c6 _ _ _ _ _ _ _ HB2.out (Nat.le_refl _)⟩
      · have b1 : (v == 53) = false := by simp [h1]
        by_cases h2 : v = 55
        · subst h2
          clear hp hv
          go_wp2_with (go_at_call 32; refine (rpen_lit _ _ _).mono ?_; rintro e w3 ⟨rfl, hb3⟩; have HX2 := Lib.hid (HX.out.keep hb3); have HB2 := Lib.hid (Par.up HB.out hb3); have x0 := HX2.out.cell 0 _ rfl; have f0 := HX2.out.free 0 (by show 0 < 6; decide); have x1 := HX2.out.cell 1 _ rfl; have f1 := HX2.out.free 1 (by show 1 < 6; decide); have x2 := HX2.out.cell 2 _ rfl; have f2 := HX2.out.free 2 (by show 2 < 6; decide); have x3 := HX2.out.cell 3 _ rfl; have f3 := HX2.out.free 3 (by show 3 < 6; decide); have x4 := HX2.out.cell 4 _ rfl; have f4 := HX2.out.free 4 (by show 4 < 6; decide); have x5 := HX2.out.cell 5 _ rfl; have f5 := HX2.out.free 5 (by show 5 < 6; decide); clear hb3)
          refine bodyPost_ret (ret_cell2 rfl _ _ ⟨w.heap.size, 0, none⟩ _ rfl (put_c6 _ _ _ _ _ _ HX2.out)) rfl ?_
          exact ⟨rfl, below_c6 _ _ _ _ _ _ _ HB2.out (Nat.le_refl _)⟩
        · have b2 : (v == 55) = false := by simp [h2]
          go_wp2_with fail
          go_roundw
          case rel => exact ⟨8, by omega, by go_num, by first | rfl | trivial, hp.next h1 (fun _ => h2)⟩
          case measure => simp [intOf]
    · clear a0 a1 a2 a3 a4 a5 a6 a7 a8 a9 a10 a11 a12 a13 a14 a15 a16 a17 a18 a19 a20 a21 a22 a23 HA
      have n1 : v ≠ 1 := (hp 0 (by omega)).1
      have n2 : v ≠ 2 := (hp 1 (by omega)).1
      have n3 : v ≠ 3 := (hp 2 (by omega)).1
      have n23 : v ≠ 23 := (hp 2 (by omega)).2 (by decide)
      have n5 : v ≠ 5 := (hp 3 (by omega)).1
      have n25 : v ≠ 25 := (hp 3 (by omega)).2 (by decide)
      have n7 : v ≠ 7 := (hp 4 (by omega)).1
      have n27 : v ≠ 27 := (hp 4 (by omega)).2 (by decide)
      have n8 : v ≠ 8 := (hp 5 (by omega)).1
      have n28 : v ≠ 28 := (hp 5 (by omega)).2 (by decide)
      have n9 : v ≠ 9 := (hp 6 (by omega)).1
      have n29 : v ≠ 29 := (hp 6 (by omega)).2 (by decide)
      have n53 : v ≠ 53 := (hp 7 (by omega)).1
      have n55 : v ≠ 55 := (hp 7 (by omega)).2 (by decide)
      clear hp
      by_cases h0 : v = 0
      · subst h0
        clear n1 n2 n3 n5 n7 n8 n9 n53 n23 n25 n27 n28 n29 n55 hv
        go_wp2_with (first | (go_at_call 32; refine (rpen_lit _ _ _).mono ?_; rintro e w3 ⟨rfl, hb3⟩; have HX2 := Lib.hid (HX.out.keep hb3); have HB2 := Lib.hid (Par.up HB.out hb3); have x0 := HX2.out.cell 0 _ rfl; have f0 := HX2.out.free 0 (by show 0 < 6; decide); have x1 := HX2.out.cell 1 _ rfl; have f1 := HX2.out.free 1 (by show 1 < 6; decide); have x2 := HX2.out.cell 2 _ rfl; have f2 := HX2.out.free 2 (by show 2 < 6; decide); have x3 := HX2.out.cell 3 _ rfl; have f3 := HX2.out.free 3 (by show 3 < 6; decide); have x4 := HX2.out.cell 4 _ rfl; have f4 := HX2.out.free 4 (by show 4 < 6; decide); have x5 := HX2.out.cell 5 _ rfl; have f5 := HX2.out.free 5 (by show 5 < 6; decide); clear hb3) | (go_at_call 56; refine (rcol_lit _ _ _ _).mono ?_; rintro e w3 ⟨rfl, hb3⟩; have HX2 := Lib.hid (HX.out.keep hb3); have HB2 := Lib.hid (Par.up HB.out hb3); have x0 := HX2.out.cell 0 _ rfl; have f0 := HX2.out.free 0 (by show 0 < 6; decide); have x1 := HX2.out.cell 1 _ rfl; have f1 := HX2.out.free 1 (by show 1 < 6; decide); have x2 := HX2.out.cell 2 _ rfl; have f2 := HX2.out.free 2 (by show 2 < 6; decide); have x3 := HX2.out.cell 3 _ rfl; have f3 := HX2.out.free 3 (by show 3 < 6; decide); have x4 := HX2.out.cell 4 _ rfl; have f4 := HX2.out.free 4 (by show 4 < 6; decide); have x5 := HX2.out.cell 5 _ rfl; have f5 := HX2.out.free 5 (by show 5 < 6; decide); clear hb3))
        refine bodyPost_ret (ret_cell2 rfl _ _ ⟨w.heap.size, 0, none⟩ _ rfl (put_c6 _ _ _ _ _ _ HX2.out)) rfl ?_
        exact ⟨rfl, below_c6 _ _ _ _ _ _ _ HB2.out (Nat.le_refl _)⟩
      by_cases h4 : v = 4
      · subst h4
        clear n1 n2 n3 n5 n7 n8 n9 n53 n23 n25 n27 n28 n29 n55 hv
        go_wp2_with (first | (go_at_call 32; refine (rpen_lit _ _ _).mono ?_; rintro e w3 ⟨rfl, hb3⟩; have HX2 := Lib.hid (HX.out.keep hb3); have HB2 := Lib.hid (Par.up HB.out hb3); have x0 := HX2.out.cell 0 _ rfl; have f0 := HX2.out.free 0 (by show 0 < 6; decide); have x1 := HX2.out.cell 1 _ rfl; have f1 := HX2.out.free 1 (by show 1 < 6; decide); have x2 := HX2.out.cell 2 _ rfl; have f2 := HX2.out.free 2 (by show 2 < 6; decide); have x3 := HX2.out.cell 3 _ rfl; have f3 := HX2.out.free 3 (by show 3 < 6; decide); have x4 := HX2.out.cell 4 _ rfl; have f4 := HX2.out.free 4 (by show 4 < 6; decide); have x5 := HX2.out.cell 5 _ rfl; have f5 := HX2.out.free 5 (by show 5 < 6; decide); clear hb3) | (go_at_call 56; refine (rcol_lit _ _ _ _).mono ?_; rintro e w3 ⟨rfl, hb3⟩; have HX2 := Lib.hid (HX.out.keep hb3); have HB2 := Lib.hid (Par.up HB.out hb3); have x0 := HX2.out.cell 0 _ rfl; have f0 := HX2.out.free 0 (by show 0 < 6; decide); have x1 := HX2.out.cell 1 _ rfl; have f1 := HX2.out.free 1 (by show 1 < 6; decide); have x2 := HX2.out.cell 2 _ rfl; have f2 := HX2.out.free 2 (by show 2 < 6; decide); have x3 := HX2.out.cell 3 _ rfl; have f3 := HX2.out.free 3 (by show 3 < 6; decide); have x4 := HX2.out.cell 4 _ rfl; have f4 := HX2.out.free 4 (by show 4 < 6; decide); have x5 := HX2.out.cell 5 _ rfl; have f5 := HX2.out.free 5 (by show 5 < 6; decide); clear hb3))
        refine bodyPost_ret (ret_cell2 rfl _ _ ⟨w.heap.size, 0, none⟩ _ rfl (put_c6 _ _ _ _ _ _ HX2.out)) rfl ?_
        exact ⟨rfl, below_c6 _ _ _ _ _ _ _ HB2.out (Nat.le_refl _)⟩
      by_cases h6 : v = 6
      · subst h6
        clear n1 n2 n3 n5 n7 n8 n9 n53 n23 n25 n27 n28 n29 n55 hv
        go_wp2_with (first | (go_at_call 32; refine (rpen_lit _ _ _).mono ?_; rintro e w3 ⟨rfl, hb3⟩; have HX2 := Lib.hid (HX.out.keep hb3); have HB2 := Lib.hid (Par.up HB.out hb3); have x0 := HX2.out.cell 0 _ rfl; have f0 := HX2.out.free 0 (by show 0 < 6; decide); have x1 := HX2.out.cell 1 _ rfl; have f1 := HX2.out.free 1 (by show 1 < 6; decide); have x2 := HX2.out.cell 2 _ rfl; have f2 := HX2.out.free 2 (by show 2 < 6; decide); have x3 := HX2.out.cell 3 _ rfl; have f3 := HX2.out.free 3 (by show 3 < 6; decide); have x4 := HX2.out.cell 4 _ rfl; have f4 := HX2.out.free 4 (by show 4 < 6; decide); have x5 := HX2.out.cell 5 _ rfl; have f5 := HX2.out.free 5 (by show 5 < 6; decide); clear hb3) | (go_at_call 56; refine (rcol_lit _ _ _ _).mono ?_; rintro e w3 ⟨rfl, hb3⟩; have HX2 := Lib.hid (HX.out.keep hb3); have HB2 := Lib.hid (Par.up HB.out hb3); have x0 := HX2.out.cell 0 _ rfl; have f0 := HX2.out.free 0 (by show 0 < 6; decide); have x1 := HX2.out.cell 1 _ rfl; have f1 := HX2.out.free 1 (by show 1 < 6; decide); have x2 := HX2.out.cell 2 _ rfl; have f2 := HX2.out.free 2 (by show 2 < 6; decide); have x3 := HX2.out.cell 3 _ rfl; have f3 := HX2.out.free 3 (by show 3 < 6; decide); have x4 := HX2.out.cell 4 _ rfl; have f4 := HX2.out.free 4 (by show 4 < 6; decide); have x5 := HX2.out.cell 5 _ rfl; have f5 := HX2.out.free 5 (by show 5 < 6; decide); clear hb3))
        refine bodyPost_ret (ret_cell2 rfl _ _ ⟨w.heap.size, 0, none⟩ _ rfl (put_c6 _ _ _ _ _ _ HX2.out)) rfl ?_
        exact ⟨rfl, below_c6 _ _ _ _ _ _ _ HB2.out (Nat.le_refl _)⟩
      by_cases h21 : v = 21
      · subst h21
        clear n1 n2 n3 n5 n7 n8 n9 n53 n23 n25 n27 n28 n29 n55 hv
        go_wp2_with (first | (go_at_call 32; refine (rpen_lit _ _ _).mono ?_; rintro e w3 ⟨rfl, hb3⟩; have HX2 := Lib.hid (HX.out.keep hb3); have HB2 := Lib.hid (Par.up HB.out hb3); have x0 := HX2.out.cell 0 _ rfl; have f0 := HX2.out.free 0 (by show 0 < 6; decide); have x1 := HX2.out.cell 1 _ rfl; have f1 := HX2.out.free 1 (by show 1 < 6; decide); have x2 := HX2.out.cell 2 _ rfl; have f2 := HX2.out.free 2 (by show 2 < 6; decide); have x3 := HX2.out.cell 3 _ rfl; have f3 := HX2.out.free 3 (by show 3 < 6; decide); have x4 := HX2.out.cell 4 _ rfl; have f4 := HX2.out.free 4 (by show 4 < 6; decide); have x5 := HX2.out.cell 5 _ rfl; have f5 := HX2.out.free 5 (by show 5 < 6; decide); clear hb3) | (go_at_call 56; refine (rcol_lit _ _ _ _).mono ?_; rintro e w3 ⟨rfl, hb3⟩; have HX2 := Lib.hid (HX.out.keep hb3); have HB2 := Lib.hid (Par.up HB.out hb3); have x0 := HX2.out.cell 0 _ rfl; have f0 := HX2.out.free 0 (by show 0 < 6; decide); have x1 := HX2.out.cell 1 _ rfl; have f1 := HX2.out.free 1 (by show 1 < 6; decide); have x2 := HX2.out.cell 2 _ rfl; have f2 := HX2.out.free 2 (by show 2 < 6; decide); have x3 := HX2.out.cell 3 _ rfl; have f3 := HX2.out.free 3 (by show 3 < 6; decide); have x4 := HX2.out.cell 4 _ rfl; have f4 := HX2.out.free 4 (by show 4 < 6; decide); have x5 := HX2.out.cell 5 _ rfl; have f5 := HX2.out.free 5 (by show 5 < 6; decide); clear hb3))
        refine bodyPost_ret (ret_cell2 rfl _ _ ⟨w.heap.size, 0, none⟩ _ rfl (put_c6 _ _ _ _ _ _ HX2.out)) rfl ?_
        exact ⟨rfl, below_c6 _ _ _ _ _ _ _ HB2.out (Nat.le_refl _)⟩
      by_cases h22 : v = 22
      · subst h22
        clear n1 n2 n3 n5 n7 n8 n9 n53 n23 n25 n27 n28 n29 n55 hv
        go_wp2_with (first | (go_at_call 32; refine (rpen_lit _ _ _).mono ?_; rintro e w3 ⟨rfl, hb3⟩; have HX2 := Lib.hid (HX.out.keep hb3); have HB2 := Lib.hid (Par.up HB.out hb3); have x0 := HX2.out.cell 0 _ rfl; have f0 := HX2.out.free 0 (by show 0 < 6; decide); have x1 := HX2.out.cell 1 _ rfl; have f1 := HX2.out.free 1 (by show 1 < 6; decide); have x2 := HX2.out.cell 2 _ rfl; have f2 := HX2.out.free 2 (by show 2 < 6; decide); have x3 := HX2.out.cell 3 _ rfl; have f3 := HX2.out.free 3 (by show 3 < 6; decide); have x4 := HX2.out.cell 4 _ rfl; have f4 := HX2.out.free 4 (by show 4 < 6; decide); have x5 := HX2.out.cell 5 _ rfl; have f5 := HX2.out.free 5 (by show 5 < 6; decide); clear hb3) | (go_at_call 56; refine (rcol_lit _ _ _ _).mono ?_; rintro e w3 ⟨rfl, hb3⟩; have HX2 := Lib.hid (HX.out.keep hb3); have HB2 := Lib.hid (Par.up HB.out hb3); have x0 := HX2.out.cell 0 _ rfl; have f0 := HX2.out.free 0 (by show 0 < 6; decide); have x1 := HX2.out.cell 1 _ rfl; have f1 := HX2.out.free 1 (by show 1 < 6; decide); have x2 := HX2.out.cell 2 _ rfl; have f2 := HX2.out.free 2 (by show 2 < 6; decide); have x3 := HX2.out.cell 3 _ rfl; have f3 := HX2.out.free 3 (by show 3 < 6; decide); have x4 := HX2.out.cell 4 _ rfl; have f4 := HX2.out.free 4 (by show 4 < 6; decide); have x5 := HX2.out.cell 5 _ rfl; have f5 := HX2.out.free 5 (by show 5 < 6; decide); clear hb3))
        refine bodyPost_ret (ret_cell2 rfl _ _ ⟨w.heap.size, 0, none⟩ _ rfl (put_c6 _ _ _ _ _ _ HX2.out)) rfl ?_
        exact ⟨rfl, below_c6 _ _ _ _ _ _ _ HB2.out (Nat.le_refl _)⟩
      by_cases h24 : v = 24
      · subst h24
        clear n1 n2 n3 n5 n7 n8 n9 n53 n23 n25 n27 n28 n29 n55 hv
        go_wp2_with (first | (go_at_call 32; refine (rpen_lit _ _ _).mono ?_; rintro e w3 ⟨rfl, hb3⟩; have HX2 := Lib.hid (HX.out.keep hb3); have HB2 := Lib.hid (Par.up HB.out hb3); have x0 := HX2.out.cell 0 _ rfl; have f0 := HX2.out.free 0 (by show 0 < 6; decide); have x1 := HX2.out.cell 1 _ rfl; have f1 := HX2.out.free 1 (by show 1 < 6; decide); have x2 := HX2.out.cell 2 _ rfl; have f2 := HX2.out.free 2 (by show 2 < 6; decide); have x3 := HX2.out.cell 3 _ rfl; have f3 := HX2.out.free 3 (by show 3 < 6; decide); have x4 := HX2.out.cell 4 _ rfl; have f4 := HX2.out.free 4 (by show 4 < 6; decide); have x5 := HX2.out.cell 5 _ rfl; have f5 := HX2.out.free 5 (by show 5 < 6; decide); clear hb3) | (go_at_call 56; refine (rcol_lit _ _ _ _).mono ?_; rintro e w3 ⟨rfl, hb3⟩; have HX2 := Lib.hid (HX.out.keep hb3); have HB2 := Lib.hid (Par.up HB.out hb3); have x0 := HX2.out.cell 0 _ rfl; have f0 := HX2.out.free 0 (by show 0 < 6; decide); have x1 := HX2.out.cell 1 _ rfl; have f1 := HX2.out.free 1 (by show 1 < 6; decide); have x2 := HX2.out.cell 2 _ rfl; have f2 := HX2.out.free 2 (by show 2 < 6; decide); have x3 := HX2.out.cell 3 _ rfl; have f3 := HX2.out.free 3 (by show 3 < 6; decide); have x4 := HX2.out.cell 4 _ rfl; have f4 := HX2.out.free 4 (by show 4 < 6; decide); have x5 := HX2.out.cell 5 _ rfl; have f5 := HX2.out.free 5 (by show 5 < 6; decide); clear hb3))
        refine bodyPost_ret (ret_cell2 rfl _ _ ⟨w.heap.size, 0, none⟩ _ rfl (put_c6 _ _ _ _ _ _ HX2.out)) rfl ?_
        exact ⟨rfl, below_c6 _ _ _ _ _ _ _ HB2.out (Nat.le_refl _)⟩
      by_cases h39 : v = 39
      · subst h39
        clear n1 n2 n3 n5 n7 n8 n9 n53 n23 n25 n27 n28 n29 n55 hv
        go_wp2_with (first | (go_at_call 32; refine (rpen_lit _ _ _).mono ?_; rintro e w3 ⟨rfl, hb3⟩; have HX2 := Lib.hid (HX.out.keep hb3); have HB2 := Lib.hid (Par.up HB.out hb3); have x0 := HX2.out.cell 0 _ rfl; have f0 := HX2.out.free 0 (by show 0 < 6; decide); have x1 := HX2.out.cell 1 _ rfl; have f1 := HX2.out.free 1 (by show 1 < 6; decide); have x2 := HX2.out.cell 2 _ rfl; have f2 := HX2.out.free 2 (by show 2 < 6; decide); have x3 := HX2.out.cell 3 _ rfl; have f3 := HX2.out.free 3 (by show 3 < 6; decide); have x4 := HX2.out.cell 4 _ rfl; have f4 := HX2.out.free 4 (by show 4 < 6; decide); have x5 := HX2.out.cell 5 _ rfl; have f5 := HX2.out.free 5 (by show 5 < 6; decide); clear hb3) | (go_at_call 56; refine (rcol_lit _ _ _ _).mono ?_; rintro e w3 ⟨rfl, hb3⟩; have HX2 := Lib.hid (HX.out.keep hb3); have HB2 := Lib.hid (Par.up HB.out hb3); have x0 := HX2.out.cell 0 _ rfl; have f0 := HX2.out.free 0 (by show 0 < 6; decide); have x1 := HX2.out.cell 1 _ rfl; have f1 := HX2.out.free 1 (by show 1 < 6; decide); have x2 := HX2.out.cell 2 _ rfl; have f2 := HX2.out.free 2 (by show 2 < 6; decide); have x3 := HX2.out.cell 3 _ rfl; have f3 := HX2.out.free 3 (by show 3 < 6; decide); have x4 := HX2.out.cell 4 _ rfl; have f4 := HX2.out.free 4 (by show 4 < 6; decide); have x5 := HX2.out.cell 5 _ rfl; have f5 := HX2.out.free 5 (by show 5 < 6; decide); clear hb3))
        refine bodyPost_ret (ret_cell2 rfl _ _ ⟨w.heap.size, 0, none⟩ _ rfl (put_c6 _ _ _ _ _ _ HX2.out)) rfl ?_
        exact ⟨rfl, below_c6 _ _ _ _ _ _ _ HB2.out (Nat.le_refl _)⟩
      by_cases h49 : v = 49
      · subst h49
        clear n1 n2 n3 n5 n7 n8 n9 n53 n23 n25 n27 n28 n29 n55 hv
        go_wp2_with (first | (go_at_call 32; refine (rpen_lit _ _ _).mono ?_; rintro e w3 ⟨rfl, hb3⟩; have HX2 := Lib.hid (HX.out.keep hb3); have HB2 := Lib.hid (Par.up HB.out hb3); have x0 := HX2.out.cell 0 _ rfl; have f0 := HX2.out.free 0 (by show 0 < 6; decide); have x1 := HX2.out.cell 1 _ rfl; have f1 := HX2.out.free 1 (by show 1 < 6; decide); have x2 := HX2.out.cell 2 _ rfl; have f2 := HX2.out.free 2 (by show 2 < 6; decide); have x3 := HX2.out.cell 3 _ rfl; have f3 := HX2.out.free 3 (by show 3 < 6; decide); have x4 := HX2.out.cell 4 _ rfl; have f4 := HX2.out.free 4 (by show 4 < 6; decide); have x5 := HX2.out.cell 5 _ rfl; have f5 := HX2.out.free 5 (by show 5 < 6; decide); clear hb3) | (go_at_call 56; refine (rcol_lit _ _ _ _).mono ?_; rintro e w3 ⟨rfl, hb3⟩; have HX2 := Lib.hid (HX.out.keep hb3); have HB2 := Lib.hid (Par.up HB.out hb3); have x0 := HX2.out.cell 0 _ rfl; have f0 := HX2.out.free 0 (by show 0 < 6; decide); have x1 := HX2.out.cell 1 _ rfl; have f1 := HX2.out.free 1 (by show 1 < 6; decide); have x2 := HX2.out.cell 2 _ rfl; have f2 := HX2.out.free 2 (by show 2 < 6; decide); have x3 := HX2.out.cell 3 _ rfl; have f3 := HX2.out.free 3 (by show 3 < 6; decide); have x4 := HX2.out.cell 4 _ rfl; have f4 := HX2.out.free 4 (by show 4 < 6; decide); have x5 := HX2.out.cell 5 _ rfl; have f5 := HX2.out.free 5 (by show 5 < 6; decide); clear hb3))
        refine bodyPost_ret (ret_cell2 rfl _ _ ⟨w.heap.size, 0, none⟩ _ rfl (put_c6 _ _ _ _ _ _ HX2.out)) rfl ?_
        exact ⟨rfl, below_c6 _ _ _ _ _ _ _ HB2.out (Nat.le_refl _)⟩
      by_cases h59 : v = 59
      · subst h59
        clear n1 n2 n3 n5 n7 n8 n9 n53 n23 n25 n27 n28 n29 n55 hv
        go_wp2_with (first | (go_at_call 32; refine (rpen_lit _ _ _).mono ?_; rintro e w3 ⟨rfl, hb3⟩; have HX2 := Lib.hid (HX.out.keep hb3); have HB2 := Lib.hid (Par.up HB.out hb3); have x0 := HX2.out.cell 0 _ rfl; have f0 := HX2.out.free 0 (by show 0 < 6; decide); have x1 := HX2.out.cell 1 _ rfl; have f1 := HX2.out.free 1 (by show 1 < 6; decide); have x2 := HX2.out.cell 2 _ rfl; have f2 := HX2.out.free 2 (by show 2 < 6; decide); have x3 := HX2.out.cell 3 _ rfl; have f3 := HX2.out.free 3 (by show 3 < 6; decide); have x4 := HX2.out.cell 4 _ rfl; have f4 := HX2.out.free 4 (by show 4 < 6; decide); have x5 := HX2.out.cell 5 _ rfl; have f5 := HX2.out.free 5 (by show 5 < 6; decide); clear hb3) | (go_at_call 56; refine (rcol_lit _ _ _ _).mono ?_; rintro e w3 ⟨rfl, hb3⟩; have HX2 := Lib.hid (HX.out.keep hb3); have HB2 := Lib.hid (Par.up HB.out hb3); have x0 := HX2.out.cell 0 _ rfl; have f0 := HX2.out.free 0 (by show 0 < 6; decide); have x1 := HX2.out.cell 1 _ rfl; have f1 := HX2.out.free 1 (by show 1 < 6; decide); have x2 := HX2.out.cell 2 _ rfl; have f2 := HX2.out.free 2 (by show 2 < 6; decide); have x3 := HX2.out.cell 3 _ rfl; have f3 := HX2.out.free 3 (by show 3 < 6; decide); have x4 := HX2.out.cell 4 _ rfl; have f4 := HX2.out.free 4 (by show 4 < 6; decide); have x5 := HX2.out.cell 5 _ rfl; have f5 := HX2.out.free 5 (by show 5 < 6; decide); clear hb3))
        refine bodyPost_ret (ret_cell2 rfl _ _ ⟨w.heap.size, 0, none⟩ _ rfl (put_c6 _ _ _ _ _ _ HX2.out)) rfl ?_
        exact ⟨rfl, below_c6 _ _ _ _ _ _ _ HB2.out (Nat.le_refl _)⟩
      by_cases h30 : v = 30
      · subst h30
        clear n1 n2 n3 n5 n7 n8 n9 n53 n23 n25 n27 n28 n29 n55 hv
        go_wp2_with (first | (go_at_call 32; refine (rpen_lit _ _ _).mono ?_; rintro e w3 ⟨rfl, hb3⟩; have HX2 := Lib.hid (HX.out.keep hb3); have HB2 := Lib.hid (Par.up HB.out hb3); have x0 := HX2.out.cell 0 _ rfl; have f0 := HX2.out.free 0 (by show 0 < 6; decide); have x1 := HX2.out.cell 1 _ rfl; have f1 := HX2.out.free 1 (by show 1 < 6; decide); have x2 := HX2.out.cell 2 _ rfl; have f2 := HX2.out.free 2 (by show 2 < 6; decide); have x3 := HX2.out.cell 3 _ rfl; have f3 := HX2.out.free 3 (by show 3 < 6; decide); have x4 := HX2.out.cell 4 _ rfl; have f4 := HX2.out.free 4 (by show 4 < 6; decide); have x5 := HX2.out.cell 5 _ rfl; have f5 := HX2.out.free 5 (by show 5 < 6; decide); clear hb3) | (go_at_call 56; refine (rcol_lit _ _ _ _).mono ?_; rintro e w3 ⟨rfl, hb3⟩; have HX2 := Lib.hid (HX.out.keep hb3); have HB2 := Lib.hid (Par.up HB.out hb3); have x0 := HX2.out.cell 0 _ rfl; have f0 := HX2.out.free 0 (by show 0 < 6; decide); have x1 := HX2.out.cell 1 _ rfl; have f1 := HX2.out.free 1 (by show 1 < 6; decide); have x2 := HX2.out.cell 2 _ rfl; have f2 := HX2.out.free 2 (by show 2 < 6; decide); have x3 := HX2.out.cell 3 _ rfl; have f3 := HX2.out.free 3 (by show 3 < 6; decide); have x4 := HX2.out.cell 4 _ rfl; have f4 := HX2.out.free 4 (by show 4 < 6; decide); have x5 := HX2.out.cell 5 _ rfl; have f5 := HX2.out.free 5 (by show 5 < 6; decide); clear hb3))
        refine bodyPost_ret (ret_cell2 rfl _ _ ⟨w.heap.size, 0, none⟩ _ rfl (put_c6 _ _ _ _ _ _ HX2.out)) rfl ?_
        exact ⟨rfl, below_c6 _ _ _ _ _ _ _ HB2.out (Nat.le_refl _)⟩
      by_cases h31 : v = 31
      · subst h31
        clear n1 n2 n3 n5 n7 n8 n9 n53 n23 n25 n27 n28 n29 n55 hv
        go_wp2_with (first | (go_at_call 32; refine (rpen_lit _ _ _).mono ?_; rintro e w3 ⟨rfl, hb3⟩; have HX2 := Lib.hid (HX.out.keep hb3); have HB2 := Lib.hid (Par.up HB.out hb3); have x0 := HX2.out.cell 0 _ rfl; have f0 := HX2.out.free 0 (by show 0 < 6; decide); have x1 := HX2.out.cell 1 _ rfl; have f1 := HX2.out.free 1 (by show 1 < 6; decide); have x2 := HX2.out.cell 2 _ rfl; have f2 := HX2.out.free 2 (by show 2 < 6; decide); have x3 := HX2.out.cell 3 _ rfl; have f3 := HX2.out.free 3 (by show 3 < 6; decide); have x4 := HX2.out.cell 4 _ rfl; have f4 := HX2.out.free 4 (by show 4 < 6; decide); have x5 := HX2.out.cell 5 _ rfl; have f5 := HX2.out.free 5 (by show 5 < 6; decide); clear hb3) | (go_at_call 56; refine (rcol_lit _ _ _ _).mono ?_; rintro e w3 ⟨rfl, hb3⟩; have HX2 := Lib.hid (HX.out.keep hb3); have HB2 := Lib.hid (Par.up HB.out hb3); have x0 := HX2.out.cell 0 _ rfl; have f0 := HX2.out.free 0 (by show 0 < 6; decide); have x1 := HX2.out.cell 1 _ rfl; have f1 := HX2.out.free 1 (by show 1 < 6; decide); have x2 := HX2.out.cell 2 _ rfl; have f2 := HX2.out.free 2 (by show 2 < 6; decide); have x3 := HX2.out.cell 3 _ rfl; have f3 := HX2.out.free 3 (by show 3 < 6; decide); have x4 := HX2.out.cell 4 _ rfl; have f4 := HX2.out.free 4 (by show 4 < 6; decide); have x5 := HX2.out.cell 5 _ rfl; have f5 := HX2.out.free 5 (by show 5 < 6; decide); clear hb3))
        refine bodyPost_ret (ret_cell2 rfl _ _ ⟨w.heap.size, 0, none⟩ _ rfl (put_c6 _ _ _ _ _ _ HX2.out)) rfl ?_
        exact ⟨rfl, below_c6 _ _ _ _ _ _ _ HB2.out (Nat.le_refl _)⟩
      by_cases h32 : v = 32
      · subst h32
        clear n1 n2 n3 n5 n7 n8 n9 n53 n23 n25 n27 n28 n29 n55 hv
        go_wp2_with (first | (go_at_call 32; refine (rpen_lit _ _ _).mono ?_; rintro e w3 ⟨rfl, hb3⟩; have HX2 := Lib.hid (HX.out.keep hb3); have HB2 := Lib.hid (Par.up HB.out hb3); have x0 := HX2.out.cell 0 _ rfl; have f0 := HX2.out.free 0 (by show 0 < 6; decide); have x1 := HX2.out.cell 1 _ rfl; have f1 := HX2.out.free 1 (by show 1 < 6; decide); have x2 := HX2.out.cell 2 _ rfl; have f2 := HX2.out.free 2 (by show 2 < 6; decide); have x3 := HX2.out.cell 3 _ rfl; have f3 := HX2.out.free 3 (by show 3 < 6; decide); have x4 := HX2.out.cell 4 _ rfl; have f4 := HX2.out.free 4 (by show 4 < 6; decide); have x5 := HX2.out.cell 5 _ rfl; have f5 := HX2.out.free 5 (by show 5 < 6; decide); clear hb3) | (go_at_call 56; refine (rcol_lit _ _ _ _).mono ?_; rintro e w3 ⟨rfl, hb3⟩; have HX2 := Lib.hid (HX.out.keep hb3); have HB2 := Lib.hid (Par.up HB.out hb3); have x0 := HX2.out.cell 0 _ rfl; have f0 := HX2.out.free 0 (by show 0 < 6; decide); have x1 := HX2.out.cell 1 _ rfl; have f1 := HX2.out.free 1 (by show 1 < 6; decide); have x2 := HX2.out.cell 2 _ rfl; have f2 := HX2.out.free 2 (by show 2 < 6; decide); have x3 := HX2.out.cell 3 _ rfl; have f3 := HX2.out.free 3 (by show 3 < 6; decide); have x4 := HX2.out.cell 4 _ rfl; have f4 := HX2.out.free 4 (by show 4 < 6; decide); have x5 := HX2.out.cell 5 _ rfl; have f5 := HX2.out.free 5 (by show 5 < 6; decide); clear hb3))
        refine bodyPost_ret (ret_cell2 rfl _ _ ⟨w.heap.size, 0, none⟩ _ rfl (put_c6 _ _ _ _ _ _ HX2.out)) rfl ?_
        exact ⟨rfl, below_c6 _ _ _ _ _ _ _ HB2.out (Nat.le_refl _)⟩
      by_cases h33 : v = 33
      · subst h33
        clear n1 n2 n3 n5 n7 n8 n9 n53 n23 n25 n27 n28 n29 n55 hv
        go_wp2_with (first | (go_at_call 32; refine (rpen_lit _ _ _).mono ?_; rintro e w3 ⟨rfl, hb3⟩; have HX2 := Lib.hid (HX.out.keep hb3); have HB2 := Lib.hid (Par.up HB.out hb3); have x0 := HX2.out.cell 0 _ rfl; have f0 := HX2.out.free 0 (by show 0 < 6; decide); have x1 := HX2.out.cell 1 _ rfl; have f1 := HX2.out.free 1 (by show 1 < 6; decide); have x2 := HX2.out.cell 2 _ rfl; have f2 := HX2.out.free 2 (by show 2 < 6; decide); have x3 := HX2.out.cell 3 _ rfl; have f3 := HX2.out.free 3 (by show 3 < 6; decide); have x4 := HX2.out.cell 4 _ rfl; have f4 := HX2.out.free 4 (by show 4 < 6; decide); have x5 := HX2.out.cell 5 _ rfl; have f5 := HX2.out.free 5 (by show 5 < 6; decide); clear hb3) | (go_at_call 56; refine (rcol_lit _ _ _ _).mono ?_; rintro e w3 ⟨rfl, hb3⟩; have HX2 := Lib.hid (HX.out.keep hb3); have HB2 := Lib.hid (Par.up HB.out hb3); have x0 := HX2.out.cell 0 _ rfl; have f0 := HX2.out.free 0 (by show 0 < 6; decide); have x1 := HX2.out.cell 1 _ rfl; have f1 := HX2.out.free 1 (by show 1 < 6; decide); have x2 := HX2.out.cell 2 _ rfl; have f2 := HX2.out.free 2 (by show 2 < 6; decide); have x3 := HX2.out.cell 3 _ rfl; have f3 := HX2.out.free 3 (by show 3 < 6; decide); have x4 := HX2.out.cell 4 _ rfl; have f4 := HX2.out.free 4 (by show 4 < 6; decide); have x5 := HX2.out.cell 5 _ rfl; have f5 := HX2.out.free 5 (by show 5 < 6; decide); clear hb3))
        refine bodyPost_ret (ret_cell2 rfl _ _ ⟨w.heap.size, 0, none⟩ _ rfl (put_c6 _ _ _ _ _ _ HX2.out)) rfl ?_
        exact ⟨rfl, below_c6 _ _ _ _ _ _ _ HB2.out (Nat.le_refl _)⟩
      by_cases h34 : v = 34
      · subst h34
        clear n1 n2 n3 n5 n7 n8 n9 n53 n23 n25 n27 n28 n29 n55 hv
        go_wp2_with (first | (go_at_call 32; refine (rpen_lit _ _ _).mono ?_; rintro e w3 ⟨rfl, hb3⟩; have HX2 := Lib.hid (HX.out.keep hb3); have HB2 := Lib.hid (Par.up HB.out hb3); have x0 := HX2.out.cell 0 _ rfl; have f0 := HX2.out.free 0 (by show 0 < 6; decide); have x1 := HX2.out.cell 1 _ rfl; have f1 := HX2.out.free 1 (by show 1 < 6; decide); have x2 := HX2.out.cell 2 _ rfl; have f2 := HX2.out.free 2 (by show 2 < 6; decide); have x3 := HX2.out.cell 3 _ rfl; have f3 := HX2.out.free 3 (by show 3 < 6; decide); have x4 := HX2.out.cell 4 _ rfl; have f4 := HX2.out.free 4 (by show 4 < 6; decide); have x5 := HX2.out.cell 5 _ rfl; have f5 := HX2.out.free 5 (by show 5 < 6; decide); clear hb3) | (go_at_call 56; refine (rcol_lit _ _ _ _).mono ?_; rintro e w3 ⟨rfl, hb3⟩; have HX2 := Lib.hid (HX.out.keep hb3); have HB2 := Lib.hid (Par.up HB.out hb3); have x0 := HX2.out.cell 0 _ rfl; have f0 := HX2.out.free 0 (by show 0 < 6; decide); have x1 := HX2.out.cell 1 _ rfl; have f1 := HX2.out.free 1 (by show 1 < 6; decide); have x2 := HX2.out.cell 2 _ rfl; have f2 := HX2.out.free 2 (by show 2 < 6; decide); have x3 := HX2.out.cell 3 _ rfl; have f3 := HX2.out.free 3 (by show 3 < 6; decide); have x4 := HX2.out.cell 4 _ rfl; have f4 := HX2.out.free 4 (by show 4 < 6; decide); have x5 := HX2.out.cell 5 _ rfl; have f5 := HX2.out.free 5 (by show 5 < 6; decide); clear hb3))
        refine bodyPost_ret (ret_cell2 rfl _ _ ⟨w.heap.size, 0, none⟩ _ rfl (put_c6 _ _ _ _ _ _ HX2.out)) rfl ?_
        exact ⟨rfl, below_c6 _ _ _ _ _ _ _ HB2.out (Nat.le_refl _)⟩
      by_cases h35 : v = 35
      · subst h35
        clear n1 n2 n3 n5 n7 n8 n9 n53 n23 n25 n27 n28 n29 n55 hv
        go_wp2_with (first | (go_at_call 32; refine (rpen_lit _ _ _).mono ?_; rintro e w3 ⟨rfl, hb3⟩; have HX2 := Lib.hid (HX.out.keep hb3); have HB2 := Lib.hid (Par.up HB.out hb3); have x0 := HX2.out.cell 0 _ rfl; have f0 := HX2.out.free 0 (by show 0 < 6; decide); have x1 := HX2.out.cell 1 _ rfl; have f1 := HX2.out.free 1 (by show 1 < 6; decide); have x2 := HX2.out.cell 2 _ rfl; have f2 := HX2.out.free 2 (by show 2 < 6; decide); have x3 := HX2.out.cell 3 _ rfl; have f3 := HX2.out.free 3 (by show 3 < 6; decide); have x4 := HX2.out.cell 4 _ rfl; have f4 := HX2.out.free 4 (by show 4 < 6; decide); have x5 := HX2.out.cell 5 _ rfl; have f5 := HX2.out.free 5 (by show 5 < 6; decide); clear hb3) | (go_at_call 56; refine (rcol_lit _ _ _ _).mono ?_; rintro e w3 ⟨rfl, hb3⟩; have HX2 := Lib.hid (HX.out.keep hb3); have HB2 := Lib.hid (Par.up HB.out hb3); have x0 := HX2.out.cell 0 _ rfl; have f0 := HX2.out.free 0 (by show 0 < 6; decide); have x1 := HX2.out.cell 1 _ rfl; have f1 := HX2.out.free 1 (by show 1 < 6; decide); have x2 := HX2.out.cell 2 _ rfl; have f2 := HX2.out.free 2 (by show 2 < 6; decide); have x3 := HX2.out.cell 3 _ rfl; have f3 := HX2.out.free 3 (by show 3 < 6; decide); have x4 := HX2.out.cell 4 _ rfl; have f4 := HX2.out.free 4 (by show 4 < 6; decide); have x5 := HX2.out.cell 5 _ rfl; have f5 := HX2.out.free 5 (by show 5 < 6; decide); clear hb3))
        refine bodyPost_ret (ret_cell2 rfl _ _ ⟨w.heap.size, 0, none⟩ _ rfl (put_c6 _ _ _ _ _ _ HX2.out)) rfl ?_
        exact ⟨rfl, below_c6 _ _ _ _ _ _ _ HB2.out (Nat.le_refl _)⟩
      by_cases h36 : v = 36
      · subst h36
        clear n1 n2 n3 n5 n7 n8 n9 n53 n23 n25 n27 n28 n29 n55 hv
        go_wp2_with (first | (go_at_call 32; refine (rpen_lit _ _ _).mono ?_; rintro e w3 ⟨rfl, hb3⟩; have HX2 := Lib.hid (HX.out.keep hb3); have HB2 := Lib.hid (Par.up HB.out hb3); have x0 := HX2.out.cell 0 _ rfl; have f0 := HX2.out.free 0 (by show 0 < 6; decide); have x1 := HX2.out.cell 1 _ rfl; have f1 := HX2.out.free 1 (by show 1 < 6; decide); have x2 := HX2.out.cell 2 _ rfl; have f2 := HX2.out.free 2 (by show 2 < 6; decide); have x3 := HX2.out.cell 3 _ rfl; have f3 := HX2.out.free 3 (by show 3 < 6; decide); have x4 := HX2.out.cell 4 _ rfl; have f4 := HX2.out.free 4 (by show 4 < 6; decide); have x5 := HX2.out.cell 5 _ rfl; have f5 := HX2.out.free 5 (by show 5 < 6; decide); clear hb3) | (go_at_call 56; refine (rcol_lit _ _ _ _).mono ?_; rintro e w3 ⟨rfl, hb3⟩; have HX2 := Lib.hid (HX.out.keep hb3); have HB2 := Lib.hid (Par.up HB.out hb3); have x0 := HX2.out.cell 0 _ rfl; have f0 := HX2.out.free 0 (by show 0 < 6; decide); have x1 := HX2.out.cell 1 _ rfl; have f1 := HX2.out.free 1 (by show 1 < 6; decide); have x2 := HX2.out.cell 2 _ rfl; have f2 := HX2.out.free 2 (by show 2 < 6; decide); have x3 := HX2.out.cell 3 _ rfl; have f3 := HX2.out.free 3 (by show 3 < 6; decide); have x4 := HX2.out.cell 4 _ rfl; have f4 := HX2.out.free 4 (by show 4 < 6; decide); have x5 := HX2.out.cell 5 _ rfl; have f5 := HX2.out.free 5 (by show 5 < 6; decide); clear hb3))
        refine bodyPost_ret (ret_cell2 rfl _ _ ⟨w.heap.size, 0, none⟩ _ rfl (put_c6 _ _ _ _ _ _ HX2.out)) rfl ?_
        exact ⟨rfl, below_c6 _ _ _ _ _ _ _ HB2.out (Nat.le_refl _)⟩
      by_cases h37 : v = 37
      · subst h37
        clear n1 n2 n3 n5 n7 n8 n9 n53 n23 n25 n27 n28 n29 n55 hv
        go_wp2_with (first | (go_at_call 32; refine (rpen_lit _ _ _).mono ?_; rintro e w3 ⟨rfl, hb3⟩; have HX2 := Lib.hid (HX.out.keep hb3); have HB2 := Lib.hid (Par.up HB.out hb3); have x0 := HX2.out.cell 0 _ rfl; have f0 := HX2.out.free 0 (by show 0 < 6; decide); have x1 := HX2.out.cell 1 _ rfl; have f1 := HX2.out.free 1 (by show 1 < 6; decide); have x2 := HX2.out.cell 2 _ rfl; have f2 := HX2.out.free 2 (by show 2 < 6; decide); have x3 := HX2.out.cell 3 _ rfl; have f3 := HX2.out.free 3 (by show 3 < 6; decide); have x4 := HX2.out.cell 4 _ rfl; have f4 := HX2.out.free 4 (by show 4 < 6; decide); have x5 := HX2.out.cell 5 _ rfl; have f5 := HX2.out.free 5 (by show 5 < 6; decide); clear hb3) | (go_at_call 56; refine (rcol_lit _ _ _ _).mono ?_; rintro e w3 ⟨rfl, hb3⟩; have HX2 := Lib.hid (HX.out.keep hb3); have HB2 := Lib.hid (Par.up HB.out hb3); have x0 := HX2.out.cell 0 _ rfl; have f0 := HX2.out.free 0 (by show 0 < 6; decide); have x1 := HX2.out.cell 1 _ rfl; have f1 := HX2.out.free 1 (by show 1 < 6; decide); have x2 := HX2.out.cell 2 _ rfl; have f2 := HX2.out.free 2 (by show 2 < 6; decide); have x3 := HX2.out.cell 3 _ rfl; have f3 := HX2.out.free 3 (by show 3 < 6; decide); have x4 := HX2.out.cell 4 _ rfl; have f4 := HX2.out.free 4 (by show 4 < 6; decide); have x5 := HX2.out.cell 5 _ rfl; have f5 := HX2.out.free 5 (by show 5 < 6; decide); clear hb3))
        refine bodyPost_ret (ret_cell2 rfl _ _ ⟨w.heap.size, 0, none⟩ _ rfl (put_c6 _ _ _ _ _ _ HX2.out)) rfl ?_
        exact ⟨rfl, below_c6 _ _ _ _ _ _ _ HB2.out (Nat.le_refl _)⟩
      by_cases h40 : v = 40
      · subst h40
        clear n1 n2 n3 n5 n7 n8 n9 n53 n23 n25 n27 n28 n29 n55 hv
        go_wp2_with (first | (go_at_call 32; refine (rpen_lit _ _ _).mono ?_; rintro e w3 ⟨rfl, hb3⟩; have HX2 := Lib.hid (HX.out.keep hb3); have HB2 := Lib.hid (Par.up HB.out hb3); have x0 := HX2.out.cell 0 _ rfl; have f0 := HX2.out.free 0 (by show 0 < 6; decide); have x1 := HX2.out.cell 1 _ rfl; have f1 := HX2.out.free 1 (by show 1 < 6; decide); have x2 := HX2.out.cell 2 _ rfl; have f2 := HX2.out.free 2 (by show 2 < 6; decide); have x3 := HX2.out.cell 3 _ rfl; have f3 := HX2.out.free 3 (by show 3 < 6; decide); have x4 := HX2.out.cell 4 _ rfl; have f4 := HX2.out.free 4 (by show 4 < 6; decide); have x5 := HX2.out.cell 5 _ rfl; have f5 := HX2.out.free 5 (by show 5 < 6; decide); clear hb3) | (go_at_call 56; refine (rcol_lit _ _ _ _).mono ?_; rintro e w3 ⟨rfl, hb3⟩; have HX2 := Lib.hid (HX.out.keep hb3); have HB2 := Lib.hid (Par.up HB.out hb3); have x0 := HX2.out.cell 0 _ rfl; have f0 := HX2.out.free 0 (by show 0 < 6; decide); have x1 := HX2.out.cell 1 _ rfl; have f1 := HX2.out.free 1 (by show 1 < 6; decide); have x2 := HX2.out.cell 2 _ rfl; have f2 := HX2.out.free 2 (by show 2 < 6; decide); have x3 := HX2.out.cell 3 _ rfl; have f3 := HX2.out.free 3 (by show 3 < 6; decide); have x4 := HX2.out.cell 4 _ rfl; have f4 := HX2.out.free 4 (by show 4 < 6; decide); have x5 := HX2.out.cell 5 _ rfl; have f5 := HX2.out.free 5 (by show 5 < 6; decide); clear hb3))
        refine bodyPost_ret (ret_cell2 rfl _ _ ⟨w.heap.size, 0, none⟩ _ rfl (put_c6 _ _ _ _ _ _ HX2.out)) rfl ?_
        exact ⟨rfl, below_c6 _ _ _ _ _ _ _ HB2.out (Nat.le_refl _)⟩
      by_cases h41 : v = 41
      · subst h41
        clear n1 n2 n3 n5 n7 n8 n9 n53 n23 n25 n27 n28 n29 n55 hv
        go_wp2_with (first | (go_at_call 32; refine (rpen_lit _ _ _).mono ?_; rintro e w3 ⟨rfl, hb3⟩; have HX2 := Lib.hid (HX.out.keep hb3); have HB2 := Lib.hid (Par.up HB.out hb3); have x0 := HX2.out.cell 0 _ rfl; have f0 := HX2.out.free 0 (by show 0 < 6; decide); have x1 := HX2.out.cell 1 _ rfl; have f1 := HX2.out.free 1 (by show 1 < 6; decide); have x2 := HX2.out.cell 2 _ rfl; have f2 := HX2.out.free 2 (by show 2 < 6; decide); have x3 := HX2.out.cell 3 _ rfl; have f3 := HX2.out.free 3 (by show 3 < 6; decide); have x4 := HX2.out.cell 4 _ rfl; have f4 := HX2.out.free 4 (by show 4 < 6; decide); have x5 := HX2.out.cell 5 _ rfl; have f5 := HX2.out.free 5 (by show 5 < 6; decide); clear hb3) | (go_at_call 56; refine (rcol_lit _ _ _ _).mono ?_; rintro e w3 ⟨rfl, hb3⟩; have HX2 := Lib.hid (HX.out.keep hb3); have HB2 := Lib.hid (Par.up HB.out hb3); have x0 := HX2.out.cell 0 _ rfl; have f0 := HX2.out.free 0 (by show 0 < 6; decide); have x1 := HX2.out.cell 1 _ rfl; have f1 := HX2.out.free 1 (by show 1 < 6; decide); have x2 := HX2.out.cell 2 _ rfl; have f2 := HX2.out.free 2 (by show 2 < 6; decide); have x3 := HX2.out.cell 3 _ rfl; have f3 := HX2.out.free 3 (by show 3 < 6; decide); have x4 := HX2.out.cell 4 _ rfl; have f4 := HX2.out.free 4 (by show 4 < 6; decide); have x5 := HX2.out.cell 5 _ rfl; have f5 := HX2.out.free 5 (by show 5 < 6; decide); clear hb3))
        refine bodyPost_ret (ret_cell2 rfl _ _ ⟨w.heap.size, 0, none⟩ _ rfl (put_c6 _ _ _ _ _ _ HX2.out)) rfl ?_
        exact ⟨rfl, below_c6 _ _ _ _ _ _ _ HB2.out (Nat.le_refl _)⟩
      by_cases h42 : v = 42
      · subst h42
        clear n1 n2 n3 n5 n7 n8 n9 n53 n23 n25 n27 n28 n29 n55 hv
        go_wp2_with (first | (go_at_call 32; refine (rpen_lit _ _ _).mono ?_; rintro e w3 ⟨rfl, hb3⟩; have HX2 := Lib.hid (HX.out.keep hb3); have HB2 := Lib.hid (Par.up HB.out hb3); have x0 := HX2.out.cell 0 _ rfl; have f0 := HX2.out.free 0 (by show 0 < 6; decide); have x1 := HX2.out.cell 1 _ rfl; have f1 := HX2.out.free 1 (by show 1 < 6; decide); have x2 := HX2.out.cell 2 _ rfl; have f2 := HX2.out.free 2 (by show 2 < 6; decide); have x3 := HX2.out.cell 3 _ rfl; have f3 := HX2.out.free 3 (by show 3 < 6; decide); have x4 := HX2.out.cell 4 _ rfl; have f4 := HX2.out.free 4 (by show 4 < 6; decide); have x5 := HX2.out.cell 5 _ rfl; have f5 := HX2.out.free 5 (by show 5 < 6; decide); clear hb3) | (go_at_call 56; refine (rcol_lit _ _ _ _).mono ?_; rintro e w3 ⟨rfl, hb3⟩; have HX2 := Lib.hid (HX.out.keep hb3); have HB2 := Lib.hid (Par.up HB.out hb3); have x0 := HX2.out.cell 0 _ rfl; have f0 := HX2.out.free 0 (by show 0 < 6; decide); have x1 := HX2.out.cell 1 _ rfl; have f1 := HX2.out.free 1 (by show 1 < 6; decide); have x2 := HX2.out.cell 2 _ rfl; have f2 := HX2.out.free 2 (by show 2 < 6; decide); have x3 := HX2.out.cell 3 _ rfl; have f3 := HX2.out.free 3 (by show 3 < 6; decide); have x4 := HX2.out.cell 4 _ rfl; have f4 := HX2.out.free 4 (by show 4 < 6; decide); have x5 := HX2.out.cell 5 _ rfl; have f5 := HX2.out.free 5 (by show 5 < 6; decide); clear hb3))
        refine bodyPost_ret (ret_cell2 rfl _ _ ⟨w.heap.size, 0, none⟩ _ rfl (put_c6 _ _ _ _ _ _ HX2.out)) rfl ?_
        exact ⟨rfl, below_c6 _ _ _ _ _ _ _ HB2.out (Nat.le_refl _)⟩
      by_cases h43 : v = 43
      · subst h43
        clear n1 n2 n3 n5 n7 n8 n9 n53 n23 n25 n27 n28 n29 n55 hv
        go_wp2_with (first | (go_at_call 32; refine (rpen_lit _ _ _).mono ?_; rintro e w3 ⟨rfl, hb3⟩; have HX2 := Lib.hid (HX.out.keep hb3); have HB2 := Lib.hid (Par.up HB.out hb3); have x0 := HX2.out.cell 0 _ rfl; have f0 := HX2.out.free 0 (by show 0 < 6; decide); have x1 := HX2.out.cell 1 _ rfl; have f1 := HX2.out.free 1 (by show 1 < 6; decide); have x2 := HX2.out.cell 2 _ rfl; have f2 := HX2.out.free 2 (by show 2 < 6; decide); have x3 := HX2.out.cell 3 _ rfl; have f3 := HX2.out.free 3 (by show 3 < 6; decide); have x4 := HX2.out.cell 4 _ rfl; have f4 := HX2.out.free 4 (by show 4 < 6; decide); have x5 := HX2.out.cell 5 _ rfl; have f5 := HX2.out.free 5 (by show 5 < 6; decide); clear hb3) | (go_at_call 56; refine (rcol_lit _ _ _ _).mono ?_; rintro e w3 ⟨rfl, hb3⟩; have HX2 := Lib.hid (HX.out.keep hb3); have HB2 := Lib.hid (Par.up HB.out hb3); have x0 := HX2.out.cell 0 _ rfl; have f0 := HX2.out.free 0 (by show 0 < 6; decide); have x1 := HX2.out.cell 1 _ rfl; have f1 := HX2.out.free 1 (by show 1 < 6; decide); have x2 := HX2.out.cell 2 _ rfl; have f2 := HX2.out.free 2 (by show 2 < 6; decide); have x3 := HX2.out.cell 3 _ rfl; have f3 := HX2.out.free 3 (by show 3 < 6; decide); have x4 := HX2.out.cell 4 _ rfl; have f4 := HX2.out.free 4 (by show 4 < 6; decide); have x5 := HX2.out.cell 5 _ rfl; have f5 := HX2.out.free 5 (by show 5 < 6; decide); clear hb3))
        refine bodyPost_ret (ret_cell2 rfl _ _ ⟨w.heap.size, 0, none⟩ _ rfl (put_c6 _ _ _ _ _ _ HX2.out)) rfl ?_
        exact ⟨rfl, below_c6 _ _ _ _ _ _ _ HB2.out (Nat.le_refl _)⟩
      by_cases h44 : v = 44
      · subst h44
        clear n1 n2 n3 n5 n7 n8 n9 n53 n23 n25 n27 n28 n29 n55 hv
        go_wp2_with (first | (go_at_call 32; refine (rpen_lit _ _ _).mono ?_; rintro e w3 ⟨rfl, hb3⟩; have HX2 := Lib.hid (HX.out.keep hb3); have HB2 := Lib.hid (Par.up HB.out hb3); have x0 := HX2.out.cell 0 _ rfl; have f0 := HX2.out.free 0 (by show 0 < 6; decide); have x1 := HX2.out.cell 1 _ rfl; have f1 := HX2.out.free 1 (by show 1 < 6; decide); have x2 := HX2.out.cell 2 _ rfl; have f2 := HX2.out.free 2 (by show 2 < 6; decide); have x3 := HX2.out.cell 3 _ rfl; have f3 := HX2.out.free 3 (by show 3 < 6; decide); have x4 := HX2.out.cell 4 _ rfl; have f4 := HX2.out.free 4 (by show 4 < 6; decide); have x5 := HX2.out.cell 5 _ rfl; have f5 := HX2.out.free 5 (by show 5 < 6; decide); clear hb3) | (go_at_call 56; refine (rcol_lit _ _ _ _).mono ?_; rintro e w3 ⟨rfl, hb3⟩; have HX2 := Lib.hid (HX.out.keep hb3); have HB2 := Lib.hid (Par.up HB.out hb3); have x0 := HX2.out.cell 0 _ rfl; have f0 := HX2.out.free 0 (by show 0 < 6; decide); have x1 := HX2.out.cell 1 _ rfl; have f1 := HX2.out.free 1 (by show 1 < 6; decide); have x2 := HX2.out.cell 2 _ rfl; have f2 := HX2.out.free 2 (by show 2 < 6; decide); have x3 := HX2.out.cell 3 _ rfl; have f3 := HX2.out.free 3 (by show 3 < 6; decide); have x4 := HX2.out.cell 4 _ rfl; have f4 := HX2.out.free 4 (by show 4 < 6; decide); have x5 := HX2.out.cell 5 _ rfl; have f5 := HX2.out.free 5 (by show 5 < 6; decide); clear hb3))
        refine bodyPost_ret (ret_cell2 rfl _ _ ⟨w.heap.size, 0, none⟩ _ rfl (put_c6 _ _ _ _ _ _ HX2.out)) rfl ?_
        exact ⟨rfl, below_c6 _ _ _ _ _ _ _ HB2.out (Nat.le_refl _)⟩
      by_cases h45 : v = 45
      · subst h45
        clear n1 n2 n3 n5 n7 n8 n9 n53 n23 n25 n27 n28 n29 n55 hv
        go_wp2_with (first | (go_at_call 32; refine (rpen_lit _ _ _).mono ?_; rintro e w3 ⟨rfl, hb3⟩; have HX2 := Lib.hid (HX.out.keep hb3); have HB2 := Lib.hid (Par.up HB.out hb3); have x0 := HX2.out.cell 0 _ rfl; have f0 := HX2.out.free 0 (by show 0 < 6; decide); have x1 := HX2.out.cell 1 _ rfl; have f1 := HX2.out.free 1 (by show 1 < 6; decide); have x2 := HX2.out.cell 2 _ rfl; have f2 := HX2.out.free 2 (by show 2 < 6; decide); have x3 := HX2.out.cell 3 _ rfl; have f3 := HX2.out.free 3 (by show 3 < 6; decide); have x4 := HX2.out.cell 4 _ rfl; have f4 := HX2.out.free 4 (by show 4 < 6; decide); have x5 := HX2.out.cell 5 _ rfl; have f5 := HX2.out.free 5 (by show 5 < 6; decide); clear hb3) | (go_at_call 56; refine (rcol_lit _ _ _ _).mono ?_; rintro e w3 ⟨rfl, hb3⟩; have HX2 := Lib.hid (HX.out.keep hb3); have HB2 := Lib.hid (Par.up HB.out hb3); have x0 := HX2.out.cell 0 _ rfl; have f0 := HX2.out.free 0 (by show 0 < 6; decide); have x1 := HX2.out.cell 1 _ rfl; have f1 := HX2.out.free 1 (by show 1 < 6; decide); have x2 := HX2.out.cell 2 _ rfl; have f2 := HX2.out.free 2 (by show 2 < 6; decide); have x3 := HX2.out.cell 3 _ rfl; have f3 := HX2.out.free 3 (by show 3 < 6; decide); have x4 := HX2.out.cell 4 _ rfl; have f4 := HX2.out.free 4 (by show 4 < 6; decide); have x5 := HX2.out.cell 5 _ rfl; have f5 := HX2.out.free 5 (by show 5 < 6; decide); clear hb3))
        refine bodyPost_ret (ret_cell2 rfl _ _ ⟨w.heap.size, 0, none⟩ _ rfl (put_c6 _ _ _ _ _ _ HX2.out)) rfl ?_
        exact ⟨rfl, below_c6 _ _ _ _ _ _ _ HB2.out (Nat.le_refl _)⟩
      by_cases h46 : v = 46
      · subst h46
        clear n1 n2 n3 n5 n7 n8 n9 n53 n23 n25 n27 n28 n29 n55 hv
        go_wp2_with (first | (go_at_call 32; refine (rpen_lit _ _ _).mono ?_; rintro e w3 ⟨rfl, hb3⟩; have HX2 := Lib.hid (HX.out.keep hb3); have HB2 := Lib.hid (Par.up HB.out hb3); have x0 := HX2.out.cell 0 _ rfl; have f0 := HX2.out.free 0 (by show 0 < 6; decide); have x1 := HX2.out.cell 1 _ rfl; have f1 := HX2.out.free 1 (by show 1 < 6; decide); have x2 := HX2.out.cell 2 _ rfl; have f2 := HX2.out.free 2 (by show 2 < 6; decide); have x3 := HX2.out.cell 3 _ rfl; have f3 := HX2.out.free 3 (by show 3 < 6; decide); have x4 := HX2.out.cell 4 _ rfl; have f4 := HX2.out.free 4 (by show 4 < 6; decide); have x5 := HX2.out.cell 5 _ rfl; have f5 := HX2.out.free 5 (by show 5 < 6; decide); clear hb3) | (go_at_call 56; refine (rcol_lit _ _ _ _).mono ?_; rintro e w3 ⟨rfl, hb3⟩; have HX2 := Lib.hid (HX.out.keep hb3); have HB2 := Lib.hid (Par.up HB.out hb3); have x0 := HX2.out.cell 0 _ rfl; have f0 := HX2.out.free 0 (by show 0 < 6; decide); have x1 := HX2.out.cell 1 _ rfl; have f1 := HX2.out.free 1 (by show 1 < 6; decide); have x2 := HX2.out.cell 2 _ rfl; have f2 := HX2.out.free 2 (by show 2 < 6; decide); have x3 := HX2.out.cell 3 _ rfl; have f3 := HX2.out.free 3 (by show 3 < 6; decide); have x4 := HX2.out.cell 4 _ rfl; have f4 := HX2.out.free 4 (by show 4 < 6; decide); have x5 := HX2.out.cell 5 _ rfl; have f5 := HX2.out.free 5 (by show 5 < 6; decide); clear hb3))
        refine bodyPost_ret (ret_cell2 rfl _ _ ⟨w.heap.size, 0, none⟩ _ rfl (put_c6 _ _ _ _ _ _ HX2.out)) rfl ?_
        exact ⟨rfl, below_c6 _ _ _ _ _ _ _ HB2.out (Nat.le_refl _)⟩
      by_cases h47 : v = 47
      · subst h47
        clear n1 n2 n3 n5 n7 n8 n9 n53 n23 n25 n27 n28 n29 n55 hv
        go_wp2_with (first | (go_at_call 32; refine (rpen_lit _ _ _).mono ?_; rintro e w3 ⟨rfl, hb3⟩; have HX2 := Lib.hid (HX.out.keep hb3); have HB2 := Lib.hid (Par.up HB.out hb3); have x0 := HX2.out.cell 0 _ rfl; have f0 := HX2.out.free 0 (by show 0 < 6; decide); have x1 := HX2.out.cell 1 _ rfl; have f1 := HX2.out.free 1 (by show 1 < 6; decide); have x2 := HX2.out.cell 2 _ rfl; have f2 := HX2.out.free 2 (by show 2 < 6; decide); have x3 := HX2.out.cell 3 _ rfl; have f3 := HX2.out.free 3 (by show 3 < 6; decide); have x4 := HX2.out.cell 4 _ rfl; have f4 := HX2.out.free 4 (by show 4 < 6; decide); have x5 := HX2.out.cell 5 _ rfl; have f5 := HX2.out.free 5 (by show 5 < 6; decide); clear hb3) | (go_at_call 56; refine (rcol_lit _ _ _ _).mono ?_; rintro e w3 ⟨rfl, hb3⟩; have HX2 := Lib.hid (HX.out.keep hb3); have HB2 := Lib.hid (Par.up HB.out hb3); have x0 := HX2.out.cell 0 _ rfl; have f0 := HX2.out.free 0 (by show 0 < 6; decide); have x1 := HX2.out.cell 1 _ rfl; have f1 := HX2.out.free 1 (by show 1 < 6; decide); have x2 := HX2.out.cell 2 _ rfl; have f2 := HX2.out.free 2 (by show 2 < 6; decide); have x3 := HX2.out.cell 3 _ rfl; have f3 := HX2.out.free 3 (by show 3 < 6; decide); have x4 := HX2.out.cell 4 _ rfl; have f4 := HX2.out.free 4 (by show 4 < 6; decide); have x5 := HX2.out.cell 5 _ rfl; have f5 := HX2.out.free 5 (by show 5 < 6; decide); clear hb3))
        refine bodyPost_ret (ret_cell2 rfl _ _ ⟨w.heap.size, 0, none⟩ _ rfl (put_c6 _ _ _ _ _ _ HX2.out)) rfl ?_
        exact ⟨rfl, below_c6 _ _ _ _ _ _ _ HB2.out (Nat.le_refl _)⟩
      by_cases h90 : v = 90
      · subst h90
        clear n1 n2 n3 n5 n7 n8 n9 n53 n23 n25 n27 n28 n29 n55 hv
        go_wp2_with (first | (go_at_call 32; refine (rpen_lit _ _ _).mono ?_; rintro e w3 ⟨rfl, hb3⟩; have HX2 := Lib.hid (HX.out.keep hb3); have HB2 := Lib.hid (Par.up HB.out hb3); have x0 := HX2.out.cell 0 _ rfl; have f0 := HX2.out.free 0 (by show 0 < 6; decide); have x1 := HX2.out.cell 1 _ rfl; have f1 := HX2.out.free 1 (by show 1 < 6; decide); have x2 := HX2.out.cell 2 _ rfl; have f2 := HX2.out.free 2 (by show 2 < 6; decide); have x3 := HX2.out.cell 3 _ rfl; have f3 := HX2.out.free 3 (by show 3 < 6; decide); have x4 := HX2.out.cell 4 _ rfl; have f4 := HX2.out.free 4 (by show 4 < 6; decide); have x5 := HX2.out.cell 5 _ rfl; have f5 := HX2.out.free 5 (by show 5 < 6; decide); clear hb3) | (go_at_call 56; refine (rcol_lit _ _ _ _).mono ?_; rintro e w3 ⟨rfl, hb3⟩; have HX2 := Lib.hid (HX.out.keep hb3); have HB2 := Lib.hid (Par.up HB.out hb3); have x0 := HX2.out.cell 0 _ rfl; have f0 := HX2.out.free 0 (by show 0 < 6; decide); have x1 := HX2.out.cell 1 _ rfl; have f1 := HX2.out.free 1 (by show 1 < 6; decide); have x2 := HX2.out.cell 2 _ rfl; have f2 := HX2.out.free 2 (by show 2 < 6; decide); have x3 := HX2.out.cell 3 _ rfl; have f3 := HX2.out.free 3 (by show 3 < 6; decide); have x4 := HX2.out.cell 4 _ rfl; have f4 := HX2.out.free 4 (by show 4 < 6; decide); have x5 := HX2.out.cell 5 _ rfl; have f5 := HX2.out.free 5 (by show 5 < 6; decide); clear hb3))
        refine bodyPost_ret (ret_cell2 rfl _ _ ⟨w.heap.size, 0, none⟩ _ rfl (put_c6 _ _ _ _ _ _ HX2.out)) rfl ?_
        exact ⟨rfl, below_c6 _ _ _ _ _ _ _ HB2.out (Nat.le_refl _)⟩
      by_cases h91 : v = 91
      · subst h91
        clear n1 n2 n3 n5 n7 n8 n9 n53 n23 n25 n27 n28 n29 n55 hv
        go_wp2_with (first | (go_at_call 32; refine (rpen_lit _ _ _).mono ?_; rintro e w3 ⟨rfl, hb3⟩; have HX2 := Lib.hid (HX.out.keep hb3); have HB2 := Lib.hid (Par.up HB.out hb3); have x0 := HX2.out.cell 0 _ rfl; have f0 := HX2.out.free 0 (by show 0 < 6; decide); have x1 := HX2.out.cell 1 _ rfl; have f1 := HX2.out.free 1 (by show 1 < 6; decide); have x2 := HX2.out.cell 2 _ rfl; have f2 := HX2.out.free 2 (by show 2 < 6; decide); have x3 := HX2.out.cell 3 _ rfl; have f3 := HX2.out.free 3 (by show 3 < 6; decide); have x4 := HX2.out.cell 4 _ rfl; have f4 := HX2.out.free 4 (by show 4 < 6; decide); have x5 := HX2.out.cell 5 _ rfl; have f5 := HX2.out.free 5 (by show 5 < 6; decide); clear hb3) | (go_at_call 56; refine (rcol_lit _ _ _ _).mono ?_; rintro e w3 ⟨rfl, hb3⟩; have HX2 := Lib.hid (HX.out.keep hb3); have HB2 := Lib.hid (Par.up HB.out hb3); have x0 := HX2.out.cell 0 _ rfl; have f0 := HX2.out.free 0 (by show 0 < 6; decide); have x1 := HX2.out.cell 1 _ rfl; have f1 := HX2.out.free 1 (by show 1 < 6; decide); have x2 := HX2.out.cell 2 _ rfl; have f2 := HX2.out.free 2 (by show 2 < 6; decide); have x3 := HX2.out.cell 3 _ rfl; have f3 := HX2.out.free 3 (by show 3 < 6; decide); have x4 := HX2.out.cell 4 _ rfl; have f4 := HX2.out.free 4 (by show 4 < 6; decide); have x5 := HX2.out.cell 5 _ rfl; have f5 := HX2.out.free 5 (by show 5 < 6; decide); clear hb3))
        refine bodyPost_ret (ret_cell2 rfl _ _ ⟨w.heap.size, 0, none⟩ _ rfl (put_c6 _ _ _ _ _ _ HX2.out)) rfl ?_
        exact ⟨rfl, below_c6 _ _ _ _ _ _ _ HB2.out (Nat.le_refl _)⟩
      by_cases h92 : v = 92
      · subst h92
        clear n1 n2 n3 n5 n7 n8 n9 n53 n23 n25 n27 n28 n29 n55 hv
        go_wp2_with (first | (go_at_call 32; refine (rpen_lit _ _ _).mono ?_; rintro e w3 ⟨rfl, hb3⟩; have HX2 := Lib.hid (HX.out.keep hb3); have HB2 := Lib.hid (Par.up HB.out hb3); have x0 := HX2.out.cell 0 _ rfl; have f0 := HX2.out.free 0 (by show 0 < 6; decide); have x1 := HX2.out.cell 1 _ rfl; have f1 := HX2.out.free 1 (by show 1 < 6; decide); have x2 := HX2.out.cell 2 _ rfl; have f2 := HX2.out.free 2 (by show 2 < 6; decide); have x3 := HX2.out.cell 3 _ rfl; have f3 := HX2.out.free 3 (by show 3 < 6; decide); have x4 := HX2.out.cell 4 _ rfl; have f4 := HX2.out.free 4 (by show 4 < 6; decide); have x5 := HX2.out.cell 5 _ rfl; have f5 := HX2.out.free 5 (by show 5 < 6; decide); clear hb3) | (go_at_call 56; refine (rcol_lit _ _ _ _).mono ?_; rintro e w3 ⟨rfl, hb3⟩; have HX2 := Lib.hid (HX.out.keep hb3); have HB2 := Lib.hid (Par.up HB.out hb3); have x0 := HX2.out.cell 0 _ rfl; have f0 := HX2.out.free 0 (by show 0 < 6; decide); have x1 := HX2.out.cell 1 _ rfl; have f1 := HX2.out.free 1 (by show 1 < 6; decide); have x2 := HX2.out.cell 2 _ rfl; have f2 := HX2.out.free 2 (by show 2 < 6; decide); have x3 := HX2.out.cell 3 _ rfl; have f3 := HX2.out.free 3 (by show 3 < 6; decide); have x4 := HX2.out.cell 4 _ rfl; have f4 := HX2.out.free 4 (by show 4 < 6; decide); have x5 := HX2.out.cell 5 _ rfl; have f5 := HX2.out.free 5 (by show 5 < 6; decide); clear hb3))
        refine bodyPost_ret (ret_cell2 rfl _ _ ⟨w.heap.size, 0, none⟩ _ rfl (put_c6 _ _ _ _ _ _ HX2.out)) rfl ?_
        exact ⟨rfl, below_c6 _ _ _ _ _ _ _ HB2.out (Nat.le_refl _)⟩
      by_cases h93 : v = 93
      · subst h93
        clear n1 n2 n3 n5 n7 n8 n9 n53 n23 n25 n27 n28 n29 n55 hv
        go_wp2_with (first | (go_at_call 32; refine (rpen_lit _ _ _).mono ?_; rintro e w3 ⟨rfl, hb3⟩; have HX2 := Lib.hid (HX.out.keep hb3); have HB2 := Lib.hid (Par.up HB.out hb3); have x0 := HX2.out.cell 0 _ rfl; have f0 := HX2.out.free 0 (by show 0 < 6; decide); have x1 := HX2.out.cell 1 _ rfl; have f1 := HX2.out.free 1 (by show 1 < 6; decide); have x2 := HX2.out.cell 2 _ rfl; have f2 := HX2.out.free 2 (by show 2 < 6; decide); have x3 := HX2.out.cell 3 _ rfl; have f3 := HX2.out.free 3 (by show 3 < 6; decide); have x4 := HX2.out.cell 4 _ rfl; have f4 := HX2.out.free 4 (by show 4 < 6; decide); have x5 := HX2.out.cell 5 _ rfl; have f5 := HX2.out.free 5 (by show 5 < 6; decide); clear hb3) | (go_at_call 56; refine (rcol_lit _ _ _ _).mono ?_; rintro e w3 ⟨rfl, hb3⟩; have HX2 := Lib.hid (HX.out.keep hb3); have HB2 := Lib.hid (Par.up HB.out hb3); have x0 := HX2.out.cell 0 _ rfl; have f0 := HX2.out.free 0 (by show 0 < 6; decide); have x1 := HX2.out.cell 1 _ rfl; have f1 := HX2.out.free 1 (by show 1 < 6; decide); have x2 := HX2.out.cell 2 _ rfl; have f2 := HX2.out.free 2 (by show 2 < 6; decide); have x3 := HX2.out.cell 3 _ rfl; have f3 := HX2.out.free 3 (by show 3 < 6; decide); have x4 := HX2.out.cell 4 _ rfl; have f4 := HX2.out.free 4 (by show 4 < 6; decide); have x5 := HX2.out.cell 5 _ rfl; have f5 := HX2.out.free 5 (by show 5 < 6; decide); clear hb3))
        refine bodyPost_ret (ret_cell2 rfl _ _ ⟨w.heap.size, 0, none⟩ _ rfl (put_c6 _ _ _ _ _ _ HX2.out)) rfl ?_
        exact ⟨rfl, below_c6 _ _ _ _ _ _ _ HB2.out (Nat.le_refl _)⟩
      by_cases h94 : v = 94
      · subst h94
        clear n1 n2 n3 n5 n7 n8 n9 n53 n23 n25 n27 n28 n29 n55 hv
        go_wp2_with (first | (go_at_call 32; refine (rpen_lit _ _ _).mono ?_; rintro e w3 ⟨rfl, hb3⟩; have HX2 := Lib.hid (HX.out.keep hb3); have HB2 := Lib.hid (Par.up HB.out hb3); have x0 := HX2.out.cell 0 _ rfl; have f0 := HX2.out.free 0 (by show 0 < 6; decide); have x1 := HX2.out.cell 1 _ rfl; have f1 := HX2.out.free 1 (by show 1 < 6; decide); have x2 := HX2.out.cell 2 _ rfl; have f2 := HX2.out.free 2 (by show 2 < 6; decide); have x3 := HX2.out.cell 3 _ rfl; have f3 := HX2.out.free 3 (by show 3 < 6; decide); have x4 := HX2.out.cell 4 _ rfl; have f4 := HX2.out.free 4 (by show 4 < 6; decide); have x5 := HX2.out.cell 5 _ rfl; have f5 := HX2.out.free 5 (by show 5 < 6; decide); clear hb3) | (go_at_call 56; refine (rcol_lit _ _ _ _).mono ?_; rintro e w3 ⟨rfl, hb3⟩; have HX2 := Lib.hid (HX.out.keep hb3); have HB2 := Lib.hid (Par.up HB.out hb3); have x0 := HX2.out.cell 0 _ rfl; have f0 := HX2.out.free 0 (by show 0 < 6; decide); have x1 := HX2.out.cell 1 _ rfl; have f1 := HX2.out.free 1 (by show 1 < 6; decide); have x2 := HX2.out.cell 2 _ rfl; have f2 := HX2.out.free 2 (by show 2 < 6; decide); have x3 := HX2.out.cell 3 _ rfl; have f3 := HX2.out.free 3 (by show 3 < 6; decide); have x4 := HX2.out.cell 4 _ rfl; have f4 := HX2.out.free 4 (by show 4 < 6; decide); have x5 := HX2.out.cell 5 _ rfl; have f5 := HX2.out.free 5 (by show 5 < 6; decide); clear hb3))
        refine bodyPost_ret (ret_cell2 rfl _ _ ⟨w.heap.size, 0, none⟩ _ rfl (put_c6 _ _ _ _ _ _ HX2.out)) rfl ?_
        exact ⟨rfl, below_c6 _ _ _ _ _ _ _ HB2.out (Nat.le_refl _)⟩
      by_cases h95 : v = 95
      · subst h95
        clear n1 n2 n3 n5 n7 n8 n9 n53 n23 n25 n27 n28 n29 n55 hv
        go_wp2_with (first | (go_at_call 32; refine (rpen_lit _ _ _).mono ?_; rintro e w3 ⟨rfl, hb3⟩; have HX2 := Lib.hid (HX.out.keep hb3); have HB2 := Lib.hid (Par.up HB.out hb3); have x0 := HX2.out.cell 0 _ rfl; have f0 := HX2.out.free 0 (by show 0 < 6; decide); have x1 := HX2.out.cell 1 _ rfl; have f1 := HX2.out.free 1 (by show 1 < 6; decide); have x2 := HX2.out.cell 2 _ rfl; have f2 := HX2.out.free 2 (by show 2 < 6; decide); have x3 := HX2.out.cell 3 _ rfl; have f3 := HX2.out.free 3 (by show 3 < 6; decide); have x4 := HX2.out.cell 4 _ rfl; have f4 := HX2.out.free 4 (by show 4 < 6; decide); have x5 := HX2.out.cell 5 _ rfl; have f5 := HX2.out.free 5 (by show 5 < 6; decide); clear hb3) | (go_at_call 56; refine (rcol_lit _ _ _ _).mono ?_; rintro e w3 ⟨rfl, hb3⟩; have HX2 := Lib.hid (HX.out.keep hb3); have HB2 := Lib.hid (Par.up HB.out hb3); have x0 := HX2.out.cell 0 _ rfl; have f0 := HX2.out.free 0 (by show 0 < 6; decide); have x1 := HX2.out.cell 1 _ rfl; have f1 := HX2.out.free 1 (by show 1 < 6; decide); have x2 := HX2.out.cell 2 _ rfl; have f2 := HX2.out.free 2 (by show 2 < 6; decide); have x3 := HX2.out.cell 3 _ rfl; have f3 := HX2.out.free 3 (by show 3 < 6; decide); have x4 := HX2.out.cell 4 _ rfl; have f4 := HX2.out.free 4 (by show 4 < 6; decide); have x5 := HX2.out.cell 5 _ rfl; have f5 := HX2.out.free 5 (by show 5 < 6; decide); clear hb3))
        refine bodyPost_ret (ret_cell2 rfl _ _ ⟨w.heap.size, 0, none⟩ _ rfl (put_c6 _ _ _ _ _ _ HX2.out)) rfl ?_
        exact ⟨rfl, below_c6 _ _ _ _ _ _ _ HB2.out (Nat.le_refl _)⟩
      by_cases h96 : v = 96
      · subst h96
        clear n1 n2 n3 n5 n7 n8 n9 n53 n23 n25 n27 n28 n29 n55 hv
        go_wp2_with (first | (go_at_call 32; refine (rpen_lit _ _ _).mono ?_; rintro e w3 ⟨rfl, hb3⟩; have HX2 := Lib.hid (HX.out.keep hb3); have HB2 := Lib.hid (Par.up HB.out hb3); have x0 := HX2.out.cell 0 _ rfl; have f0 := HX2.out.free 0 (by show 0 < 6; decide); have x1 := HX2.out.cell 1 _ rfl; have f1 := HX2.out.free 1 (by show 1 < 6; decide); have x2 := HX2.out.cell 2 _ rfl; have f2 := HX2.out.free 2 (by show 2 < 6; decide); have x3 := HX2.out.cell 3 _ rfl; have f3 := HX2.out.free 3 (by show 3 < 6; decide); have x4 := HX2.out.cell 4 _ rfl; have f4 := HX2.out.free 4 (by show 4 < 6; decide); have x5 := HX2.out.cell 5 _ rfl; have f5 := HX2.out.free 5 (by show 5 < 6; decide); clear hb3) | (go_at_call 56; refine (rcol_lit _ _ _ _).mono ?_; rintro e w3 ⟨rfl, hb3⟩; have HX2 := Lib.hid (HX.out.keep hb3); have HB2 := Lib.hid (Par.up HB.out hb3); have x0 := HX2.out.cell 0 _ rfl; have f0 := HX2.out.free 0 (by show 0 < 6; decide); have x1 := HX2.out.cell 1 _ rfl; have f1 := HX2.out.free 1 (by show 1 < 6; decide); have x2 := HX2.out.cell 2 _ rfl; have f2 := HX2.out.free 2 (by show 2 < 6; decide); have x3 := HX2.out.cell 3 _ rfl; have f3 := HX2.out.free 3 (by show 3 < 6; decide); have x4 := HX2.out.cell 4 _ rfl; have f4 := HX2.out.free 4 (by show 4 < 6; decide); have x5 := HX2.out.cell 5 _ rfl; have f5 := HX2.out.free 5 (by show 5 < 6; decide); clear hb3))
        refine bodyPost_ret (ret_cell2 rfl _ _ ⟨w.heap.size, 0, none⟩ _ rfl (put_c6 _ _ _ _ _ _ HX2.out)) rfl ?_
        exact ⟨rfl, below_c6 _ _ _ _ _ _ _ HB2.out (Nat.le_refl _)⟩
      by_cases h97 : v = 97
      · subst h97
        clear n1 n2 n3 n5 n7 n8 n9 n53 n23 n25 n27 n28 n29 n55 hv
        go_wp2_with (first | (go_at_call 32; refine (rpen_lit _ _ _).mono ?_; rintro e w3 ⟨rfl, hb3⟩; have HX2 := Lib.hid (HX.out.keep hb3); have HB2 := Lib.hid (Par.up HB.out hb3); have x0 := HX2.out.cell 0 _ rfl; have f0 := HX2.out.free 0 (by show 0 < 6; decide); have x1 := HX2.out.cell 1 _ rfl; have f1 := HX2.out.free 1 (by show 1 < 6; decide); have x2 := HX2.out.cell 2 _ rfl; have f2 := HX2.out.free 2 (by show 2 < 6; decide); have x3 := HX2.out.cell 3 _ rfl; have f3 := HX2.out.free 3 (by show 3 < 6; decide); have x4 := HX2.out.cell 4 _ rfl; have f4 := HX2.out.free 4 (by show 4 < 6; decide); have x5 := HX2.out.cell 5 _ rfl; have f5 := HX2.out.free 5 (by show 5 < 6; decide); clear hb3) | (go_at_call 56; refine (rcol_lit _ _ _ _).mono ?_; rintro e w3 ⟨rfl, hb3⟩; have HX2 := Lib.hid (HX.out.keep hb3); have HB2 := Lib.hid (Par.up HB.out hb3); have x0 := HX2.out.cell 0 _ rfl; have f0 := HX2.out.free 0 (by show 0 < 6; decide); have x1 := HX2.out.cell 1 _ rfl; have f1 := HX2.out.free 1 (by show 1 < 6; decide); have x2 := HX2.out.cell 2 _ rfl; have f2 := HX2.out.free 2 (by show 2 < 6; decide); have x3 := HX2.out.cell 3 _ rfl; have f3 := HX2.out.free 3 (by show 3 < 6; decide); have x4 := HX2.out.cell 4 _ rfl; have f4 := HX2.out.free 4 (by show 4 < 6; decide); have x5 := HX2.out.cell 5 _ rfl; have f5 := HX2.out.free 5 (by show 5 < 6; decide); clear hb3))
        refine bodyPost_ret (ret_cell2 rfl _ _ ⟨w.heap.size, 0, none⟩ _ rfl (put_c6 _ _ _ _ _ _ HX2.out)) rfl ?_
        exact ⟨rfl, below_c6 _ _ _ _ _ _ _ HB2.out (Nat.le_refl _)⟩
      by_cases h100 : v = 100
      · subst h100
        clear n1 n2 n3 n5 n7 n8 n9 n53 n23 n25 n27 n28 n29 n55 hv
        go_wp2_with (first | (go_at_call 32; refine (rpen_lit _ _ _).mono ?_; rintro e w3 ⟨rfl, hb3⟩; have HX2 := Lib.hid (HX.out.keep hb3); have HB2 := Lib.hid (Par.up HB.out hb3); have x0 := HX2.out.cell 0 _ rfl; have f0 := HX2.out.free 0 (by show 0 < 6; decide); have x1 := HX2.out.cell 1 _ rfl; have f1 := HX2.out.free 1 (by show 1 < 6; decide); have x2 := HX2.out.cell 2 _ rfl; have f2 := HX2.out.free 2 (by show 2 < 6; decide); have x3 := HX2.out.cell 3 _ rfl; have f3 := HX2.out.free 3 (by show 3 < 6; decide); have x4 := HX2.out.cell 4 _ rfl; have f4 := HX2.out.free 4 (by show 4 < 6; decide); have x5 := HX2.out.cell 5 _ rfl; have f5 := HX2.out.free 5 (by show 5 < 6; decide); clear hb3) | (go_at_call 56; refine (rcol_lit _ _ _ _).mono ?_; rintro e w3 ⟨rfl, hb3⟩; have HX2 := Lib.hid (HX.out.keep hb3); have HB2 := Lib.hid (Par.up HB.out hb3); have x0 := HX2.out.cell 0 _ rfl; have f0 := HX2.out.free 0 (by show 0 < 6; decide); have x1 := HX2.out.cell 1 _ rfl; have f1 := HX2.out.free 1 (by show 1 < 6; decide); have x2 := HX2.out.cell 2 _ rfl; have f2 := HX2.out.free 2 (by show 2 < 6; decide); have x3 := HX2.out.cell 3 _ rfl; have f3 := HX2.out.free 3 (by show 3 < 6; decide); have x4 := HX2.out.cell 4 _ rfl; have f4 := HX2.out.free 4 (by show 4 < 6; decide); have x5 := HX2.out.cell 5 _ rfl; have f5 := HX2.out.free 5 (by show 5 < 6; decide); clear hb3))
        refine bodyPost_ret (ret_cell2 rfl _ _ ⟨w.heap.size, 0, none⟩ _ rfl (put_c6 _ _ _ _ _ _ HX2.out)) rfl ?_
        exact ⟨rfl, below_c6 _ _ _ _ _ _ _ HB2.out (Nat.le_refl _)⟩
      by_cases h101 : v = 101
      · subst h101
        clear n1 n2 n3 n5 n7 n8 n9 n53 n23 n25 n27 n28 n29 n55 hv
        go_wp2_with (first | (go_at_call 32; refine (rpen_lit _ _ _).mono ?_; rintro e w3 ⟨rfl, hb3⟩; have HX2 := Lib.hid (HX.out.keep hb3); have HB2 := Lib.hid (Par.up HB.out hb3); have x0 := HX2.out.cell 0 _ rfl; have f0 := HX2.out.free 0 (by show 0 < 6; decide); have x1 := HX2.out.cell 1 _ rfl; have f1 := HX2.out.free 1 (by show 1 < 6; decide); have x2 := HX2.out.cell 2 _ rfl; have f2 := HX2.out.free 2 (by show 2 < 6; decide); have x3 := HX2.out.cell 3 _ rfl; have f3 := HX2.out.free 3 (by show 3 < 6; decide); have x4 := HX2.out.cell 4 _ rfl; have f4 := HX2.out.free 4 (by show 4 < 6; decide); have x5 := HX2.out.cell 5 _ rfl; have f5 := HX2.out.free 5 (by show 5 < 6; decide); clear hb3) | (go_at_call 56; refine (rcol_lit _ _ _ _).mono ?_; rintro e w3 ⟨rfl, hb3⟩; have HX2 := Lib.hid (HX.out.keep hb3); have HB2 := Lib.hid (Par.up HB.out hb3); have x0 := HX2.out.cell 0 _ rfl; have f0 := HX2.out.free 0 (by show 0 < 6; decide); have x1 := HX2.out.cell 1 _ rfl; have f1 := HX2.out.free 1 (by show 1 < 6; decide); have x2 := HX2.out.cell 2 _ rfl; have f2 := HX2.out.free 2 (by show 2 < 6; decide); have x3 := HX2.out.cell 3 _ rfl; have f3 := HX2.out.free 3 (by show 3 < 6; decide); have x4 := HX2.out.cell 4 _ rfl; have f4 := HX2.out.free 4 (by show 4 < 6; decide); have x5 := HX2.out.cell 5 _ rfl; have f5 := HX2.out.free 5 (by show 5 < 6; decide); clear hb3))
        refine bodyPost_ret (ret_cell2 rfl _ _ ⟨w.heap.size, 0, none⟩ _ rfl (put_c6 _ _ _ _ _ _ HX2.out)) rfl ?_
        exact ⟨rfl, below_c6 _ _ _ _ _ _ _ HB2.out (Nat.le_refl _)⟩
      by_cases h102 : v = 102
      · subst h102
        clear n1 n2 n3 n5 n7 n8 n9 n53 n23 n25 n27 n28 n29 n55 hv
        go_wp2_with (first | (go_at_call 32; refine (rpen_lit _ _ _).mono ?_; rintro e w3 ⟨rfl, hb3⟩; have HX2 := Lib.hid (HX.out.keep hb3); have HB2 := Lib.hid (Par.up HB.out hb3); have x0 := HX2.out.cell 0 _ rfl; have f0 := HX2.out.free 0 (by show 0 < 6; decide); have x1 := HX2.out.cell 1 _ rfl; have f1 := HX2.out.free 1 (by show 1 < 6; decide); have x2 := HX2.out.cell 2 _ rfl; have f2 := HX2.out.free 2 (by show 2 < 6; decide); have x3 := HX2.out.cell 3 _ rfl; have f3 := HX2.out.free 3 (by show 3 < 6; decide); have x4 := HX2.out.cell 4 _ rfl; have f4 := HX2.out.free 4 (by show 4 < 6; decide); have x5 := HX2.out.cell 5 _ rfl; have f5 := HX2.out.free 5 (by show 5 < 6; decide); clear hb3) | (go_at_call 56; refine (rcol_lit _ _ _ _).mono ?_; rintro e w3 ⟨rfl, hb3⟩; have HX2 := Lib.hid (HX.out.keep hb3); have HB2 := Lib.hid (Par.up HB.out hb3); have x0 := HX2.out.cell 0 _ rfl; have f0 := HX2.out.free 0 (by show 0 < 6; decide); have x1 := HX2.out.cell 1 _ rfl; have f1 := HX2.out.free 1 (by show 1 < 6; decide); have x2 := HX2.out.cell 2 _ rfl; have f2 := HX2.out.free 2 (by show 2 < 6; decide); have x3 := HX2.out.cell 3 _ rfl; have f3 := HX2.out.free 3 (by show 3 < 6; decide); have x4 := HX2.out.cell 4 _ rfl; have f4 := HX2.out.free 4 (by show 4 < 6; decide); have x5 := HX2.out.cell 5 _ rfl; have f5 := HX2.out.free 5 (by show 5 < 6; decide); clear hb3))
        refine bodyPost_ret (ret_cell2 rfl _ _ ⟨w.heap.size, 0, none⟩ _ rfl (put_c6 _ _ _ _ _ _ HX2.out)) rfl ?_
        exact ⟨rfl, below_c6 _ _ _ _ _ _ _ HB2.out (Nat.le_refl _)⟩
      by_cases h103 : v = 103
      · subst h103
        clear n1 n2 n3 n5 n7 n8 n9 n53 n23 n25 n27 n28 n29 n55 hv
        go_wp2_with (first | (go_at_call 32; refine (rpen_lit _ _ _).mono ?_; rintro e w3 ⟨rfl, hb3⟩; have HX2 := Lib.hid (HX.out.keep hb3); have HB2 := Lib.hid (Par.up HB.out hb3); have x0 := HX2.out.cell 0 _ rfl; have f0 := HX2.out.free 0 (by show 0 < 6; decide); have x1 := HX2.out.cell 1 _ rfl; have f1 := HX2.out.free 1 (by show 1 < 6; decide); have x2 := HX2.out.cell 2 _ rfl; have f2 := HX2.out.free 2 (by show 2 < 6; decide); have x3 := HX2.out.cell 3 _ rfl; have f3 := HX2.out.free 3 (by show 3 < 6; decide); have x4 := HX2.out.cell 4 _ rfl; have f4 := HX2.out.free 4 (by show 4 < 6; decide); have x5 := HX2.out.cell 5 _ rfl; have f5 := HX2.out.free 5 (by show 5 < 6; decide); clear hb3) | (go_at_call 56; refine (rcol_lit _ _ _ _).mono ?_; rintro e w3 ⟨rfl, hb3⟩; have HX2 := Lib.hid (HX.out.keep hb3); have HB2 := Lib.hid (Par.up HB.out hb3); have x0 := HX2.out.cell 0 _ rfl; have f0 := HX2.out.free 0 (by show 0 < 6; decide); have x1 := HX2.out.cell 1 _ rfl; have f1 := HX2.out.free 1 (by show 1 < 6; decide); have x2 := HX2.out.cell 2 _ rfl; have f2 := HX2.out.free 2 (by show 2 < 6; decide); have x3 := HX2.out.cell 3 _ rfl; have f3 := HX2.out.free 3 (by show 3 < 6; decide); have x4 := HX2.out.cell 4 _ rfl; have f4 := HX2.out.free 4 (by show 4 < 6; decide); have x5 := HX2.out.cell 5 _ rfl; have f5 := HX2.out.free 5 (by show 5 < 6; decide); clear hb3))
        refine bodyPost_ret (ret_cell2 rfl _ _ ⟨w.heap.size, 0, none⟩ _ rfl (put_c6 _ _ _ _ _ _ HX2.out)) rfl ?_
        exact ⟨rfl, below_c6 _ _ _ _ _ _ _ HB2.out (Nat.le_refl _)⟩
      by_cases h104 : v = 104
      · subst h104
        clear n1 n2 n3 n5 n7 n8 n9 n53 n23 n25 n27 n28 n29 n55 hv
        go_wp2_with (first | (go_at_call 32; refine (rpen_lit _ _ _).mono ?_; rintro e w3 ⟨rfl, hb3⟩; have HX2 := Lib.hid (HX.out.keep hb3); have HB2 := Lib.hid (Par.up HB.out hb3); have x0 := HX2.out.cell 0 _ rfl; have f0 := HX2.out.free 0 (by show 0 < 6; decide); have x1 := HX2.out.cell 1 _ rfl; have f1 := HX2.out.free 1 (by show 1 < 6; decide); have x2 := HX2.out.cell 2 _ rfl; have f2 := HX2.out.free 2 (by show 2 < 6; decide); have x3 := HX2.out.cell 3 _ rfl; have f3 := HX2.out.free 3 (by show 3 < 6; decide); have x4 := HX2.out.cell 4 _ rfl; have f4 := HX2.out.free 4 (by show 4 < 6; decide); have x5 := HX2.out.cell 5 _ rfl; have f5 := HX2.out.free 5 (by show 5 < 6; decide); clear hb3) | (go_at_call 56; refine (rcol_lit _ _ _ _).mono ?_; rintro e w3 ⟨rfl, hb3⟩; have HX2 := Lib.hid (HX.out.keep hb3); have HB2 := Lib.hid (Par.up HB.out hb3); have x0 := HX2.out.cell 0 _ rfl; have f0 := HX2.out.free 0 (by show 0 < 6; decide); have x1 := HX2.out.cell 1 _ rfl; have f1 := HX2.out.free 1 (by show 1 < 6; decide); have x2 := HX2.out.cell 2 _ rfl; have f2 := HX2.out.free 2 (by show 2 < 6; decide); have x3 := HX2.out.cell 3 _ rfl; have f3 := HX2.out.free 3 (by show 3 < 6; decide); have x4 := HX2.out.cell 4 _ rfl; have f4 := HX2.out.free 4 (by show 4 < 6; decide); have x5 := HX2.out.cell 5 _ rfl; have f5 := HX2.out.free 5 (by show 5 < 6; decide); clear hb3))
        refine bodyPost_ret (ret_cell2 rfl _ _ ⟨w.heap.size, 0, none⟩ _ rfl (put_c6 _ _ _ _ _ _ HX2.out)) rfl ?_
        exact ⟨rfl, below_c6 _ _ _ _ _ _ _ HB2.out (Nat.le_refl _)⟩
      by_cases h105 : v = 105
      · subst h105
        clear n1 n2 n3 n5 n7 n8 n9 n53 n23 n25 n27 n28 n29 n55 hv
        go_wp2_with (first | (go_at_call 32; refine (rpen_lit _ _ _).mono ?_; rintro e w3 ⟨rfl, hb3⟩; have HX2 := Lib.hid (HX.out.keep hb3); have HB2 := Lib.hid (Par.up HB.out hb3); have x0 := HX2.out.cell 0 _ rfl; have f0 := HX2.out.free 0 (by show 0 < 6; decide); have x1 := HX2.out.cell 1 _ rfl; have f1 := HX2.out.free 1 (by show 1 < 6; decide); have x2 := HX2.out.cell 2 _ rfl; have f2 := HX2.out.free 2 (by show 2 < 6; decide); have x3 := HX2.out.cell 3 _ rfl; have f3 := HX2.out.free 3 (by show 3 < 6; decide); have x4 := HX2.out.cell 4 _ rfl; have f4 := HX2.out.free 4 (by show 4 < 6; decide); have x5 := HX2.out.cell 5 _ rfl; have f5 := HX2.out.free 5 (by show 5 < 6; decide); clear hb3) | (go_at_call 56; refine (rcol_lit _ _ _ _).mono ?_; rintro e w3 ⟨rfl, hb3⟩; have HX2 := Lib.hid (HX.out.keep hb3); have HB2 := Lib.hid (Par.up HB.out hb3); have x0 := HX2.out.cell 0 _ rfl; have f0 := HX2.out.free 0 (by show 0 < 6; decide); have x1 := HX2.out.cell 1 _ rfl; have f1 := HX2.out.free 1 (by show 1 < 6; decide); have x2 := HX2.out.cell 2 _ rfl; have f2 := HX2.out.free 2 (by show 2 < 6; decide); have x3 := HX2.out.cell 3 _ rfl; have f3 := HX2.out.free 3 (by show 3 < 6; decide); have x4 := HX2.out.cell 4 _ rfl; have f4 := HX2.out.free 4 (by show 4 < 6; decide); have x5 := HX2.out.cell 5 _ rfl; have f5 := HX2.out.free 5 (by show 5 < 6; decide); clear hb3))
        refine bodyPost_ret (ret_cell2 rfl _ _ ⟨w.heap.size, 0, none⟩ _ rfl (put_c6 _ _ _ _ _ _ HX2.out)) rfl ?_
        exact ⟨rfl, below_c6 _ _ _ _ _ _ _ HB2.out (Nat.le_refl _)⟩
      by_cases h106 : v = 106
      · subst h106
        clear n1 n2 n3 n5 n7 n8 n9 n53 n23 n25 n27 n28 n29 n55 hv
        go_wp2_with (first | (go_at_call 32; refine (rpen_lit _ _ _).mono ?_; rintro e w3 ⟨rfl, hb3⟩; have HX2 := Lib.hid (HX.out.keep hb3); have HB2 := Lib.hid (Par.up HB.out hb3); have x0 := HX2.out.cell 0 _ rfl; have f0 := HX2.out.free 0 (by show 0 < 6; decide); have x1 := HX2.out.cell 1 _ rfl; have f1 := HX2.out.free 1 (by show 1 < 6; decide); have x2 := HX2.out.cell 2 _ rfl; have f2 := HX2.out.free 2 (by show 2 < 6; decide); have x3 := HX2.out.cell 3 _ rfl; have f3 := HX2.out.free 3 (by show 3 < 6; decide); have x4 := HX2.out.cell 4 _ rfl; have f4 := HX2.out.free 4 (by show 4 < 6; decide); have x5 := HX2.out.cell 5 _ rfl; have f5 := HX2.out.free 5 (by show 5 < 6; decide); clear hb3) | (go_at_call 56; refine (rcol_lit _ _ _ _).mono ?_; rintro e w3 ⟨rfl, hb3⟩; have HX2 := Lib.hid (HX.out.keep hb3); have HB2 := Lib.hid (Par.up HB.out hb3); have x0 := HX2.out.cell 0 _ rfl; have f0 := HX2.out.free 0 (by show 0 < 6; decide); have x1 := HX2.out.cell 1 _ rfl; have f1 := HX2.out.free 1 (by show 1 < 6; decide); have x2 := HX2.out.cell 2 _ rfl; have f2 := HX2.out.free 2 (by show 2 < 6; decide); have x3 := HX2.out.cell 3 _ rfl; have f3 := HX2.out.free 3 (by show 3 < 6; decide); have x4 := HX2.out.cell 4 _ rfl; have f4 := HX2.out.free 4 (by show 4 < 6; decide); have x5 := HX2.out.cell 5 _ rfl; have f5 := HX2.out.free 5 (by show 5 < 6; decide); clear hb3))
        refine bodyPost_ret (ret_cell2 rfl _ _ ⟨w.heap.size, 0, none⟩ _ rfl (put_c6 _ _ _ _ _ _ HX2.out)) rfl ?_
        exact ⟨rfl, below_c6 _ _ _ _ _ _ _ HB2.out (Nat.le_refl _)⟩
      by_cases h107 : v = 107
      · subst h107
        clear n1 n2 n3 n5 n7 n8 n9 n53 n23 n25 n27 n28 n29 n55 hv
        go_wp2_with (first | (go_at_call 32; refine (rpen_lit _ _ _).mono ?_; rintro e w3 ⟨rfl, hb3⟩; have HX2 := Lib.hid (HX.out.keep hb3); have HB2 := Lib.hid (Par.up HB.out hb3); have x0 := HX2.out.cell 0 _ rfl; have f0 := HX2.out.free 0 (by show 0 < 6; decide); have x1 := HX2.out.cell 1 _ rfl; have f1 := HX2.out.free 1 (by show 1 < 6; decide); have x2 := HX2.out.cell 2 _ rfl; have f2 := HX2.out.free 2 (by show 2 < 6; decide); have x3 := HX2.out.cell 3 _ rfl; have f3 := HX2.out.free 3 (by show 3 < 6; decide); have x4 := HX2.out.cell 4 _ rfl; have f4 := HX2.out.free 4 (by show 4 < 6; decide); have x5 := HX2.out.cell 5 _ rfl; have f5 := HX2.out.free 5 (by show 5 < 6; decide); clear hb3) | (go_at_call 56; refine (rcol_lit _ _ _ _).mono ?_; rintro e w3 ⟨rfl, hb3⟩; have HX2 := Lib.hid (HX.out.keep hb3); have HB2 := Lib.hid (Par.up HB.out hb3); have x0 := HX2.out.cell 0 _ rfl; have f0 := HX2.out.free 0 (by show 0 < 6; decide); have x1 := HX2.out.cell 1 _ rfl; have f1 := HX2.out.free 1 (by show 1 < 6; decide); have x2 := HX2.out.cell 2 _ rfl; have f2 := HX2.out.free 2 (by show 2 < 6; decide); have x3 := HX2.out.cell 3 _ rfl; have f3 := HX2.out.free 3 (by show 3 < 6; decide); have x4 := HX2.out.cell 4 _ rfl; have f4 := HX2.out.free 4 (by show 4 < 6; decide); have x5 := HX2.out.cell 5 _ rfl; have f5 := HX2.out.free 5 (by show 5 < 6; decide); clear hb3))
        refine bodyPost_ret (ret_cell2 rfl _ _ ⟨w.heap.size, 0, none⟩ _ rfl (put_c6 _ _ _ _ _ _ HX2.out)) rfl ?_
        exact ⟨rfl, below_c6 _ _ _ _ _ _ _ HB2.out (Nat.le_refl _)⟩
      have b0 : (v == 0) = false := by simp [h0]
      have b4 : (v == 4) = false := by simp [h4]
      have b6 : (v == 6) = false := by simp [h6]
      have b21 : (v == 21) = false := by simp [h21]
      have b22 : (v == 22) = false := by simp [h22]
      have b24 : (v == 24) = false := by simp [h24]
      have b39 : (v == 39) = false := by simp [h39]
      have b49 : (v == 49) = false := by simp [h49]
      have b59 : (v == 59) = false := by simp [h59]
      have x0 := HX.out.cell 0 _ rfl
      have f0 := HX.out.free 0 (by show 0 < 6; decide)
      have x1 := HX.out.cell 1 _ rfl
      have f1 := HX.out.free 1 (by show 1 < 6; decide)
      have x2 := HX.out.cell 2 _ rfl
      have f2 := HX.out.free 2 (by show 2 < 6; decide)
      have x3 := HX.out.cell 3 _ rfl
      have f3 := HX.out.free 3 (by show 3 < 6; decide)
      have x4 := HX.out.cell 4 _ rfl
      have f4 := HX.out.free 4 (by show 4 < 6; decide)
      have x5 := HX.out.cell 5 _ rfl
      have f5 := HX.out.free 5 (by show 5 < 6; decide)
      have hnone : simV v = none := by
        unfold simV litV
        repeat rw [if_neg (by omega)]
      have HNO := Lib.hid hnone
      clear hnone
      have hcase : v < 30 ∨ (37 < v ∧ v < 40) ∨ (47 < v ∧ v < 90) ∨ (97 < v ∧ v < 100) ∨ 107 < v := by omega
      clear h30 h31 h32 h33 h34 h35 h36 h37 h40 h41 h42 h43 h44 h45 h46 h47 h90 h91 h92 h93 h94 h95 h96 h97 h100 h101 h102 h103 h104 h105 h106 h107 h0 h4 h6 h21 h22 h24 h39 h49 h59 n1 n2 n3 n5 n7 n8 n9 n53 n23 n25 n27 n28 n29 n55
      rcases hcase with g | g | g | g | g
      · have g0 : ¬ (30 ≤ v) := by omega
        have g1 : ¬ (40 ≤ v) := by omega
        have g2 : ¬ (90 ≤ v) := by omega
        have g3 : ¬ (100 ≤ v) := by omega
        clear g
        go_wp2_with fail
        refine bodyPost_ret (ret_cell2 rfl _ _ ⟨w.heap.size, 0, none⟩ _ rfl (put_c6 _ _ _ _ _ _ HX.out)) rfl ?_
        exact ⟨by rw [HNO.out]; rfl, below_c6 _ _ _ _ _ _ _ HB.out (Nat.le_refl _)⟩
      · have g0 : 30 ≤ v := by omega
        have g1 : ¬ (v ≤ 37) := by omega
        have g2 : ¬ (40 ≤ v) := by omega
        have g3 : ¬ (90 ≤ v) := by omega
        have g4 : ¬ (100 ≤ v) := by omega
        clear g
        go_wp2_with fail
        refine bodyPost_ret (ret_cell2 rfl _ _ ⟨w.heap.size, 0, none⟩ _ rfl (put_c6 _ _ _ _ _ _ HX.out)) rfl ?_
        exact ⟨by rw [HNO.out]; rfl, below_c6 _ _ _ _ _ _ _ HB.out (Nat.le_refl _)⟩
      · have g0 : 30 ≤ v := by omega
        have g1 : ¬ (v ≤ 37) := by omega
        have g2 : 40 ≤ v := by omega
        have g3 : ¬ (v ≤ 47) := by omega
        have g4 : ¬ (90 ≤ v) := by omega
        have g5 : ¬ (100 ≤ v) := by omega
        clear g
        go_wp2_with fail
        refine bodyPost_ret (ret_cell2 rfl _ _ ⟨w.heap.size, 0, none⟩ _ rfl (put_c6 _ _ _ _ _ _ HX.out)) rfl ?_
        exact ⟨by rw [HNO.out]; rfl, below_c6 _ _ _ _ _ _ _ HB.out (Nat.le_refl _)⟩
      · have g0 : 30 ≤ v := by omega
        have g1 : ¬ (v ≤ 37) := by omega
        have g2 : 40 ≤ v := by omega
        have g3 : ¬ (v ≤ 47) := by omega
        have g4 : 90 ≤ v := by omega
        have g5 : ¬ (v ≤ 97) := by omega
        have g6 : ¬ (100 ≤ v) := by omega
        clear g
        go_wp2_with fail
        refine bodyPost_ret (ret_cell2 rfl _ _ ⟨w.heap.size, 0, none⟩ _ rfl (put_c6 _ _ _ _ _ _ HX.out)) rfl ?_
        exact ⟨by rw [HNO.out]; rfl, below_c6 _ _ _ _ _ _ _ HB.out (Nat.le_refl _)⟩
      · have g0 : 30 ≤ v := by omega
        have g1 : ¬ (v ≤ 37) := by omega
        have g2 : 40 ≤ v := by omega
        have g3 : ¬ (v ≤ 47) := by omega
        have g4 : 90 ≤ v := by omega
        have g5 : ¬ (v ≤ 97) := by omega
        have g6 : 100 ≤ v := by omega
        have g7 : ¬ (v ≤ 107) := by omega
        clear g
        go_wp2_with fail
        refine bodyPost_ret (ret_cell2 rfl _ _ ⟨w.heap.size, 0, none⟩ _ rfl (put_c6 _ _ _ _ _ _ HX.out)) rfl ?_
        exact ⟨by rw [HNO.out]; rfl, below_c6 _ _ _ _ _ _ _ HB.out (Nat.le_refl _)⟩
end Go.Proofs.YteepfecplabinaaDoor.Sgr

namespace Go.Proofs.YteepfecplabinaaDoor.Sgr
open Go.RowKit Utf

theorem simV_lit (v : Int) (w : World) (hv : -9223372036854775808 ≤ v ∧ v ≤ 9223372036854775807) : ∃ (k n m c0 c1 : Int) (b : Bool), oV (simV v) = .agg #[.int .i64 k, .int .i64 n, .int .i64 m, .int .i64 c0, .int .i64 c1, .string ⟨#[]⟩] ∧ (simV v).isSome = b ∧
    Calls Tryd.prog 96 #[.int .i64 v] w fun e w' => e = .returned (.tuple #[.agg #[.int .i64 k, .int .i64 n, .int .i64 m, .int .i64 c0, .int .i64 c1, .string ⟨#[]⟩], .bool b]) ∧ Below w.heap.size w w' := by
  have h := rsimple_any v w hv
  unfold OptPost at h
  cases hs : simV v with
  | none =>
    rw [hs] at h
    exact ⟨_, _, _, _, _, _, rfl, rfl, h⟩
  | some q =>
    rw [hs] at h
    exact ⟨_, _, _, _, _, _, rfl, rfl, h⟩
set_option maxRecDepth 100000 in
set_option maxHeartbeats 4000000 in
theorem ralone_1 (ad : Addr) (c : Nat) (v : Int) (w : World) (hlt : ad.block < w.heap.size) (hc0 : w.cell? ad = some (.int .i64 v)) (hv : -1 ≤ v ∧ v ≤ 9999) :
    Calls Tryd.prog 58 #[.agg #[.slice (some ad) 1 c]] w (OptPost w (aloV [v])) := by
  obtain ⟨u, hu⟩ : ∃ u, u = max 0 v := ⟨_, rfl⟩
  have hm : max 0 v = u := hu.symm
  obtain ⟨zk, zn, zm, z0, z1, zb, hs1, hs2, -⟩ := simV_lit u w (by omega)
  have HS := Lib.hid (fun W => show Calls Tryd.prog 96 #[.int .i64 u] W fun e w' => e = .returned (.tuple #[.agg #[.int .i64 zk, .int .i64 zn, .int .i64 zm, .int .i64 z0, .int .i64 z1, .string ⟨#[]⟩], .bool zb]) ∧ Below W.heap.size W w' from by
    have := rsimple_any u W (by omega)
    unfold OptPost at this
    rw [hs1, hs2] at this
    exact this)
  have HO := Lib.hid (show oV (aloV [v]) = .agg #[.int .i64 zk, .int .i64 zn, .int .i64 zm, .int .i64 z0, .int .i64 z1, .string ⟨#[]⟩] ∧ (aloV [v]).isSome = zb from by
    have e : aloV [v] = simV u := by rw [hu]; rfl
    rw [e]; exact ⟨hs1, hs2⟩)
  have c0 : ((w.alloc (.cells #[.slice (some ad) 1 c] 41)).alloc (.cells #[.int .i64 0, .int .i64 0, .int .i64 0, .int .i64 0, .int .i64 0, .string ⟨#[]⟩] 48)).cell? ad = some (.int .i64 v) := (((below_box w _).alloc (by simp) _).cell (p := ad) hlt).trans hc0
  have hX := Sty.Box.new (w.alloc (.cells #[.slice (some ad) 1 c] 41)) #[.int .i64 0, .int .i64 0, .int .i64 0, .int .i64 0, .int .i64 0, .string ⟨#[]⟩] 48
  rw [World.size_alloc] at hX
  have HX := Lib.hid (show Sty.Box ((w.alloc (.cells #[.slice (some ad) 1 c] 41)).alloc (.cells #[.int .i64 0, .int .i64 0, .int .i64 0, .int .i64 0, .int .i64 0, .string ⟨#[]⟩] 48)) (w.heap.size + 1) (Sty.cP zP) from hX)
  have HB := Lib.hid (show Below w.heap.size w ((w.alloc (.cells #[.slice (some ad) 1 c] 41)).alloc (.cells #[.int .i64 0, .int .i64 0, .int .i64 0, .int .i64 0, .int .i64 0, .string ⟨#[]⟩] 48)) from (below_box w _).alloc (by simp) _)
  clear hs1 hs2 hu hX hc0 hv
  go_enter Tryd.func58, Tryd.ntmps58
  go_wp2_with (go_at_call 96; refine (HS.out _).mono ?_; rintro e w2 ⟨rfl, hb⟩; have HX2 := Lib.hid (HX.out.keep hb); have HB2 := Lib.hid (Par.up HB.out hb); have x0 := HX2.out.cell 0 _ rfl; have f0 := HX2.out.free 0 (by show 0 < 6; decide); have x1 := HX2.out.cell 1 _ rfl; have f1 := HX2.out.free 1 (by show 1 < 6; decide); have x2 := HX2.out.cell 2 _ rfl; have f2 := HX2.out.free 2 (by show 2 < 6; decide); have x3 := HX2.out.cell 3 _ rfl; have f3 := HX2.out.free 3 (by show 3 < 6; decide); have x4 := HX2.out.cell 4 _ rfl; have f4 := HX2.out.free 4 (by show 4 < 6; decide); have x5 := HX2.out.cell 5 _ rfl; have f5 := HX2.out.free 5 (by show 5 < 6; decide); clear hb)
  refine bodyPost_ret (ret_cell2 rfl _ _ ⟨w.heap.size + 1, 0, none⟩ _ rfl (put_c6 _ _ _ _ _ _ HX2.out)) rfl ?_
  unfold OptPost
  rw [HO.out.1, HO.out.2]
  exact ⟨rfl, below_c6 _ _ _ _ _ _ _ HB2.out (Nat.le_succ _)⟩
set_option maxRecDepth 100000 in
set_option maxHeartbeats 4000000 in
/-- no color, not 4, more than one part -/
theorem ralone_no (ad : Addr) (n c : Nat) (v : Int) (w : World) (hlt : ad.block < w.heap.size) (hc0 : w.cell? ad = some (.int .i64 v)) (hn : 2 ≤ n) (h4 : v ≠ 4) (hw : whV (max 0 v) = -1) :
    Calls Tryd.prog 58 #[.agg #[.slice (some ad) n c]] w (OptPost w none) := by
  obtain ⟨u, hu⟩ : ∃ u, u = max 0 v := ⟨_, rfl⟩
  have hm : max 0 v = u := hu.symm
  have n1 : ¬ n = 1 := by omega
  have n2 : ((n : Int) == 1) = false := by simp; omega
  have q0 : (0 : Int) < (n : Int) := by omega
  have q1 : 0 < n := by omega
  have b4 : (u == 4) = false := by simp; omega
  rw [hm] at hw
  have HW := Lib.hid (fun W => show Calls Tryd.prog 54 #[.int .i64 u] W fun e w' => e = .returned (.int .i64 (-1)) ∧ W = w' from by have := rwhich_any u W; rw [hw] at this; exact this)
  have c0 : ((w.alloc (.cells #[.slice (some ad) n c] 41)).alloc (.cells #[.int .i64 0, .int .i64 0, .int .i64 0, .int .i64 0, .int .i64 0, .string ⟨#[]⟩] 48)).cell? ad = some (.int .i64 v) := (((below_box w _).alloc (by simp) _).cell (p := ad) hlt).trans hc0
  have hX := Sty.Box.new (w.alloc (.cells #[.slice (some ad) n c] 41)) #[.int .i64 0, .int .i64 0, .int .i64 0, .int .i64 0, .int .i64 0, .string ⟨#[]⟩] 48
  rw [World.size_alloc] at hX
  have HX := Lib.hid (show Sty.Box ((w.alloc (.cells #[.slice (some ad) n c] 41)).alloc (.cells #[.int .i64 0, .int .i64 0, .int .i64 0, .int .i64 0, .int .i64 0, .string ⟨#[]⟩] 48)) (w.heap.size + 1) (Sty.cP zP) from hX)
  have HB := Lib.hid (show Below w.heap.size w ((w.alloc (.cells #[.slice (some ad) n c] 41)).alloc (.cells #[.int .i64 0, .int .i64 0, .int .i64 0, .int .i64 0, .int .i64 0, .string ⟨#[]⟩] 48)) from (below_box w _).alloc (by simp) _)
  clear hu hX hc0 hw h4 hn
  go_enter Tryd.func58, Tryd.ntmps58
  go_upto_region 10 with (go_at_call 54; refine (HW.out _).mono ?_; rintro e w2 ⟨rfl, rfl⟩)
  have x0 := HX.out.cell 0 _ rfl
  have f0 := HX.out.free 0 (by show 0 < 6; decide)
  have x1 := HX.out.cell 1 _ rfl
  have f1 := HX.out.free 1 (by show 1 < 6; decide)
  have x2 := HX.out.cell 2 _ rfl
  have f2 := HX.out.free 2 (by show 2 < 6; decide)
  have x3 := HX.out.cell 3 _ rfl
  have f3 := HX.out.free 3 (by show 3 < 6; decide)
  have x4 := HX.out.cell 4 _ rfl
  have f4 := HX.out.free 4 (by show 4 < 6; decide)
  have x5 := HX.out.cell 5 _ rfl
  have f5 := HX.out.free 5 (by show 5 < 6; decide)
  go_region
  go_wp2_with fail
  go_region
  go_wp2_with fail
  have HX2 := Lib.hid ((HX.out.keep ((Below.refl _ _).drew)).keep ((Below.refl _ _).drew))
  have HB2 := Lib.hid (Par.up (Par.up HB.out ((Below.refl _ _).drew)) ((Below.refl _ _).drew))
  refine bodyPost_ret (ret_cell2 rfl _ _ ⟨w.heap.size + 1, 0, none⟩ _ rfl (load_p zP HX2.out)) rfl ?_
  exact ⟨rfl, HB2.out⟩
set_option maxRecDepth 100000 in
set_option maxHeartbeats 4000000 in
/-- 4 and an underline -/
theorem ralone_4y (ad : Addr) (c : Nat) (a : Int) (w : World) (hlt : ad.block < w.heap.size) (hc0 : w.cell? ad = some (.int .i64 4)) (hc1 : w.cell? ⟨ad.block, ad.off + 1, none⟩ = some (.int .i64 a)) (h0 : 0 ≤ a) (h5 : a ≤ 5) :
    Calls Tryd.prog 58 #[.agg #[.slice (some ad) 2 c]] w (OptPost w (some (pq 3 a))) := by
  have HW := Lib.hid (fun W => show Calls Tryd.prog 54 #[.int .i64 4] W fun e w' => e = .returned (.int .i64 (-1)) ∧ W = w' from rwhich_any 4 W)
  have c0 : ((w.alloc (.cells #[.slice (some ad) 2 c] 41)).alloc (.cells #[.int .i64 0, .int .i64 0, .int .i64 0, .int .i64 0, .int .i64 0, .string ⟨#[]⟩] 48)).cell? ad = some (.int .i64 4) := (((below_box w _).alloc (by simp) _).cell (p := ad) hlt).trans hc0
  have c1 : ((w.alloc (.cells #[.slice (some ad) 2 c] 41)).alloc (.cells #[.int .i64 0, .int .i64 0, .int .i64 0, .int .i64 0, .int .i64 0, .string ⟨#[]⟩] 48)).cell? ⟨ad.block, ad.off + 1, none⟩ = some (.int .i64 a) := (((below_box w _).alloc (by simp) _).cell (p := ⟨ad.block, ad.off + 1, none⟩) hlt).trans hc1
  have hX := Sty.Box.new (w.alloc (.cells #[.slice (some ad) 2 c] 41)) #[.int .i64 0, .int .i64 0, .int .i64 0, .int .i64 0, .int .i64 0, .string ⟨#[]⟩] 48
  rw [World.size_alloc] at hX
  have HX := Lib.hid (show Sty.Box ((w.alloc (.cells #[.slice (some ad) 2 c] 41)).alloc (.cells #[.int .i64 0, .int .i64 0, .int .i64 0, .int .i64 0, .int .i64 0, .string ⟨#[]⟩] 48)) (w.heap.size + 1) (Sty.cP zP) from hX)
  have HB := Lib.hid (show Below w.heap.size w ((w.alloc (.cells #[.slice (some ad) 2 c] 41)).alloc (.cells #[.int .i64 0, .int .i64 0, .int .i64 0, .int .i64 0, .int .i64 0, .string ⟨#[]⟩] 48)) from (below_box w _).alloc (by simp) _)
  clear hX hc0 hc1
  go_enter Tryd.func58, Tryd.ntmps58
  go_wp2_with (first
    | (go_at_call 54; refine (HW.out _).mono ?_; rintro e w2 ⟨rfl, rfl⟩)
    | (go_at_call 32; refine (rpen_lit _ _ _).mono ?_; rintro e w2 ⟨rfl, hb⟩; have HX2 := Lib.hid (HX.out.keep hb); have HB2 := Lib.hid (Par.up HB.out hb); have x0 := HX2.out.cell 0 _ rfl; have f0 := HX2.out.free 0 (by show 0 < 6; decide); have x1 := HX2.out.cell 1 _ rfl; have f1 := HX2.out.free 1 (by show 1 < 6; decide); have x2 := HX2.out.cell 2 _ rfl; have f2 := HX2.out.free 2 (by show 2 < 6; decide); have x3 := HX2.out.cell 3 _ rfl; have f3 := HX2.out.free 3 (by show 3 < 6; decide); have x4 := HX2.out.cell 4 _ rfl; have f4 := HX2.out.free 4 (by show 4 < 6; decide); have x5 := HX2.out.cell 5 _ rfl; have f5 := HX2.out.free 5 (by show 5 < 6; decide); clear hb))
  refine bodyPost_ret (ret_cell2 rfl _ _ ⟨w.heap.size + 1, 0, none⟩ _ rfl (put_c6 _ _ _ _ _ _ HX2.out)) rfl ?_
  exact ⟨rfl, below_c6 _ _ _ _ _ _ _ HB2.out (Nat.le_succ _)⟩
set_option maxRecDepth 100000 in
set_option maxHeartbeats 4000000 in
theorem ralone_4m (ad : Addr) (c : Nat) (a : Int) (w : World) (hlt : ad.block < w.heap.size) (hc0 : w.cell? ad = some (.int .i64 4)) (hc1 : w.cell? ⟨ad.block, ad.off + 1, none⟩ = some (.int .i64 a)) (h0 : a < 0) :
    Calls Tryd.prog 58 #[.agg #[.slice (some ad) 2 c]] w (OptPost w none) := by
  have HW := Lib.hid (fun W => show Calls Tryd.prog 54 #[.int .i64 4] W fun e w' => e = .returned (.int .i64 (-1)) ∧ W = w' from rwhich_any 4 W)
  have c0 : ((w.alloc (.cells #[.slice (some ad) 2 c] 41)).alloc (.cells #[.int .i64 0, .int .i64 0, .int .i64 0, .int .i64 0, .int .i64 0, .string ⟨#[]⟩] 48)).cell? ad = some (.int .i64 4) := (((below_box w _).alloc (by simp) _).cell (p := ad) hlt).trans hc0
  have c1 : ((w.alloc (.cells #[.slice (some ad) 2 c] 41)).alloc (.cells #[.int .i64 0, .int .i64 0, .int .i64 0, .int .i64 0, .int .i64 0, .string ⟨#[]⟩] 48)).cell? ⟨ad.block, ad.off + 1, none⟩ = some (.int .i64 a) := (((below_box w _).alloc (by simp) _).cell (p := ⟨ad.block, ad.off + 1, none⟩) hlt).trans hc1
  have hX := Sty.Box.new (w.alloc (.cells #[.slice (some ad) 2 c] 41)) #[.int .i64 0, .int .i64 0, .int .i64 0, .int .i64 0, .int .i64 0, .string ⟨#[]⟩] 48
  rw [World.size_alloc] at hX
  have HX := Lib.hid (show Sty.Box ((w.alloc (.cells #[.slice (some ad) 2 c] 41)).alloc (.cells #[.int .i64 0, .int .i64 0, .int .i64 0, .int .i64 0, .int .i64 0, .string ⟨#[]⟩] 48)) (w.heap.size + 1) (Sty.cP zP) from hX)
  have HB := Lib.hid (show Below w.heap.size w ((w.alloc (.cells #[.slice (some ad) 2 c] 41)).alloc (.cells #[.int .i64 0, .int .i64 0, .int .i64 0, .int .i64 0, .int .i64 0, .string ⟨#[]⟩] 48)) from (below_box w _).alloc (by simp) _)
  have g0 : ¬ (0 ≤ a) := by omega
  clear hX hc0 hc1 h0
  go_enter Tryd.func58, Tryd.ntmps58
  go_upto_region 10 with (go_at_call 54; refine (HW.out _).mono ?_; rintro e w2 ⟨rfl, rfl⟩)
  have x0 := HX.out.cell 0 _ rfl
  have f0 := HX.out.free 0 (by show 0 < 6; decide)
  have x1 := HX.out.cell 1 _ rfl
  have f1 := HX.out.free 1 (by show 1 < 6; decide)
  have x2 := HX.out.cell 2 _ rfl
  have f2 := HX.out.free 2 (by show 2 < 6; decide)
  have x3 := HX.out.cell 3 _ rfl
  have f3 := HX.out.free 3 (by show 3 < 6; decide)
  have x4 := HX.out.cell 4 _ rfl
  have f4 := HX.out.free 4 (by show 4 < 6; decide)
  have x5 := HX.out.cell 5 _ rfl
  have f5 := HX.out.free 5 (by show 5 < 6; decide)
  go_region
  go_wp2_with fail
  go_region
  go_wp2_with fail
  have HX2 := Lib.hid ((HX.out.keep ((Below.refl _ _).drew)).keep ((Below.refl _ _).drew))
  have HB2 := Lib.hid (Par.up (Par.up HB.out ((Below.refl _ _).drew)) ((Below.refl _ _).drew))
  refine bodyPost_ret (ret_cell2 rfl _ _ ⟨w.heap.size + 1, 0, none⟩ _ rfl (load_p zP HX2.out)) rfl ?_
  exact ⟨rfl, HB2.out⟩
set_option maxRecDepth 100000 in
set_option maxHeartbeats 4000000 in
theorem ralone_4p (ad : Addr) (c : Nat) (a : Int) (w : World) (hlt : ad.block < w.heap.size) (hc0 : w.cell? ad = some (.int .i64 4)) (hc1 : w.cell? ⟨ad.block, ad.off + 1, none⟩ = some (.int .i64 a)) (h0 : 5 < a) :
    Calls Tryd.prog 58 #[.agg #[.slice (some ad) 2 c]] w (OptPost w none) := by
  have HW := Lib.hid (fun W => show Calls Tryd.prog 54 #[.int .i64 4] W fun e w' => e = .returned (.int .i64 (-1)) ∧ W = w' from rwhich_any 4 W)
  have c0 : ((w.alloc (.cells #[.slice (some ad) 2 c] 41)).alloc (.cells #[.int .i64 0, .int .i64 0, .int .i64 0, .int .i64 0, .int .i64 0, .string ⟨#[]⟩] 48)).cell? ad = some (.int .i64 4) := (((below_box w _).alloc (by simp) _).cell (p := ad) hlt).trans hc0
  have c1 : ((w.alloc (.cells #[.slice (some ad) 2 c] 41)).alloc (.cells #[.int .i64 0, .int .i64 0, .int .i64 0, .int .i64 0, .int .i64 0, .string ⟨#[]⟩] 48)).cell? ⟨ad.block, ad.off + 1, none⟩ = some (.int .i64 a) := (((below_box w _).alloc (by simp) _).cell (p := ⟨ad.block, ad.off + 1, none⟩) hlt).trans hc1
  have hX := Sty.Box.new (w.alloc (.cells #[.slice (some ad) 2 c] 41)) #[.int .i64 0, .int .i64 0, .int .i64 0, .int .i64 0, .int .i64 0, .string ⟨#[]⟩] 48
  rw [World.size_alloc] at hX
  have HX := Lib.hid (show Sty.Box ((w.alloc (.cells #[.slice (some ad) 2 c] 41)).alloc (.cells #[.int .i64 0, .int .i64 0, .int .i64 0, .int .i64 0, .int .i64 0, .string ⟨#[]⟩] 48)) (w.heap.size + 1) (Sty.cP zP) from hX)
  have HB := Lib.hid (show Below w.heap.size w ((w.alloc (.cells #[.slice (some ad) 2 c] 41)).alloc (.cells #[.int .i64 0, .int .i64 0, .int .i64 0, .int .i64 0, .int .i64 0, .string ⟨#[]⟩] 48)) from (below_box w _).alloc (by simp) _)
  have g0 : 0 ≤ a := by omega
  have g1 : ¬ (a ≤ 5) := by omega
  clear hX hc0 hc1 h0
  go_enter Tryd.func58, Tryd.ntmps58
  go_upto_region 10 with (go_at_call 54; refine (HW.out _).mono ?_; rintro e w2 ⟨rfl, rfl⟩)
  have x0 := HX.out.cell 0 _ rfl
  have f0 := HX.out.free 0 (by show 0 < 6; decide)
  have x1 := HX.out.cell 1 _ rfl
  have f1 := HX.out.free 1 (by show 1 < 6; decide)
  have x2 := HX.out.cell 2 _ rfl
  have f2 := HX.out.free 2 (by show 2 < 6; decide)
  have x3 := HX.out.cell 3 _ rfl
  have f3 := HX.out.free 3 (by show 3 < 6; decide)
  have x4 := HX.out.cell 4 _ rfl
  have f4 := HX.out.free 4 (by show 4 < 6; decide)
  have x5 := HX.out.cell 5 _ rfl
  have f5 := HX.out.free 5 (by show 5 < 6; decide)
  go_region
  go_wp2_with fail
  go_region
  go_wp2_with fail
  have HX2 := Lib.hid ((HX.out.keep ((Below.refl _ _).drew)).keep ((Below.refl _ _).drew))
  have HB2 := Lib.hid (Par.up (Par.up HB.out ((Below.refl _ _).drew)) ((Below.refl _ _).drew))
  refine bodyPost_ret (ret_cell2 rfl _ _ ⟨w.heap.size + 1, 0, none⟩ _ rfl (load_p zP HX2.out)) rfl ?_
  exact ⟨rfl, HB2.out⟩
set_option maxRecDepth 100000 in
set_option maxHeartbeats 4000000 in
/-- 4 and more than one part behind it -/
theorem ralone_4n (ad : Addr) (n c : Nat) (w : World) (hlt : ad.block < w.heap.size) (hc0 : w.cell? ad = some (.int .i64 4)) (hn : 3 ≤ n) :
    Calls Tryd.prog 58 #[.agg #[.slice (some ad) n c]] w (OptPost w none) := by
  have HW := Lib.hid (fun W => show Calls Tryd.prog 54 #[.int .i64 4] W fun e w' => e = .returned (.int .i64 (-1)) ∧ W = w' from rwhich_any 4 W)
  have c0 : ((w.alloc (.cells #[.slice (some ad) n c] 41)).alloc (.cells #[.int .i64 0, .int .i64 0, .int .i64 0, .int .i64 0, .int .i64 0, .string ⟨#[]⟩] 48)).cell? ad = some (.int .i64 4) := (((below_box w _).alloc (by simp) _).cell (p := ad) hlt).trans hc0
  have hX := Sty.Box.new (w.alloc (.cells #[.slice (some ad) n c] 41)) #[.int .i64 0, .int .i64 0, .int .i64 0, .int .i64 0, .int .i64 0, .string ⟨#[]⟩] 48
  rw [World.size_alloc] at hX
  have HX := Lib.hid (show Sty.Box ((w.alloc (.cells #[.slice (some ad) n c] 41)).alloc (.cells #[.int .i64 0, .int .i64 0, .int .i64 0, .int .i64 0, .int .i64 0, .string ⟨#[]⟩] 48)) (w.heap.size + 1) (Sty.cP zP) from hX)
  have HB := Lib.hid (show Below w.heap.size w ((w.alloc (.cells #[.slice (some ad) n c] 41)).alloc (.cells #[.int .i64 0, .int .i64 0, .int .i64 0, .int .i64 0, .int .i64 0, .string ⟨#[]⟩] 48)) from (below_box w _).alloc (by simp) _)
  have n1 : ¬ n = 1 := by omega
  have n2 : ((n : Int) == 1) = false := by simp; omega
  have n3 : ¬ n = 2 := by omega
  have n4 : ((n : Int) == 2) = false := by simp; omega
  have q0 : (0 : Int) < (n : Int) := by omega
  have q1 : 0 < n := by omega
  clear hX hc0 hn
  go_enter Tryd.func58, Tryd.ntmps58
  go_upto_region 10 with (go_at_call 54; refine (HW.out _).mono ?_; rintro e w2 ⟨rfl, rfl⟩)
  have x0 := HX.out.cell 0 _ rfl
  have f0 := HX.out.free 0 (by show 0 < 6; decide)
  have x1 := HX.out.cell 1 _ rfl
  have f1 := HX.out.free 1 (by show 1 < 6; decide)
  have x2 := HX.out.cell 2 _ rfl
  have f2 := HX.out.free 2 (by show 2 < 6; decide)
  have x3 := HX.out.cell 3 _ rfl
  have f3 := HX.out.free 3 (by show 3 < 6; decide)
  have x4 := HX.out.cell 4 _ rfl
  have f4 := HX.out.free 4 (by show 4 < 6; decide)
  have x5 := HX.out.cell 5 _ rfl
  have f5 := HX.out.free 5 (by show 5 < 6; decide)
  go_region
  go_wp2_with fail
  go_region
  go_wp2_with fail
  have HX2 := Lib.hid ((HX.out.keep ((Below.refl _ _).drew)).keep ((Below.refl _ _).drew))
  have HB2 := Lib.hid (Par.up (Par.up HB.out ((Below.refl _ _).drew)) ((Below.refl _ _).drew))
  refine bodyPost_ret (ret_cell2 rfl _ _ ⟨w.heap.size + 1, 0, none⟩ _ rfl (load_p zP HX2.out)) rfl ?_
  exact ⟨rfl, HB2.out⟩
end Go.Proofs.YteepfecplabinaaDoor.Sgr
