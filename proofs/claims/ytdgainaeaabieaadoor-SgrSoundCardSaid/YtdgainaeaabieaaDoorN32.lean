/-
  SgrQ SgrR SgrRow
-/
import Derived.WalkKit
import Derived.ProofKit
import Derived.OpenShut
import Derived.Deep.DeepHandedRow
import Derived.Lib.LaidTab
import Derived.Lib.LaidU8
import Derived.Lib.SmallJoins
import Derived.Test.YtdgainaeaabieaaDoorCards
import Derived.Test.YtdgainaeaabieaaDoorTie
import Derived.Test.YtdgainaeaabieaaDoorN27
import Derived.Test.YtdgainaeaabieaaDoorN28
import Derived.Test.YtdgainaeaabieaaDoorN31
namespace Go.Proofs.YtdgainaeaabieaaDoor.Sgr
open Go.RowKit Utf

theorem lpen_any (n m : Int) (w : World) : Calls Tryd.prog 27 #[.int .i64 n, .int .i64 m] w fun e w' => e = .returned (qV (pq n m)) ∧ Below w.heap.size w w' := by
  go_enter Tryd.func27, Tryd.ntmps27
  go_wp2
  refine bodyPost_ret (ret_cell1 rfl _ _ ⟨w.heap.size, 0, none⟩ _ rfl (load_q (q := pq n m) (Par.Box.new w _ _))) rfl ?_
  exact ⟨rfl, below_box _ _⟩
theorem lcolored_any (n k c : Int) (w : World) : Calls Tryd.prog 28 #[.int .i64 n, .int .i64 k, .int .i64 c] w fun e w' => e = .returned (qV (cq n k c)) ∧ Below w.heap.size w w' := by
  go_enter Tryd.func28, Tryd.ntmps28
  go_wp2
  refine bodyPost_ret (ret_cell1 rfl _ _ ⟨w.heap.size, 0, none⟩ _ rfl (load_q (q := cq n k c) (Par.Box.new w _ _))) rfl ?_
  exact ⟨rfl, below_box _ _⟩
theorem eq_pP (a b : Q4) : Sty.eqP (pP a) (pP b) = decide (a = b) := by
  obtain ⟨n, m, x, y⟩ := a
  obtain ⟨n', m', x', y'⟩ := b
  unfold Sty.eqP pP
  simp
  rfl
theorem take_eq {a b : List Q4} {k : Nat} {x y : Q4} (hx : a[k]? = some x) (hy : b[k]? = some y) (h : a.take k = b.take k) : x = y → a.take (k + 1) = b.take (k + 1) := fun e => by
  rw [List.take_add_one, List.take_add_one, hx, hy, h, e]
set_option maxRecDepth 100000 in
set_option maxHeartbeats 2000000 in
/-- two rows of pens are the same -/
theorem same9_any (A B : Option Addr) (n m c d : Nat) (us vs : List Q4) (w : World) (hn : n = us.length) (hm : m = vs.length) (ha : Sty.RdP w A (pPs us)) (hb : Sty.RdP w B (pPs vs)) (hl : n ≤ 1000000) :
    Calls Tryd.prog 15 #[.slice A n c, .slice B m d] w fun e w' => e = .returned (.bool (decide (us = vs))) ∧ Below w.heap.size w w' := by
  by_cases hne : n = m
  · subst hne
    have HA := Lib.hid ha; clear ha
    have HB := Lib.hid hb; clear hb
    have Hn := Lib.hid hn; clear hn
    have Hm := Lib.hid hm; clear hm
    have hb1 : ((n : Int) != (n : Int)) = false := by simp
    go_enter Tryd.func15, Tryd.ntmps15
    go_wp2
    go_loopw [5] (fun i wr => ∃ k : Nat, k ≤ n ∧ i = .int .i64 k ∧ Hid (us.take k = vs.take k ∧ Below w.heap.size w wr)) (fun i _ => n - (intOf i).toNat)
    case atStart => exact ⟨0, Nat.zero_le _, rfl, by simp [Hid]; exact Below.refl _ _⟩
    case round =>
      obtain ⟨k, hk, rfl, hid⟩ := hrel
      by_cases hlt : k < n
      · obtain ⟨x, hx⟩ := Par.get_some us k (by rw [← Hn.out]; exact hlt)
        obtain ⟨y, hy⟩ := Par.get_some vs k (by rw [← Hm.out]; exact hlt)
        obtain ⟨b, o, rfl, hbl, hrg⟩ := HA.out k (pP x) (by unfold pPs; simp [hx])
        obtain ⟨b2, o2, rfl, hbl2, hrg2⟩ := HB.out k (pP y) (by unfold pPs; simp [hy])
        have e1 := fun W => Sty.ix_run b o n c k hlt W
        have e2 := fun W => Sty.ix_run b2 o2 n d k hlt W
        have hw : Below w.heap.size w wr.drew := hid.out.2.drew
        have x0 : wr.drew.cell? ⟨b, o + k * 6, none⟩ = some (.int .i64 39) := (hw.cell (p := ⟨b, o + k * 6, none⟩) hbl).trans (hrg 0 _ rfl)
        have x1 : wr.drew.cell? ⟨b, o + k * 6 + 1, none⟩ = some (.int .i64 x.n) := (hw.cell (p := ⟨b, o + k * 6 + 1, none⟩) hbl).trans (hrg 1 _ rfl)
        have x2 : wr.drew.cell? ⟨b, o + k * 6 + 2, none⟩ = some (.int .i64 x.m) := (hw.cell (p := ⟨b, o + k * 6 + 2, none⟩) hbl).trans (hrg 2 _ rfl)
        have x3 : wr.drew.cell? ⟨b, o + k * 6 + 3, none⟩ = some (.int .i64 x.c0) := (hw.cell (p := ⟨b, o + k * 6 + 3, none⟩) hbl).trans (hrg 3 _ rfl)
        have x4 : wr.drew.cell? ⟨b, o + k * 6 + 4, none⟩ = some (.int .i64 x.c1) := (hw.cell (p := ⟨b, o + k * 6 + 4, none⟩) hbl).trans (hrg 4 _ rfl)
        have x5 : wr.drew.cell? ⟨b, o + k * 6 + 5, none⟩ = some (.string ⟨#[]⟩) := (hw.cell (p := ⟨b, o + k * 6 + 5, none⟩) hbl).trans (hrg 5 _ rfl)
        have y0 : wr.drew.cell? ⟨b2, o2 + k * 6, none⟩ = some (.int .i64 39) := (hw.cell (p := ⟨b2, o2 + k * 6, none⟩) hbl2).trans (hrg2 0 _ rfl)
        have y1 : wr.drew.cell? ⟨b2, o2 + k * 6 + 1, none⟩ = some (.int .i64 y.n) := (hw.cell (p := ⟨b2, o2 + k * 6 + 1, none⟩) hbl2).trans (hrg2 1 _ rfl)
        have y2 : wr.drew.cell? ⟨b2, o2 + k * 6 + 2, none⟩ = some (.int .i64 y.m) := (hw.cell (p := ⟨b2, o2 + k * 6 + 2, none⟩) hbl2).trans (hrg2 2 _ rfl)
        have y3 : wr.drew.cell? ⟨b2, o2 + k * 6 + 3, none⟩ = some (.int .i64 y.c0) := (hw.cell (p := ⟨b2, o2 + k * 6 + 3, none⟩) hbl2).trans (hrg2 3 _ rfl)
        have y4 : wr.drew.cell? ⟨b2, o2 + k * 6 + 4, none⟩ = some (.int .i64 y.c1) := (hw.cell (p := ⟨b2, o2 + k * 6 + 4, none⟩) hbl2).trans (hrg2 4 _ rfl)
        have y5 : wr.drew.cell? ⟨b2, o2 + k * 6 + 5, none⟩ = some (.string ⟨#[]⟩) := (hw.cell (p := ⟨b2, o2 + k * 6 + 5, none⟩) hbl2).trans (hrg2 5 _ rfl)
        have HW := Lib.hid hw
        have He := eq_pP x y
        have e3 := fun W => Sty.neqP 39 x.n x.m x.c0 x.c1 39 y.n y.m y.c0 y.c1 ⟨#[]⟩ ⟨#[]⟩ W
        have He2 : Sty.eqP ⟨39, x.n, x.m, x.c0, x.c1, ⟨#[]⟩⟩ ⟨39, y.n, y.m, y.c0, y.c1, ⟨#[]⟩⟩ = decide (x = y) := He
        rw [He2] at e3
        have HxK := Lib.hid hx
        have HyK := Lib.hid hy
        clear hrg hrg2 hw He He2 hx hy
        by_cases hxy : x = y
        · rw [decide_eq_true hxy, Bool.not_true] at e3
          have Hxy := Lib.hid hxy; clear hxy
          go_wp2
          go_region
          all_goals
            go_wp2
            go_roundw
            case rel => exact ⟨k + 1, by omega, by go_num, take_eq HxK.out HyK.out hid.out.1 Hxy.out, HW.out⟩
            case measure => simp [intOf]; omega
        · rw [decide_eq_false hxy, Bool.not_false] at e3
          have Hxy := Lib.hid hxy; clear hxy
          go_wp2
          go_region
          all_goals
            go_wp2
            go_ret
            refine ⟨?_, HW.out⟩
            rw [decide_eq_false (fun e : us = vs => Hxy.out (by have h1 := HxK.out; rw [e, HyK.out] at h1; simpa using h1.symm))]; rfl
      · go_wp2
        go_ret
        have he : us = vs := by
          have := hid.out.1
          rw [List.take_of_length_le (by rw [← Hn.out]; omega), List.take_of_length_le (by rw [← Hm.out]; omega)] at this
          exact this
        exact ⟨by rw [decide_eq_true he]; rfl, hid.out.2⟩
  · have hb1 : ((n : Int) != (m : Int)) = true := by rw [bne_iff_ne]; omega
    have Hd := Lib.hid (show decide (us = vs) = false from decide_eq_false fun e => hne (by rw [hn, hm, e]))
    clear ha hb hn hm hne
    go_enter Tryd.func15, Tryd.ntmps15
    go_wp2
    go_ret
    exact ⟨by rw [Hd.out]; rfl, Below.refl _ _⟩
theorem own_form {w : World} {B : Nat} {v : Value} {qs : List Q4} (h : Sty.OwnP w B v (pPs qs)) : ∃ A c, v = .slice A qs.length c ∧ Sty.RdP w A (pPs qs) := by
  obtain ⟨A, c, rfl, -, -⟩ := h.form
  refine ⟨A, c, ?_, h.rd⟩
  unfold pPs
  rw [List.length_map]
theorem pensV_len (x : List (List Int)) (h : x.length ≤ 1000000) : (pensV x).1.length ≤ 1000000 := by
  unfold pensV
  split
  · exact Nat.zero_le _
  · have := pensL_len x
    show (pensL x).length ≤ _
    omega
set_option maxRecDepth 100000 in
set_option maxHeartbeats 2000000 in
/-- a text denotes these pens -/
theorem says_yes (s : ByteArray) (x : List (List Int)) (qs : List Q4) (A : Option Addr) (n c : Nat) (w : World) (he : Env w) (hn : n = qs.length) (hr : Sty.RdP w A (pPs qs)) (hp : Par.prsV s.data.toList = (x, 0)) (hq : pensV x = (qs, 0)) :
    Calls Tryd.prog 26 #[.string s, .slice A n c] w fun e w' => e = .returned (.bool true) ∧ Below w.heap.size w w' := by
  have HP := Lib.hid (Par.parse_any s w)
  have hsz := Par.sz_prsV s.data.toList
  rw [hp] at HP hsz
  have hqn : n ≤ 1000000 := by
    have := pensV_len x hsz.1
    rw [hq] at this
    rw [hn]; exact this
  have HQ := Lib.hid (fun v W he h => pens_any v x W he h hsz.1 hsz.2)
  unfold PensPost at HQ
  rw [hq] at HQ
  have HE := Lib.hid he
  have HR := Lib.hid hr
  have Hn := Lib.hid hn
  clear hp hq hsz he hr hn
  go_enter Tryd.func26, Tryd.ntmps26
  go_wp2_with (first
    | (go_at_call 22; refine HP.out.mono ?_; rintro e w1 ⟨v1, rfl, hv1, hb1⟩; obtain ⟨A1, c1, hs1⟩ := hv1.1.form; subst hs1; have HV1 := Lib.hid hv1.1; have HB1 := Lib.hid hb1; clear hv1 hb1)
    | (go_at_call 13; refine (HQ.out _ _ (HE.out.keep HB1.out) HV1.out).mono ?_; rintro e w2 ⟨v2, rfl, hv2, hb2⟩; obtain ⟨A2, c2, hs2, hr2⟩ := own_form hv2; subst hs2; have HR2 := Lib.hid hr2; have HB2 := Lib.hid (Par.up HB1.out hb2); clear hv2 hr2 hb2)
    | (go_at_call 15; refine (same9_any A2 A qs.length n c2 c qs qs _ rfl Hn.out HR2.out (HR.out.keep HB2.out) (by rw [← Hn.out]; exact hqn)).mono ?_; rw [decide_eq_true (rfl : qs = qs)]; rintro e w3 ⟨rfl, hb3⟩; have HB3 := Lib.hid (Par.up HB2.out hb3); clear hb3))
  go_ret
  exact ⟨rfl, HB3.out⟩
end Go.Proofs.YtdgainaeaabieaaDoor.Sgr

namespace Go.Proofs.YtdgainaeaabieaaDoor.Sgr
open Go.RowKit Utf

/-- a literal of pens -/
theorem lit_rd (W : World) (qs : List Q4) (cs : Array Value) (h : cs.toList = (pPs qs).flatMap Sty.cP) (hl : (pPs qs).length ≤ maxLen) : Sty.RdP (W.alloc (.cells cs 48)) (some ⟨W.heap.size, 0, none⟩) (pPs qs) :=
  (Sty.OwnP.new W 0 (Nat.zero_le _) (pPs qs) cs h hl).rd
/-- as the laws want it -/
structure EnvT (w : World) : Prop where
  e : Env w
  t : Par.Tab w
theorem EnvT.keep {w w' : World} (h : EnvT w) (hb : Below w.heap.size w w') : EnvT w' := ⟨h.e.keep hb, h.t.keep hb⟩
set_option maxRecDepth 100000 in
set_option maxHeartbeats 4000000 in
theorem works_any (w : World) (het : EnvT w) : Calls Tryd.prog 16 #[] w fun e w' => e = .returned (.bool true) ∧ Below w.heap.size w w' := by
  have S0 := Lib.hid (show ∀ W, Env W → Calls Tryd.prog 26 #[.string ⟨#[]⟩, .slice (some ⟨W.heap.size, 0, none⟩) 1 1] (W.alloc (.cells #[.int .i64 39, .int .i64 0, .int .i64 0, .int .i64 0, .int .i64 0, .string ⟨#[]⟩] 48)) fun e w' => e = .returned (.bool true) ∧ Below (W.alloc (.cells #[.int .i64 39, .int .i64 0, .int .i64 0, .int .i64 0, .int .i64 0, .string ⟨#[]⟩] 48)).heap.size (W.alloc (.cells #[.int .i64 39, .int .i64 0, .int .i64 0, .int .i64 0, .int .i64 0, .string ⟨#[]⟩] 48)) w' from fun W h =>
    says_yes _ _ [(pq 0 0)] _ _ _ _ (h.keep (below_box _ _)) rfl (lit_rd W [(pq 0 0)] #[.int .i64 39, .int .i64 0, .int .i64 0, .int .i64 0, .int .i64 0, .string ⟨#[]⟩] rfl (by decide)) (by decide +kernel : Par.prsV [] = ((Par.prsV []).1, 0)) (by decide +kernel))
  have S1 := Lib.hid (show ∀ W, Env W → Calls Tryd.prog 26 #[.string ⟨#[48]⟩, .slice (some ⟨W.heap.size, 0, none⟩) 1 1] (W.alloc (.cells #[.int .i64 39, .int .i64 0, .int .i64 0, .int .i64 0, .int .i64 0, .string ⟨#[]⟩] 48)) fun e w' => e = .returned (.bool true) ∧ Below (W.alloc (.cells #[.int .i64 39, .int .i64 0, .int .i64 0, .int .i64 0, .int .i64 0, .string ⟨#[]⟩] 48)).heap.size (W.alloc (.cells #[.int .i64 39, .int .i64 0, .int .i64 0, .int .i64 0, .int .i64 0, .string ⟨#[]⟩] 48)) w' from fun W h =>
    says_yes _ _ [(pq 0 0)] _ _ _ _ (h.keep (below_box _ _)) rfl (lit_rd W [(pq 0 0)] #[.int .i64 39, .int .i64 0, .int .i64 0, .int .i64 0, .int .i64 0, .string ⟨#[]⟩] rfl (by decide)) (by decide +kernel : Par.prsV [48] = ((Par.prsV [48]).1, 0)) (by decide +kernel))
  have S2 := Lib.hid (show ∀ W, Env W → Calls Tryd.prog 26 #[.string ⟨#[59]⟩, .slice (some ⟨W.heap.size, 0, none⟩) 2 2] (W.alloc (.cells #[.int .i64 39, .int .i64 0, .int .i64 0, .int .i64 0, .int .i64 0, .string ⟨#[]⟩, .int .i64 39, .int .i64 0, .int .i64 0, .int .i64 0, .int .i64 0, .string ⟨#[]⟩] 48)) fun e w' => e = .returned (.bool true) ∧ Below (W.alloc (.cells #[.int .i64 39, .int .i64 0, .int .i64 0, .int .i64 0, .int .i64 0, .string ⟨#[]⟩, .int .i64 39, .int .i64 0, .int .i64 0, .int .i64 0, .int .i64 0, .string ⟨#[]⟩] 48)).heap.size (W.alloc (.cells #[.int .i64 39, .int .i64 0, .int .i64 0, .int .i64 0, .int .i64 0, .string ⟨#[]⟩, .int .i64 39, .int .i64 0, .int .i64 0, .int .i64 0, .int .i64 0, .string ⟨#[]⟩] 48)) w' from fun W h =>
    says_yes _ _ [(pq 0 0), (pq 0 0)] _ _ _ _ (h.keep (below_box _ _)) rfl (lit_rd W [(pq 0 0), (pq 0 0)] #[.int .i64 39, .int .i64 0, .int .i64 0, .int .i64 0, .int .i64 0, .string ⟨#[]⟩, .int .i64 39, .int .i64 0, .int .i64 0, .int .i64 0, .int .i64 0, .string ⟨#[]⟩] rfl (by decide)) (by decide +kernel : Par.prsV [59] = ((Par.prsV [59]).1, 0)) (by decide +kernel))
  have S3 := Lib.hid (show ∀ W, Env W → Calls Tryd.prog 26 #[.string ⟨#[49, 59, 51, 49, 59, 52, 58, 51]⟩, .slice (some ⟨W.heap.size, 0, none⟩) 3 3] (W.alloc (.cells #[.int .i64 39, .int .i64 1, .int .i64 1, .int .i64 0, .int .i64 0, .string ⟨#[]⟩, .int .i64 39, .int .i64 4, .int .i64 0, .int .i64 1, .int .i64 1, .string ⟨#[]⟩, .int .i64 39, .int .i64 3, .int .i64 3, .int .i64 0, .int .i64 0, .string ⟨#[]⟩] 48)) fun e w' => e = .returned (.bool true) ∧ Below (W.alloc (.cells #[.int .i64 39, .int .i64 1, .int .i64 1, .int .i64 0, .int .i64 0, .string ⟨#[]⟩, .int .i64 39, .int .i64 4, .int .i64 0, .int .i64 1, .int .i64 1, .string ⟨#[]⟩, .int .i64 39, .int .i64 3, .int .i64 3, .int .i64 0, .int .i64 0, .string ⟨#[]⟩] 48)).heap.size (W.alloc (.cells #[.int .i64 39, .int .i64 1, .int .i64 1, .int .i64 0, .int .i64 0, .string ⟨#[]⟩, .int .i64 39, .int .i64 4, .int .i64 0, .int .i64 1, .int .i64 1, .string ⟨#[]⟩, .int .i64 39, .int .i64 3, .int .i64 3, .int .i64 0, .int .i64 0, .string ⟨#[]⟩] 48)) w' from fun W h =>
    says_yes _ _ [(pq 1 1), (cq 4 1 1), (pq 3 3)] _ _ _ _ (h.keep (below_box _ _)) rfl (lit_rd W [(pq 1 1), (cq 4 1 1), (pq 3 3)] #[.int .i64 39, .int .i64 1, .int .i64 1, .int .i64 0, .int .i64 0, .string ⟨#[]⟩, .int .i64 39, .int .i64 4, .int .i64 0, .int .i64 1, .int .i64 1, .string ⟨#[]⟩, .int .i64 39, .int .i64 3, .int .i64 3, .int .i64 0, .int .i64 0, .string ⟨#[]⟩] rfl (by decide)) (by decide +kernel : Par.prsV [49, 59, 51, 49, 59, 52, 58, 51] = ((Par.prsV [49, 59, 51, 49, 59, 52, 58, 51]).1, 0)) (by decide +kernel))
  have S4 := Lib.hid (show ∀ W, Env W → Calls Tryd.prog 26 #[.string ⟨#[51, 56, 59, 53, 59, 50, 48, 48, 59, 55]⟩, .slice (some ⟨W.heap.size, 0, none⟩) 2 2] (W.alloc (.cells #[.int .i64 39, .int .i64 4, .int .i64 0, .int .i64 1, .int .i64 200, .string ⟨#[]⟩, .int .i64 39, .int .i64 1, .int .i64 16, .int .i64 0, .int .i64 0, .string ⟨#[]⟩] 48)) fun e w' => e = .returned (.bool true) ∧ Below (W.alloc (.cells #[.int .i64 39, .int .i64 4, .int .i64 0, .int .i64 1, .int .i64 200, .string ⟨#[]⟩, .int .i64 39, .int .i64 1, .int .i64 16, .int .i64 0, .int .i64 0, .string ⟨#[]⟩] 48)).heap.size (W.alloc (.cells #[.int .i64 39, .int .i64 4, .int .i64 0, .int .i64 1, .int .i64 200, .string ⟨#[]⟩, .int .i64 39, .int .i64 1, .int .i64 16, .int .i64 0, .int .i64 0, .string ⟨#[]⟩] 48)) w' from fun W h =>
    says_yes _ _ [(cq 4 1 200), (pq 1 16)] _ _ _ _ (h.keep (below_box _ _)) rfl (lit_rd W [(cq 4 1 200), (pq 1 16)] #[.int .i64 39, .int .i64 4, .int .i64 0, .int .i64 1, .int .i64 200, .string ⟨#[]⟩, .int .i64 39, .int .i64 1, .int .i64 16, .int .i64 0, .int .i64 0, .string ⟨#[]⟩] rfl (by decide)) (by decide +kernel : Par.prsV [51, 56, 59, 53, 59, 50, 48, 48, 59, 55] = ((Par.prsV [51, 56, 59, 53, 59, 50, 48, 48, 59, 55]).1, 0)) (by decide +kernel))
  have S5 := Lib.hid (show ∀ W, Env W → Calls Tryd.prog 26 #[.string ⟨#[52, 56, 58, 50, 58, 58, 49, 58, 50, 58, 51]⟩, .slice (some ⟨W.heap.size, 0, none⟩) 1 1] (W.alloc (.cells #[.int .i64 39, .int .i64 5, .int .i64 0, .int .i64 2, .int .i64 66051, .string ⟨#[]⟩] 48)) fun e w' => e = .returned (.bool true) ∧ Below (W.alloc (.cells #[.int .i64 39, .int .i64 5, .int .i64 0, .int .i64 2, .int .i64 66051, .string ⟨#[]⟩] 48)).heap.size (W.alloc (.cells #[.int .i64 39, .int .i64 5, .int .i64 0, .int .i64 2, .int .i64 66051, .string ⟨#[]⟩] 48)) w' from fun W h =>
    says_yes _ _ [(cq 5 2 66051)] _ _ _ _ (h.keep (below_box _ _)) rfl (lit_rd W [(cq 5 2 66051)] #[.int .i64 39, .int .i64 5, .int .i64 0, .int .i64 2, .int .i64 66051, .string ⟨#[]⟩] rfl (by decide)) (by decide +kernel : Par.prsV [52, 56, 58, 50, 58, 58, 49, 58, 50, 58, 51] = ((Par.prsV [52, 56, 58, 50, 58, 58, 49, 58, 50, 58, 51]).1, 0)) (by decide +kernel))
  have S6 := Lib.hid (show ∀ W, Env W → Calls Tryd.prog 26 #[.string ⟨#[53, 56, 58, 50, 58, 49, 58, 50, 58, 51]⟩, .slice (some ⟨W.heap.size, 0, none⟩) 1 1] (W.alloc (.cells #[.int .i64 39, .int .i64 6, .int .i64 0, .int .i64 2, .int .i64 66051, .string ⟨#[]⟩] 48)) fun e w' => e = .returned (.bool true) ∧ Below (W.alloc (.cells #[.int .i64 39, .int .i64 6, .int .i64 0, .int .i64 2, .int .i64 66051, .string ⟨#[]⟩] 48)).heap.size (W.alloc (.cells #[.int .i64 39, .int .i64 6, .int .i64 0, .int .i64 2, .int .i64 66051, .string ⟨#[]⟩] 48)) w' from fun W h =>
    says_yes _ _ [(cq 6 2 66051)] _ _ _ _ (h.keep (below_box _ _)) rfl (lit_rd W [(cq 6 2 66051)] #[.int .i64 39, .int .i64 6, .int .i64 0, .int .i64 2, .int .i64 66051, .string ⟨#[]⟩] rfl (by decide)) (by decide +kernel : Par.prsV [53, 56, 58, 50, 58, 49, 58, 50, 58, 51] = ((Par.prsV [53, 56, 58, 50, 58, 49, 58, 50, 58, 51]).1, 0)) (by decide +kernel))
  have S7 := Lib.hid (show ∀ W, Env W → Calls Tryd.prog 26 #[.string ⟨#[51, 56, 59, 53, 59, 50, 53, 54, 59, 49]⟩, .slice (some ⟨W.heap.size, 0, none⟩) 1 1] (W.alloc (.cells #[.int .i64 39, .int .i64 1, .int .i64 1, .int .i64 0, .int .i64 0, .string ⟨#[]⟩] 48)) fun e w' => e = .returned (.bool true) ∧ Below (W.alloc (.cells #[.int .i64 39, .int .i64 1, .int .i64 1, .int .i64 0, .int .i64 0, .string ⟨#[]⟩] 48)).heap.size (W.alloc (.cells #[.int .i64 39, .int .i64 1, .int .i64 1, .int .i64 0, .int .i64 0, .string ⟨#[]⟩] 48)) w' from fun W h =>
    says_yes _ _ [(pq 1 1)] _ _ _ _ (h.keep (below_box _ _)) rfl (lit_rd W [(pq 1 1)] #[.int .i64 39, .int .i64 1, .int .i64 1, .int .i64 0, .int .i64 0, .string ⟨#[]⟩] rfl (by decide)) (by decide +kernel : Par.prsV [51, 56, 59, 53, 59, 50, 53, 54, 59, 49] = ((Par.prsV [51, 56, 59, 53, 59, 50, 53, 54, 59, 49]).1, 0)) (by decide +kernel))
  have S8 := Lib.hid (show ∀ W, Env W → Calls Tryd.prog 26 #[.string ⟨#[51, 56, 59, 50, 59, 49, 59, 50]⟩, .slice none 0 0] W fun e w' => e = .returned (.bool true) ∧ Below W.heap.size W w' from fun W h =>
    says_yes _ _ [] _ _ _ _ h rfl (fun j p h => by simp [pPs] at h) (by decide +kernel : Par.prsV [51, 56, 59, 50, 59, 49, 59, 50] = ((Par.prsV [51, 56, 59, 50, 59, 49, 59, 50]).1, 0)) (by decide +kernel))
  have S9 := Lib.hid (show ∀ W, Env W → Calls Tryd.prog 26 #[.string ⟨#[51, 56, 59, 49]⟩, .slice (some ⟨W.heap.size, 0, none⟩) 1 1] (W.alloc (.cells #[.int .i64 39, .int .i64 1, .int .i64 1, .int .i64 0, .int .i64 0, .string ⟨#[]⟩] 48)) fun e w' => e = .returned (.bool true) ∧ Below (W.alloc (.cells #[.int .i64 39, .int .i64 1, .int .i64 1, .int .i64 0, .int .i64 0, .string ⟨#[]⟩] 48)).heap.size (W.alloc (.cells #[.int .i64 39, .int .i64 1, .int .i64 1, .int .i64 0, .int .i64 0, .string ⟨#[]⟩] 48)) w' from fun W h =>
    says_yes _ _ [(pq 1 1)] _ _ _ _ (h.keep (below_box _ _)) rfl (lit_rd W [(pq 1 1)] #[.int .i64 39, .int .i64 1, .int .i64 1, .int .i64 0, .int .i64 0, .string ⟨#[]⟩] rfl (by decide)) (by decide +kernel : Par.prsV [51, 56, 59, 49] = ((Par.prsV [51, 56, 59, 49]).1, 0)) (by decide +kernel))
  have S10 := Lib.hid (show ∀ W, Env W → Calls Tryd.prog 26 #[.string ⟨#[57, 55, 59, 49, 48, 52, 59, 50, 49, 59, 57, 57]⟩, .slice (some ⟨W.heap.size, 0, none⟩) 3 3] (W.alloc (.cells #[.int .i64 39, .int .i64 4, .int .i64 0, .int .i64 1, .int .i64 15, .string ⟨#[]⟩, .int .i64 39, .int .i64 5, .int .i64 0, .int .i64 1, .int .i64 12, .string ⟨#[]⟩, .int .i64 39, .int .i64 3, .int .i64 2, .int .i64 0, .int .i64 0, .string ⟨#[]⟩] 48)) fun e w' => e = .returned (.bool true) ∧ Below (W.alloc (.cells #[.int .i64 39, .int .i64 4, .int .i64 0, .int .i64 1, .int .i64 15, .string ⟨#[]⟩, .int .i64 39, .int .i64 5, .int .i64 0, .int .i64 1, .int .i64 12, .string ⟨#[]⟩, .int .i64 39, .int .i64 3, .int .i64 2, .int .i64 0, .int .i64 0, .string ⟨#[]⟩] 48)).heap.size (W.alloc (.cells #[.int .i64 39, .int .i64 4, .int .i64 0, .int .i64 1, .int .i64 15, .string ⟨#[]⟩, .int .i64 39, .int .i64 5, .int .i64 0, .int .i64 1, .int .i64 12, .string ⟨#[]⟩, .int .i64 39, .int .i64 3, .int .i64 2, .int .i64 0, .int .i64 0, .string ⟨#[]⟩] 48)) w' from fun W h =>
    says_yes _ _ [(cq 4 1 15), (cq 5 1 12), (pq 3 2)] _ _ _ _ (h.keep (below_box _ _)) rfl (lit_rd W [(cq 4 1 15), (cq 5 1 12), (pq 3 2)] #[.int .i64 39, .int .i64 4, .int .i64 0, .int .i64 1, .int .i64 15, .string ⟨#[]⟩, .int .i64 39, .int .i64 5, .int .i64 0, .int .i64 1, .int .i64 12, .string ⟨#[]⟩, .int .i64 39, .int .i64 3, .int .i64 2, .int .i64 0, .int .i64 0, .string ⟨#[]⟩] rfl (by decide)) (by decide +kernel : Par.prsV [57, 55, 59, 49, 48, 52, 59, 50, 49, 59, 57, 57] = ((Par.prsV [57, 55, 59, 49, 48, 52, 59, 50, 49, 59, 57, 57]).1, 0)) (by decide +kernel))
  have HQ := Lib.hid (show ∀ W, Env W → Calls Tryd.prog 18 #[.slice (some ⟨W.heap.size, 0, none⟩) 3 3] (W.alloc (.cells #[.int .i64 39, .int .i64 2, .int .i64 3, .int .i64 0, .int .i64 0, .string ⟨#[]⟩, .int .i64 39, .int .i64 5, .int .i64 0, .int .i64 1, .int .i64 9, .string ⟨#[]⟩, .int .i64 39, .int .i64 3, .int .i64 1, .int .i64 0, .int .i64 0, .string ⟨#[]⟩] 48)) (fun e w' => ∃ v, e = .returned (.tuple #[v, .int .i64 0]) ∧ Par.OwnL w' (W.heap.size + 1) v [[22], [101], [4]] ∧ Below (W.alloc (.cells #[.int .i64 39, .int .i64 2, .int .i64 3, .int .i64 0, .int .i64 0, .string ⟨#[]⟩, .int .i64 39, .int .i64 5, .int .i64 0, .int .i64 1, .int .i64 9, .string ⟨#[]⟩, .int .i64 39, .int .i64 3, .int .i64 1, .int .i64 0, .int .i64 0, .string ⟨#[]⟩] 48)).heap.size (W.alloc (.cells #[.int .i64 39, .int .i64 2, .int .i64 3, .int .i64 0, .int .i64 0, .string ⟨#[]⟩, .int .i64 39, .int .i64 5, .int .i64 0, .int .i64 1, .int .i64 9, .string ⟨#[]⟩, .int .i64 39, .int .i64 3, .int .i64 1, .int .i64 0, .int .i64 0, .string ⟨#[]⟩] 48)) w') from fun W h => by
    have := params_any (some ⟨W.heap.size, 0, none⟩) 3 3 (pPs [(pq 2 3), (cq 5 1 9), (pq 3 1)]) _ (h.keep (below_box W (.cells #[.int .i64 39, .int .i64 2, .int .i64 3, .int .i64 0, .int .i64 0, .string ⟨#[]⟩, .int .i64 39, .int .i64 5, .int .i64 0, .int .i64 1, .int .i64 9, .string ⟨#[]⟩, .int .i64 39, .int .i64 3, .int .i64 1, .int .i64 0, .int .i64 0, .string ⟨#[]⟩] 48))) rfl (lit_rd W [(pq 2 3), (cq 5 1 9), (pq 3 1)] #[.int .i64 39, .int .i64 2, .int .i64 3, .int .i64 0, .int .i64 0, .string ⟨#[]⟩, .int .i64 39, .int .i64 5, .int .i64 0, .int .i64 1, .int .i64 9, .string ⟨#[]⟩, .int .i64 39, .int .i64 3, .int .i64 1, .int .i64 0, .int .i64 0, .string ⟨#[]⟩] rfl (by decide)) (by decide)
    unfold ParsPost at this
    rw [show parsV (pPs [(pq 2 3), (cq 5 1 9), (pq 3 1)]) = ([[22], [101], [4]], 0) by decide +kernel, World.size_alloc] at this
    rw [World.size_alloc]
    exact this)
  have HPr := Lib.hid (show ∀ v W, Par.RL W v [[22], [101], [4]] → Par.Tab W → Calls Tryd.prog 21 #[v] W (fun e w' => e = .returned (.tuple #[.string ⟨#[50, 50, 59, 49, 48, 49, 59, 52]⟩, .int .i64 0]) ∧ Below W.heap.size W w') from fun v W h ht => by
    have := Par.print_any v _ W h ⟨by decide, by decide⟩ ht
    rwa [show Par.prtV [[22], [101], [4]] = ⟨#[50, 50, 59, 49, 48, 49, 59, 52]⟩ by decide +kernel, show Par.chkV [[22], [101], [4]] = 0 by decide +kernel] at this)
  have HE := Lib.hid het.e
  have HT := Lib.hid het.t
  have HB := Lib.hid (Below.refl w.heap.size w)
  clear het
  go_enter Tryd.func16, Tryd.ntmps16
  go_upto_region 2 with (go_at_call 27; refine (lpen_any _ _ _).mono ?_; unfold qV pq; rintro e U ⟨rfl, hb⟩; have HB := Lib.hid (Par.up HB.out hb); clear hb)
  have X1 := ((Sty.Box.new U #[.int .i64 39, .int .i64 0, .int .i64 0, .int .i64 0, .int .i64 0, .string ⟨#[]⟩] 48).alloc (.cells #[.int .i64 39, .int .i64 1, .int .i64 1, .int .i64 0, .int .i64 0, .string ⟨#[]⟩] 48)).alloc (.cells #[.int .i64 39, .int .i64 1, .int .i64 16, .int .i64 0, .int .i64 0, .string ⟨#[]⟩] 48)
  have X2 := (Sty.Box.new (U.alloc (.cells #[.int .i64 39, .int .i64 0, .int .i64 0, .int .i64 0, .int .i64 0, .string ⟨#[]⟩] 48)) #[.int .i64 39, .int .i64 1, .int .i64 1, .int .i64 0, .int .i64 0, .string ⟨#[]⟩] 48).alloc (.cells #[.int .i64 39, .int .i64 1, .int .i64 16, .int .i64 0, .int .i64 0, .string ⟨#[]⟩] 48)
  have X3 := Sty.Box.new ((U.alloc (.cells #[.int .i64 39, .int .i64 0, .int .i64 0, .int .i64 0, .int .i64 0, .string ⟨#[]⟩] 48)).alloc (.cells #[.int .i64 39, .int .i64 1, .int .i64 1, .int .i64 0, .int .i64 0, .string ⟨#[]⟩] 48)) #[.int .i64 39, .int .i64 1, .int .i64 16, .int .i64 0, .int .i64 0, .string ⟨#[]⟩] 48
  have HB := Lib.hid (Par.up (Par.up (Par.up HB.out (below_box U (.cells #[.int .i64 39, .int .i64 0, .int .i64 0, .int .i64 0, .int .i64 0, .string ⟨#[]⟩] 48))) (below_box _ (.cells #[.int .i64 39, .int .i64 1, .int .i64 1, .int .i64 0, .int .i64 0, .string ⟨#[]⟩] 48))) (below_box _ (.cells #[.int .i64 39, .int .i64 1, .int .i64 16, .int .i64 0, .int .i64 0, .string ⟨#[]⟩] 48)))
  rw [World.size_alloc] at X2 X3
  rw [World.size_alloc] at X3
  generalize ((U.alloc (.cells #[.int .i64 39, .int .i64 0, .int .i64 0, .int .i64 0, .int .i64 0, .string ⟨#[]⟩] 48)).alloc (.cells #[.int .i64 39, .int .i64 1, .int .i64 1, .int .i64 0, .int .i64 0, .string ⟨#[]⟩] 48)).alloc (.cells #[.int .i64 39, .int .i64 1, .int .i64 16, .int .i64 0, .int .i64 0, .string ⟨#[]⟩] 48) = w1 at X1 X2 X3 HB ⊢
  generalize U.heap.size = B at X1 X2 X3 ⊢
  have HK := Lib.hid (show ∀ W, Below w1.heap.size w1 W → W.cell? ⟨B, 0, none⟩ = some (.int .i64 39) ∧ W.cell? ⟨B, 1, none⟩ = some (.int .i64 0) ∧ W.cell? ⟨B, 2, none⟩ = some (.int .i64 0) ∧ W.cell? ⟨B, 3, none⟩ = some (.int .i64 0) ∧ W.cell? ⟨B, 4, none⟩ = some (.int .i64 0) ∧ W.cell? ⟨B, 5, none⟩ = some (.string ⟨#[]⟩) ∧ W.cell? ⟨B + 1, 0, none⟩ = some (.int .i64 39) ∧ W.cell? ⟨B + 1, 1, none⟩ = some (.int .i64 1) ∧ W.cell? ⟨B + 1, 2, none⟩ = some (.int .i64 1) ∧ W.cell? ⟨B + 1, 3, none⟩ = some (.int .i64 0) ∧ W.cell? ⟨B + 1, 4, none⟩ = some (.int .i64 0) ∧ W.cell? ⟨B + 1, 5, none⟩ = some (.string ⟨#[]⟩) ∧ W.cell? ⟨B + 1 + 1, 0, none⟩ = some (.int .i64 39) ∧ W.cell? ⟨B + 1 + 1, 1, none⟩ = some (.int .i64 1) ∧ W.cell? ⟨B + 1 + 1, 2, none⟩ = some (.int .i64 16) ∧ W.cell? ⟨B + 1 + 1, 3, none⟩ = some (.int .i64 0) ∧ W.cell? ⟨B + 1 + 1, 4, none⟩ = some (.int .i64 0) ∧ W.cell? ⟨B + 1 + 1, 5, none⟩ = some (.string ⟨#[]⟩) from fun W h => ⟨(X1.keep h).cell 0 _ rfl, (X1.keep h).cell 1 _ rfl, (X1.keep h).cell 2 _ rfl, (X1.keep h).cell 3 _ rfl, (X1.keep h).cell 4 _ rfl, (X1.keep h).cell 5 _ rfl, (X2.keep h).cell 0 _ rfl, (X2.keep h).cell 1 _ rfl, (X2.keep h).cell 2 _ rfl, (X2.keep h).cell 3 _ rfl, (X2.keep h).cell 4 _ rfl, (X2.keep h).cell 5 _ rfl, (X3.keep h).cell 0 _ rfl, (X3.keep h).cell 1 _ rfl, (X3.keep h).cell 2 _ rfl, (X3.keep h).cell 3 _ rfl, (X3.keep h).cell 4 _ rfl, (X3.keep h).cell 5 _ rfl⟩)
  have HG := Lib.hid (Below.refl w1.heap.size w1).drew
  clear X1 X2 X3
  go_region_held3 (fun W => W.cell? ⟨B, 0, none⟩ = some (.int .i64 39) ∧ W.cell? ⟨B, 1, none⟩ = some (.int .i64 0) ∧ W.cell? ⟨B, 2, none⟩ = some (.int .i64 0) ∧ W.cell? ⟨B, 3, none⟩ = some (.int .i64 0) ∧ W.cell? ⟨B, 4, none⟩ = some (.int .i64 0) ∧ W.cell? ⟨B, 5, none⟩ = some (.string ⟨#[]⟩) ∧ W.cell? ⟨B + 1, 0, none⟩ = some (.int .i64 39) ∧ W.cell? ⟨B + 1, 1, none⟩ = some (.int .i64 1) ∧ W.cell? ⟨B + 1, 2, none⟩ = some (.int .i64 1) ∧ W.cell? ⟨B + 1, 3, none⟩ = some (.int .i64 0) ∧ W.cell? ⟨B + 1, 4, none⟩ = some (.int .i64 0) ∧ W.cell? ⟨B + 1, 5, none⟩ = some (.string ⟨#[]⟩) ∧ W.cell? ⟨B + 1 + 1, 0, none⟩ = some (.int .i64 39) ∧ W.cell? ⟨B + 1 + 1, 1, none⟩ = some (.int .i64 1) ∧ W.cell? ⟨B + 1 + 1, 2, none⟩ = some (.int .i64 16) ∧ W.cell? ⟨B + 1 + 1, 3, none⟩ = some (.int .i64 0) ∧ W.cell? ⟨B + 1 + 1, 4, none⟩ = some (.int .i64 0) ∧ W.cell? ⟨B + 1 + 1, 5, none⟩ = some (.string ⟨#[]⟩))
    (first
      | (with_reducible exact HK.out _ HG.out)
      | (with_reducible exact HK.out _ (Par.up HG.out (below_box _ _))))
    (first
      | (go_at_call_of 26 (Value.string ⟨#[]⟩); refine (S0.out _ (HE.out.keep (Par.up HB.out HG.out))).mono ?_; rintro e U ⟨rfl, hb⟩; have HG := Lib.hid (Par.up (Par.up HG.out (below_box _ _)) hb); clear hb)
      | (go_at_call_of 26 (Value.string ⟨#[48]⟩); refine (S1.out _ (HE.out.keep (Par.up HB.out HG.out))).mono ?_; rintro e U ⟨rfl, hb⟩; have HG := Lib.hid (Par.up (Par.up HG.out (below_box _ _)) hb); clear hb)
      | (go_at_call_of 26 (Value.string ⟨#[59]⟩); refine (S2.out _ (HE.out.keep (Par.up HB.out HG.out))).mono ?_; rintro e U ⟨rfl, hb⟩; have HG := Lib.hid (Par.up (Par.up HG.out (below_box _ _)) hb); clear hb)
      | (go_at_call_of 26 (Value.string ⟨#[49, 59, 51, 49, 59, 52, 58, 51]⟩); refine (S3.out _ (HE.out.keep (Par.up HB.out HG.out))).mono ?_; rintro e U ⟨rfl, hb⟩; have HG := Lib.hid (Par.up (Par.up HG.out (below_box _ _)) hb); clear hb)
      | (go_at_call_of 26 (Value.string ⟨#[51, 56, 59, 53, 59, 50, 48, 48, 59, 55]⟩); refine (S4.out _ (HE.out.keep (Par.up HB.out HG.out))).mono ?_; rintro e U ⟨rfl, hb⟩; have HG := Lib.hid (Par.up (Par.up HG.out (below_box _ _)) hb); clear hb)
      | (go_at_call 27; refine (lpen_any _ _ _).mono ?_; unfold qV pq; rintro e U ⟨rfl, hb⟩; have HG := Lib.hid (Par.up HG.out hb); clear hb)
      | (go_at_call 28; refine (lcolored_any _ _ _ _).mono ?_; unfold qV cq; rintro e U ⟨rfl, hb⟩; have HG := Lib.hid (Par.up HG.out hb); clear hb))
  obtain ⟨-, -, -, -, -, -, b0, b1, b2, b3, b4, b5, -⟩ := HK.out _ HG.out
  go_upto_region 4 with (first
    | (go_at_call_of 26 (Value.string ⟨#[52, 56, 58, 50, 58, 58, 49, 58, 50, 58, 51]⟩); refine (S5.out _ (HE.out.keep (Par.up HB.out HG.out))).mono ?_; rintro e U ⟨rfl, hb⟩; have HG := Lib.hid (Par.up (Par.up HG.out (below_box _ _)) hb); clear hb; obtain ⟨-, -, -, -, -, -, b0, b1, b2, b3, b4, b5, -⟩ := HK.out _ HG.out)
    | (go_at_call_of 26 (Value.string ⟨#[53, 56, 58, 50, 58, 49, 58, 50, 58, 51]⟩); refine (S6.out _ (HE.out.keep (Par.up HB.out HG.out))).mono ?_; rintro e U ⟨rfl, hb⟩; have HG := Lib.hid (Par.up (Par.up HG.out (below_box _ _)) hb); clear hb; obtain ⟨-, -, -, -, -, -, b0, b1, b2, b3, b4, b5, -⟩ := HK.out _ HG.out)
    | (go_at_call_of 26 (Value.string ⟨#[51, 56, 59, 53, 59, 50, 53, 54, 59, 49]⟩); refine (S7.out _ (HE.out.keep (Par.up HB.out HG.out))).mono ?_; rintro e U ⟨rfl, hb⟩; have HG := Lib.hid (Par.up (Par.up HG.out (below_box _ _)) hb); clear hb; obtain ⟨-, -, -, -, -, -, b0, b1, b2, b3, b4, b5, -⟩ := HK.out _ HG.out)
    | (go_at_call_of 26 (Value.string ⟨#[51, 56, 59, 50, 59, 49, 59, 50]⟩); refine (S8.out _ (HE.out.keep (Par.up HB.out HG.out))).mono ?_; rintro e U ⟨rfl, hb⟩; have HG := Lib.hid (Par.up HG.out hb); clear hb; obtain ⟨-, -, -, -, -, -, b0, b1, b2, b3, b4, b5, -⟩ := HK.out _ HG.out)
    | (go_at_call_of 26 (Value.string ⟨#[51, 56, 59, 49]⟩); refine (S9.out _ (HE.out.keep (Par.up HB.out HG.out))).mono ?_; rintro e U ⟨rfl, hb⟩; have HG := Lib.hid (Par.up (Par.up HG.out (below_box _ _)) hb); clear hb; obtain ⟨-, -, -, -, -, -, b0, b1, b2, b3, b4, b5, -⟩ := HK.out _ HG.out)
    | (go_at_call 27; refine (lpen_any _ _ _).mono ?_; unfold qV pq; rintro e U ⟨rfl, hb⟩; have HG := Lib.hid (Par.up HG.out hb); clear hb; obtain ⟨-, -, -, -, -, -, b0, b1, b2, b3, b4, b5, -⟩ := HK.out _ HG.out)
    | (go_at_call 28; refine (lcolored_any _ _ _ _).mono ?_; unfold qV cq; rintro e U ⟨rfl, hb⟩; have HG := Lib.hid (Par.up HG.out hb); clear hb; obtain ⟨-, -, -, -, -, -, b0, b1, b2, b3, b4, b5, -⟩ := HK.out _ HG.out))
  go_upto_region 5 with (first
    | (go_at_call_of 26 (Value.string ⟨#[57, 55, 59, 49, 48, 52, 59, 50, 49, 59, 57, 57]⟩); refine (S10.out _ (HE.out.keep (Par.up HB.out HG.out))).mono ?_; rintro e U ⟨rfl, hb⟩; have HG := Lib.hid (Par.up (Par.up HG.out (below_box _ _)) hb); clear hb)
    | (go_at_call 27; refine (lpen_any _ _ _).mono ?_; unfold qV pq; rintro e U ⟨rfl, hb⟩; have HG := Lib.hid (Par.up HG.out hb); clear hb)
    | (go_at_call 28; refine (lcolored_any _ _ _ _).mono ?_; unfold qV cq; rintro e U ⟨rfl, hb⟩; have HG := Lib.hid (Par.up HG.out hb); clear hb))
  go_upto_region 6 with (first
    | (go_at_call 18; refine (HQ.out _ (HE.out.keep (Par.up HB.out HG.out))).mono ?_; rintro e U ⟨v, rfl, hv, hb⟩; obtain ⟨A, c, hs⟩ := hv.rl.form; subst hs; have HV := Lib.hid hv.rl; have HG := Lib.hid (Par.up (Par.up HG.out (below_box _ _)) hb); clear hb hv)
    | (go_at_call 27; refine (lpen_any _ _ _).mono ?_; unfold qV pq; rintro e U ⟨rfl, hb⟩; have HG := Lib.hid (Par.up HG.out hb); clear hb)
    | (go_at_call 28; refine (lcolored_any _ _ _ _).mono ?_; unfold qV cq; rintro e U ⟨rfl, hb⟩; have HG := Lib.hid (Par.up HG.out hb); clear hb))
  go_wp2_with (go_at_call 21; refine (HPr.out _ _ HV.out (HT.out.keep (Par.up HB.out HG.out))).mono ?_; rintro e U ⟨rfl, hb⟩; have HG := Lib.hid (Par.up HG.out hb); clear hb)
  go_ret
  exact ⟨rfl, Par.up HB.out HG.out⟩
end Go.Proofs.YtdgainaeaabieaaDoor.Sgr

section
set_option maxRecDepth 100000
namespace Go.Proofs.YtdgainaeaabieaaDoor.Sgr
open Go.ChangeShapes Go.WideShapes Go.ChangeAt Go.RowKit Utf

theorem own : ownKnob Tryd.prog.godebug = none := by kernel_rfl
theorem laidOut : laidOutB Tryd.prog = true := by kernel_rfl
theorem gL : Tryd.prog.globalNamed "fenestra/color.limits" = some 2 := by kernel_rfl
theorem gLType : (Tryd.prog.globals[2]?).map (·.type) = some 118 := by kernel_rfl
theorem gLCells : Tryd.prog.cellsOf 118 = 3 := by kernel_rfl
theorem gS : Tryd.prog.globalNamed "fenestra/sgr.setters" = some 0 := by kernel_rfl
theorem gSType : (Tryd.prog.globals[0]?).map (·.type) = some 109 := by kernel_rfl
theorem gC : Tryd.prog.globalNamed "fenestra/sgr.clearers" = some 1 := by kernel_rfl
theorem gCType : (Tryd.prog.globals[1]?).map (·.type) = some 109 := by kernel_rfl
theorem gSCells : Tryd.prog.cellsOf 109 = 8 := by kernel_rfl
theorem gD : Tryd.prog.globalNamed "math/bits.deBruijn64tab" = some 4 := by kernel_rfl
theorem gDType : (Tryd.prog.globals[4]?).map (·.type) = some 149 := by kernel_rfl
theorem gDCells : Tryd.prog.cellsOf 149 = 64 := by kernel_rfl
theorem gP : Tryd.prog.globalNamed "internal/strconv.uint64pow10" = some 5 := by kernel_rfl
theorem gPType : (Tryd.prog.globals[5]?).map (·.type) = some 158 := by kernel_rfl
theorem gPCells : Tryd.prog.cellsOf 158 = 20 := by kernel_rfl
theorem cells64 : Tryd.prog.cellsOf 139 = 1 := by kernel_rfl
theorem cellsI : Tryd.prog.cellsOf 3 = 1 := by kernel_rfl
theorem cellsU : Tryd.prog.cellsOf 5 = 1 := by kernel_rfl
theorem range_of {W : World} {name : String} {g t n : Nat} (zs : List Int) (hg : Tryd.prog.globalNamed name = some g) (hty : (Tryd.prog.globals[g]?).map (·.type) = some t) (ht : Tryd.prog.underlying t = some (.array n 3)) (hct : Tryd.prog.cellsOf t = n) (h0 : 0 < zs.length)
    (h : Lib.VarReads Tryd.prog W name (Lib.tabData .i64 zs)) : g < W.heap.size ∧ W.rangeAt g 0 (cI zs) := by
  obtain ⟨g', t', cs, fuel, p, hg', ht', hvar, hd⟩ := h
  obtain rfl := Option.some.inj (hg.symm.trans hg')
  obtain rfl := Option.some.inj (hty.symm.trans ht')
  have hc : cs.toList = cI zs := Lib.cells_of_tab ht Tryd.underlying3 cellsI hct hd
  have hr : W.rangeAt g 0 (cI zs) := fun j u hu => by
    rw [Nat.zero_add, World.var?_cell hg hvar j]
    rw [← hc] at hu
    simpa using hu
  refine ⟨?_, hr⟩
  exact World.block_lt_of_cell? W _ (hr 0 _ (cI_at zs 0 zs[0] (List.getElem?_eq_getElem h0)))
theorem range_u {W : World} {name : String} {g t n : Nat} (zs : List Int) (hg : Tryd.prog.globalNamed name = some g) (hty : (Tryd.prog.globals[g]?).map (·.type) = some t) (ht : Tryd.prog.underlying t = some (.array n 5)) (hct : Tryd.prog.cellsOf t = n) (h0 : 0 < zs.length)
    (h : Lib.VarReads Tryd.prog W name (Lib.tabData .u8 zs)) : g < W.heap.size ∧ W.rangeAt g 0 (cU zs) := by
  obtain ⟨g', t', cs, fuel, p, hg', ht', hvar, hd⟩ := h
  obtain rfl := Option.some.inj (hg.symm.trans hg')
  obtain rfl := Option.some.inj (hty.symm.trans ht')
  have hc : cs.toList = cU zs := Lib.cells_of_tab ht Tryd.underlying5 cellsU hct hd
  have hr : W.rangeAt g 0 (cU zs) := fun j u hu => by
    rw [Nat.zero_add, World.var?_cell hg hvar j]
    rw [← hc] at hu
    simpa using hu
  refine ⟨?_, hr⟩
  exact World.block_lt_of_cell? W _ (hr 0 _ (cU_at zs 0 zs[0] (List.getElem?_eq_getElem h0)))
theorem env_of {W : World} (h : laidMetH Tryd.prog Rows.sgrKnownRow.laid W) : EnvT W := by
  have h' : laidMet Tryd.prog [("fenestra/color.limits", Lib.tabData .i64 Col.limT), ("math/bits.deBruijn32tab", Rows.laid_math_bits_deBruijn32tab), ("math/bits.deBruijn64tab", Lib.tabData .u8 deB), ("internal/strconv.uint64pow10", Lib.tabData .u64 Lib.pow10Tab), ("fenestra/sgr.setters", Lib.tabData .i64 setT), ("fenestra/sgr.clearers", Lib.tabData .i64 clrT)] W := h
  refine ⟨⟨?_, ?_, ?_, ?_⟩, ?_⟩
  · exact range_of Col.limT gL gLType Tryd.underlying118 gLCells (by decide) (Lib.laidMet.reads h' (by simp))
  · exact range_of setT gS gSType Tryd.underlying109 gSCells (by decide) (Lib.laidMet.reads h' (by simp))
  · exact range_of clrT gC gCType Tryd.underlying109 gSCells (by decide) (Lib.laidMet.reads h' (by simp))
  · exact range_u deB gD gDType Tryd.underlying149 gDCells (by decide) (Lib.laidMet.reads h' (by simp))
  · obtain ⟨g', t', cs, fuel, p, hg', ht', hvar, hd⟩ := Lib.laidMet.reads h' (n := "internal/strconv.uint64pow10") (d := Lib.tabData .u64 Lib.pow10Tab) (by simp)
    obtain rfl := Option.some.inj (gP.symm.trans hg')
    obtain rfl := Option.some.inj (gPType.symm.trans ht')
    have hc := Lib.cells_of_tab Tryd.underlying158 Tryd.underlying139 cells64 gPCells hd
    refine Lib.tabBelow_of_tabIs ?_
    rw [Lib.TabIs, hvar, ← hc]
def litW : DataW Unit → Value
  | .lit (.int k z) => .int k z
  | _ => undef
def valsOf : DataW Unit → Array Value
  | .agg l => (l.map litW).toArray
  | _ => #[]
def setO (cs : Array Value) : Obj → Obj
  | .cells _ t frozen => .cells cs t frozen
  | o => o
/-- a world for the witnesses: the settled one, the blocks of the six variables holding what their texts lay -/
noncomputable def laidWorld (os : Os) : World :=
  { World.holding Tryd.prog os ⟨#[], #[], []⟩ with heap := (((((((World.holding Tryd.prog os ⟨#[], #[], []⟩).heap.modify 2 (setO (valsOf Rows.laid_fenestra_color_limits))).modify 3 (setO (valsOf Rows.laid_math_bits_deBruijn32tab))).modify 4 (setO (valsOf Rows.laid_math_bits_deBruijn64tab))).modify 5 (setO (valsOf Rows.laid_internal_strconv_uint64pow10))).modify 0 (setO (valsOf Rows.laid_fenestra_sgr_setters))).modify 1 (setO (valsOf Rows.laid_fenestra_sgr_clearers))) }
end Go.Proofs.YtdgainaeaabieaaDoor.Sgr
end
