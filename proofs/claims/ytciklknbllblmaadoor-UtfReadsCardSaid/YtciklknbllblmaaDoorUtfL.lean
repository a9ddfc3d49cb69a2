/-
  Contracts of what the laws of layer 1 use besides the utf package: Ints, is, steps.
-/
import Derived.Test.YtciklknbllblmaaDoorUtfH
import Derived.Test.YtciklknbllblmaaDoorUtfK
namespace Go.Proofs.YtciklknbllblmaaDoor.Utf
open Go.RowKit

def eqI (xs ys : List Int) : Bool := decide (xs = ys)
theorem eqI_self (xs : List Int) : eqI xs xs = true := by simp [eqI]
theorem eqI_len {xs ys : List Int} (h : xs.length ≠ ys.length) : eqI xs ys = false := by
  simp only [eqI, decide_eq_false_iff_not]
  intro e; exact h (by rw [e])
theorem take_snoc_eq {xs ys : List Int} {k : Nat} {x : Int} (hx : xs[k]? = some x) (hy : ys[k]? = some x) (h : xs.take k = ys.take k) : xs.take (k + 1) = ys.take (k + 1) := by
  rw [List.take_add_one, List.take_add_one, hx, hy, h]
theorem eqI_at {xs ys : List Int} {k : Nat} {x y : Int} (hx : xs[k]? = some x) (hy : ys[k]? = some y) (h : x ≠ y) : eqI xs ys = false := by
  simp only [eqI, decide_eq_false_iff_not]
  intro e; rw [e, hy] at hx; exact h (by simpa using hx.symm)

set_option maxRecDepth 100000 in
set_option maxHeartbeats 1000000 in
theorem ints_any (A B : Option Addr) (c d : Nat) (xs ys : List Int) (w : World) (hx : Rd w A (cI xs)) (hy : Rd w B (cI ys)) (hl : xs.length ≤ 1000000) :
    Calls Tryd.prog 19 #[.slice A xs.length c, .slice B ys.length d] w fun e w' => e = .returned (.bool (eqI xs ys)) ∧ Below w.heap.size w w' := by
  have HX := Lib.hid hx; clear hx
  have HY := Lib.hid hy; clear hy
  by_cases hne : xs.length = ys.length
  · have Hne := Lib.hid hne; clear hne
    obtain ⟨n, hn⟩ : ∃ n, n = xs.length := ⟨_, rfl⟩
    have hn2 : n = ys.length := hn.trans Hne.out
    rw [← hn2]
    rw [← hn] at hl ⊢
    have Hn := Lib.hid hn; clear hn
    have Hn2 := Lib.hid hn2; clear hn2
    have hb1 : ((n : Int) != (n : Int)) = false := by simp
    go_enter Tryd.func19, Tryd.ntmps19
    go_wp2
    go_loopw [5] (fun i wr => ∃ k : Nat, k ≤ n ∧ i = .int .i64 k ∧ Hid (xs.take k = ys.take k ∧ Below w.heap.size w wr)) (fun i _ => n - (intOf i).toNat)
    case atStart => exact ⟨0, Nat.zero_le _, rfl, by simp [Hid]; exact Below.refl _ _⟩
    case round =>
      obtain ⟨k, hk, rfl, hid⟩ := hrel
      by_cases hlt : k < n
      · obtain ⟨x, hxk⟩ : ∃ x, xs[k]? = some x := ⟨xs[k]'(by rw [← Hn.out]; exact hlt), by simp⟩
        obtain ⟨y, hyk⟩ : ∃ y, ys[k]? = some y := ⟨ys[k]'(by rw [← Hn2.out]; exact hlt), by simp⟩
        obtain ⟨ad, rfl, _, hcx⟩ := (HX.out.below hid.out.2) k _ (cI_at xs k x hxk)
        obtain ⟨bd, rfl, _, hcy⟩ := (HY.out.below hid.out.2) k _ (cI_at ys k y hyk)
        have HxK := Lib.hid hxk; clear hxk
        have HyK := Lib.hid hyk; clear hyk
        have i1 : (0 : Int) ≤ (k : Int) := by omega
        have i2 : (k : Int) < (n : Int) := by omega
        by_cases hxy : x = y
        · subst hxy
          have hq : (x != x) = false := by simp
          go_wp2
          go_quiet (fail)
          go_wp2
          go_roundw
          case rel => exact ⟨k + 1, by omega, by go_num, take_snoc_eq HxK.out HyK.out hid.out.1, below_drewN' hid.out.2 _⟩
          case measure => simp [intOf]; omega
        · have hq : (x != y) = true := by simp [hxy]
          have Hxy := Lib.hid hxy; clear hxy
          go_wp2
          go_quiet (fail)
          go_wp2
          go_ret
          exact ⟨by rw [eqI_at HxK.out HyK.out Hxy.out]; rfl, below_drewN' hid.out.2 _⟩
      · go_wp2
        go_ret
        have he : xs = ys := by
          have := hid.out.1
          rw [List.take_of_length_le (by rw [← Hn.out]; omega), List.take_of_length_le (by rw [← Hn2.out]; omega)] at this
          exact this
        exact ⟨by rw [he, eqI_self]; rfl, hid.out.2⟩
  · have Hne := Lib.hid hne
    have hb1 : ((xs.length : Int) != (ys.length : Int)) = true := by rw [bne_iff_ne]; omega
    clear hne
    go_enter Tryd.func19, Tryd.ntmps19
    go_wp2
    go_ret
    exact ⟨by rw [eqI_len Hne.out]; rfl, Below.refl _ _⟩

theorem is_any (s : ByteArray) (B : Option Addr) (d : Nat) (ys : List Int) (w : World) (hy : Rd w B (cI ys)) (hmk : Mk w) (hs : s.size ≤ 100000) :
    Calls Tryd.prog 26 #[.string s, .slice B ys.length d] w fun e w' => e = .returned (.bool (eqI (codesL s.data.toList) ys)) ∧ Below w.heap.size w w' := by
  have HM := Lib.hid hmk; clear hmk
  have HY := Lib.hid hy; clear hy
  have hfin : (codesL s.data.toList).length ≤ 1000000 := by
    have h1 := runL_len ([], []) s.data.toList
    have h2 := flushL_len (runL ([], []) s.data.toList).1
    simp only [List.length_nil, Array.length_toList] at h1
    unfold codesL
    rw [List.length_append]
    have : s.data.size = s.size := rfl
    omega
  go_enter Tryd.func26, Tryd.ntmps26
  go_wp2_with fail
  refine (codes_any s _ HM.out hs).mono ?_
  rintro e w1 ⟨v, rfl, hown, hb⟩
  obtain ⟨A, c, hv, _, hr⟩ := own_slice hown
  rw [hv]
  have HR := Lib.hid hr; clear hr hown hv
  go_wp2_with fail
  refine (ints_any A B c d _ ys _ HR.out ((HY.out).below hb) hfin).mono ?_
  rintro e w2 ⟨rfl, hb2⟩
  go_wp2
  go_ret
  exact ⟨rfl, hb.trans (hb2.mono hb.size)⟩

theorem bytes_of {P : Program} (w : World) (src dst e : TypeId) (s : ByteArray) (hs : P.underlying src = some .string) (hd : P.underlying dst = some (.slice e)) (he : P.underlying e = some (.int .u8)) :
    ∃ c w1, (convert src dst (.string s)).run P w = .ok (.slice (some ⟨w.heap.size, 0, none⟩) s.size c) w1 ∧ s.size ≤ c ∧ Rd w1 (some ⟨w.heap.size, 0, none⟩) (cB s.data.toList) ∧ Below w.heap.size w w1 := by
  refine ⟨_, _, run_bytes_of_string w src dst e s hs hd he, grownCap_ge _ _ _ _, ?_, ?_⟩
  · intro j u hu
    refine ⟨_, rfl, by simp, World.news_of_block (heap_alloc_new w.drew _) j u ?_⟩
    have hj : j < (cB s.data.toList).length := (List.getElem?_eq_some_iff.1 hu).1
    rw [bytesRow, Array.toList_append, List.getElem?_append_left (by simpa [cB] using hj), ← hu]
    simp [cB]
  · exact ((Below.refl _ w).drew).alloc (Nat.le_refl _) _

theorem bytes_list (r : ByteArray) : r.toList = r.data.toList := ByteArray.toList_eq r
def eqB (xs ys : List UInt8) : Bool := decide (xs = ys)
theorem eqB_beq (a b : List UInt8) : eqB a b = (a == b) := by
  unfold eqB
  by_cases h : a = b
  · subst h; simp
  · simp [h]

set_option maxRecDepth 100000 in
set_option maxHeartbeats 1000000 in
theorem lsteps_any (p : ByteArray) (b : UInt8) (r : ByteArray) (B : Option Addr) (d : Nat) (ys : List Int) (w : World) (hy : Rd w B (cI ys)) (hmk : Mk w) (hs : p.size ≤ 100000) :
    Calls Tryd.prog 27 #[.string p, .int .u8 (b.toNat : Int), .string r, .slice B ys.length d] w fun e w' => e = .returned (.bool (eqB (stepL p.data.toList b).1 r.data.toList && eqI (stepL p.data.toList b).2 ys)) ∧ Below w.heap.size w w' := by
  have HM := Lib.hid hmk; clear hmk
  have HY := Lib.hid hy; clear hy
  obtain ⟨c0, w1, hcv, hc0, hr0, hb0⟩ := bytes_of (P := Tryd.prog) w 9 30 5 p Tryd.underlying9 Tryd.underlying30 Tryd.underlying5
  have HR0 := Lib.hid hr0; clear hr0
  have hlen := stepL_len p.data.toList b
  go_enter Tryd.func27, Tryd.ntmps27
  go_wp2_with fail
  rw [show p.size = p.data.toList.length from rfl]
  refine (step_any _ _ p.data.toList b _ HR0.out ((HM.out).keep hb0) hc0 hs).mono ?_
  rintro e w2 ⟨A1, c1, A2, c2, rfl, hcc, ht1, hr1, hr2, hb1⟩
  obtain ⟨l1, hl1⟩ : ∃ l, (stepL p.data.toList b).1 = l := ⟨_, rfl⟩
  obtain ⟨l2, hl2⟩ : ∃ l, (stepL p.data.toList b).2 = l := ⟨_, rfl⟩
  rw [hl1, hl2]
  rw [hl1] at hcc hr1 hlen
  rw [hl2] at hr2 hlen
  have H1 := Lib.hid hl1; clear hl1
  have H2 := Lib.hid hl2; clear hl2
  have hb2 := hb0.trans (hb1.mono hb0.size)
  have hcv2 := run_str (P := Tryd.prog) w2 30 9 5 A1 c1 l1 Tryd.underlying30 Tryd.underlying5 Tryd.underlying9 hr1
  have HR2 := Lib.hid hr2; clear hr2 ht1 hr1 hcv
  obtain ⟨q, hq⟩ : ∃ q, (l1 == r.toList) = q := ⟨_, rfl⟩
  have HF := Lib.hid (show (eqB (stepL p.data.toList b).1 r.data.toList && eqI (stepL p.data.toList b).2 ys) = (q && eqI l2 ys) by
    rw [H1.out, H2.out, ← hq, bytes_list r, eqB_beq])
  cases q
  · go_wp2
    go_ret
    exact ⟨by rw [HF.out]; rfl, hb2⟩
  · go_wp2_with fail
    refine (ints_any A2 B c2 d l2 ys _ HR2.out ((HY.out).below hb2) (by omega)).mono ?_
    rintro e w3 ⟨rfl, hb3⟩
    go_wp2
    go_ret
    exact ⟨by rw [HF.out]; rfl, hb2.trans (hb3.mono hb2.size)⟩
end Go.Proofs.YtciklknbllblmaaDoor.Utf
