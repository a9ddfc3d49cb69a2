/-
  Contracts of the laws' row, is and refused.
-/
import Derived.Test.YtelglcchcpnfbaaDoorParF
import Derived.Test.YtelglcchcpnfbaaDoorParL
namespace Go.Proofs.YtelglcchcpnfbaaDoor.Par
open Go.RowKit Utf

theorem get_take {α : Type} (l : List α) (k : Nat) (x : α) (h : l[k]? = some x) : l.take (k + 1) = l.take k ++ [x] := by
  rw [List.take_add_one, h]; rfl
set_option maxRecDepth 100000 in
set_option maxHeartbeats 2000000 in
theorem row_any (v : Value) (l : List (List Int)) (w : World) (h : RL w v l) (hl : l.length ≤ 1000) :
    Calls Tryd.prog 29 #[v] w fun e w' => ∃ v', e = .returned v' ∧ RL w' v' l ∧ Below w.heap.size w w' := by
  obtain ⟨A, c, vs, rfl, hcc, hc2, hA, hv, hr, hi⟩ := h
  obtain ⟨n, hn'⟩ : ∃ n, n = l.length := ⟨_, rfl⟩
  rw [← hn'] at hcc hv hl ⊢
  have HR := Lib.hid hr
  have HI := Lib.hid hi
  have HV := Lib.hid hv
  have Hn := Lib.hid hn'
  clear hr hi hv hn' hA
  obtain ⟨i0, hi, hz0, hz1, hz2⟩ := info_parts infoP
  go_enter Tryd.func29, Tryd.ntmps29
  go_wp2
  go_loopw [4, 3] (fun i u wr => ∃ k : Nat, k ≤ n ∧ i = .int .i64 k ∧ Hid (wr.ownsRow w.heap.size 31 1 u k (vs.take k) ∧ Below w.heap.size w wr)) (fun i _ _ => n - (intOf i).toNat)
  case atStart => exact ⟨0, Nat.zero_le _, rfl, World.ownsRow_nil _ _ _ _, Below.refl _ _⟩
  case round =>
    obtain ⟨k, hk, rfl, hid⟩ := hrel
    by_cases hlt : k < n
    · obtain ⟨x, hx⟩ := get_some vs k (by rw [HV.out]; exact hlt)
      obtain ⟨p, hp⟩ := get_some l k (by rw [← Hn.out]; exact hlt)
      obtain ⟨XA, xc, rfl, -⟩ := HI.out k x p hx hp
      obtain ⟨ad, rfl, _, hc⟩ := (HR.out.below hid.out.2) k _ hx
      obtain ⟨m, hm⟩ : ∃ m, m = p.length := ⟨_, rfl⟩
      rw [← hm] at hc hx
      obtain ⟨A1, c1, hsh, _, _⟩ := own_slice hid.out.1
      subst hsh
      have Hx := Lib.hid hx; clear hx hp hm
      have i1 : (0 : Int) ≤ (k : Int) := by omega
      have i2 : (k : Int) < (n : Int) := by omega
      go_wp2_with (at_builtin; refine wpList_appB _ rfl _ _ 22 rfl w.heap.size 31 i0 _ 24 Tryd.underlying22 hi hz0 hz1 hz2 rfl _ k (vs.take k) rfl (own_below hid.out.1 (below_box _ _)) (some ⟨wr.heap.size, 0, none⟩) 1 1 [.slice XA m xc] rfl rfl (Rd.one _ _ _) (by intro u hu; simp at hu; subst hu; rfl) (by omega) (by omega) (by rw [World.size_alloc]; have := hid.out.2.size; omega) ?_; intro v' w' hown hgrow; obtain ⟨A2, c2, hsh2, _, _⟩ := own_slice hown; subst hsh2)
      go_roundw
      case rel => exact ⟨k + 1, by omega, by go_num, by rw [get_take vs k _ Hx.out]; exact hown, (hid.out.2.trans ((below_box _ _).mono hid.out.2.size)).trans hgrow⟩
      case measure => simp [intOf]; omega
    · obtain rfl : k = n := by omega
      obtain ⟨A1, c1, hsh, _, _⟩ := own_slice hid.out.1
      subst hsh
      go_wp2
      go_ret
      have ho := hid.out.1
      rw [List.take_of_length_le (by rw [HV.out]; exact Nat.le_refl _)] at ho
      exact ⟨_, rfl, RL.grew ho (by rw [HV.out, Hn.out]) (fun j x p hx hp => (HI.out j x p hx hp).keep hid.out.2), hid.out.2⟩
theorem refused_any (s : ByteArray) (code : Int) (w : World) (r : Bool) (hr : (decide ((prsV s.data.toList).2 = code) && decide ((prsV s.data.toList).1 = [])) = r) :
    Calls Tryd.prog 28 #[.string s, .int .i64 code] w fun e w' => e = .returned (.bool r) ∧ Below w.heap.size w w' := by
  have HC := Lib.hid (parse_any s w)
  obtain ⟨l, hl⟩ : ∃ l, l = (prsV s.data.toList).1 := ⟨_, rfl⟩
  obtain ⟨x, hx⟩ : ∃ x, x = (prsV s.data.toList).2 := ⟨_, rfl⟩
  rw [← hl, ← hx] at HC hr
  clear hl hx
  by_cases hc : x = code
  · subst hc
    have h1 : ((x : Int) == x) = true := by simp
    by_cases hn : l = []
    · subst hn
      have Hr := Lib.hid hr; clear hr
      go_enter Tryd.func28, Tryd.ntmps28
      go_wp2_with (go_at_call 23; refine HC.out.mono ?_; rintro e w1 ⟨v1, rfl, h1, hb1⟩; obtain ⟨A1, c1, rfl⟩ := h1.1.form; clear h1; rw [show ([] : List (List Int)).length = 0 from rfl])
      go_ret
      exact ⟨by rw [← Hr.out]; simp, hb1⟩
    · have h2 : ((l.length : Int) == 0) = false := by
        have := List.length_pos_iff.2 hn
        simp; omega
      have Hr := Lib.hid hr; clear hr
      obtain ⟨m, hm⟩ : ∃ m, m = l.length := ⟨_, rfl⟩
      rw [← hm] at h2
      have Hn := Lib.hid hn
      clear hn
      go_enter Tryd.func28, Tryd.ntmps28
      go_wp2_with (go_at_call 23; refine HC.out.mono ?_; rintro e w1 ⟨v1, rfl, h1, hb1⟩; obtain ⟨A1, c1, rfl⟩ := h1.1.form; clear h1; rw [← hm])
      go_ret
      exact ⟨by rw [← Hr.out]; simp [show ¬ l = [] from Hn.out], hb1⟩
  · have h1 : ((x : Int) == code) = false := by simp [hc]
    have Hr := Lib.hid hr; clear hr
    have Hc := Lib.hid hc; clear hc
    go_enter Tryd.func28, Tryd.ntmps28
    go_wp2_with (go_at_call 23; refine HC.out.mono ?_; rintro e w1 ⟨v1, rfl, h1, hb1⟩; obtain ⟨A1, c1, rfl⟩ := h1.1.form; clear h1; generalize l.length = m)
    go_ret
    exact ⟨by rw [← Hr.out]; simp [show ¬ x = code from Hc.out], hb1⟩
theorem sz_runV (l : List (List Int)) (s : List UInt8) (h : Sz l) : Sz (runV l s).1 := by
  induction s generalizing l with
  | nil => exact h
  | cons c s ih =>
    unfold runV
    split
    · exact ih _ (stpV_sz l c)
    · exact ⟨by simp, by simp⟩
theorem sz_prsV (s : List UInt8) : Sz (prsV s).1 := by
  unfold prsV
  split
  · exact ⟨by simp, by simp⟩
  · exact sz_runV _ _ ⟨by simp, by simp⟩
/-- at a string that is parsed -/
theorem is_true (s : ByteArray) (v : Value) (l : List (List Int)) (w : World) (h : RL w v l) (hl : l.length ≤ 1000) (hp : ∀ p ∈ l, p.length ≤ 1000) (hs : prsV s.data.toList = (l, 0)) :
    Calls Tryd.prog 30 #[.string s, v] w fun e w' => e = .returned (.bool true) ∧ Below w.heap.size w w' := by
  have HC := Lib.hid (parse_any s w)
  rw [hs] at HC
  have HL := Lib.hid h
  have HP := Lib.hid hp
  obtain ⟨A, c, rfl⟩ := h.form
  obtain ⟨n, hn⟩ : ∃ n, n = l.length := ⟨_, rfl⟩
  rw [← hn] at HL hl ⊢
  have Hn := Lib.hid hn
  clear h hp hs hn
  go_enter Tryd.func30, Tryd.ntmps30
  go_wp2_with (first
    | (go_at_call 23; refine HC.out.mono ?_; rintro e w1 ⟨v1, rfl, h1, hb1⟩; have H1 := Lib.hid h1.1; obtain ⟨A1, c1, rfl⟩ := h1.1.form; clear h1; rw [← Hn.out] at H1 ⊢)
    | (go_at_call 29; refine (row_any _ l _ (HL.out.keep hb1) (by rw [← Hn.out]; exact hl)).mono ?_; rintro e w2 ⟨v2, rfl, h2, hb2⟩; have H2 := Lib.hid h2; obtain ⟨A2, c2, rfl⟩ := h2.form; clear h2; rw [← Hn.out] at H2 ⊢)
    | (go_at_call 17; refine (rsame_any _ _ l l _ (H1.out.keep hb2) H2.out (by rw [← Hn.out]; omega) (fun p hp => by have := HP.out p hp; omega) (fun p hp => by have := HP.out p hp; omega)).mono ?_; rw [decide_eq_true rfl]; rintro e w3 ⟨rfl, hb3⟩))
  go_ret
  exact ⟨rfl, up hb1 (up hb2 hb3)⟩
end Go.Proofs.YtelglcchcpnfbaaDoor.Par
