/-
  Contract of the reference's Same.
-/
import Derived.Test.YtefkbdmgplfgoaaGreatDoorParG
namespace Go.Proofs.YtefkbdmgplfgoaaGreatDoor.Par
open Go.RowKit Utf

set_option maxRecDepth 100000 in
set_option maxHeartbeats 2000000 in
theorem rsame_eq (u v : Value) (a b : List (List Int)) (w : World) (ha : RL w u a) (hb : RL w v b) (hl : a.length ≤ 1000000) (hs : ∀ p ∈ a, p.length ≤ 1000000) (hs2 : ∀ p ∈ b, p.length ≤ 1000000) (hne : a.length = b.length) :
    Calls Tryz.prog 32 #[u, v] w fun e w' => e = .returned (.bool (decide (a = b))) ∧ Below w.heap.size w w' := by
  obtain ⟨A, c, rfl⟩ := ha.form
  obtain ⟨B, d, rfl⟩ := hb.form
  obtain ⟨n, hn⟩ : ∃ n, n = a.length := ⟨_, rfl⟩
  have hn2 : n = b.length := hn.trans hne
  rw [← hn2]
  rw [← hn] at hl ⊢
  rw [← hn] at ha
  rw [← hn2] at hb
  have Ha := Lib.hid ha; clear ha
  have Hb := Lib.hid hb; clear hb
  have Hn := Lib.hid hn; clear hn
  have Hn2 := Lib.hid hn2; clear hn2
  have HS := Lib.hid hs; clear hs
  have HS2 := Lib.hid hs2; clear hs2 hne
  have hb1 : ((n : Int) != (n : Int)) = false := by simp
  go_enter Tryz.func32, Tryz.ntmps32
  go_wp2
  go_loopw [5] (fun i wr => ∃ k : Nat, k ≤ n ∧ i = .int .i64 k ∧ Hid (a.take k = b.take k ∧ Below w.heap.size w wr)) (fun i _ => n - (intOf i).toNat)
  case atStart => exact ⟨0, Nat.zero_le _, rfl, by simp [Hid]; exact Below.refl _ _⟩
  case round =>
    obtain ⟨k, hk, rfl, hid⟩ := hrel
    by_cases hlt : k < n
    · obtain ⟨p, hp⟩ := get_some a k (by rw [← Hn.out]; exact hlt)
      obtain ⟨q, hq⟩ := get_some b k (by rw [← Hn2.out]; exact hlt)
      obtain ⟨ad, XA, xc, rfl, hal, hcx, hxc, hrx⟩ := Ha.out.item hp
      obtain ⟨bd, YA, yc, rfl, hbl, hcy, hyc, hry⟩ := Hb.out.item hq
      have hcx1 := (hid.out.2.cell (p := ad.add k) (by rw [add_block]; exact hal)).trans hcx
      have hcy1 := (hid.out.2.cell (p := bd.add k) (by rw [add_block]; exact hbl)).trans hcy
      obtain ⟨m, hm⟩ : ∃ m, m = p.length := ⟨_, rfl⟩
      obtain ⟨o, ho⟩ : ∃ o, o = q.length := ⟨_, rfl⟩
      have hm1 : m ≤ 1000000 := by rw [hm]; exact HS.out p (List.mem_of_getElem? hp)
      have ho1 : o ≤ 1000000 := by rw [ho]; exact HS2.out q (List.mem_of_getElem? hq)
      rw [← hm] at hcx1 hxc hcx
      rw [← ho] at hcy1 hyc hcy
      have HP := Lib.hid hp; clear hp
      have HQ := Lib.hid hq; clear hq
      have HM := Lib.hid hm; clear hm
      have HO := Lib.hid ho; clear ho
      have HX := Lib.hid hrx; clear hrx
      have HY := Lib.hid hry; clear hry
      have HCX := Lib.hid hcx; clear hcx
      have HCY := Lib.hid hcy; clear hcy
      have i1 : (0 : Int) ≤ (k : Int) := by omega
      have i2 : (k : Int) < (n : Int) := by omega
      by_cases hmo : m = o
      · subst hmo
        have hq : ((m : Int) != (m : Int)) = false := by simp
        go_wp2
        go_quiet (fail)
        go_wp2
        go_loopw [6] (fun i wi => ∃ j : Nat, j ≤ m ∧ i = .int .i64 j ∧ Hid (p.take j = q.take j ∧ Below w.heap.size w wi)) (fun i _ => m - (intOf i).toNat)
        case atStart => exact ⟨0, Nat.zero_le _, rfl, by simp, below_drewN' hid.out.2 _⟩
        case round =>
          obtain ⟨j, hj, rfl, hin⟩ := hrel
          have hcx2 := (hin.out.2.cell (p := ad.add k) (by rw [add_block]; exact hal)).trans HCX.out
          have hcy2 := (hin.out.2.cell (p := bd.add k) (by rw [add_block]; exact hbl)).trans HCY.out
          clear hcx1 hcy1
          by_cases hjt : j < m
          · obtain ⟨x, hx⟩ := get_some p j (by rw [← HM.out]; exact hjt)
            obtain ⟨y, hy⟩ := get_some q j (by rw [← HO.out]; exact hjt)
            obtain ⟨xd, rfl, _, hxj⟩ := (HX.out.below hin.out.2) j _ (cI_at p j x hx)
            obtain ⟨yd, rfl, _, hyj⟩ := (HY.out.below hin.out.2) j _ (cI_at q j y hy)
            have Hx := Lib.hid hx; clear hx
            have Hy := Lib.hid hy; clear hy
            have j1 : (0 : Int) ≤ (j : Int) := by omega
            have j2 : (j : Int) < (m : Int) := by omega
            by_cases hxy : x = y
            · subst hxy
              have hq2 : (x != x) = false := by simp
              go_wp2
              go_quiet (fail)
              go_wp2
              go_roundw
              case rel => exact ⟨j + 1, by omega, by go_num, by rw [List.take_add_one, List.take_add_one, Hx.out, Hy.out, hin.out.1], below_drewN' hin.out.2 _⟩
              case measure => simp [intOf]; omega
            · have hq2 : (x != y) = true := by simp [hxy]
              have Hxy := Lib.hid hxy; clear hxy
              go_wp2
              go_quiet (fail)
              go_wp2
              go_ret
              refine ⟨?_, below_drewN' hin.out.2 _⟩
              rw [decide_eq_false (fun e : a = b => Hxy.out (by
                have h1 := HP.out
                rw [e, HQ.out] at h1
                have h2 := Hx.out
                rw [← (Option.some.inj h1), Hy.out] at h2
                exact (Option.some.inj h2).symm))]; rfl
          · go_wp2
            have hpq : p = q := by
              have := hin.out.1
              rw [show p.take j = p from List.take_of_length_le (by rw [← HM.out]; omega), show q.take j = q from List.take_of_length_le (by rw [← HO.out]; omega)] at this
              exact this
            exact ⟨⟨k + 1, by omega, by go_num, by rw [List.take_add_one, List.take_add_one, HP.out, HQ.out, hid.out.1, hpq], hin.out.2⟩, by simp [intOf]; omega⟩
      · have hq : ((m : Int) != (o : Int)) = true := by rw [bne_iff_ne]; omega
        have Hmo := Lib.hid hmo; clear hmo
        go_wp2
        go_quiet (fail)
        go_wp2
        go_ret
        refine ⟨?_, below_drewN' hid.out.2 _⟩
        rw [decide_eq_false (fun e : a = b => Hmo.out (by
          have h1 := HP.out
          rw [e, HQ.out] at h1
          rw [HM.out, HO.out]
          simpa using congrArg (Option.map List.length) h1.symm))]; rfl
    · go_wp2
      go_ret
      have he : a = b := by
        have := hid.out.1
        rw [List.take_of_length_le (by rw [← Hn.out]; omega), List.take_of_length_le (by rw [← Hn2.out]; omega)] at this
        exact this
      exact ⟨by rw [decide_eq_true he]; rfl, hid.out.2⟩
theorem rsame_any (u v : Value) (a b : List (List Int)) (w : World) (ha : RL w u a) (hb : RL w v b) (hl : a.length ≤ 1000000) (hs : ∀ p ∈ a, p.length ≤ 1000000) (hs2 : ∀ p ∈ b, p.length ≤ 1000000) :
    Calls Tryz.prog 32 #[u, v] w fun e w' => e = .returned (.bool (decide (a = b))) ∧ Below w.heap.size w w' := by
  by_cases hne : a.length = b.length
  · exact rsame_eq u v a b w ha hb hl hs hs2 hne
  · rw [decide_eq_false (fun e : a = b => hne (by rw [e]))]
    obtain ⟨A, c, rfl⟩ := ha.form
    obtain ⟨B, d, rfl⟩ := hb.form
    obtain ⟨n, hn⟩ : ∃ n, n = a.length := ⟨_, rfl⟩
    obtain ⟨m, hm⟩ : ∃ m, m = b.length := ⟨_, rfl⟩
    rw [← hn, ← hm] at hne ⊢
    have hb1 : ((n : Int) != (m : Int)) = true := by rw [bne_iff_ne]; omega
    clear ha hb hn hm
    go_enter Tryz.func32, Tryz.ntmps32
    go_wp2
    go_ret
    exact ⟨rfl, Below.refl _ _⟩
end Go.Proofs.YtefkbdmgplfgoaaGreatDoor.Par
