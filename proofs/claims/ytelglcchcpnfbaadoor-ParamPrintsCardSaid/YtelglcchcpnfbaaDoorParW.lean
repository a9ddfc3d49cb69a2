/-
  Contract of the reference's Check.
-/
import Derived.Test.YtelglcchcpnfbaaDoorParL
namespace Go.Proofs.YtelglcchcpnfbaaDoor.Par
open Go.RowKit Utf

theorem chk_of_bad {l : List (List Int)} (h : isBad l = true) : chkV l = 150 := by unfold chkV; rw [h]; rfl
theorem bad_any {l : List (List Int)} (h : l.any wrongP = true) : isBad l = true := by
  unfold isBad; rw [h]; simp
theorem bad_long {l : List (List Int)} (h : 16 < l.length) : isBad l = true := by
  unfold isBad; rw [decide_eq_true h]; rfl
theorem chk_end {l : List (List Int)} (h1 : ¬ 16 < l.length) (h2 : l.any wrongP = false) : chkV l = if l = [[-1]] then 150 else 0 := by
  unfold chkV isBad
  rw [h2, decide_eq_false h1]
  by_cases h : l = [[-1]]
  · rw [if_pos h, if_pos (by simp [h])]
  · rw [if_neg h, if_neg (by simp [h])]
theorem wrongP_len {p : List Int} (h : p.length < 1 ∨ 6 < p.length) : wrongP p = true := by
  unfold wrongP
  rcases h with h | h
  · rw [decide_eq_true h]; rfl
  · rw [decide_eq_true h]; simp
theorem wrongP_num {p : List Int} (h : p.any wrongI = true) : wrongP p = true := by
  unfold wrongP; rw [h]; simp
theorem wrongP_no {p : List Int} (h1 : 1 ≤ p.length) (h2 : p.length ≤ 6) (h3 : p.any wrongI = false) : wrongP p = false := by
  unfold wrongP; rw [decide_eq_false (by omega), decide_eq_false (by omega), h3]; rfl
theorem add_zero3 (a : Addr) : a.add 0 = a := by unfold Addr.add; simp
set_option maxRecDepth 100000 in
set_option maxHeartbeats 8000000 in
theorem rcheck_any (v : Value) (l : List (List Int)) (w : World) (h : RL w v l) (hl : l.length ≤ 1000000) :
    Calls Tryd.prog 15 #[v] w fun e w' => e = .returned (.int .i64 (chkV l)) ∧ Below w.heap.size w w' := by
  obtain ⟨A, c, rfl⟩ := h.form
  obtain ⟨n, hn⟩ : ∃ n, n = l.length := ⟨_, rfl⟩
  rw [← hn] at h hl ⊢
  have HL := Lib.hid h; clear h
  have Hn := Lib.hid hn; clear hn
  by_cases h16 : (16 : Int) < (n : Int)
  · have d1 : decide ((16 : Int) < (n : Int)) = true := decide_eq_true h16
    rw [chk_of_bad (bad_long (by rw [← Hn.out]; omega))]
    go_enter Tryd.func15, Tryd.ntmps15
    go_wp2
    go_ret
    exact ⟨rfl, Below.refl _ _⟩
  · have d1 : decide ((16 : Int) < (n : Int)) = false := decide_eq_false h16
    go_enter Tryd.func15, Tryd.ntmps15
    go_wp2
    go_loopw [3] (fun i wr => ∃ k : Nat, k ≤ n ∧ i = .int .i64 k ∧ Hid ((l.take k).any wrongP = false ∧ Below w.heap.size w wr)) (fun i _ => n - (intOf i).toNat)
    case atStart => exact ⟨0, Nat.zero_le _, rfl, by simp [Hid]; exact Below.refl _ _⟩
    case round =>
      obtain ⟨k, hk, rfl, hid⟩ := hrel
      obtain ⟨W0, hW0⟩ : ∃ W0, W0 = wr := ⟨_, rfl⟩
      subst hW0
      by_cases hlt : k < n
      · obtain ⟨p, hp⟩ := get_some l k (by rw [← Hn.out]; exact hlt)
        obtain ⟨ad, XA, xc, rfl, hal, hcx, hxc, hrx⟩ := HL.out.item hp
        have hcx1 := (hid.out.2.cell (p := ad.add k) (by rw [add_block]; exact hal)).trans hcx
        obtain ⟨m, hm⟩ : ∃ m, m = p.length := ⟨_, rfl⟩
        rw [← hm] at hcx1 hxc
        clear hcx
        have HP := Lib.hid hp; clear hp
        have HM := Lib.hid hm; clear hm
        have HX := Lib.hid hrx; clear hrx
        have i1 : (0 : Int) ≤ (k : Int) := by omega
        have i2 : (k : Int) < (n : Int) := by omega
        have c1 : decide ((k : Int) < (n : Int)) = true := decide_eq_true (by omega)
        by_cases hm1 : m < 1
        · have e1 : decide ((m : Int) < 1) = true := decide_eq_true (by omega)
          go_wp2
          go_ret
          refine ⟨?_, hid.out.2⟩
          rw [chk_of_bad (bad_any (any_hit wrongP l k p HP.out (wrongP_len (.inl (by rw [← HM.out]; exact hm1)))))]
          rfl
        · have e1 : decide ((m : Int) < 1) = false := decide_eq_false (by omega)
          by_cases hm6 : 6 < m
          · have e2 : decide ((6 : Int) < (m : Int)) = true := decide_eq_true (by omega)
            go_wp2
            go_ret
            refine ⟨?_, hid.out.2⟩
            rw [chk_of_bad (bad_any (any_hit wrongP l k p HP.out (wrongP_len (.inr (by rw [← HM.out]; exact hm6)))))]
            rfl
          · have e2 : decide ((6 : Int) < (m : Int)) = false := decide_eq_false (by omega)
            go_wp2
            go_loopw [4] (fun i wi => ∃ j : Nat, j ≤ m ∧ i = .int .i64 j ∧ Hid ((p.take j).any wrongI = false ∧ Below w.heap.size w wi)) (fun i _ => m - (intOf i).toNat)
            case atStart => exact ⟨0, Nat.zero_le _, rfl, by simp, hid.out.2⟩
            case round =>
              obtain ⟨j, hj, rfl, hin⟩ := hrel
              have hcx2 := (hin.out.2.cell (p := ad.add k) (by rw [add_block]; exact hal)).trans ((hid.out.2.cell (p := ad.add k) (by rw [add_block]; exact hal)).symm.trans hcx1)
              by_cases hjt : j < m
              · obtain ⟨z, hz⟩ := get_some p j (by rw [← HM.out]; exact hjt)
                obtain ⟨xd, rfl, _, hxj⟩ := (HX.out.below hin.out.2) j _ (cI_at p j z hz)
                have Hz := Lib.hid hz; clear hz
                have j1 : (0 : Int) ≤ (j : Int) := by omega
                have j2 : (j : Int) < (m : Int) := by omega
                have c2 : decide ((j : Int) < (m : Int)) = true := decide_eq_true (by omega)
                clear hcx1
                by_cases hz1 : z < -1
                · have z1 : decide (z < -1) = true := decide_eq_true hz1
                  go_wp2
                  go_ret
                  refine ⟨?_, hin.out.2⟩
                  rw [chk_of_bad (bad_any (any_hit wrongP l k p HP.out (wrongP_num (any_hit wrongI p j z Hz.out (by unfold wrongI; rw [z1]; rfl)))))]
                  rfl
                · have z1 : decide (z < -1) = false := decide_eq_false hz1
                  by_cases hz2 : 9999 < z
                  · have z2 : decide ((9999 : Int) < z) = true := decide_eq_true hz2
                    go_wp2
                    go_ret
                    refine ⟨?_, hin.out.2⟩
                    rw [chk_of_bad (bad_any (any_hit wrongP l k p HP.out (wrongP_num (any_hit wrongI p j z Hz.out (by unfold wrongI; rw [z2]; simp)))))]
                    rfl
                  · have z2 : decide ((9999 : Int) < z) = false := decide_eq_false hz2
                    go_wp2
                    go_roundw
                    case rel => exact ⟨j + 1, by omega, by go_num, by rw [any_take wrongI p j z Hz.out, hin.out.1]; unfold wrongI; rw [z1, z2]; rfl, hin.out.2⟩
                    case measure => simp [intOf]; omega
              · have c2 : decide ((j : Int) < (m : Int)) = false := decide_eq_false (by omega)
                clear hcx1
                go_wp2
                have hw : wrongP p = false := by
                  have := hin.out.1
                  rw [List.take_of_length_le (by rw [← HM.out]; omega)] at this
                  exact wrongP_no (by rw [← HM.out]; omega) (by rw [← HM.out]; omega) this
                exact ⟨⟨k + 1, by omega, by go_num, by rw [any_take wrongP l k p HP.out, hid.out.1, hw]; rfl, hin.out.2⟩, by simp [intOf]; omega⟩
      · have c1 : decide ((k : Int) < (n : Int)) = false := decide_eq_false (by omega)
        have hend : chkV l = if l = [[-1]] then 150 else 0 := by
          have := hid.out.1
          rw [List.take_of_length_le (by rw [← Hn.out]; omega)] at this
          exact chk_end (by rw [← Hn.out]; omega) this
        have HE := Lib.hid hend; clear hend
        have HRL := HL.out.keep hid.out.2
        by_cases h1 : n = 1
        · obtain ⟨p, hp⟩ : ∃ p, l = [p] := by
            match l, (show l.length = 1 by rw [← Hn.out, h1]) with
            | [p], _ => exact ⟨p, rfl⟩
          subst hp
          subst h1
          obtain ⟨ad, B', cc, rfl, -, hc, hcc, hB'⟩ := HRL.item (k := 0) (p := p) rfl
          rw [add_zero3] at hc
          by_cases h2 : p.length = 1
          · obtain ⟨z, hz⟩ : ∃ z, p = [z] := by
              match p, h2 with
              | [z], _ => exact ⟨z, rfl⟩
            subst hz
            obtain ⟨zd, rfl, _, hzc⟩ := hB' 0 (.int .i64 z) rfl
            rw [add_zero3] at hzc
            rw [show ([z] : List Int).length = 1 from rfl] at hc hcc
            by_cases h3 : z = -1
            · subst h3
              go_wp2
              go_ret
              exact ⟨by rw [HE.out]; rfl, hid.out.2⟩
            · have e3 : ((z : Int) == -1) = false := by simp [h3]
              have H3 := Lib.hid h3; clear h3
              go_wp2
              go_ret
              exact ⟨by rw [HE.out, if_neg (fun e => H3.out (by simpa using e))]; rfl, hid.out.2⟩
          · generalize hpl : p.length = pl at hc hcc h2
            have e2 : ((pl : Int) == 1) = false := by simp; omega
            have H2 := Lib.hid (show ¬ p = [-1] from fun e => h2 (by rw [← hpl, e]; rfl))
            clear h2 hpl
            go_wp2
            go_ret
            exact ⟨by rw [HE.out, if_neg (fun e => H2.out (by simpa using e))]; rfl, hid.out.2⟩
        · have e1 : ((n : Int) == 1) = false := by simp; omega
          have H1 := Lib.hid (show ¬ l = [[-1]] from fun e => h1 (by rw [Hn.out, e]; rfl))
          clear h1 HRL
          go_wp2
          go_ret
          exact ⟨by rw [HE.out, if_neg H1.out]; rfl, hid.out.2⟩
end Go.Proofs.YtelglcchcpnfbaaDoor.Par
