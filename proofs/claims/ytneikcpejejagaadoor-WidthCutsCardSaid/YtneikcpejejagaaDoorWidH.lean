/-
  Contracts of the reference's Columns, Text, Cut of layer 2.
-/
import Derived.Test.YtneikcpejejagaaDoorWidG
import Derived.Test.YtneikcpejejagaaDoorUtfS
namespace Go.Proofs.YtneikcpejejagaaDoor.Wid
open Go.RowKit Utf

set_option maxRecDepth 100000 in
set_option maxHeartbeats 2000000 in
theorem rcolumns_any (A : Option Addr) (c n : Nat) (zs : List Int) (hn : zs.length = n) (w : World) (h : Rd w A (cI zs)) (hl : zs.length ≤ 1000000) :
    Calls Tryd.prog 26 #[.slice A n c] w fun e w' => e = .returned (.int .i64 (colsL zs)) ∧ Below w.heap.size w w' := by
  subst hn
  have H := Lib.hid h; clear h
  go_enter Tryd.func26, Tryd.ntmps26
  go_wp2
  go_loopw [3, 4] (fun t i wr => ∃ k : Nat, k ≤ zs.length ∧ i = .int .i64 k ∧ t = .int .i64 (colsL (zs.take k)) ∧ Below w.heap.size w wr) (fun _ i _ => zs.length - (intOf i).toNat)
  case atStart => exact ⟨0, Nat.zero_le _, rfl, rfl, Below.refl _ _⟩
  case round =>
    obtain ⟨k, hk, rfl, rfl, hb⟩ := hrel
    have hcb := colsL_bd (zs.take k)
    rw [List.length_take] at hcb
    by_cases hlt : k < zs.length
    · obtain ⟨z, hz⟩ : ∃ z, zs[k]? = some z := ⟨zs[k], by simp [hlt]⟩
      obtain ⟨ad, rfl, hblk, hc⟩ := ((H.out).below hb) k _ (cI_at zs k z hz)
      have Hct := Lib.hid (colsL_take zs k z hz); clear hz
      obtain ⟨t, ht⟩ : ∃ t, colsL (zs.take k) = t := ⟨_, rfl⟩
      rw [ht] at Hct hcb ⊢
      clear ht
      have hw := wp_bd z
      have hwi := wid_bd z
      go_wp2_with fail
      refine (rof_any _ _).mono ?_
      rintro e w1 ⟨rfl, hb1⟩
      have hb2 := hb.trans (hb1.mono hb.size)
      clear hb hb1 hc
      have Hx := Lib.hid (show (if 0 < wid z then wid z else 0) = wp z by unfold wp; split <;> omega)
      go_wp2
      go_roundw
      case rel => exact ⟨k + 1, by omega, by go_num, by rw [Hx.out, Hct.out], hb2⟩
      case measure => simp [intOf]; omega
    · have ht : zs.take k = zs := List.take_of_length_le (by omega)
      rw [ht] at hcb ⊢
      clear ht
      go_wp2
      go_ret
      exact ⟨rfl, hb⟩

theorem rwtext_any (s : ByteArray) (w : World) (hs : s.size ≤ 100000) :
    Calls Tryd.prog 14 #[.string s] w fun e w' => e = .returned (.int .i64 (colsL (codesL s.data.toList))) ∧ Below w.heap.size w w' := by
  have hlen := codes_len s hs
  go_enter Tryd.func14, Tryd.ntmps14
  go_wp2_with fail
  refine (rcodes_any s _ hs).mono ?_
  rintro e w1 ⟨v, rfl, hown, hb1⟩
  obtain ⟨A, cp, hv, _, hr⟩ := own_slice hown
  rw [hv]
  have HR := Lib.hid hr; clear hr hown hv
  go_wp2_with fail
  refine (rcolumns_any A cp _ _ rfl _ HR.out (by omega)).mono ?_
  rintro e w2 ⟨rfl, hb2⟩
  go_wp2
  go_ret
  exact ⟨rfl, hb1.trans (hb2.mono hb1.size)⟩

set_option maxRecDepth 100000 in
set_option maxHeartbeats 2000000 in
theorem rcut_any (s : ByteArray) (k : Int) (w : World) (hs : s.size ≤ 40000) :
    Calls Tryd.prog 12 #[.string s, .int .i64 k] w fun e w' => e = .returned (.tuple #[.string ⟨(textL ((codesL s.data.toList).take (cutN (codesL s.data.toList) k))).toArray⟩, .string ⟨(textL ((codesL s.data.toList).drop (cutN (codesL s.data.toList) k))).toArray⟩]) ∧ Below w.heap.size w w' := by
  have hlen := codes_len2 s hs
  go_enter Tryd.func12, Tryd.ntmps12
  go_wp2_with fail
  refine (rcodes_any s _ (by omega)).mono ?_
  rintro e w1 ⟨v, rfl, hown, hb1⟩
  obtain ⟨A, cp, hv, hcp, hr⟩ := own_slice hown
  rw [hv]
  obtain ⟨cs, hcs⟩ : ∃ cs, codesL s.data.toList = cs := ⟨_, rfl⟩
  rw [hcs] at hlen hr hcp ⊢
  have HR := Lib.hid hr
  have Hcs := Lib.hid hcs
  clear hcs hr hown hv
  go_wp2_with fail
  go_loopw [7] (fun i wr => ∃ n : Nat, n ≤ cs.length ∧ i = .int .i64 n ∧ Hid (CutAt cs k n) ∧ Hid (Rd wr A (cI cs) ∧ Below w.heap.size w wr)) (fun i _ => cs.length - (intOf i).toNat)
  case atStart => exact ⟨0, Nat.zero_le _, rfl, CutAt.zero _ _, HR.out, hb1⟩
  case round =>
    clear HR hb1
    obtain ⟨n, hn, rfl, hcut, hid⟩ := hrel
    have hcb := colsL_bd (cs.take n)
    rw [List.length_take] at hcb
    by_cases hneg : k < 0
    · have h0 : n = 0 := by
        have h1 := hcut.out.2
        rw [cutN_neg cs k hneg] at h1
        omega
      subst h0
      have Hnx := Lib.hid (show 0 = cutN cs k from (cutN_neg cs k hneg).symm)
      have HB := Lib.hid hid.out.2
      have HR := Lib.hid hid.out.1
      have hG : Below wr.heap.size wr wr.drew := (Below.refl _ wr).drew
      clear hid hcut hcb
      cases A with
      | none =>
        have hc0 : cs = [] := by
          cases cs with
          | nil => rfl
          | cons x r => obtain ⟨_, e, _⟩ := HR.out 0 _ rfl; cases e
        subst hc0
        go_wp2_with fail
        go_region_with (first
          | (go_at_call 27; ((with_reducible refine (rtext_any _ _ 0 [] rfl _ (Rd.nil _ _) (by simp)).mono ?_); (rintro e wA ⟨rfl, hbA⟩; have hG := hG.trans (hbA.mono hG.size))))
          | (go_at_call 27; ((with_reducible refine (rtext_any _ _ 0 [] rfl _ (Rd.nil _ _) (by simp)).mono ?_); (rintro e wA ⟨rfl, hbA⟩; have hG := hG.trans (hbA.mono hG.size)))))
        all_goals
          go_wp2
          go_ret2
          exact ⟨by rw [Hcs.out, ← Hnx.out]; rfl, (HB.out).trans (hG.mono (HB.out).size)⟩
      | some ad =>
        by_cases hcp2 : cp = 0
        · go_wp2_with fail
          go_region_with (first
            | (go_at_call 27; ((with_reducible refine (rtext_any _ _ 0 [] rfl _ (Rd.nil _ _) (by simp)).mono ?_); (rintro e wA ⟨rfl, hbA⟩; have hG := hG.trans (hbA.mono hG.size))))
            | (go_at_call 27; ((with_reducible refine (rtext_any _ _ cs.length cs rfl _ (by exact (HR.out).below hG) hlen).mono ?_); (rintro e wA ⟨rfl, hbA⟩; have hG := hG.trans (hbA.mono hG.size)))))
          all_goals
            go_wp2
            go_ret2
            exact ⟨by rw [Hcs.out, ← Hnx.out]; rfl, (HB.out).trans (hG.mono (HB.out).size)⟩
        · go_wp2_with fail
          go_region_with (first
            | (go_at_call 27; ((with_reducible refine (rtext_any _ _ 0 [] rfl _ (Rd.nil _ _) (by simp)).mono ?_); (rintro e wA ⟨rfl, hbA⟩; have hG := hG.trans (hbA.mono hG.size))))
            | (go_at_call 27; ((with_reducible refine (rtext_any _ _ cs.length cs rfl _ (by exact (HR.out).below hG) hlen).mono ?_); (rintro e wA ⟨rfl, hbA⟩; have hG := hG.trans (hbA.mono hG.size)))))
          all_goals
            go_wp2
            go_ret2
            exact ⟨by rw [Hcs.out, ← Hnx.out]; rfl, (HB.out).trans (hG.mono (HB.out).size)⟩
    · by_cases hlt : n < cs.length
      · obtain ⟨z, hz⟩ : ∃ z, cs[n]? = some z := ⟨cs[n], by simp [hlt]⟩
        have Hct := Lib.hid (colsL_take cs n z hz)
        obtain ⟨ad, rfl, hblk, hc⟩ := (hid.out.1) n _ (cI_at cs n z hz)
        have Hz := Lib.hid hz; clear hz
        have hw := wp_bd z
        have RT := Lib.hid (rd_take hid.out.1 (n + 1))
        have LT := Lib.hid (show (cs.take (n + 1)).length = n + 1 by rw [List.length_take]; omega)
        obtain ⟨t, ht⟩ : ∃ t, colsL (cs.take n) = t := ⟨_, rfl⟩
        by_cases hfit : t + wp z ≤ k
        · have Hnx := Lib.hid (hcut.out.next Hz.out (by rw [ht]; exact hfit))
          rw [ht] at Hct hcb
          clear ht
          go_wp2_with fail
          refine (rcolumns_any (some ad) cp (n + 1) (cs.take (n + 1)) LT.out _ RT.out (by rw [LT.out]; omega)).mono ?_
          rintro e w2 ⟨rfl, hb2⟩
          rw [Hct.out]
          have HN := Lib.hid (show Rd w2 (some ad) (cI cs) ∧ Below w.heap.size w w2 from ⟨(hid.out.1).below hb2, (hid.out.2).trans (hb2.mono (hid.out.2).size)⟩)
          clear hid hb2 hc
          go_wp2
          go_roundw
          case rel => exact ⟨n + 1, by omega, by go_num, Hnx, HN⟩
          case measure => simp [intOf]; omega
        · have Hnx := Lib.hid (hcut.out.stop Hz.out (by rw [ht]; exact hfit))
          rw [ht] at Hct hcb
          clear ht
          go_wp2_with fail
          refine (rcolumns_any (some ad) cp (n + 1) (cs.take (n + 1)) LT.out _ RT.out (by rw [LT.out]; omega)).mono ?_
          rintro e w2 ⟨rfl, hb2⟩
          rw [Hct.out]
          have HR := Lib.hid ((hid.out.1).below hb2)
          have HB := Lib.hid ((hid.out.2).trans (hb2.mono (hid.out.2).size))
          clear hid hb2 hc
          go_wp2_with fail
          have R1 := Lib.hid (rd_take HR.out n)
          have R2 := Lib.hid (rd_drop HR.out n)
          have L1 := Lib.hid (show (cs.take n).length = n by rw [List.length_take]; omega)
          have L2 := Lib.hid (show (cs.drop n).length = cs.length - n by rw [List.length_drop])
          have hG : Below w2.heap.size w2 w2.drew := (Below.refl _ w2).drew
          go_region_with (first
            | (go_at_call 27; ((with_reducible refine (rtext_any (some ad) cp n (cs.take n) L1.out _ (by exact (R1.out).below hG) (by rw [L1.out]; omega)).mono ?_); (rintro e wA ⟨rfl, hbA⟩; have hG := hG.trans (hbA.mono hG.size))))
            | (go_at_call 27; ((with_reducible refine (rtext_any (some (ad.add n)) (cp - n) (cs.length - n) (cs.drop n) L2.out _ (by exact (R2.out).below hG) (by rw [L2.out]; omega)).mono ?_); (rintro e wA ⟨rfl, hbA⟩; have hG := hG.trans (hbA.mono hG.size)))))
          all_goals
            go_wp2
            go_ret2
            exact ⟨by rw [Hcs.out, ← Hnx.out]; rfl, (HB.out).trans (hG.mono (HB.out).size)⟩
      · have Hnx := Lib.hid (hcut.out.full (by omega))
        have HB := Lib.hid hid.out.2
        have HR := Lib.hid hid.out.1
        clear hid hcut
        obtain rfl : cs.length = n := by omega
        clear hlt hn hcb
        have HD := Lib.hid (show cs.drop cs.length = [] by simp)
        have HT := Lib.hid (show cs.take cs.length = cs by simp)
        have hG : Below wr.heap.size wr wr.drew := (Below.refl _ wr).drew
        cases A with
        | none =>
          go_wp2_with fail
          go_region_with (first
            | (go_at_call 27; ((with_reducible refine (rtext_any _ _ cs.length cs rfl _ (by exact (HR.out).below hG) hlen).mono ?_); (rintro e wA ⟨rfl, hbA⟩; have hG := hG.trans (hbA.mono hG.size))))
            | (go_at_call 27; ((with_reducible refine (rtext_any _ _ 0 [] rfl _ (Rd.nil _ _) (by simp)).mono ?_); (rintro e wA ⟨rfl, hbA⟩; have hG := hG.trans (hbA.mono hG.size)))))
          all_goals
            go_wp2
            go_ret2
            exact ⟨by rw [Hcs.out, ← Hnx.out, HD.out, HT.out]; rfl, (HB.out).trans (hG.mono (HB.out).size)⟩
        | some ad =>
          by_cases hcp2 : cp = cs.length
          · go_wp2_with fail
            go_region_with (first
              | (go_at_call 27; ((with_reducible refine (rtext_any _ _ cs.length cs rfl _ (by exact (HR.out).below hG) hlen).mono ?_); (rintro e wA ⟨rfl, hbA⟩; have hG := hG.trans (hbA.mono hG.size))))
              | (go_at_call 27; ((with_reducible refine (rtext_any _ _ 0 [] rfl _ (Rd.nil _ _) (by simp)).mono ?_); (rintro e wA ⟨rfl, hbA⟩; have hG := hG.trans (hbA.mono hG.size)))))
            all_goals
              go_wp2
              go_ret2
              exact ⟨by rw [Hcs.out, ← Hnx.out, HD.out, HT.out]; rfl, (HB.out).trans (hG.mono (HB.out).size)⟩
          · go_wp2_with fail
            go_region_with (first
              | (go_at_call 27; ((with_reducible refine (rtext_any _ _ cs.length cs rfl _ (by exact (HR.out).below hG) hlen).mono ?_); (rintro e wA ⟨rfl, hbA⟩; have hG := hG.trans (hbA.mono hG.size))))
              | (go_at_call 27; ((with_reducible refine (rtext_any _ _ 0 [] rfl _ (Rd.nil _ _) (by simp)).mono ?_); (rintro e wA ⟨rfl, hbA⟩; have hG := hG.trans (hbA.mono hG.size)))))
            all_goals
              go_wp2
              go_ret2
              exact ⟨by rw [Hcs.out, ← Hnx.out, HD.out, HT.out]; rfl, (HB.out).trans (hG.mono (HB.out).size)⟩
end Go.Proofs.YtneikcpejejagaaDoor.Wid
