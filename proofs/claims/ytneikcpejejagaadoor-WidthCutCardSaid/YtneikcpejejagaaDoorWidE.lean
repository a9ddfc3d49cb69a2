/-
  Contract of the width package's Cut: it returns the encodings of the code points that fit, and of those behind them.
-/
import Derived.Test.YtneikcpejejagaaDoorWidD
import Derived.Test.YtneikcpejejagaaDoorUtfH
namespace Go.Proofs.YtneikcpejejagaaDoor.Wid
open Go.RowKit Utf

theorem text_of (A : Option Addr) (c n : Nat) (zs : List Int) (hn : zs.length = n) (w : World) (h : Rd w A (cI zs)) (hm : Mk w) (hl : zs.length ≤ 100000) :
    Calls Tryd.prog 15 #[.slice A n c] w fun e w' => e = .returned (.string ⟨(textL zs).toArray⟩) ∧ Below w.heap.size w w' := by
  subst hn; exact text_any A c zs w h hm hl
theorem codes_len2 (s : ByteArray) (hs : s.size ≤ 40000) : (codesL s.data.toList).length ≤ 100000 := by
  have h1 := runL_len ([], []) s.data.toList
  have h2 := flushL_len (runL ([], []) s.data.toList).1
  simp only [List.length_nil, Array.length_toList] at h1
  unfold codesL
  rw [List.length_append]
  have : s.data.size = s.size := rfl
  omega
theorem rd_take {w : World} {A : Option Addr} {zs : List Int} (h : Rd w A (cI zs)) (k : Nat) : Rd w A (cI (zs.take k)) := fun j u hu => by
  rw [show cI (zs.take k) = (cI zs).take k by simp [cI]] at hu
  by_cases hj : j < k
  · exact h j u (by rw [List.getElem?_take_of_lt hj] at hu; exact hu)
  · rw [List.getElem?_take, if_neg hj] at hu; cases hu
theorem rd_drop {w : World} {ad : Addr} {zs : List Int} (h : Rd w (some ad) (cI zs)) (k : Nat) : Rd w (some (ad.add k)) (cI (zs.drop k)) := fun j u hu => by
  rw [show cI (zs.drop k) = (cI zs).drop k by simp [cI], List.getElem?_drop] at hu
  obtain ⟨_, e, hlt, hc⟩ := h (k + j) u hu
  cases e
  have e2 : (ad.add k).block = ad.block := by unfold Addr.add; split <;> rfl
  exact ⟨_, rfl, by rw [e2]; exact hlt, by rw [Deep.add_add]; exact hc⟩

set_option maxRecDepth 100000 in
set_option maxHeartbeats 2000000 in
theorem cut_any (s : ByteArray) (k : Int) (w : World) (h : Tb w) (hs : s.size ≤ 40000) :
    Calls Tryd.prog 11 #[.string s, .int .i64 k] w fun e w' => e = .returned (.tuple #[.string ⟨(textL ((codesL s.data.toList).take (cutN (codesL s.data.toList) k))).toArray⟩, .string ⟨(textL ((codesL s.data.toList).drop (cutN (codesL s.data.toList) k))).toArray⟩]) ∧ Below w.heap.size w w' := by
  have H := Lib.hid h; clear h
  have hlen := codes_len2 s hs
  go_enter Tryd.func11, Tryd.ntmps11
  go_wp2_with fail
  refine (codes_any s _ (H.out).1 (by omega)).mono ?_
  rintro e w1 ⟨v, rfl, hown, hb1⟩
  obtain ⟨A, cp, hv, hcp, hr⟩ := own_slice hown
  rw [hv] at hown ⊢
  have hab := own_lt hown
  obtain ⟨cs, hcs⟩ : ∃ cs, codesL s.data.toList = cs := ⟨_, rfl⟩
  rw [hcs] at hlen hr hcp ⊢
  go_wp2_with fail
  refine (adder_any _).mono ?_
  rintro e w0 ⟨rfl, hw0⟩
  have bx := Boxed.new w1 3 (.int .i64 0)
  have hb0 : Below w1.heap.size w1 (w1.alloc (.cells #[.int .i64 0] 3)) := (Below.refl _ w1).alloc (Nat.le_refl _) _
  rw [← hw0] at bx hb0
  clear hw0
  have HS := Lib.hid (show SumAt w w1.heap.size A cs 0 w0 from ⟨bx, hr.below hb0, ⟨fun ad e => by have := hab ad e; omega, hb1.size⟩, hb1.trans (hb0.mono hb1.size)⟩)
  have Hcs := Lib.hid hcs
  clear hcs hr hown hv hb1 hb0 bx hab
  go_wp2_with fail
  go_loopw [8] (fun i wr => ∃ n : Nat, n ≤ cs.length ∧ i = .int .i64 n ∧ Hid (CutAt cs k n) ∧ Hid (SumAt w w1.heap.size A cs (colsL (cs.take n)) wr)) (fun i _ => cs.length - (intOf i).toNat)
  case atStart => exact ⟨0, Nat.zero_le _, rfl, CutAt.zero _ _, HS⟩
  case round =>
    clear HS
    obtain ⟨n, hn, rfl, hcut, hid⟩ := hrel
    have hcb := colsL_bd (cs.take n)
    rw [List.length_take] at hcb
    by_cases hlt : n < cs.length
    · obtain ⟨z, hz⟩ : ∃ z, cs[n]? = some z := ⟨cs[n], by simp [hlt]⟩
      have hct := colsL_take cs n z hz
      obtain ⟨ad, rfl, hblk, hc⟩ := (hid.out.2.1) n _ (cI_at cs n z hz)
      have Hz := Lib.hid hz; clear hz
      obtain ⟨t, ht⟩ : ∃ t, colsL (cs.take n) = t := ⟨_, rfl⟩
      have hw := wp_bd z
      by_cases hfit : t + wp z ≤ k
      · have Hnx := Lib.hid (hcut.out.next Hz.out (by rw [ht]; exact hfit))
        rw [ht] at hct hid hcb
        have Hct := Lib.hid hct; clear hct ht
        go_wp2_with fail
        refine (adder1_any z t _ _ ((H.out).keep hid.out.2.2.2) hid.out.1.cell hid.out.1.frozen hid.out.1.lt (by omega) (by omega)).mono ?_
        rintro e w2 ⟨rfl, w3, hb3, rfl⟩
        have HN := Lib.hid (hid.out.add (t2 := t + wp z) hb3)
        clear hb3 hid
        go_wp2
        go_roundw
        case rel => exact ⟨n + 1, by omega, by go_num, Hnx, by rw [Hct.out]; exact HN⟩
        case measure => simp [intOf]; omega
      · have Hnx := Lib.hid (hcut.out.stop Hz.out (by rw [ht]; exact hfit))
        rw [ht] at hct hid hcb
        clear hct ht
        go_wp2_with fail
        refine (adder1_any z t _ _ ((H.out).keep hid.out.2.2.2) hid.out.1.cell hid.out.1.frozen hid.out.1.lt (by omega) (by omega)).mono ?_
        rintro e w2 ⟨rfl, w3, hb3, rfl⟩
        have HN := Lib.hid (hid.out.add (t2 := t + wp z) hb3)
        clear hb3 hid
        obtain ⟨W, hW⟩ : ∃ W, w3.setCell ⟨w1.heap.size, 0, none⟩ (.int .i64 (t + wp z)) = W := ⟨_, rfl⟩
        rw [hW] at HN ⊢
        clear hW
        go_wp2_with fail
        have R1 := Lib.hid (rd_take HN.out.2.1 n)
        have R2 := Lib.hid (rd_drop HN.out.2.1 n)
        have HM := Lib.hid ((H.out).keep HN.out.2.2.2).1
        have HB := Lib.hid HN.out.2.2.2
        have L1 := Lib.hid (show (cs.take n).length = n by rw [List.length_take]; omega)
        have L2 := Lib.hid (show (cs.drop n).length = cs.length - n by rw [List.length_drop])
        clear HN
        have hG : Below W.heap.size W W.drew := (Below.refl _ W).drew
        go_region_with (first
          | (go_at_call 15; ((with_reducible refine (text_of (some ad) cp n (cs.take n) L1.out _ (by exact (R1.out).below hG) (by exact (HM.out).keep hG) (by rw [L1.out]; omega)).mono ?_); (rintro e wA ⟨rfl, hbA⟩; have hG := hG.trans (hbA.mono hG.size))))
          | (go_at_call 15; ((with_reducible refine (text_of (some (ad.add n)) (cp - n) (cs.length - n) (cs.drop n) L2.out _ (by exact (R2.out).below hG) (by exact (HM.out).keep hG) (by rw [L2.out]; omega)).mono ?_); (rintro e wA ⟨rfl, hbA⟩; have hG := hG.trans (hbA.mono hG.size)))))
        all_goals
          go_wp2
          go_ret2
          exact ⟨by rw [Hcs.out, ← Hnx.out]; rfl, (HB.out).trans (hG.mono (HB.out).size)⟩
    · have Hnx := Lib.hid (hcut.out.full (by omega))
      have HB := Lib.hid hid.out.2.2.2
      have HM := Lib.hid ((H.out).keep hid.out.2.2.2).1
      have HR := Lib.hid hid.out.2.1
      clear hid hcut
      obtain rfl : cs.length = n := by omega
      clear hlt hn hcb
      have HD := Lib.hid (show cs.drop cs.length = [] by simp)
      have HT := Lib.hid (show cs.take cs.length = cs by simp)
      have hG : Below wr.heap.size wr wr.drew := (Below.refl _ wr).drew
      cases A with
      | none =>
        go_wp2_with fail
        go_region_with (first
          | (go_at_call 15; ((with_reducible refine (text_of _ _ cs.length cs rfl _ (by exact (HR.out).below hG) (by exact (HM.out).keep hG) hlen).mono ?_); (rintro e wA ⟨rfl, hbA⟩; have hG := hG.trans (hbA.mono hG.size))))
          | (go_at_call 15; ((with_reducible refine (text_of _ _ 0 [] rfl _ (Rd.nil _ _) (by exact (HM.out).keep hG) (by simp)).mono ?_); (rintro e wA ⟨rfl, hbA⟩; have hG := hG.trans (hbA.mono hG.size)))))
        all_goals
          go_wp2
          go_ret2
          exact ⟨by rw [Hcs.out, ← Hnx.out, HD.out, HT.out]; rfl, (HB.out).trans (hG.mono (HB.out).size)⟩
      | some ad =>
        by_cases hcp2 : cp = cs.length
        · go_wp2_with fail
          go_region_with (first
            | (go_at_call 15; ((with_reducible refine (text_of _ _ cs.length cs rfl _ (by exact (HR.out).below hG) (by exact (HM.out).keep hG) hlen).mono ?_); (rintro e wA ⟨rfl, hbA⟩; have hG := hG.trans (hbA.mono hG.size))))
            | (go_at_call 15; ((with_reducible refine (text_of _ _ 0 [] rfl _ (Rd.nil _ _) (by exact (HM.out).keep hG) (by simp)).mono ?_); (rintro e wA ⟨rfl, hbA⟩; have hG := hG.trans (hbA.mono hG.size)))))
          all_goals
            go_wp2
            go_ret2
            exact ⟨by rw [Hcs.out, ← Hnx.out, HD.out, HT.out]; rfl, (HB.out).trans (hG.mono (HB.out).size)⟩
        · go_wp2_with fail
          go_region_with (first
            | (go_at_call 15; ((with_reducible refine (text_of _ _ cs.length cs rfl _ (by exact (HR.out).below hG) (by exact (HM.out).keep hG) hlen).mono ?_); (rintro e wA ⟨rfl, hbA⟩; have hG := hG.trans (hbA.mono hG.size))))
            | (go_at_call 15; ((with_reducible refine (text_of _ _ 0 [] rfl _ (Rd.nil _ _) (by exact (HM.out).keep hG) (by simp)).mono ?_); (rintro e wA ⟨rfl, hbA⟩; have hG := hG.trans (hbA.mono hG.size)))))
          all_goals
            go_wp2
            go_ret2
            exact ⟨by rw [Hcs.out, ← Hnx.out, HD.out, HT.out]; rfl, (HB.out).trans (hG.mono (HB.out).size)⟩
end Go.Proofs.YtneikcpejejagaaDoor.Wid
