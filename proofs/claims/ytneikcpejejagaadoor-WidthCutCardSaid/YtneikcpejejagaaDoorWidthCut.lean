/-
  The walk of the law WidthCut: it returns true, whatever its arguments; nothing that lay before the call has turned.
-/
import Derived.Test.YtneikcpejejagaaDoorWidthSums
import Derived.Deep.RegionHeld3
namespace Go.Proofs.YtneikcpejejagaaDoor.Wid
open Go.RowKit Utf

theorem rep_list {l : List Int} (h : l.map rep = l) (k : Nat) : (l.take k).map rep = l.take k ∧ (l.drop k).map rep = l.drop k := by
  rw [List.map_take, List.map_drop, h]
  exact ⟨rfl, rfl⟩
theorem bytes_ext' {a b : ByteArray} (h : a.data.toList = b.data.toList) : a = b := by
  cases a
  cases b
  congr 1
  exact Array.toList_inj.1 h
/-- all that the law asks of a text, its cut at k columns and the two parts -/
structure CutFacts (s a b : ByteArray) (cs : List Int) (k t1 t2 : Int) : Prop where
  ha : textL ((codesL s.data.toList).take (cutN (codesL s.data.toList) k)) = a.data.toList
  hb : textL ((codesL s.data.toList).drop (cutN (codesL s.data.toList) k)) = b.data.toList
  hab : a ++ b = s
  wa : colsL (codesL a.data.toList) = t1
  wb : colsL (codesL b.data.toList) = t2
  ws : colsL (codesL s.data.toList) = t1 + t2
  fit : t1 ≤ k
  nn : 0 ≤ t1 ∧ t1 ≤ 100 ∧ 0 ≤ t2 ∧ t2 ≤ 100
  aa : textL ((codesL a.data.toList).take (cutN (codesL a.data.toList) k)) = a.data.toList ∧ textL ((codesL a.data.toList).drop (cutN (codesL a.data.toList) k)) = (⟨#[]⟩ : ByteArray).data.toList
  sz : a.size ≤ 200 ∧ b.size ≤ 200
  cb : codesL b.data.toList = cs
  e0 : cs = [] → b = ⟨#[]⟩ ∧ t2 = 0
  ne : ∀ z r, cs = z :: r → b.data.toList ≠ [] ∧ 0 < wid z ∧ k < t1 + wid z
theorem cut_facts (P : List Int) (s : ByteArray) (k : Int) (hP : P.length ≤ 50) (hs : s.data.toList = textL P) (hk : 0 ≤ k) : ∃ a b cs t1 t2, CutFacts s a b cs k t1 t2 := by
  have hc : codesL s.data.toList = P.map rep := by rw [hs, codes_text]
  obtain ⟨C, hC⟩ : ∃ C, P.map rep = C := ⟨_, rfl⟩
  have hCr : C.map rep = C := by rw [← hC]; exact rep_map P
  have hCl : C.length ≤ 50 := by rw [← hC, List.length_map]; exact hP
  rw [hC] at hc
  obtain ⟨N, hN⟩ : ∃ N, cutN C k = N := ⟨_, rfl⟩
  obtain ⟨a, ha⟩ := (show ∃ a : ByteArray, textL (C.take N) = a.data.toList from ⟨⟨(textL (C.take N)).toArray⟩, by simp⟩)
  obtain ⟨b, hb⟩ := (show ∃ b : ByteArray, textL (C.drop N) = b.data.toList from ⟨⟨(textL (C.drop N)).toArray⟩, by simp⟩)
  have hca : codesL a.data.toList = C.take N := by rw [← ha, codes_text]; exact (rep_list hCr N).1
  have hcb : codesL b.data.toList = C.drop N := by rw [← hb, codes_text]; exact (rep_list hCr N).2
  have hfit : colsL (C.take N) ≤ k := by rw [← hN]; exact cutN_fits C k hk
  have hsum : colsL C = colsL (C.take N) + colsL (C.drop N) := by rw [← colsL_app, List.take_append_drop]
  have b1 := colsL_bd (C.take N)
  have b2 := colsL_bd (C.drop N)
  have l1 : (C.take N).length ≤ 50 := by rw [List.length_take]; omega
  have l2 : (C.drop N).length ≤ 50 := by rw [List.length_drop]; omega
  have s1 := textL_len (C.take N)
  have s2 := textL_len (C.drop N)
  have ea : a.size = (textL (C.take N)).length := by rw [ha]; rfl
  have eb : b.size = (textL (C.drop N)).length := by rw [hb]; rfl
  refine ⟨a, b, C.drop N, colsL (C.take N), colsL (C.drop N), ⟨?_, ?_, ?_, ?_, ?_, ?_, hfit, ?_, ?_, ?_, hcb, ?_, ?_⟩⟩
  · rw [hc, hN]; exact ha
  · rw [hc, hN]; exact hb
  · apply bytes_ext'
    rw [ByteArray.data_append, Array.toList_append, ← ha, ← hb, ← textL_app, List.take_append_drop, hs, ← hC, textL_rep]
  · rw [hca]
  · rw [hcb]
  · rw [hc]; exact hsum
  · omega
  · rw [hca, cutN_all _ _ hfit]
    refine ⟨?_, ?_⟩
    · rw [List.take_of_length_le (Nat.le_refl _)]; exact ha
    · rw [List.drop_of_length_le (Nat.le_refl _)]; rfl
  · omega
  · intro h0
    rw [h0] at hb ⊢
    exact ⟨(ba_list hb).symm, rfl⟩
  · intro z r hz
    have h1 := cutN_next C k z r (by rw [hN]; exact hz)
    rw [hN] at h1
    have h2 : wp z = wid z := by have := wid_bd z; unfold wp at h1 ⊢; omega
    refine ⟨?_, by omega, by omega⟩
    rw [← hb]
    intro h3
    have := textL_nil h3
    rw [this] at hz
    cases hz

set_option maxRecDepth 100000 in
set_option maxHeartbeats 8000000 in
theorem wcut_any (A : Option Addr) (n c : Nat) (xs : List Int) (u : UInt8) (w : World) (h : Tb w) (hx : Rd w A (cI xs)) (hn : xs.length = n) (hc : n ≤ c) (hcb : c ≤ 9223372036854775807) :
    Calls Tryd.prog 5 #[.slice A n c, .int .u8 (u.toNat : Int)] w fun e w' => e = .returned (.bool true) ∧ Below w.heap.size w w' := by
  have H := Lib.hid h; clear h
  have HX := Lib.hid hx; clear hx
  have Hn := Lib.hid hn; clear hn
  have hu : (u.toNat : Int) < 256 := by have := u.toNat_lt; omega
  rcases (show (n ≤ 50) ∨ (50 < n) by omega) with h1 | h1
  · go_enter Tryd.func5, Tryd.ntmps5
    go_wp2_with fail
    refine (works_any _ H.out).mono ?_
    rintro e w1 ⟨rfl, hb1⟩
    go_wp2_with fail
    obtain ⟨P, hP⟩ : ∃ P, xs.take n = P := ⟨_, rfl⟩
    have RX := Lib.hid (show Rd w1 A (cI P) by rw [← hP]; exact rd_take ((HX.out).below hb1) _)
    have LX := Lib.hid (show P.length = n by rw [← hP, List.length_take, Hn.out]; omega)
    have hP50 : P.length ≤ 50 := by rw [LX.out]; omega
    clear hP HX
    refine (text_of A c n P LX.out _ RX.out ((H.out).keep hb1).1 (by omega)).mono ?_
    rintro e w2 ⟨rfl, hb2⟩
    have hb3 := hb1.trans (hb2.mono hb1.size)
    have z1 := text_sz P 50 hP50
    obtain ⟨s, hs⟩ : ∃ s : ByteArray, (⟨(textL P).toArray⟩ : ByteArray) = s := ⟨_, rfl⟩
    have Hs := Lib.hid (show s.data.toList = textL P by rw [← hs])
    rw [hs] at z1 ⊢
    clear hs hb1 hb2 RX LX hcb hc h1
    go_wp2_with fail
    obtain ⟨k, hk⟩ : ∃ k : Int, (u.toNat : Int) % 60 = k := ⟨_, rfl⟩
    have hk0 : 0 ≤ k := by omega
    have hk1 : k < 60 := by omega
    rw [hk]
    clear hk hu
    obtain ⟨a, b, cs, t1, t2, F⟩ := cut_facts P s k hP50 Hs.out hk0
    have HF := Lib.hid F
    have f1 := F.fit
    obtain ⟨f2, f3, f4, f5⟩ := F.nn
    have f6 := F.sz.1
    have f7 := F.sz.2
    have Hab := Lib.hid F.hab
    clear F Hs
    refine (cut_is s a b k _ ((H.out).keep hb3) (by omega) HF.out.ha HF.out.hb).mono ?_
    rintro e w3 ⟨rfl, hb4⟩
    have hb5 := hb3.trans (hb4.mono hb3.size)
    clear hb3 hb4
    have hab : a ++ b = s := Hab.out
    go_wp2_with fail
    refine (wtext_is a t1 HF.out.wa _ ((H.out).keep hb5) (by omega)).mono ?_
    rintro e w4 ⟨rfl, hb6⟩
    have hb7 := hb5.trans (hb6.mono hb5.size)
    clear hb5 hb6 hab
    go_wp2_with fail
    refine (wtext_is a t1 HF.out.wa _ ((H.out).keep hb7) (by omega)).mono ?_
    rintro e w5 ⟨rfl, hb8⟩
    have hb9 := hb7.trans (hb8.mono hb7.size)
    clear hb7 hb8
    go_wp2_with fail
    refine (wtext_is b t2 HF.out.wb _ ((H.out).keep hb9) (by omega)).mono ?_
    rintro e w6 ⟨rfl, hb10⟩
    have hb11 := hb9.trans (hb10.mono hb9.size)
    clear hb9 hb10
    go_wp2_with fail
    refine (wtext_is s (t1 + t2) HF.out.ws _ ((H.out).keep hb11) (by omega)).mono ?_
    rintro e w7 ⟨rfl, hb12⟩
    have hb13 := hb11.trans (hb12.mono hb11.size)
    clear hb11 hb12
    go_wp2_with fail
    refine (cuts_yes a a ⟨#[]⟩ k _ ((H.out).keep hb13) (by omega) HF.out.aa.1 HF.out.aa.2).mono ?_
    rintro e w8 ⟨rfl, hb14⟩
    have hb15 := hb13.trans (hb14.mono hb13.size)
    clear hb13 hb14
    obtain _ | ⟨z, r⟩ := cs
    · obtain ⟨e1, e2⟩ := HF.out.e0 rfl
      subst e1
      subst e2
      go_wp2_with fail
      refine (wtext_is s (t1 + 0) HF.out.ws _ ((H.out).keep hb15) (by omega)).mono ?_
      rintro e w9 ⟨rfl, hb16⟩
      have hb17 := hb15.trans (hb16.mono hb15.size)
      go_wp2
      go_ret
      exact ⟨rfl, hb17⟩
    · obtain ⟨g1, g2, g3⟩ := HF.out.ne z r rfl
      have hbe : b.toList.isEmpty = false := by
        rw [ByteArray.toList_eq]
        cases hl : b.data.toList with
        | nil => exact absurd hl g1
        | cons x y => rfl
      clear g1
      have hwz := wid_bd z
      go_wp2_with fail
      refine (codes_any b _ ((H.out).keep hb15).1 (by omega)).mono ?_
      rintro e w9 ⟨v, rfl, hown, hb16⟩
      obtain ⟨A9, c9, hv, _, hr⟩ := own_slice hown
      rw [HF.out.cb] at hv hr
      obtain ⟨ad, rfl, hblk, hcell⟩ := hr 0 (.int .i64 z) rfl
      have hcell : w9.cell? ad = some (.int .i64 z) := by simpa [Addr.add] using hcell
      rw [hv]
      have hb17 := hb15.trans (hb16.mono hb15.size)
      clear hb15 hb16 hown hv hr
      have rl : (0 : Int) < ((r.length + 1 : Nat) : Int) := by omega
      have hG : Below w9.heap.size w9 w9.drew := (Below.refl _ w9).drew
      go_wp2_with fail
      go_region_held3 (fun w' => w'.cell? ad = some (.int .i64 z))
        (first | go_keep | assumption | exact (hG.cell hblk).trans hcell)
        (first
          | (go_at_call 8; ((with_reducible refine (of_is z (wid z) rfl _ (by exact ((H.out).keep (hb17.trans (hG.mono hb17.size))))).mono ?_); (rintro e wA ⟨rfl, hbA⟩; have hG := hG.trans (hbA.mono hG.size))))
          | (go_at_call 13; ((with_reducible refine (wtext_is a t1 HF.out.wa _ (by exact ((H.out).keep (hb17.trans (hG.mono hb17.size)))) (by omega)).mono ?_); (rintro e wA ⟨rfl, hbA⟩; have hG := hG.trans (hbA.mono hG.size)))))
      all_goals
        have Hd := Lib.hid (show decide (k < IntKind.i64.wrap (t1 + wid z)) = true by rw [IntWalk.i64_in _ (by omega)]; exact decide_eq_true g3)
        go_wp2
        go_ret
        refine ⟨?_, hb17.trans (hG.mono hb17.size)⟩
        show Ending.returned (.bool (decide (k < IntKind.i64.wrap (t1 + wid z)))) = _
        rw [Hd.out]
  · go_enter Tryd.func5, Tryd.ntmps5
    go_wp2_with fail
    refine (works_any _ H.out).mono ?_
    rintro e w1 ⟨rfl, hb1⟩
    go_wp2_with fail
    obtain ⟨P, hP⟩ : ∃ P, xs.take 50 = P := ⟨_, rfl⟩
    have RX := Lib.hid (show Rd w1 A (cI P) by rw [← hP]; exact rd_take ((HX.out).below hb1) _)
    have LX := Lib.hid (show P.length = 50 by rw [← hP, List.length_take, Hn.out]; omega)
    have hP50 : P.length ≤ 50 := by rw [LX.out]; omega
    clear hP HX
    refine (text_of A c 50 P LX.out _ RX.out ((H.out).keep hb1).1 (by omega)).mono ?_
    rintro e w2 ⟨rfl, hb2⟩
    have hb3 := hb1.trans (hb2.mono hb1.size)
    have z1 := text_sz P 50 hP50
    obtain ⟨s, hs⟩ : ∃ s : ByteArray, (⟨(textL P).toArray⟩ : ByteArray) = s := ⟨_, rfl⟩
    have Hs := Lib.hid (show s.data.toList = textL P by rw [← hs])
    rw [hs] at z1 ⊢
    clear hs hb1 hb2 RX LX hcb hc h1
    go_wp2_with fail
    obtain ⟨k, hk⟩ : ∃ k : Int, (u.toNat : Int) % 60 = k := ⟨_, rfl⟩
    have hk0 : 0 ≤ k := by omega
    have hk1 : k < 60 := by omega
    rw [hk]
    clear hk hu
    obtain ⟨a, b, cs, t1, t2, F⟩ := cut_facts P s k hP50 Hs.out hk0
    have HF := Lib.hid F
    have f1 := F.fit
    obtain ⟨f2, f3, f4, f5⟩ := F.nn
    have f6 := F.sz.1
    have f7 := F.sz.2
    have Hab := Lib.hid F.hab
    clear F Hs
    refine (cut_is s a b k _ ((H.out).keep hb3) (by omega) HF.out.ha HF.out.hb).mono ?_
    rintro e w3 ⟨rfl, hb4⟩
    have hb5 := hb3.trans (hb4.mono hb3.size)
    clear hb3 hb4
    have hab : a ++ b = s := Hab.out
    go_wp2_with fail
    refine (wtext_is a t1 HF.out.wa _ ((H.out).keep hb5) (by omega)).mono ?_
    rintro e w4 ⟨rfl, hb6⟩
    have hb7 := hb5.trans (hb6.mono hb5.size)
    clear hb5 hb6 hab
    go_wp2_with fail
    refine (wtext_is a t1 HF.out.wa _ ((H.out).keep hb7) (by omega)).mono ?_
    rintro e w5 ⟨rfl, hb8⟩
    have hb9 := hb7.trans (hb8.mono hb7.size)
    clear hb7 hb8
    go_wp2_with fail
    refine (wtext_is b t2 HF.out.wb _ ((H.out).keep hb9) (by omega)).mono ?_
    rintro e w6 ⟨rfl, hb10⟩
    have hb11 := hb9.trans (hb10.mono hb9.size)
    clear hb9 hb10
    go_wp2_with fail
    refine (wtext_is s (t1 + t2) HF.out.ws _ ((H.out).keep hb11) (by omega)).mono ?_
    rintro e w7 ⟨rfl, hb12⟩
    have hb13 := hb11.trans (hb12.mono hb11.size)
    clear hb11 hb12
    go_wp2_with fail
    refine (cuts_yes a a ⟨#[]⟩ k _ ((H.out).keep hb13) (by omega) HF.out.aa.1 HF.out.aa.2).mono ?_
    rintro e w8 ⟨rfl, hb14⟩
    have hb15 := hb13.trans (hb14.mono hb13.size)
    clear hb13 hb14
    obtain _ | ⟨z, r⟩ := cs
    · obtain ⟨e1, e2⟩ := HF.out.e0 rfl
      subst e1
      subst e2
      go_wp2_with fail
      refine (wtext_is s (t1 + 0) HF.out.ws _ ((H.out).keep hb15) (by omega)).mono ?_
      rintro e w9 ⟨rfl, hb16⟩
      have hb17 := hb15.trans (hb16.mono hb15.size)
      go_wp2
      go_ret
      exact ⟨rfl, hb17⟩
    · obtain ⟨g1, g2, g3⟩ := HF.out.ne z r rfl
      have hbe : b.toList.isEmpty = false := by
        rw [ByteArray.toList_eq]
        cases hl : b.data.toList with
        | nil => exact absurd hl g1
        | cons x y => rfl
      clear g1
      have hwz := wid_bd z
      go_wp2_with fail
      refine (codes_any b _ ((H.out).keep hb15).1 (by omega)).mono ?_
      rintro e w9 ⟨v, rfl, hown, hb16⟩
      obtain ⟨A9, c9, hv, _, hr⟩ := own_slice hown
      rw [HF.out.cb] at hv hr
      obtain ⟨ad, rfl, hblk, hcell⟩ := hr 0 (.int .i64 z) rfl
      have hcell : w9.cell? ad = some (.int .i64 z) := by simpa [Addr.add] using hcell
      rw [hv]
      have hb17 := hb15.trans (hb16.mono hb15.size)
      clear hb15 hb16 hown hv hr
      have rl : (0 : Int) < ((r.length + 1 : Nat) : Int) := by omega
      have hG : Below w9.heap.size w9 w9.drew := (Below.refl _ w9).drew
      go_wp2_with fail
      go_region_held3 (fun w' => w'.cell? ad = some (.int .i64 z))
        (first | go_keep | assumption | exact (hG.cell hblk).trans hcell)
        (first
          | (go_at_call 8; ((with_reducible refine (of_is z (wid z) rfl _ (by exact ((H.out).keep (hb17.trans (hG.mono hb17.size))))).mono ?_); (rintro e wA ⟨rfl, hbA⟩; have hG := hG.trans (hbA.mono hG.size))))
          | (go_at_call 13; ((with_reducible refine (wtext_is a t1 HF.out.wa _ (by exact ((H.out).keep (hb17.trans (hG.mono hb17.size)))) (by omega)).mono ?_); (rintro e wA ⟨rfl, hbA⟩; have hG := hG.trans (hbA.mono hG.size)))))
      all_goals
        have Hd := Lib.hid (show decide (k < IntKind.i64.wrap (t1 + wid z)) = true by rw [IntWalk.i64_in _ (by omega)]; exact decide_eq_true g3)
        go_wp2
        go_ret
        refine ⟨?_, hb17.trans (hG.mono hb17.size)⟩
        show Ending.returned (.bool (decide (k < IntKind.i64.wrap (t1 + wid z)))) = _
        rw [Hd.out]
end Go.Proofs.YtneikcpejejagaaDoor.Wid
