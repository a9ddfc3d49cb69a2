/-
  The walk of the law UtfFinds: it returns true, whatever its arguments; nothing that lay before the call has turned.
-/
import Derived.Test.YtciklknbllblmaaDoorUtfM
import Derived.Test.YtciklknbllblmaaDoorUtfN
namespace Go.Proofs.YtciklknbllblmaaDoor.Utf
open Go.RowKit

theorem ba_app (a b : ByteArray) : (a ++ b).data.toList = a.data.toList ++ b.data.toList := by simp
theorem finds_eq (s g t : ByteArray) (d : Int) (h : g.data.toList = encL d) : eqI (codesL (s ++ g ++ t).data.toList) (codesL s.data.toList ++ codesL (g ++ t).data.toList) = true := by
  rw [ba_app, ba_app, ba_app, h, codes_finds, eqI_self]
theorem codesL_len (s : ByteArray) (k : Nat) (h : s.size ≤ k) : (codesL s.data.toList).length ≤ 2 * k + 1 := by
  have h1 := runL_len ([], []) s.data.toList
  have h2 := flushL_len (runL ([], []) s.data.toList).1
  simp only [List.length_nil, Array.length_toList] at h1
  unfold codesL
  rw [List.length_append]
  have : s.data.size = s.size := rfl
  omega

set_option maxRecDepth 100000 in
set_option maxHeartbeats 8000000 in
theorem finds_any (s t : ByteArray) (c : Int) (w : World) (hm : Mk w) (hs : s.size ≤ 9223372036854775807) (ht : t.size ≤ 9223372036854775807) :
    Calls Tryd.prog 8 #[.string s, .int .i64 c, .string t] w fun e w' => e = .returned (.bool true) ∧ Below w.heap.size w w' := by
  obtain ⟨i0, hi0, hz0, hz1, hz2⟩ := info_parts infoI
  have HM := Lib.hid hm; clear hm
  rcases (show (s.size ≤ 100) ∨ (100 < s.size) by omega) with h1 | h1 <;> rcases (show (t.size ≤ 100) ∨ (100 < t.size) by omega) with h2 | h2
  · go_enter Tryd.func8, Tryd.ntmps8
    go_wp2_with fail
    refine (works_any _ HM.out).mono ?_
    rintro e w1 ⟨rfl, hb1⟩
    go_wp2_with fail
    go_quiet (fail)
    go_wp2_with fail
    generalize wrap64 ((IntKind.u64.wrap c).tmod 1114112) = d
    have hb2 := below_drewN' hb1 nq
    refine (put_any d _ ((HM.out).keep hb2)).mono ?_
    rintro e w2 ⟨rfl, hb3⟩
    have hb4 := hb2.trans (hb3.mono hb2.size)
    clear hb1 hb2 hb3
    obtain ⟨sg, hsg⟩ : ∃ sg : ByteArray, (⟨(encL d).toArray⟩ : ByteArray) = sg := ⟨_, rfl⟩
    have hg1 : sg.size ≤ 4 := by rw [← hsg]; exact encL_len d
    have Hg := Lib.hid (show sg.data.toList = encL d by rw [← hsg])
    rw [hsg]
    clear hsg
    have Hfin := Lib.hid (finds_eq s sg t d Hg.out)
    have Hone := Lib.hid (show codesL sg.data.toList = [rep d] by rw [Hg.out]; exact codes_one d)
    go_wp2_with fail
    refine (codes_any s _ ((HM.out).keep hb4) (by omega)).mono ?_
    rintro e w3 ⟨v3, rfl, hown3, hb5⟩
    have hb6 := hb4.trans (hb5.mono hb4.size)
    have hw3 : w.heap.size ≤ w3.heap.size := hb6.size
    obtain ⟨A3, c3, hv3, _, hr3⟩ := own_slice hown3
    have hl3 := codesL_len s 100 (by omega)
    obtain ⟨L3, hL3⟩ : ∃ L, codesL (s).data.toList = L := ⟨_, rfl⟩
    rw [hL3] at hv3 hr3 hl3 Hfin
    rw [hv3]
    have HR3 := Lib.hid (hr3.below ((Below.refl _ _).alloc (Nat.le_refl _) (.cells #[] 3)))
    have HO3 := Lib.hid (World.ownsRow_made (base := w3.heap.size) (e := 3) (size := 1) w3 #[] 0 (Nat.le_refl _) (by unfold maxLen; omega) rfl)
    clear hown3 hv3 hr3 hb5 hb4 hL3
    go_wp2_with (at_builtin; refine wpList_appB _ rfl _ _ 22 rfl w3.heap.size 3 i0 _ 8 Tryd.underlying22 hi0 hz0 hz1 hz2 rfl _ 0 [] rfl HO3.out A3 L3.length c3 (cI L3) rfl (cI_len _) HR3.out (cI_one _) (by omega) (by omega) (by simp) ?_; intro v4 w4 hown4 hb7)
    have hb8 := (hb6.alloc hb6.size (.cells #[] 3)).trans (hb7.mono hb6.size)
    have hsz8 : w3.heap.size < w4.heap.size := by have := hb7.size; simp at this; omega
    rw [Nat.zero_add, List.nil_append] at hown4
    have hsz2 : (sg ++ t).size ≤ 104 := by rw [ByteArray.size_append]; omega
    refine (codes_any (sg ++ t) _ ((HM.out).keep hb8) (by omega)).mono ?_
    rintro e w5 ⟨v5, rfl, hown5, hb9⟩
    have hb10 := hb8.trans (hb9.mono hb8.size)
    obtain ⟨A5, c5, hv5, _, hr5⟩ := own_slice hown5
    have hl5 := codesL_len (sg ++ t) 104 (by omega)
    obtain ⟨L5, hL5⟩ : ∃ L, codesL (sg ++ t).data.toList = L := ⟨_, rfl⟩
    rw [hL5] at hv5 hr5 hl5 Hfin
    rw [hv5]
    have HR5 := Lib.hid hr5
    have HO4 := Lib.hid (own_below hown4 hb9)
    have hsz10 : w3.heap.size ≤ w5.heap.size := by have := hb9.size; omega
    clear hown5 hv5 hr5 hb7 hb8 hL5 hown4 hb6 hb9
    go_wp2_with (at_builtin; refine wpList_appB _ rfl _ _ 22 rfl w3.heap.size 3 i0 _ 8 Tryd.underlying22 hi0 hz0 hz1 hz2 rfl _ _ _ rfl HO4.out A5 L5.length c5 (cI L5) rfl (cI_len _) HR5.out (cI_one _) (by omega) (by omega) hsz10 ?_; intro v6 w6 hown6 hb11)
    obtain ⟨A6, c6, hv6, _, hr6⟩ := own_slice hown6
    rw [hv6]
    have hb12 := hb10.trans (hb11.mono (Nat.le_trans hw3 (Nat.le_refl _)))
    rw [← cI_append] at hr6
    have HR6 := Lib.hid hr6
    clear hown6 hv6 hr6 hb10 hb11
    refine (is_yes (s ++ sg ++ t) A6 c6 _ (L3 ++ L5) (List.length_append) _ HR6.out ((HM.out).keep hb12) (by rw [ByteArray.size_append, ByteArray.size_append]; omega) Hfin.out).mono ?_
    rintro e w7 ⟨rfl, hb13⟩
    have hb14 := hb12.trans (hb13.mono hb12.size)
    clear hb12 hb13
    go_wp2_with fail
    refine (codes_any sg _ ((HM.out).keep hb14) (by omega)).mono ?_
    rintro e w8 ⟨v8, rfl, hown8, hb15⟩
    obtain ⟨A8, c8, hv8, _, _⟩ := own_slice hown8
    rw [Hone.out] at hv8
    rw [hv8, show [rep d].length = 1 from rfl]
    clear hown8 hv8
    have hb16 := hb14.trans (hb15.mono hb14.size)
    go_wp2
    go_ret
    exact ⟨rfl, hb16⟩
  · go_enter Tryd.func8, Tryd.ntmps8
    go_wp2_with fail
    refine (works_any _ HM.out).mono ?_
    rintro e w1 ⟨rfl, hb1⟩
    go_wp2_with fail
    go_quiet (fail)
    go_wp2_with fail
    generalize wrap64 ((IntKind.u64.wrap c).tmod 1114112) = d
    obtain ⟨t', ht'⟩ : ∃ t', t.extract 0 100 = t' := ⟨_, rfl⟩
    have ht1 : t'.size ≤ 100 := by rw [← ht', ByteArray.size_extract]; omega
    rw [ht']
    clear ht'
    have hb2 := below_drewN' hb1 nq
    refine (put_any d _ ((HM.out).keep hb2)).mono ?_
    rintro e w2 ⟨rfl, hb3⟩
    have hb4 := hb2.trans (hb3.mono hb2.size)
    clear hb1 hb2 hb3
    obtain ⟨sg, hsg⟩ : ∃ sg : ByteArray, (⟨(encL d).toArray⟩ : ByteArray) = sg := ⟨_, rfl⟩
    have hg1 : sg.size ≤ 4 := by rw [← hsg]; exact encL_len d
    have Hg := Lib.hid (show sg.data.toList = encL d by rw [← hsg])
    rw [hsg]
    clear hsg
    have Hfin := Lib.hid (finds_eq s sg t' d Hg.out)
    have Hone := Lib.hid (show codesL sg.data.toList = [rep d] by rw [Hg.out]; exact codes_one d)
    go_wp2_with fail
    refine (codes_any s _ ((HM.out).keep hb4) (by omega)).mono ?_
    rintro e w3 ⟨v3, rfl, hown3, hb5⟩
    have hb6 := hb4.trans (hb5.mono hb4.size)
    have hw3 : w.heap.size ≤ w3.heap.size := hb6.size
    obtain ⟨A3, c3, hv3, _, hr3⟩ := own_slice hown3
    have hl3 := codesL_len s 100 (by omega)
    obtain ⟨L3, hL3⟩ : ∃ L, codesL (s).data.toList = L := ⟨_, rfl⟩
    rw [hL3] at hv3 hr3 hl3 Hfin
    rw [hv3]
    have HR3 := Lib.hid (hr3.below ((Below.refl _ _).alloc (Nat.le_refl _) (.cells #[] 3)))
    have HO3 := Lib.hid (World.ownsRow_made (base := w3.heap.size) (e := 3) (size := 1) w3 #[] 0 (Nat.le_refl _) (by unfold maxLen; omega) rfl)
    clear hown3 hv3 hr3 hb5 hb4 hL3
    go_wp2_with (at_builtin; refine wpList_appB _ rfl _ _ 22 rfl w3.heap.size 3 i0 _ 8 Tryd.underlying22 hi0 hz0 hz1 hz2 rfl _ 0 [] rfl HO3.out A3 L3.length c3 (cI L3) rfl (cI_len _) HR3.out (cI_one _) (by omega) (by omega) (by simp) ?_; intro v4 w4 hown4 hb7)
    have hb8 := (hb6.alloc hb6.size (.cells #[] 3)).trans (hb7.mono hb6.size)
    have hsz8 : w3.heap.size < w4.heap.size := by have := hb7.size; simp at this; omega
    rw [Nat.zero_add, List.nil_append] at hown4
    have hsz2 : (sg ++ t').size ≤ 104 := by rw [ByteArray.size_append]; omega
    refine (codes_any (sg ++ t') _ ((HM.out).keep hb8) (by omega)).mono ?_
    rintro e w5 ⟨v5, rfl, hown5, hb9⟩
    have hb10 := hb8.trans (hb9.mono hb8.size)
    obtain ⟨A5, c5, hv5, _, hr5⟩ := own_slice hown5
    have hl5 := codesL_len (sg ++ t') 104 (by omega)
    obtain ⟨L5, hL5⟩ : ∃ L, codesL (sg ++ t').data.toList = L := ⟨_, rfl⟩
    rw [hL5] at hv5 hr5 hl5 Hfin
    rw [hv5]
    have HR5 := Lib.hid hr5
    have HO4 := Lib.hid (own_below hown4 hb9)
    have hsz10 : w3.heap.size ≤ w5.heap.size := by have := hb9.size; omega
    clear hown5 hv5 hr5 hb7 hb8 hL5 hown4 hb6 hb9
    go_wp2_with (at_builtin; refine wpList_appB _ rfl _ _ 22 rfl w3.heap.size 3 i0 _ 8 Tryd.underlying22 hi0 hz0 hz1 hz2 rfl _ _ _ rfl HO4.out A5 L5.length c5 (cI L5) rfl (cI_len _) HR5.out (cI_one _) (by omega) (by omega) hsz10 ?_; intro v6 w6 hown6 hb11)
    obtain ⟨A6, c6, hv6, _, hr6⟩ := own_slice hown6
    rw [hv6]
    have hb12 := hb10.trans (hb11.mono (Nat.le_trans hw3 (Nat.le_refl _)))
    rw [← cI_append] at hr6
    have HR6 := Lib.hid hr6
    clear hown6 hv6 hr6 hb10 hb11
    refine (is_yes (s ++ sg ++ t') A6 c6 _ (L3 ++ L5) (List.length_append) _ HR6.out ((HM.out).keep hb12) (by rw [ByteArray.size_append, ByteArray.size_append]; omega) Hfin.out).mono ?_
    rintro e w7 ⟨rfl, hb13⟩
    have hb14 := hb12.trans (hb13.mono hb12.size)
    clear hb12 hb13
    go_wp2_with fail
    refine (codes_any sg _ ((HM.out).keep hb14) (by omega)).mono ?_
    rintro e w8 ⟨v8, rfl, hown8, hb15⟩
    obtain ⟨A8, c8, hv8, _, _⟩ := own_slice hown8
    rw [Hone.out] at hv8
    rw [hv8, show [rep d].length = 1 from rfl]
    clear hown8 hv8
    have hb16 := hb14.trans (hb15.mono hb14.size)
    go_wp2
    go_ret
    exact ⟨rfl, hb16⟩
  · go_enter Tryd.func8, Tryd.ntmps8
    go_wp2_with fail
    refine (works_any _ HM.out).mono ?_
    rintro e w1 ⟨rfl, hb1⟩
    go_wp2_with fail
    go_quiet (fail)
    go_wp2_with fail
    generalize wrap64 ((IntKind.u64.wrap c).tmod 1114112) = d
    obtain ⟨s', hs'⟩ : ∃ s', s.extract 0 100 = s' := ⟨_, rfl⟩
    have hs1 : s'.size ≤ 100 := by rw [← hs', ByteArray.size_extract]; omega
    rw [hs']
    clear hs'
    have hb2 := below_drewN' hb1 nq
    refine (put_any d _ ((HM.out).keep hb2)).mono ?_
    rintro e w2 ⟨rfl, hb3⟩
    have hb4 := hb2.trans (hb3.mono hb2.size)
    clear hb1 hb2 hb3
    obtain ⟨sg, hsg⟩ : ∃ sg : ByteArray, (⟨(encL d).toArray⟩ : ByteArray) = sg := ⟨_, rfl⟩
    have hg1 : sg.size ≤ 4 := by rw [← hsg]; exact encL_len d
    have Hg := Lib.hid (show sg.data.toList = encL d by rw [← hsg])
    rw [hsg]
    clear hsg
    have Hfin := Lib.hid (finds_eq s' sg t d Hg.out)
    have Hone := Lib.hid (show codesL sg.data.toList = [rep d] by rw [Hg.out]; exact codes_one d)
    go_wp2_with fail
    refine (codes_any s' _ ((HM.out).keep hb4) (by omega)).mono ?_
    rintro e w3 ⟨v3, rfl, hown3, hb5⟩
    have hb6 := hb4.trans (hb5.mono hb4.size)
    have hw3 : w.heap.size ≤ w3.heap.size := hb6.size
    obtain ⟨A3, c3, hv3, _, hr3⟩ := own_slice hown3
    have hl3 := codesL_len s' 100 (by omega)
    obtain ⟨L3, hL3⟩ : ∃ L, codesL (s').data.toList = L := ⟨_, rfl⟩
    rw [hL3] at hv3 hr3 hl3 Hfin
    rw [hv3]
    have HR3 := Lib.hid (hr3.below ((Below.refl _ _).alloc (Nat.le_refl _) (.cells #[] 3)))
    have HO3 := Lib.hid (World.ownsRow_made (base := w3.heap.size) (e := 3) (size := 1) w3 #[] 0 (Nat.le_refl _) (by unfold maxLen; omega) rfl)
    clear hown3 hv3 hr3 hb5 hb4 hL3
    go_wp2_with (at_builtin; refine wpList_appB _ rfl _ _ 22 rfl w3.heap.size 3 i0 _ 8 Tryd.underlying22 hi0 hz0 hz1 hz2 rfl _ 0 [] rfl HO3.out A3 L3.length c3 (cI L3) rfl (cI_len _) HR3.out (cI_one _) (by omega) (by omega) (by simp) ?_; intro v4 w4 hown4 hb7)
    have hb8 := (hb6.alloc hb6.size (.cells #[] 3)).trans (hb7.mono hb6.size)
    have hsz8 : w3.heap.size < w4.heap.size := by have := hb7.size; simp at this; omega
    rw [Nat.zero_add, List.nil_append] at hown4
    have hsz2 : (sg ++ t).size ≤ 104 := by rw [ByteArray.size_append]; omega
    refine (codes_any (sg ++ t) _ ((HM.out).keep hb8) (by omega)).mono ?_
    rintro e w5 ⟨v5, rfl, hown5, hb9⟩
    have hb10 := hb8.trans (hb9.mono hb8.size)
    obtain ⟨A5, c5, hv5, _, hr5⟩ := own_slice hown5
    have hl5 := codesL_len (sg ++ t) 104 (by omega)
    obtain ⟨L5, hL5⟩ : ∃ L, codesL (sg ++ t).data.toList = L := ⟨_, rfl⟩
    rw [hL5] at hv5 hr5 hl5 Hfin
    rw [hv5]
    have HR5 := Lib.hid hr5
    have HO4 := Lib.hid (own_below hown4 hb9)
    have hsz10 : w3.heap.size ≤ w5.heap.size := by have := hb9.size; omega
    clear hown5 hv5 hr5 hb7 hb8 hL5 hown4 hb6 hb9
    go_wp2_with (at_builtin; refine wpList_appB _ rfl _ _ 22 rfl w3.heap.size 3 i0 _ 8 Tryd.underlying22 hi0 hz0 hz1 hz2 rfl _ _ _ rfl HO4.out A5 L5.length c5 (cI L5) rfl (cI_len _) HR5.out (cI_one _) (by omega) (by omega) hsz10 ?_; intro v6 w6 hown6 hb11)
    obtain ⟨A6, c6, hv6, _, hr6⟩ := own_slice hown6
    rw [hv6]
    have hb12 := hb10.trans (hb11.mono (Nat.le_trans hw3 (Nat.le_refl _)))
    rw [← cI_append] at hr6
    have HR6 := Lib.hid hr6
    clear hown6 hv6 hr6 hb10 hb11
    refine (is_yes (s' ++ sg ++ t) A6 c6 _ (L3 ++ L5) (List.length_append) _ HR6.out ((HM.out).keep hb12) (by rw [ByteArray.size_append, ByteArray.size_append]; omega) Hfin.out).mono ?_
    rintro e w7 ⟨rfl, hb13⟩
    have hb14 := hb12.trans (hb13.mono hb12.size)
    clear hb12 hb13
    go_wp2_with fail
    refine (codes_any sg _ ((HM.out).keep hb14) (by omega)).mono ?_
    rintro e w8 ⟨v8, rfl, hown8, hb15⟩
    obtain ⟨A8, c8, hv8, _, _⟩ := own_slice hown8
    rw [Hone.out] at hv8
    rw [hv8, show [rep d].length = 1 from rfl]
    clear hown8 hv8
    have hb16 := hb14.trans (hb15.mono hb14.size)
    go_wp2
    go_ret
    exact ⟨rfl, hb16⟩
  · go_enter Tryd.func8, Tryd.ntmps8
    go_wp2_with fail
    refine (works_any _ HM.out).mono ?_
    rintro e w1 ⟨rfl, hb1⟩
    go_wp2_with fail
    go_quiet (fail)
    go_wp2_with fail
    generalize wrap64 ((IntKind.u64.wrap c).tmod 1114112) = d
    obtain ⟨s', hs'⟩ : ∃ s', s.extract 0 100 = s' := ⟨_, rfl⟩
    have hs1 : s'.size ≤ 100 := by rw [← hs', ByteArray.size_extract]; omega
    rw [hs']
    clear hs'
    obtain ⟨t', ht'⟩ : ∃ t', t.extract 0 100 = t' := ⟨_, rfl⟩
    have ht1 : t'.size ≤ 100 := by rw [← ht', ByteArray.size_extract]; omega
    rw [ht']
    clear ht'
    have hb2 := below_drewN' hb1 nq
    refine (put_any d _ ((HM.out).keep hb2)).mono ?_
    rintro e w2 ⟨rfl, hb3⟩
    have hb4 := hb2.trans (hb3.mono hb2.size)
    clear hb1 hb2 hb3
    obtain ⟨sg, hsg⟩ : ∃ sg : ByteArray, (⟨(encL d).toArray⟩ : ByteArray) = sg := ⟨_, rfl⟩
    have hg1 : sg.size ≤ 4 := by rw [← hsg]; exact encL_len d
    have Hg := Lib.hid (show sg.data.toList = encL d by rw [← hsg])
    rw [hsg]
    clear hsg
    have Hfin := Lib.hid (finds_eq s' sg t' d Hg.out)
    have Hone := Lib.hid (show codesL sg.data.toList = [rep d] by rw [Hg.out]; exact codes_one d)
    go_wp2_with fail
    refine (codes_any s' _ ((HM.out).keep hb4) (by omega)).mono ?_
    rintro e w3 ⟨v3, rfl, hown3, hb5⟩
    have hb6 := hb4.trans (hb5.mono hb4.size)
    have hw3 : w.heap.size ≤ w3.heap.size := hb6.size
    obtain ⟨A3, c3, hv3, _, hr3⟩ := own_slice hown3
    have hl3 := codesL_len s' 100 (by omega)
    obtain ⟨L3, hL3⟩ : ∃ L, codesL (s').data.toList = L := ⟨_, rfl⟩
    rw [hL3] at hv3 hr3 hl3 Hfin
    rw [hv3]
    have HR3 := Lib.hid (hr3.below ((Below.refl _ _).alloc (Nat.le_refl _) (.cells #[] 3)))
    have HO3 := Lib.hid (World.ownsRow_made (base := w3.heap.size) (e := 3) (size := 1) w3 #[] 0 (Nat.le_refl _) (by unfold maxLen; omega) rfl)
    clear hown3 hv3 hr3 hb5 hb4 hL3
    go_wp2_with (at_builtin; refine wpList_appB _ rfl _ _ 22 rfl w3.heap.size 3 i0 _ 8 Tryd.underlying22 hi0 hz0 hz1 hz2 rfl _ 0 [] rfl HO3.out A3 L3.length c3 (cI L3) rfl (cI_len _) HR3.out (cI_one _) (by omega) (by omega) (by simp) ?_; intro v4 w4 hown4 hb7)
    have hb8 := (hb6.alloc hb6.size (.cells #[] 3)).trans (hb7.mono hb6.size)
    have hsz8 : w3.heap.size < w4.heap.size := by have := hb7.size; simp at this; omega
    rw [Nat.zero_add, List.nil_append] at hown4
    have hsz2 : (sg ++ t').size ≤ 104 := by rw [ByteArray.size_append]; omega
    refine (codes_any (sg ++ t') _ ((HM.out).keep hb8) (by omega)).mono ?_
    rintro e w5 ⟨v5, rfl, hown5, hb9⟩
    have hb10 := hb8.trans (hb9.mono hb8.size)
    obtain ⟨A5, c5, hv5, _, hr5⟩ := own_slice hown5
    have hl5 := codesL_len (sg ++ t') 104 (by omega)
    obtain ⟨L5, hL5⟩ : ∃ L, codesL (sg ++ t').data.toList = L := ⟨_, rfl⟩
    rw [hL5] at hv5 hr5 hl5 Hfin
    rw [hv5]
    have HR5 := Lib.hid hr5
    have HO4 := Lib.hid (own_below hown4 hb9)
    have hsz10 : w3.heap.size ≤ w5.heap.size := by have := hb9.size; omega
    clear hown5 hv5 hr5 hb7 hb8 hL5 hown4 hb6 hb9
    go_wp2_with (at_builtin; refine wpList_appB _ rfl _ _ 22 rfl w3.heap.size 3 i0 _ 8 Tryd.underlying22 hi0 hz0 hz1 hz2 rfl _ _ _ rfl HO4.out A5 L5.length c5 (cI L5) rfl (cI_len _) HR5.out (cI_one _) (by omega) (by omega) hsz10 ?_; intro v6 w6 hown6 hb11)
    obtain ⟨A6, c6, hv6, _, hr6⟩ := own_slice hown6
    rw [hv6]
    have hb12 := hb10.trans (hb11.mono (Nat.le_trans hw3 (Nat.le_refl _)))
    rw [← cI_append] at hr6
    have HR6 := Lib.hid hr6
    clear hown6 hv6 hr6 hb10 hb11
    refine (is_yes (s' ++ sg ++ t') A6 c6 _ (L3 ++ L5) (List.length_append) _ HR6.out ((HM.out).keep hb12) (by rw [ByteArray.size_append, ByteArray.size_append]; omega) Hfin.out).mono ?_
    rintro e w7 ⟨rfl, hb13⟩
    have hb14 := hb12.trans (hb13.mono hb12.size)
    clear hb12 hb13
    go_wp2_with fail
    refine (codes_any sg _ ((HM.out).keep hb14) (by omega)).mono ?_
    rintro e w8 ⟨v8, rfl, hown8, hb15⟩
    obtain ⟨A8, c8, hv8, _, _⟩ := own_slice hown8
    rw [Hone.out] at hv8
    rw [hv8, show [rep d].length = 1 from rfl]
    clear hown8 hv8
    have hb16 := hb14.trans (hb15.mono hb14.size)
    go_wp2
    go_ret
    exact ⟨rfl, hb16⟩
end Go.Proofs.YtciklknbllblmaaDoor.Utf
