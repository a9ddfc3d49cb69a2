/-
  The walk of the law UtfPieces: it returns true, whatever its argument; nothing that lay before the call has turned.
-/
import Derived.Test.YtciklknbllblmaaDoorUtfM
import Derived.Test.YtciklknbllblmaaDoorUtfN
import Derived.Deep.RegionHeld3
import Derived.IntWalk
import Derived.Lib.Strings
namespace Go.Proofs.YtciklknbllblmaaDoor.Utf
open Go.RowKit

theorem ty_ne {w : World} {A : Option Addr} {base n : Nat} {v : Value} {xs : List Value} (ht : TyB w A) (ho : w.ownsRow base 3 1 v n xs) : ∀ ad, A = some ad → some ad.block ≠ v.ownBlock := by
  intro ad e h
  obtain ⟨cur, fr, hc⟩ := ht ad e
  rcases ho.2 with ⟨rfl, _⟩ | ⟨g, cap, cur', rfl, _, hg, _⟩
  · simp [Value.ownBlock] at h
  · obtain rfl : ad.block = g := by simpa [Value.ownBlock] using h
    rw [hc] at hg
    cases hg

/-- what stands between two operations of the last statement of a round -/
def PS (w : World) (A : Option Addr) (bs : List UInt8) (B : Option Addr) (zs : List Int) (W : World) : Prop := Rd W A (cB bs) ∧ Rd W B (cI zs) ∧ Mk W ∧ Below w.heap.size w W
theorem PS.keep {w : World} {A : Option Addr} {bs : List UInt8} {B : Option Addr} {zs : List Int} {W W' : World} (h : PS w A bs B zs W) (hb : Below W.heap.size W W') : PS w A bs B zs W' :=
  ⟨h.1.below hb, h.2.1.below hb, h.2.2.1.keep hb, h.2.2.2.trans (hb.mono h.2.2.2.size)⟩

theorem pieces_eq (s : ByteArray) (k : Nat) (l1 : List UInt8) (L : List Int) (h : runL ([], []) (s.data.toList.take (k + 1)) = (l1, L)) : eqI (codesL (s.extract 0 (k + 1)).data.toList) (L ++ flushL l1) = true := by
  rw [Lib.extract_data, List.drop_zero, Nat.sub_zero]
  unfold codesL
  rw [h]
  exact eqI_self _
theorem runL_p3 (l : List UInt8) : (runL ([], []) l).1.length ≤ 3 := runL_p ([], []) (by simp) l

set_option maxRecDepth 100000 in
set_option maxHeartbeats 8000000 in
theorem pieces_any (s : ByteArray) (w : World) (hm : Mk w) (hs : s.size ≤ 9223372036854775807) :
    Calls Tryd.prog 7 #[.string s] w fun e w' => e = .returned (.bool true) ∧ Below w.heap.size w w' := by
  obtain ⟨i0, hi0, hz0, hz1, hz2⟩ := info_parts infoI
  have HM := Lib.hid hm; clear hm
  rcases (show (s.size ≤ 200) ∨ (200 < s.size) by omega) with h1 | h1
  · go_enter Tryd.func7, Tryd.ntmps7
    go_wp2_with fail
    refine (works_any _ HM.out).mono ?_
    rintro e w1 ⟨rfl, hb1⟩
    go_wp2_with fail
    go_loopw [3, 4, 5] (fun v pd i wr => ∃ (k : Nat) (A : Option Addr) (c : Nat), k ≤ s.size ∧ i = .int .i64 k ∧ pd = .slice A (runL ([], []) (s.data.toList.take k)).1.length c ∧
        Hid ((runL ([], []) (s.data.toList.take k)).1.length ≤ c ∧ TyB wr A ∧ Rd wr A (cB (runL ([], []) (s.data.toList.take k)).1) ∧ wr.ownsRow w.heap.size 3 1 v (runL ([], []) (s.data.toList.take k)).2.length (cI (runL ([], []) (s.data.toList.take k)).2) ∧ Below w.heap.size w wr))
      (fun _ _ i _ => s.size - (intOf i).toNat)
    case atStart => exact ⟨0, none, 0, Nat.zero_le _, rfl, rfl, Nat.le_refl _, TyB.none _, Rd.nil _ _, World.ownsRow_nil _ _ _ _, hb1⟩
    case round =>
      obtain ⟨k, A, c, hk, rfl, rfl, hid⟩ := hrel
      have hpl := runL_len ([], []) (s.data.toList.take k)
      have hpp := runL_p3 (s.data.toList.take k)
      obtain ⟨st, hst⟩ : ∃ st, runL ([], []) (s.data.toList.take k) = st := ⟨_, rfl⟩
      rw [hst] at hid hpl hpp ⊢
      have hpre : st.2.length ≤ 2 * s.size := by
        have : (s.data.toList.take k).length ≤ s.size := by rw [List.length_take]; simp; omega
        simp only [List.length_nil] at hpl
        omega
      clear hpl
      by_cases hlt : k < s.size
      · have hsk : s.data.toList[k]? = some s[k] := by
          rw [List.getElem?_eq_getElem (by simpa using hlt)]; rfl
        have Hrun := Lib.hid (runL_take s.data.toList k s[k] hsk); clear hsk
        rw [hst] at Hrun
        clear hst
        obtain ⟨p, pre⟩ := st
        go_wp2_with fail
        refine (step_any A c p s[k] _ hid.out.2.2.1 ((HM.out).keep hid.out.2.2.2.2) hid.out.1 (by omega)).mono ?_
        rintro e w2 ⟨A1, c1, A2, c2, rfl, hcc, ht1, hr1, hr2, hb2⟩
        have hlen := stepL_len p s[k]
        have hrt := step_right p s[k]
        obtain ⟨l1, hl1⟩ : ∃ l, (stepL p s[k]).1 = l := ⟨_, rfl⟩
        obtain ⟨l2, hl2⟩ : ∃ l, (stepL p s[k]).2 = l := ⟨_, rfl⟩
        rw [hl1] at hcc hr1 hlen Hrun hrt ⊢
        rw [hl2] at hr2 hlen Hrun ⊢
        clear hl1 hl2
        have hb3 := hid.out.2.2.2.2.trans (hb2.mono hid.out.2.2.2.2.size)
        have HO := Lib.hid (own_below hid.out.2.2.2.1 hb2)
        have HR1 := Lib.hid hr1
        have HR2 := Lib.hid hr2
        have HT1 := Lib.hid ht1
        have Hrt := Lib.hid hrt
        clear hr1 hr2 ht1 hrt hb2
        go_wp2_with (at_builtin; refine wpList_app _ rfl _ _ 22 rfl w.heap.size 3 i0 _ 8 Tryd.underlying22 hi0 hz0 hz1 hz2 rfl _ pre.length (cI pre) rfl HO.out A2 l2.length c2 (cI l2) rfl (cI_len _) HR2.out (cI_one _) (by omega) (by omega) hb3.size ?_; intro v3 w3 hown3 hg3 _)
        have hr1b := (HR1.out).grownBy hg3 (ty_ne HT1.out HO.out)
        have ht1b := (HT1.out).grownBy hg3 (ty_ne HT1.out HO.out)
        have hb4 : Below w.heap.size w w3 := hb3.grown hg3 hb3.size fun j hj => ((HO.out).lt j hj).1
        rw [← cI_append, ← List.length_append] at hown3
        have hL : (pre ++ l2).length ≤ 1000 := by rw [List.length_append]; omega
        obtain ⟨L, hLe⟩ : ∃ L, pre ++ l2 = L := ⟨_, rfl⟩
        rw [hLe] at hown3 Hrun hL
        clear HO hg3 HR2 hb3 HR1 HT1 hLe
        obtain ⟨A3, c3, hv3, _, hr3⟩ := own_slice hown3
        subst hv3
        have HO3 := Lib.hid hown3
        have HR3 := Lib.hid hr3
        have HR1 := Lib.hid hr1b
        have HT1 := Lib.hid ht1b
        clear hown3 hr3 hr1b ht1b
        refine (right_any A1 c1 l1 _ HR1.out ((HM.out).keep hb4) hcc (by omega)).mono ?_
        rintro e w4 ⟨rfl, hb5⟩
        rw [Hrt.out]
        have hb6 := hb4.trans (hb5.mono hb4.size)
        have HO4 := Lib.hid (own_below HO3.out hb5)
        have HR1' := Lib.hid ((HR1.out).below hb5)
        have HR3' := Lib.hid ((HR3.out).below hb5)
        have HT1' := Lib.hid ((HT1.out).below hb5)
        have HM4 := Lib.hid ((HM.out).keep hb6)
        clear hb4 hb5 HO3 HR3 HR1 HT1 hid
        have i1 : (0 : Int) ≤ (k : Int) + 1 := by omega
        have i2 : (k : Int) + 1 ≤ (s.size : Int) := by omega
        go_wp2_with fail
        have e1 : IntKind.i64.wrap ((k : Int) + 1) = (k : Int) + 1 := IntWalk.i64_in _ (by omega)
        have e2 : ((k : Int) + 1).toNat = k + 1 := by omega
        have Hfin := Lib.hid (pieces_eq s k l1 L Hrun.out)
        have hfl := flushL_len l1
        have hbm : Below w4.heap.size w4 (w4.alloc (.cells #[] 3)).drew := ((Below.refl _ _).alloc (Nat.le_refl _) _).drew
        have HOm := Lib.hid (World.ownsRow_made (base := w4.heap.size) (e := 3) (size := 1) w4 #[] 0 (Nat.le_refl _) (by unfold maxLen; omega) rfl)
        have HRm := Lib.hid ((HR3'.out).below hbm)
        go_region_held3 (fun W => Below w4.heap.size w4 W)
          (first
            | exact (Below.refl _ _).drew
            | exact hbm
            | assumption)
          (first
            | ((refine step_app _ (by rfl) (.tmp 50) (.tmp 51) _ (by rfl) w4.heap.size 3 i0 _ 8 Tryd.underlying22 hi0 hz0 hz1 hz2 rfl (.slice (some ⟨w4.heap.size, 0, none⟩) 0 0) 0 [] (by rfl) (by exact HOm.out) A3 L.length c3 (cI L) (by rfl) (cI_len _) (by exact HRm.out) (cI_one _) (by omega) (by omega) (by simp) ?_); intro v5 w5 hown5 hg5; rw [Nat.zero_add, List.nil_append] at hown5; have hb7 : Below w4.heap.size w4 w5 := hbm.grown hg5 (by simp) (by simp [Value.ownBlock]))
            | (go_at_call 20; refine (flush_any A1 c1 l1 _ ((HR1'.out).below hb7) ((HM4.out).keep hb7) hcc (by omega)).mono ?_; rintro e w6 ⟨A6, c6, rfl, hr6, hb8, _⟩; have hb9 := hb7.trans (hb8.mono hb7.size); have hown6 := own_below hown5 hb8)
            | ((refine step_app _ (by rfl) (.tmp 52) (.tmp 54) _ (by rfl) w4.heap.size 3 i0 _ 8 Tryd.underlying22 hi0 hz0 hz1 hz2 rfl v5 _ _ (by rfl) (by exact hown6) A6 (flushL l1).length c6 (cI (flushL l1)) (by rfl) (cI_len _) (by exact hr6) (cI_one _) (by omega) (by omega) hb9.size ?_); intro v7 w7 hown7 hg7; have hb10 : Below w4.heap.size w4 w7 := hb9.grown hg7 hb9.size (fun j hj => (hown6.lt j hj).1); obtain ⟨A7, c7, hv7, _, hr7⟩ := own_slice hown7; subst hv7; rw [← cI_append] at hr7)
            | (go_at_call 26; refine (is_yes (s.extract 0 (k + 1)) A7 c7 _ (L ++ flushL l1) (by rw [List.length_append]) _ hr7 ((HM4.out).keep hb10) (by rw [ByteArray.size_extract]; omega) Hfin.out).mono ?_; rintro e w8 ⟨rfl, hb11⟩; have hb12 := hb10.trans (hb11.mono hb10.size)))
        clear e1 e2
        have HF := Lib.hid (show l1.length ≤ c1 ∧ TyB w8 A1 ∧ Rd w8 A1 (cB l1) ∧ w8.ownsRow w.heap.size 3 1 (.slice A3 L.length c3) L.length (cI L) ∧ Below w.heap.size w w8 from
          ⟨hcc, (HT1'.out).below hb12, (HR1'.out).below hb12, own_below HO4.out hb12, hb6.trans (hb12.mono hb6.size)⟩)
        clear hb7 hb9 hb10 hb12 hb8 hb11 hown5 hown6 hown7 hr6 hr7 hg5 hg7
        go_wp2
        go_roundw
        case rel => exact ⟨k + 1, A1, c1, by omega, by go_num, by rw [Hrun.out], by rw [Hrun.out]; exact HF⟩
        case measure => simp [intOf]; omega
      · go_wp2
        go_ret
        exact ⟨rfl, hid.out.2.2.2.2⟩
  · go_enter Tryd.func7, Tryd.ntmps7
    go_wp2_with fail
    refine (works_any _ HM.out).mono ?_
    rintro e w1 ⟨rfl, hb1⟩
    go_wp2_with fail
    obtain ⟨s', hs'⟩ : ∃ s', s.extract 0 200 = s' := ⟨_, rfl⟩
    have hs1 : s'.size ≤ 200 := by rw [← hs', ByteArray.size_extract]; omega
    rw [hs']
    clear hs'
    go_loopw [3, 4, 5] (fun v pd i wr => ∃ (k : Nat) (A : Option Addr) (c : Nat), k ≤ s'.size ∧ i = .int .i64 k ∧ pd = .slice A (runL ([], []) (s'.data.toList.take k)).1.length c ∧
        Hid ((runL ([], []) (s'.data.toList.take k)).1.length ≤ c ∧ TyB wr A ∧ Rd wr A (cB (runL ([], []) (s'.data.toList.take k)).1) ∧ wr.ownsRow w.heap.size 3 1 v (runL ([], []) (s'.data.toList.take k)).2.length (cI (runL ([], []) (s'.data.toList.take k)).2) ∧ Below w.heap.size w wr))
      (fun _ _ i _ => s'.size - (intOf i).toNat)
    case atStart => exact ⟨0, none, 0, Nat.zero_le _, rfl, rfl, Nat.le_refl _, TyB.none _, Rd.nil _ _, World.ownsRow_nil _ _ _ _, hb1⟩
    case round =>
      obtain ⟨k, A, c, hk, rfl, rfl, hid⟩ := hrel
      have hpl := runL_len ([], []) (s'.data.toList.take k)
      have hpp := runL_p3 (s'.data.toList.take k)
      obtain ⟨st, hst⟩ : ∃ st, runL ([], []) (s'.data.toList.take k) = st := ⟨_, rfl⟩
      rw [hst] at hid hpl hpp ⊢
      have hpre : st.2.length ≤ 2 * s'.size := by
        have : (s'.data.toList.take k).length ≤ s'.size := by rw [List.length_take]; simp; omega
        simp only [List.length_nil] at hpl
        omega
      clear hpl
      by_cases hlt : k < s'.size
      · have hsk : s'.data.toList[k]? = some s'[k] := by
          rw [List.getElem?_eq_getElem (by simpa using hlt)]; rfl
        have Hrun := Lib.hid (runL_take s'.data.toList k s'[k] hsk); clear hsk
        rw [hst] at Hrun
        clear hst
        obtain ⟨p, pre⟩ := st
        go_wp2_with fail
        refine (step_any A c p s'[k] _ hid.out.2.2.1 ((HM.out).keep hid.out.2.2.2.2) hid.out.1 (by omega)).mono ?_
        rintro e w2 ⟨A1, c1, A2, c2, rfl, hcc, ht1, hr1, hr2, hb2⟩
        have hlen := stepL_len p s'[k]
        have hrt := step_right p s'[k]
        obtain ⟨l1, hl1⟩ : ∃ l, (stepL p s'[k]).1 = l := ⟨_, rfl⟩
        obtain ⟨l2, hl2⟩ : ∃ l, (stepL p s'[k]).2 = l := ⟨_, rfl⟩
        rw [hl1] at hcc hr1 hlen Hrun hrt ⊢
        rw [hl2] at hr2 hlen Hrun ⊢
        clear hl1 hl2
        have hb3 := hid.out.2.2.2.2.trans (hb2.mono hid.out.2.2.2.2.size)
        have HO := Lib.hid (own_below hid.out.2.2.2.1 hb2)
        have HR1 := Lib.hid hr1
        have HR2 := Lib.hid hr2
        have HT1 := Lib.hid ht1
        have Hrt := Lib.hid hrt
        clear hr1 hr2 ht1 hrt hb2
        go_wp2_with (at_builtin; refine wpList_app _ rfl _ _ 22 rfl w.heap.size 3 i0 _ 8 Tryd.underlying22 hi0 hz0 hz1 hz2 rfl _ pre.length (cI pre) rfl HO.out A2 l2.length c2 (cI l2) rfl (cI_len _) HR2.out (cI_one _) (by omega) (by omega) hb3.size ?_; intro v3 w3 hown3 hg3 _)
        have hr1b := (HR1.out).grownBy hg3 (ty_ne HT1.out HO.out)
        have ht1b := (HT1.out).grownBy hg3 (ty_ne HT1.out HO.out)
        have hb4 : Below w.heap.size w w3 := hb3.grown hg3 hb3.size fun j hj => ((HO.out).lt j hj).1
        rw [← cI_append, ← List.length_append] at hown3
        have hL : (pre ++ l2).length ≤ 1000 := by rw [List.length_append]; omega
        obtain ⟨L, hLe⟩ : ∃ L, pre ++ l2 = L := ⟨_, rfl⟩
        rw [hLe] at hown3 Hrun hL
        clear HO hg3 HR2 hb3 HR1 HT1 hLe
        obtain ⟨A3, c3, hv3, _, hr3⟩ := own_slice hown3
        subst hv3
        have HO3 := Lib.hid hown3
        have HR3 := Lib.hid hr3
        have HR1 := Lib.hid hr1b
        have HT1 := Lib.hid ht1b
        clear hown3 hr3 hr1b ht1b
        refine (right_any A1 c1 l1 _ HR1.out ((HM.out).keep hb4) hcc (by omega)).mono ?_
        rintro e w4 ⟨rfl, hb5⟩
        rw [Hrt.out]
        have hb6 := hb4.trans (hb5.mono hb4.size)
        have HO4 := Lib.hid (own_below HO3.out hb5)
        have HR1' := Lib.hid ((HR1.out).below hb5)
        have HR3' := Lib.hid ((HR3.out).below hb5)
        have HT1' := Lib.hid ((HT1.out).below hb5)
        have HM4 := Lib.hid ((HM.out).keep hb6)
        clear hb4 hb5 HO3 HR3 HR1 HT1 hid
        have i1 : (0 : Int) ≤ (k : Int) + 1 := by omega
        have i2 : (k : Int) + 1 ≤ (s'.size : Int) := by omega
        go_wp2_with fail
        have e1 : IntKind.i64.wrap ((k : Int) + 1) = (k : Int) + 1 := IntWalk.i64_in _ (by omega)
        have e2 : ((k : Int) + 1).toNat = k + 1 := by omega
        have Hfin := Lib.hid (pieces_eq s' k l1 L Hrun.out)
        have hfl := flushL_len l1
        have hbm : Below w4.heap.size w4 (w4.alloc (.cells #[] 3)).drew := ((Below.refl _ _).alloc (Nat.le_refl _) _).drew
        have HOm := Lib.hid (World.ownsRow_made (base := w4.heap.size) (e := 3) (size := 1) w4 #[] 0 (Nat.le_refl _) (by unfold maxLen; omega) rfl)
        have HRm := Lib.hid ((HR3'.out).below hbm)
        go_region_held3 (fun W => Below w4.heap.size w4 W)
          (first
            | exact (Below.refl _ _).drew
            | exact hbm
            | assumption)
          (first
            | ((refine step_app _ (by rfl) (.tmp 50) (.tmp 51) _ (by rfl) w4.heap.size 3 i0 _ 8 Tryd.underlying22 hi0 hz0 hz1 hz2 rfl (.slice (some ⟨w4.heap.size, 0, none⟩) 0 0) 0 [] (by rfl) (by exact HOm.out) A3 L.length c3 (cI L) (by rfl) (cI_len _) (by exact HRm.out) (cI_one _) (by omega) (by omega) (by simp) ?_); intro v5 w5 hown5 hg5; rw [Nat.zero_add, List.nil_append] at hown5; have hb7 : Below w4.heap.size w4 w5 := hbm.grown hg5 (by simp) (by simp [Value.ownBlock]))
            | (go_at_call 20; refine (flush_any A1 c1 l1 _ ((HR1'.out).below hb7) ((HM4.out).keep hb7) hcc (by omega)).mono ?_; rintro e w6 ⟨A6, c6, rfl, hr6, hb8, _⟩; have hb9 := hb7.trans (hb8.mono hb7.size); have hown6 := own_below hown5 hb8)
            | ((refine step_app _ (by rfl) (.tmp 52) (.tmp 54) _ (by rfl) w4.heap.size 3 i0 _ 8 Tryd.underlying22 hi0 hz0 hz1 hz2 rfl v5 _ _ (by rfl) (by exact hown6) A6 (flushL l1).length c6 (cI (flushL l1)) (by rfl) (cI_len _) (by exact hr6) (cI_one _) (by omega) (by omega) hb9.size ?_); intro v7 w7 hown7 hg7; have hb10 : Below w4.heap.size w4 w7 := hb9.grown hg7 hb9.size (fun j hj => (hown6.lt j hj).1); obtain ⟨A7, c7, hv7, _, hr7⟩ := own_slice hown7; subst hv7; rw [← cI_append] at hr7)
            | (go_at_call 26; refine (is_yes (s'.extract 0 (k + 1)) A7 c7 _ (L ++ flushL l1) (by rw [List.length_append]) _ hr7 ((HM4.out).keep hb10) (by rw [ByteArray.size_extract]; omega) Hfin.out).mono ?_; rintro e w8 ⟨rfl, hb11⟩; have hb12 := hb10.trans (hb11.mono hb10.size)))
        clear e1 e2
        have HF := Lib.hid (show l1.length ≤ c1 ∧ TyB w8 A1 ∧ Rd w8 A1 (cB l1) ∧ w8.ownsRow w.heap.size 3 1 (.slice A3 L.length c3) L.length (cI L) ∧ Below w.heap.size w w8 from
          ⟨hcc, (HT1'.out).below hb12, (HR1'.out).below hb12, own_below HO4.out hb12, hb6.trans (hb12.mono hb6.size)⟩)
        clear hb7 hb9 hb10 hb12 hb8 hb11 hown5 hown6 hown7 hr6 hr7 hg5 hg7
        go_wp2
        go_roundw
        case rel => exact ⟨k + 1, A1, c1, by omega, by go_num, by rw [Hrun.out], by rw [Hrun.out]; exact HF⟩
        case measure => simp [intOf]; omega
      · go_wp2
        go_ret
        exact ⟨rfl, hid.out.2.2.2.2⟩
end Go.Proofs.YtciklknbllblmaaDoor.Utf
