/-
  Contract of the utf package's Step.
-/
import Derived.Test.YtoilcigmpeaedaaGreatDoorUtfE
namespace Go.Proofs.YtoilcigmpeaedaaGreatDoor.Utf
open Go.RowKit

def StepPost (p : List UInt8) (b : UInt8) (w : World) (e : Ending) (w' : World) : Prop :=
  ∃ A1 c1 A2 c2, e = .returned (.tuple #[.slice A1 (stepL p b).1.length c1, .slice A2 (stepL p b).2.length c2]) ∧ (stepL p b).1.length ≤ c1 ∧ TyB w' A1 ∧ Rd w' A1 (cB (stepL p b).1) ∧ Rd w' A2 (cI (stepL p b).2) ∧ Below w.heap.size w w'

/-- and both lie in memory of the call's own -/
def StepPostH (p : List UInt8) (b : UInt8) (w : World) (e : Ending) (w' : World) : Prop :=
  ∃ A1 c1 A2 c2, e = .returned (.tuple #[.slice A1 (stepL p b).1.length c1, .slice A2 (stepL p b).2.length c2]) ∧ (stepL p b).1.length ≤ c1 ∧ TyB w' A1 ∧ Rd w' A1 (cB (stepL p b).1) ∧ Rd w' A2 (cI (stepL p b).2) ∧ Below w.heap.size w w' ∧ HiA w.heap.size A1 ∧ HiA w.heap.size A2
theorem StepPostH.lo {p : List UInt8} {b : UInt8} {w : World} {e : Ending} {w' : World} (h : StepPostH p b w e w') : StepPost p b w e w' := by
  obtain ⟨A1, c1, A2, c2, h1, h2, h3, h4, h5, h6, _⟩ := h
  exact ⟨A1, c1, A2, c2, h1, h2, h3, h4, h5, h6⟩
theorem step_of {p : List UInt8} {b : UInt8} {w w' : World} {e : Ending} (l1 : List UInt8) (l2 : List Int) (h : stepL p b = (l1, l2)) (A1 A2 : Option Addr) (c1 c2 n1 n2 : Nat) (h1 : n1 = l1.length) (h2 : n2 = l2.length)
    (he : e = .returned (.tuple #[.slice A1 n1 c1, .slice A2 n2 c2])) (hc : l1.length ≤ c1) (t1 : TyB w' A1) (r1 : Rd w' A1 (cB l1)) (r2 : Rd w' A2 (cI l2)) (hb : Below w.heap.size w w') (g1 : HiA w.heap.size A1) (g2 : HiA w.heap.size A2) : StepPostH p b w e w' := by
  subst h1; subst h2
  exact ⟨A1, c1, A2, c2, by rw [h]; exact he, by rw [h]; exact hc, t1, by rw [h]; exact r1, by rw [h]; exact r2, hb, g1, g2⟩

set_option maxRecDepth 100000 in
set_option maxHeartbeats 2000000 in
theorem step_no (A : Option Addr) (c : Nat) (p : List UInt8) (b : UInt8) (w : World) (h : Rd w A (cB p)) (hm : Mk w) (hc : p.length ≤ c) (hs : p.length ≤ 100000) (hp : preB p = false) :
    Calls Tryz.prog 110 #[.slice A p.length c, .int .u8 (b.toNat : Int)] w (StepPostH p b w) := by
  obtain ⟨i0, hi0, hz0, hz1, hz2⟩ := info_parts infoI
  have H := Lib.hid h; clear h
  have HM := Lib.hid hm; clear hm
  have Hst := Lib.hid (show stepL p b = aloneL b by simp [stepL, hp])
  have Hp := Lib.hid hp; clear hp
  have hfl := fl_bd b
  obtain ⟨g, hg⟩ : ∃ g, g = begB [b] := ⟨_, rfl⟩
  have Hg := Lib.hid hg; clear hg
  go_enter Tryz.func110, Tryz.ntmps110
  go_wp2_with fail
  refine (prefix_any _ _ _ _ H.out HM.out hc (by omega)).mono ?_
  rintro e w1 ⟨rfl, hb1⟩
  rw [Hp.out]
  go_wp2_with fail
  have hb2 := hb1.alloc hb1.size (.cells #[.int .u8 (b.toNat : Int)] 5)
  refine (begins_any _ 1 b [] _ (Rd.one _ _ _) ((HM.out).keep hb2) (by simp; omega) (by simp)).mono ?_
  rintro e w2 ⟨rfl, hb3⟩
  have hb4 := hb2.trans (hb3.mono hb2.size)
  rw [← Hg.out]
  cases g
  · have HF := Lib.hid (show aloneL b = ([], [65533]) by simp [aloneL, ← Hg.out])
    have HO := Lib.hid (World.ownsRow_nil (w2.alloc (.cells #[.int .i64 65533] 3)) w.heap.size 3 1)
    have HS := Lib.hid hb4.size
    go_wp2_with (at_builtin; refine wpList_appB _ rfl _ _ 27 rfl w.heap.size 3 i0 _ 8 Tryz.underlying27 hi0 hz0 hz1 hz2 rfl _ 0 [] rfl HO.out (some ⟨w2.heap.size, 0, none⟩) 1 1 (cI [65533]) rfl (cI_len _) (Rd.one _ _ _) (cI_one _) (by omega) (by omega) (by have := HS.out; simp; omega) ?_; intro v3 w3 hown3 hb5)
    obtain ⟨A2, c2, hv3, _, hr3⟩ := own_slice hown3
    rw [hv3]
    go_wp2
    go_ret2
    refine step_of [] [65533] (by rw [Hst.out, HF.out]) none A2 0 c2 0 (0 + 1) rfl rfl rfl (Nat.le_refl _) (TyB.none _) (Rd.nil _ _) hr3 ((hb4.alloc hb4.size _).trans hb5) (HiA.none _) (HiA.own (hv3 ▸ hown3))
  · have HF := Lib.hid (show aloneL b = takeL [b] by simp [aloneL, ← Hg.out])
    go_wp2_with fail
    refine (take_any _ 1 b [] _ ((Rd.one _ _ _).below hb3) ((HM.out).keep hb4) (by simp; omega) (by simp)).mono ?_
    rintro e w3 ⟨A1, c1, A2, c2, hA1, rfl, hcc, hr1, hr2, hb5, _⟩
    have G1 := Lib.hid (show HiA w.heap.size A1 by rcases hA1 with rfl | rfl; exact HiA.at hb1.size; exact HiA.none _)
    have HY := Lib.hid ((((TyB.new w1 #[.int .u8 (b.toNat : Int)]).below hb3).below hb5).or hA1); clear hA1
    have hb6 := hb4.trans (hb5.mono hb4.size)
    have hl := takeL_len [b] (by simp)
    obtain ⟨l1, hl1⟩ : ∃ l, (takeL [b]).1 = l := ⟨_, rfl⟩
    obtain ⟨l2, hl2⟩ : ∃ l, (takeL [b]).2 = l := ⟨_, rfl⟩
    rw [hl1] at hcc hr1 hl ⊢
    rw [hl2] at hr2 hl ⊢
    have HT := Lib.hid (show takeL [b] = (l1, l2) by rw [← hl1, ← hl2])
    clear hl1 hl2
    have HR2 := Lib.hid hr2; clear hr2
    have HR1 := Lib.hid hr1; clear hr1
    have HO := Lib.hid (World.ownsRow_nil w3 w3.heap.size 3 1)
    go_wp2_with (at_builtin; refine wpList_appB _ rfl _ _ 27 rfl w3.heap.size 3 i0 _ 8 Tryz.underlying27 hi0 hz0 hz1 hz2 rfl _ 0 [] rfl HO.out A2 l2.length c2 (cI l2) rfl (cI_len _) HR2.out (cI_one _) (by omega) (by omega) (Nat.le_refl _) ?_; intro v4 w4 hown4 hb7)
    obtain ⟨A3, c3, hv4, _, hr4⟩ := own_slice hown4
    rw [hv4]
    go_wp2
    go_ret2
    exact step_of l1 l2 (by rw [Hst.out, HF.out, HT.out]) A1 A3 c1 c3 _ (0 + l2.length) rfl (by omega) rfl hcc ((HY.out).below hb7) ((HR1.out).below hb7) (by simpa using hr4) (hb6.trans (hb7.mono hb6.size)) G1.out ((HiA.own (hv4 ▸ hown4)).mono hb6.size)

theorem preB_fl {b0 : UInt8} {r0 : List UInt8} (h : preB (b0 :: r0) = true) : r0.length + 1 < fl b0 := by simp [preB] at h; exact h.1

set_option maxRecDepth 100000 in
set_option maxHeartbeats 2000000 in
theorem step_yes (A : Option Addr) (c : Nat) (b0 : UInt8) (r0 : List UInt8) (b : UInt8) (w : World) (h : Rd w A (cB (b0 :: r0))) (hm : Mk w) (hc : r0.length + 1 ≤ c) (hp : preB (b0 :: r0) = true) :
    Calls Tryz.prog 110 #[.slice A (r0.length + 1) c, .int .u8 (b.toNat : Int)] w (StepPostH (b0 :: r0) b w) := by
  obtain ⟨i0, hi0, hz0, hz1, hz2⟩ := info_parts infoI
  obtain ⟨i1, hi1, hy0, hy1, hy2⟩ := info_parts infoB
  obtain ⟨ad, rfl, hblk, hc0⟩ := h 0 (.int .u8 (b0.toNat : Int)) rfl
  clear hc0
  have hfl := fl_bd b
  have hfl0 := fl_bd b0
  have hlt := preB_fl hp
  have H := Lib.hid h; clear h
  have HM := Lib.hid hm; clear hm
  have Hst1 := Lib.hid (show begB (b0 :: (r0 ++ [b])) = true → stepL (b0 :: r0) b = takeL (b0 :: (r0 ++ [b])) from fun hx => by simp [stepL, hp, hx])
  have Hst2 := Lib.hid (show begB (b0 :: (r0 ++ [b])) = false → stepL (b0 :: r0) b = ((aloneL b).1, 65533 :: (aloneL b).2) from fun hx => by simp [stepL, hp, hx])
  have Hp := Lib.hid hp; clear hp
  obtain ⟨q, hq⟩ : ∃ q, r0 ++ [b] = q := ⟨_, rfl⟩
  rw [hq] at Hst1 Hst2
  have hql : q.length = r0.length + 1 := by rw [← hq]; simp
  have hcq : cB (b0 :: r0) ++ cB [b] = cB (b0 :: q) := by rw [← cB_append, List.cons_append, hq]
  have Hcq := Lib.hid hcq; clear hcq
  have Hql := Lib.hid hql; clear hql
  have Hq := Lib.hid hq; clear hq
  have hq1 : q.length + 1 ≤ fl b0 := by have := Hql.out; omega
  obtain ⟨g1, hg1⟩ : ∃ g, g = begB (b0 :: q) := ⟨_, rfl⟩
  have Hg1 := Lib.hid hg1; clear hg1
  obtain ⟨g, hg⟩ : ∃ g, g = begB [b] := ⟨_, rfl⟩
  have Hg := Lib.hid hg; clear hg
  go_enter Tryz.func110, Tryz.ntmps110
  go_wp2_with fail
  refine (prefix_any _ _ (b0 :: r0) _ H.out HM.out hc (by simp; omega)).mono ?_
  rintro e w1 ⟨rfl, hb1⟩
  rw [Hp.out]
  go_wp2_with fail
  refine (clone_any _ _ (b0 :: r0) _ ((H.out).below hb1) (by simp; omega)).mono ?_
  rintro e w2 ⟨v2, rfl, hown2, hb2⟩
  have hb3 := hb1.trans (hb2.mono hb1.size)
  have HO2 := Lib.hid (hown2.alloc (.cells #[.int .u8 (b.toNat : Int)] 5)); clear hown2
  have HS2 := Lib.hid (show w1.heap.size ≤ (w2.alloc (.cells #[.int .u8 (b.toNat : Int)] 5)).heap.size by have := hb2.size; simp; omega)
  go_wp2_with (at_builtin; refine wpList_appB _ rfl _ _ 38 rfl w1.heap.size 5 i1 _ 1 Tryz.underlying38 hi1 hy0 hy1 hy2 rfl _ (b0 :: r0).length (cB (b0 :: r0)) rfl HO2.out (some ⟨w2.heap.size, 0, none⟩) 1 1 (cB [b]) rfl (cB_len _) (Rd.one _ _ _) (cB_one _) (by simp; omega) (by omega) HS2.out ?_; intro v3 w3 hown3 hb4)
  have hb5 : Below w.heap.size w w3 := (hb3.alloc hb3.size _).trans (hb4.mono hb1.size)
  have HMk := Lib.hid ((HM.out).keep hb5)
  rw [Hcq.out, show (b0 :: r0).length + 1 = q.length + 1 by rw [Hql.out]; rfl] at hown3
  obtain ⟨gb, cp, hv3, hcp, hgb, hglt⟩ := own_some hown3 (by omega)
  have HR3 := Lib.hid (Rd.own (hv3 ▸ hown3))
  have HY3 := Lib.hid (TyB.own (hv3 ▸ hown3))
  rw [hv3]
  clear hown3 hv3
  go_wp2_with fail
  refine (begins_any _ _ b0 q _ HR3.out HMk.out hq1 hcp).mono ?_
  rintro e w4 ⟨rfl, hb6⟩
  have hb7 := hb5.trans (hb6.mono hb5.size)
  rw [← Hg1.out]
  cases g1
  · have HS := Lib.hid (Hst2.out Hg1.out.symm)
    clear Hst1 Hst2
    go_wp2_with fail
    have hb8 := hb7.alloc hb7.size (.cells #[.int .i64 65533] 3)
    have hb9 := hb8.alloc hb8.size (.cells #[.int .u8 (b.toNat : Int)] 5)
    have hrb := Rd.one (w4.alloc (.cells #[.int .i64 65533] 3)) (.int .u8 (b.toNat : Int)) 5
    rw [World.size_alloc] at hrb
    have HRb := Lib.hid hrb; clear hrb
    have hown5 := (World.ownsRow_lit (base := w4.heap.size) (e := 3) (size := 1) w4 #[.int .i64 65533] 1 (Nat.le_refl _) (by unfold maxLen; omega) rfl).alloc (.cells #[.int .u8 (b.toNat : Int)] 5)
    refine (begins_any _ 1 b [] _ HRb.out ((HM.out).keep hb9) (by simp; omega) (by simp)).mono ?_
    rintro e w5 ⟨rfl, hb10⟩
    have hown6 := own_below hown5 hb10
    have hb11 := hb9.trans (hb10.mono hb9.size)
    have hw5 : w4.heap.size + 2 ≤ w5.heap.size := by have := hb10.size; simp at this; omega
    clear hown5
    rw [← Hg.out]
    cases g
    · have HF := Lib.hid (show aloneL b = ([], [65533]) by simp [aloneL, ← Hg.out])
      have HO := Lib.hid (hown6.alloc (.cells #[.int .i64 65533] 3)); clear hown6
      go_wp2_with (at_builtin; refine wpList_appB _ rfl _ _ 27 rfl w4.heap.size 3 i0 _ 8 Tryz.underlying27 hi0 hz0 hz1 hz2 rfl _ 1 _ rfl HO.out (some ⟨w5.heap.size, 0, none⟩) 1 1 (cI [65533]) rfl (cI_len _) (Rd.one _ _ _) (cI_one _) (by omega) (by omega) (by simp; omega) ?_; intro v6 w6 hown7 hb12)
      obtain ⟨A2, c2, hv6, _, hr6⟩ := own_slice hown7
      rw [hv6]
      go_wp2
      go_ret2
      exact step_of [] [65533, 65533] (by rw [HS.out, HF.out]) none A2 0 c2 0 (1 + 1) rfl rfl rfl (Nat.le_refl _) (TyB.none _) (Rd.nil _ _) hr6 ((hb11.alloc hb11.size _).trans (hb12.mono hb7.size)) (HiA.none _) ((HiA.own (hv6 ▸ hown7)).mono hb7.size)
    · have HF := Lib.hid (show aloneL b = takeL [b] by simp [aloneL, ← Hg.out])
      have HRc := Lib.hid ((HRb.out).below hb10)
      go_wp2_with fail
      refine (take_any _ 1 b [] _ HRc.out ((HM.out).keep hb11) (by simp; omega) (by simp)).mono ?_
      rintro e w6 ⟨A1, c1, A2, c2, hA1, rfl, hcc, hr1, hr2, hb12, _⟩
      have hb13 := hb11.trans (hb12.mono hb11.size)
      have hl := takeL_len [b] (by simp)
      obtain ⟨l1, hl1⟩ : ∃ l, (takeL [b]).1 = l := ⟨_, rfl⟩
      obtain ⟨l2, hl2⟩ : ∃ l, (takeL [b]).2 = l := ⟨_, rfl⟩
      rw [hl1] at hcc hr1 hl ⊢
      rw [hl2] at hr2 hl ⊢
      have HT := Lib.hid (show takeL [b] = (l1, l2) by rw [← hl1, ← hl2])
      clear hl1 hl2
      have HR2 := Lib.hid hr2; clear hr2
      have HR1 := Lib.hid hr1; clear hr1
      have hyb := TyB.new (w4.alloc (.cells #[.int .i64 65533] 3)) #[.int .u8 (b.toNat : Int)]
      rw [World.size_alloc] at hyb
      have HY := Lib.hid (((hyb.below hb10).below hb12).or hA1); clear hyb
      have HA1 := Lib.hid hA1; clear hA1
      have HO := Lib.hid (own_below hown6 hb12); clear hown6
      have hw6 := hb12.size
      go_wp2_with (at_builtin; refine wpList_app _ rfl _ _ 27 rfl w4.heap.size 3 i0 _ 8 Tryz.underlying27 hi0 hz0 hz1 hz2 rfl (.slice (some ⟨w4.heap.size, 0, none⟩) 1 1) 1 _ rfl HO.out A2 l2.length c2 (cI l2) rfl (cI_len _) HR2.out (cI_one _) (by omega) (by omega) (by omega) ?_; intro v7 w7 hown8 hg8 _)
      obtain ⟨A3, c3, hv7, _, hr7⟩ := own_slice hown8
      rw [hv7]
      go_wp2
      go_ret2
      suffices hne : ∀ ad', A1 = some ad' → some ad'.block ≠ (Value.slice (some ⟨w4.heap.size, 0, none⟩) 1 1).ownBlock from
        step_of l1 (65533 :: l2) (by rw [HS.out, HF.out, HT.out]) A1 A3 c1 c3 _ (1 + l2.length) rfl (by simp; omega) rfl hcc ((HY.out).grownBy hg8 hne) ((HR1.out).grownBy hg8 hne) hr7 (hb13.grown hg8 hb13.size (by simp [Value.ownBlock]; exact hb7.size)) (by rcases HA1.out with rfl | rfl; exact HiA.at (by have := hb7.size; omega); exact HiA.none _) ((HiA.own (hv7 ▸ hown8)).mono hb7.size)
      intro ad' e'
      rcases HA1.out with rfl | rfl
      · injection e' with e'
        rw [← e']
        simp [Value.ownBlock]
      · cases e'
  · have HS := Lib.hid (Hst1.out Hg1.out.symm)
    clear Hst1 Hst2
    go_wp2_with fail
    refine (take_any _ _ b0 q _ ((HR3.out).below hb6) ((HM.out).keep hb7) hq1 hcp).mono ?_
    rintro e w5 ⟨A1, c1, A2, c2, hA1, rfl, hcc, hr1, hr2, hb8, g2⟩
    have G1 := Lib.hid (show HiA w.heap.size A1 by rcases hA1 with rfl | rfl; exact HiA.at (Nat.le_trans hb1.size hgb); exact HiA.none _)
    have HY := Lib.hid ((((HY3.out).below hb6).below hb8).or hA1); clear hA1
    go_wp2
    go_ret2
    exact step_of _ _ HS.out A1 A2 c1 c2 _ _ rfl rfl rfl hcc HY.out hr1 hr2 (hb7.trans (hb8.mono hb7.size)) G1.out (g2.mono hb7.size)

theorem step_anyH (A : Option Addr) (c : Nat) (p : List UInt8) (b : UInt8) (w : World) (h : Rd w A (cB p)) (hm : Mk w) (hc : p.length ≤ c) (hs : p.length ≤ 100000) :
    Calls Tryz.prog 110 #[.slice A p.length c, .int .u8 (b.toNat : Int)] w (StepPostH p b w) := by
  cases hp : preB p with
  | false => exact step_no A c p b w h hm hc hs hp
  | true =>
    cases p with
    | nil => cases hp
    | cons b0 r0 => exact step_yes A c b0 r0 b w h hm hc hp
theorem step_any (A : Option Addr) (c : Nat) (p : List UInt8) (b : UInt8) (w : World) (h : Rd w A (cB p)) (hm : Mk w) (hc : p.length ≤ c) (hs : p.length ≤ 100000) :
    Calls Tryz.prog 110 #[.slice A p.length c, .int .u8 (b.toNat : Int)] w (StepPost p b w) := (step_anyH A c p b w h hm hc hs).mono fun _ _ h => h.lo
end Go.Proofs.YtoilcigmpeaedaaGreatDoor.Utf
