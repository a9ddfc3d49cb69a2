/-
  UtfPieces UtfS
-/
import Derived.Deep.RegionHeld3
import Derived.IntWalk
import Derived.Lib.Strings
import Derived.Test.YtoilcigmpeaedaaGreatDoorF0
import Derived.Test.YtoilcigmpeaedaaGreatDoorF27
namespace Go.Proofs.YtoilcigmpeaedaaGreatDoor.Utf
open Go.RowKit

theorem ty_ne {w : World} {A : Option Addr} {base n : Nat} {v : Value} {xs : List Value} (ht : TyB w A) (ho : w.ownsRow base 3 1 v n xs) : ∀ ad, A = some ad → some ad.block ≠ v.ownBlock := by
  intro ad e h
  obtain ⟨cur, fr, hc⟩ := ht ad e
  rcases ho.2 with ⟨rfl, _⟩ | ⟨g, cap, cur', rfl, _, hg, _⟩
  · simp [Value.ownBlock] at h
  · obtain rfl : ad.block = g := by simpa [Value.ownBlock] using h
    rw [hc] at hg
    cases hg

/-- what stands between two operations of the last statement of a round -/
def PS (w : World) (A : Option Addr) (bs : List UInt8) (B : Option Addr) (zs : List Int) (W : World) : Prop := Rd W A (cB bs) ∧ Rd W B (cI zs) ∧ Mk W ∧ Below w.heap.size w W
theorem PS.keep {w : World} {A : Option Addr} {bs : List UInt8} {B : Option Addr} {zs : List Int} {W W' : World} (h : PS w A bs B zs W) (hb : Below W.heap.size W W') : PS w A bs B zs W' :=
  ⟨h.1.below hb, h.2.1.below hb, h.2.2.1.keep hb, h.2.2.2.trans (hb.mono h.2.2.2.size)⟩

theorem pieces_eq (s : ByteArray) (k : Nat) (l1 : List UInt8) (L : List Int) (h : runL ([], []) (s.data.toList.take (k + 1)) = (l1, L)) : eqI (codesL (s.extract 0 (k + 1)).data.toList) (L ++ flushL l1) = true := by
  rw [Lib.extract_data, List.drop_zero, Nat.sub_zero]
  unfold codesL
  rw [h]
  exact eqI_self _
theorem runL_p3 (l : List UInt8) : (runL ([], []) l).1.length ≤ 3 := runL_p ([], []) (by simp) l

end Go.Proofs.YtoilcigmpeaedaaGreatDoor.Utf

namespace Go.Proofs.YtoilcigmpeaedaaGreatDoor.Utf
open Go.RowKit

theorem whole_goes (bs : List UInt8) (h : wholeB bs = true) : goesB bs = true := by
  cases bs with
  | nil => cases h
  | cons b r => simp only [wholeB, Bool.and_eq_true] at h; exact h.1
theorem goes_rsp (bs : List UInt8) (h : goesB bs = true) : (rsp bs).1 = low bs := by
  obtain ⟨lo, hi, n, hr⟩ : ∃ lo hi n, rsp bs = (lo, hi, n) := ⟨_, _, _, rfl⟩
  have hn : n ≠ 0 := by
    rintro rfl
    rw [goes_zero bs (by rw [hr])] at h
    cases h
  rw [hr]
  exact (goes_in bs lo hi n hr hn).2.2.2
theorem goes_take (b : UInt8) (r : List UInt8) (hg : goesB (b :: r) = true) : begB (b :: r) = true ∧ takeL (b :: r) = if wholeB (b :: r) then ([], [(low (b :: r) : Int)]) else (b :: r, []) := by
  have h2 := hg
  simp only [goesB, Bool.and_eq_true, decide_eq_true_eq] at h2
  refine ⟨h2.2, ?_⟩
  by_cases h3 : r.length + 1 = fl b
  · have hw : wholeB (b :: r) = true := by simp only [wholeB, hg, decide_eq_true h3]; rfl
    rw [hw, take_end (by omega)]; rfl
  · have hw : wholeB (b :: r) = false := by simp only [wholeB, hg, decide_eq_false h3]; rfl
    rw [hw, take_more (by omega)]; rfl
theorem sf_nil (p : List UInt8) (b : UInt8) (hp : preB p = false) :
    (goesB [b] = true → stepL p b = if wholeB [b] then ([], [(low [b] : Int)]) else ([b], [])) ∧ (goesB [b] = false → stepL p b = ([], [65533])) := by
  have h0 : stepL p b = aloneL b := by simp [stepL, hp]
  refine ⟨fun hg => ?_, fun hg => ?_⟩
  · obtain ⟨h1, h2⟩ := goes_take b [] hg
    rw [h0, ← h2]; simp [aloneL, h1]
  · have hb : begB [b] = false := by
      have := fl_bd b
      simp only [goesB, List.length_nil, Nat.zero_add, decide_eq_true this.1, Bool.true_and] at hg
      exact hg
    rw [h0]; simp [aloneL, hb]
theorem sf_cons (b0 : UInt8) (r0 : List UInt8) (b : UInt8) (hp : preB (b0 :: r0) = true) :
    (goesB (b0 :: (r0 ++ [b])) = true → stepL (b0 :: r0) b = if wholeB (b0 :: (r0 ++ [b])) then ([], [(low (b0 :: (r0 ++ [b])) : Int)]) else (b0 :: (r0 ++ [b]), [])) ∧
    (goesB (b0 :: (r0 ++ [b])) = false → stepL (b0 :: r0) b = ((stepL [] b).1, 65533 :: (stepL [] b).2)) := by
  refine ⟨fun hg => ?_, fun hg => ?_⟩
  · obtain ⟨h1, h2⟩ := goes_take b0 (r0 ++ [b]) hg
    rw [← h2]
    exact step_more hp h1
  · have hlt := preB_fl hp
    have hb : begB (b0 :: (r0 ++ [b])) = false := by
      simp only [goesB, decide_eq_true (show (r0 ++ [b]).length + 1 ≤ fl b0 by simp; omega), Bool.true_and] at hg
      exact hg
    have h0 : stepL [] b = aloneL b := rfl
    rw [h0]
    simp [stepL, hp, hb]
theorem up5' {B W W' : World} (h : Below B.heap.size B W) (hb : Below W.heap.size W W') : Below B.heap.size B W' := h.trans (hb.mono h.size)

set_option maxRecDepth 100000 in
set_option maxHeartbeats 4000000 in
theorem rstep_nil (A : Option Addr) (c : Nat) (b : UInt8) (w : World) :
    Calls Tryz.prog 84 #[.slice A 0 c, .int .u8 (b.toNat : Int)] w (StepPostH [] b w) := by
  obtain ⟨p, hp⟩ : ∃ p : List UInt8, p = [] := ⟨_, rfl⟩
  rw [← hp]
  have SF := Lib.hid (sf_nil p b (by rw [hp]; rfl))
  clear hp
  obtain ⟨i1, hi1, hy0, hy1, hy2⟩ := info_parts infoB
  obtain ⟨gg, hgg⟩ : ∃ g, goesB [b] = g := ⟨_, rfl⟩
  obtain ⟨ww, hww⟩ : ∃ v, wholeB [b] = v := ⟨_, rfl⟩
  have HG := Lib.hid hgg; clear hgg
  have HW := Lib.hid hww; clear hww
  go_enter Tryz.func84, Tryz.ntmps84
  go_wp2_with fail
  refine (rright_any A c 0 [] rfl _ (Rd.nil _ _) (by simp)).mono ?_
  rintro e w1 ⟨rfl, hb1⟩
  rw [show (([] : List UInt8).isEmpty || preB []) = true from rfl]
  have HO1 := Lib.hid (World.ownsRow_made (base := w1.heap.size) (e := 5) (size := 1) w1 #[] 0 (Nat.le_refl _) (by unfold maxLen; omega) rfl)
  have HR1 := Lib.hid (show Rd (w1.alloc (.cells #[] 5)) A (cB []) from Rd.nil _ _)
  have hw1 := hb1.size
  go_wp2_with (first
    | (at_builtin; refine wpList_appB _ rfl (.tmp 17) (.tmp 18) 38 rfl w1.heap.size 5 i1 _ 1 Tryz.underlying38 hi1 hy0 hy1 hy2 rfl _ 0 [] rfl HO1.out A 0 c (cB []) rfl (cB_len _) HR1.out (cB_one _) (by first | omega | (simp only [List.length_cons]; omega)) (by omega) (by simp) ?_; intro v2 w2 hown2 hb2; rw [Nat.zero_add, List.nil_append] at hown2; have HO2 := Lib.hid (hown2.alloc (.cells #[.int .u8 (b.toNat : Int)] 5)); have hs2 : w1.heap.size ≤ (w2.alloc (.cells #[.int .u8 (b.toNat : Int)] 5)).heap.size := (by have := hb2.size; simp at this ⊢; omega); clear hown2)
    | (at_builtin; refine wpList_appB _ rfl (.tmp 19) (.tmp 21) 38 rfl w1.heap.size 5 i1 _ 1 Tryz.underlying38 hi1 hy0 hy1 hy2 rfl _ _ _ rfl HO2.out (some ⟨w2.heap.size, 0, none⟩) 1 1 (cB [b]) rfl (cB_len _) (Rd.one _ _ _) (cB_one _) (by first | omega | (simp only [List.length_cons]; omega)) (by omega) hs2 ?_; intro v3 w3 hown3 hb3))
  have hb4 : Below w1.heap.size w1 w3 := ((((Below.refl _ _).alloc (Nat.le_refl _) _).trans hb2).alloc (by have := hb2.size; simp at this; omega) _).trans hb3
  have hb5 := up5' hb1 hb4
  rw [show cB [] ++ cB [b] = cB [b] from rfl, show 0 + 1 = 1 from rfl] at hown3
  obtain ⟨gb, cp, hv3, hcp, hgb, hglt⟩ := own_some hown3 (by omega)
  have HRa := Lib.hid (Rd.own (hv3 ▸ hown3))
  have HTa := Lib.hid (TyB.own (hv3 ▸ hown3))
  rw [hv3]
  clear hown3 hv3 hb2 hb3 hb4 HO1 HO2 HR1 hs2
  go_wp2_with fail
  refine (rgoes_any _ _ 1 [b] rfl _ HRa.out (by simp only [List.length_cons, List.length_nil]; omega)).mono ?_
  rintro e w4 ⟨rfl, hb6⟩
  have hb7 := up5' hb5 hb6
  rw [HG.out, HW.out]
  cases gg
  · obtain rfl : ww = false := by
      cases ww with
      | false => rfl
      | true => have := whole_goes _ HW.out; rw [HG.out] at this; cases this
    have HS := Lib.hid (SF.out.2 HG.out)
    go_wp2
    go_ret2
    exact step_of [] [65533] HS.out none _ 0 1 0 1 rfl rfl rfl (Nat.le_refl _) (TyB.none _) (Rd.nil _ _) (Rd.one _ _ _) (hb7.alloc hb7.size _) (HiA.none _) (HiA.at hb7.size)
  · have HS := Lib.hid (SF.out.1 HG.out)
    cases ww
    · have HS2 := Lib.hid (show stepL p b = ([b], []) by rw [HS.out, HW.out]; rfl)
      go_wp2
      go_ret2
      exact step_of [b] [] HS2.out _ none cp 0 1 0 rfl rfl rfl hcp ((HTa.out).below hb6) ((HRa.out).below hb6) (Rd.nil _ _) hb7 (HiA.at (Nat.le_trans hb1.size hgb)) (HiA.none _)
    · have HS2 := Lib.hid (show stepL p b = ([], [(low [b] : Int)]) by rw [HS.out, HW.out]; rfl)
      have Hlow := Lib.hid (goes_rsp [b] HG.out)
      go_wp2_with fail
      refine (rspan_any _ _ 1 [b] rfl _ ((HRa.out).below hb6) (by simp only [List.length_cons, List.length_nil]; omega)).mono ?_
      rintro e w5 ⟨rfl, rfl⟩
      rw [Hlow.out]
      go_wp2
      go_ret2
      exact step_of [] [(low [b] : Int)] HS2.out none _ 0 1 0 1 rfl rfl rfl (Nat.le_refl _) (TyB.none _) (Rd.nil _ _) (Rd.one _ _ _) (hb7.alloc hb7.size _) (HiA.none _) (HiA.at hb7.size)

set_option maxRecDepth 100000 in
set_option maxHeartbeats 4000000 in
theorem rstep_no (A : Option Addr) (c n0 : Nat) (p : List UInt8) (b : UInt8) (hn : p.length = n0) (w : World) (h : Rd w A (cB p)) (hs : p.length ≤ 100000) (hp : preB p = false) (hne : p ≠ []) :
    Calls Tryz.prog 84 #[.slice A n0 c, .int .u8 (b.toNat : Int)] w (StepPostH p b w) := by
  have SF := Lib.hid (sf_nil p b hp)
  have Hr := Lib.hid (show (p.isEmpty || preB p) = false by rw [hp]; cases p with | nil => exact absurd rfl hne | cons x y => rfl)
  have H := Lib.hid h; clear h hp hne
  have Hn0 := Lib.hid hn; clear hn
  obtain ⟨i1, hi1, hy0, hy1, hy2⟩ := info_parts infoB
  obtain ⟨gg, hgg⟩ : ∃ g, goesB [b] = g := ⟨_, rfl⟩
  obtain ⟨ww, hww⟩ : ∃ v, wholeB [b] = v := ⟨_, rfl⟩
  have HG := Lib.hid hgg; clear hgg
  have HW := Lib.hid hww; clear hww
  go_enter Tryz.func84, Tryz.ntmps84
  go_wp2_with fail
  refine (rright_any A c n0 p Hn0.out _ H.out (by omega)).mono ?_
  rintro e w1 ⟨rfl, hb1⟩
  rw [Hr.out]
  have HO1 := Lib.hid (World.ownsRow_made (base := w1.heap.size) (e := 5) (size := 1) w1 #[] 0 (Nat.le_refl _) (by unfold maxLen; omega) rfl)
  have HR1 := Lib.hid (show Rd (w1.alloc (.cells #[] 5)) none (cB []) from Rd.nil _ _)
  have hw1 := hb1.size
  go_wp2_with (first
    | (at_builtin; refine wpList_appB _ rfl (.tmp 17) (.tmp 18) 38 rfl w1.heap.size 5 i1 _ 1 Tryz.underlying38 hi1 hy0 hy1 hy2 rfl _ 0 [] rfl HO1.out none 0 0 (cB []) rfl (cB_len _) HR1.out (cB_one _) (by first | omega | (simp only [List.length_cons]; omega)) (by omega) (by simp) ?_; intro v2 w2 hown2 hb2; rw [Nat.zero_add, List.nil_append] at hown2; have HO2 := Lib.hid (hown2.alloc (.cells #[.int .u8 (b.toNat : Int)] 5)); have hs2 : w1.heap.size ≤ (w2.alloc (.cells #[.int .u8 (b.toNat : Int)] 5)).heap.size := (by have := hb2.size; simp at this ⊢; omega); clear hown2)
    | (at_builtin; refine wpList_appB _ rfl (.tmp 19) (.tmp 21) 38 rfl w1.heap.size 5 i1 _ 1 Tryz.underlying38 hi1 hy0 hy1 hy2 rfl _ _ _ rfl HO2.out (some ⟨w2.heap.size, 0, none⟩) 1 1 (cB [b]) rfl (cB_len _) (Rd.one _ _ _) (cB_one _) (by first | omega | (simp only [List.length_cons]; omega)) (by omega) hs2 ?_; intro v3 w3 hown3 hb3))
  have hb4 : Below w1.heap.size w1 w3 := ((((Below.refl _ _).alloc (Nat.le_refl _) _).trans hb2).alloc (by have := hb2.size; simp at this; omega) _).trans hb3
  have hb5 := up5' hb1 hb4
  rw [show cB [] ++ cB [b] = cB [b] from rfl, show 0 + 1 = 1 from rfl] at hown3
  obtain ⟨gb, cp, hv3, hcp, hgb, hglt⟩ := own_some hown3 (by omega)
  have HRa := Lib.hid (Rd.own (hv3 ▸ hown3))
  have HTa := Lib.hid (TyB.own (hv3 ▸ hown3))
  rw [hv3]
  clear hown3 hv3 hb2 hb3 hb4 HO1 HO2 HR1 hs2
  go_wp2_with fail
  refine (rgoes_any _ _ 1 [b] rfl _ HRa.out (by simp only [List.length_cons, List.length_nil]; omega)).mono ?_
  rintro e w4 ⟨rfl, hb6⟩
  have hb7 := up5' hb5 hb6
  rw [HG.out, HW.out]
  cases gg
  · obtain rfl : ww = false := by
      cases ww with
      | false => rfl
      | true => have := whole_goes _ HW.out; rw [HG.out] at this; cases this
    have HS := Lib.hid (SF.out.2 HG.out)
    go_wp2
    go_ret2
    exact step_of [] [65533] HS.out none _ 0 1 0 1 rfl rfl rfl (Nat.le_refl _) (TyB.none _) (Rd.nil _ _) (Rd.one _ _ _) (hb7.alloc hb7.size _) (HiA.none _) (HiA.at hb7.size)
  · have HS := Lib.hid (SF.out.1 HG.out)
    cases ww
    · have HS2 := Lib.hid (show stepL p b = ([b], []) by rw [HS.out, HW.out]; rfl)
      go_wp2
      go_ret2
      exact step_of [b] [] HS2.out _ none cp 0 1 0 rfl rfl rfl hcp ((HTa.out).below hb6) ((HRa.out).below hb6) (Rd.nil _ _) hb7 (HiA.at (Nat.le_trans hb1.size hgb)) (HiA.none _)
    · have HS2 := Lib.hid (show stepL p b = ([], [(low [b] : Int)]) by rw [HS.out, HW.out]; rfl)
      have Hlow := Lib.hid (goes_rsp [b] HG.out)
      go_wp2_with fail
      refine (rspan_any _ _ 1 [b] rfl _ ((HRa.out).below hb6) (by simp only [List.length_cons, List.length_nil]; omega)).mono ?_
      rintro e w5 ⟨rfl, rfl⟩
      rw [Hlow.out]
      go_wp2
      go_ret2
      exact step_of [] [(low [b] : Int)] HS2.out none _ 0 1 0 1 rfl rfl rfl (Nat.le_refl _) (TyB.none _) (Rd.nil _ _) (Rd.one _ _ _) (hb7.alloc hb7.size _) (HiA.none _) (HiA.at hb7.size)

set_option maxRecDepth 100000 in
set_option maxHeartbeats 4000000 in
theorem rstep_yes (A : Option Addr) (c : Nat) (b0 : UInt8) (r0 : List UInt8) (b : UInt8) (w : World) (h : Rd w A (cB (b0 :: r0))) (hp : preB (b0 :: r0) = true) :
    Calls Tryz.prog 84 #[.slice A (r0.length + 1) c, .int .u8 (b.toNat : Int)] w (StepPostH (b0 :: r0) b w) := by
  have SF := Lib.hid (sf_cons b0 r0 b hp)
  have hfl := fl_bd b0
  have hlt := preB_fl hp
  have t0 : (((r0.length : Int) + 1) == 0) = false := by rw [beq_eq_false_iff_ne]; omega
  have Hr := Lib.hid (show ((b0 :: r0).isEmpty || preB (b0 :: r0)) = true by rw [hp]; rfl)
  have H := Lib.hid h; clear h hp
  obtain ⟨i0, hi0, hz0, hz1, hz2⟩ := info_parts infoI
  obtain ⟨q, hq⟩ : ∃ q, r0 ++ [b] = q := ⟨_, rfl⟩
  rw [hq] at SF
  have Hql := Lib.hid (show q.length = r0.length + 1 by rw [← hq]; simp)
  have Hcq := Lib.hid (show cB (b0 :: r0) ++ cB [b] = cB (b0 :: q) by rw [← cB_append, List.cons_append, hq])
  have hql : q.length ≤ 10 := by rw [Hql.out]; omega
  clear hq
  obtain ⟨i1, hi1, hy0, hy1, hy2⟩ := info_parts infoB
  obtain ⟨gg, hgg⟩ : ∃ g, goesB (b0 :: q) = g := ⟨_, rfl⟩
  obtain ⟨ww, hww⟩ : ∃ v, wholeB (b0 :: q) = v := ⟨_, rfl⟩
  have HG := Lib.hid hgg; clear hgg
  have HW := Lib.hid hww; clear hww
  go_enter Tryz.func84, Tryz.ntmps84
  go_wp2_with fail
  refine (rright_any A c _ (b0 :: r0) rfl _ H.out (by simp only [List.length_cons]; omega)).mono ?_
  rintro e w1 ⟨rfl, hb1⟩
  rw [Hr.out]
  have HO1 := Lib.hid (World.ownsRow_made (base := w1.heap.size) (e := 5) (size := 1) w1 #[] 0 (Nat.le_refl _) (by unfold maxLen; omega) rfl)
  have HR1 := Lib.hid (show Rd (w1.alloc (.cells #[] 5)) A (cB (b0 :: r0)) from ((H.out).below hb1).below ((Below.refl _ _).alloc (Nat.le_refl _) _))
  have hw1 := hb1.size
  go_wp2_with (first
    | (at_builtin; refine wpList_appB _ rfl (.tmp 17) (.tmp 18) 38 rfl w1.heap.size 5 i1 _ 1 Tryz.underlying38 hi1 hy0 hy1 hy2 rfl _ 0 [] rfl HO1.out A (b0 :: r0).length c (cB (b0 :: r0)) rfl (cB_len _) HR1.out (cB_one _) (by first | omega | (simp only [List.length_cons]; omega)) (by omega) (by simp) ?_; intro v2 w2 hown2 hb2; rw [Nat.zero_add, List.nil_append] at hown2; have HO2 := Lib.hid (hown2.alloc (.cells #[.int .u8 (b.toNat : Int)] 5)); have hs2 : w1.heap.size ≤ (w2.alloc (.cells #[.int .u8 (b.toNat : Int)] 5)).heap.size := (by have := hb2.size; simp at this ⊢; omega); clear hown2)
    | (at_builtin; refine wpList_appB _ rfl (.tmp 19) (.tmp 21) 38 rfl w1.heap.size 5 i1 _ 1 Tryz.underlying38 hi1 hy0 hy1 hy2 rfl _ _ _ rfl HO2.out (some ⟨w2.heap.size, 0, none⟩) 1 1 (cB [b]) rfl (cB_len _) (Rd.one _ _ _) (cB_one _) (by first | omega | (simp only [List.length_cons]; omega)) (by omega) hs2 ?_; intro v3 w3 hown3 hb3))
  have hb4 : Below w1.heap.size w1 w3 := ((((Below.refl _ _).alloc (Nat.le_refl _) _).trans hb2).alloc (by have := hb2.size; simp at this; omega) _).trans hb3
  have hb5 := up5' hb1 hb4
  rw [Hcq.out, show (b0 :: r0).length + 1 = q.length + 1 by rw [Hql.out]; rfl] at hown3
  obtain ⟨gb, cp, hv3, hcp, hgb, hglt⟩ := own_some hown3 (by omega)
  have HRa := Lib.hid (Rd.own (hv3 ▸ hown3))
  have HTa := Lib.hid (TyB.own (hv3 ▸ hown3))
  rw [hv3]
  clear hown3 hv3 hb2 hb3 hb4 HO1 HO2 HR1 hs2
  go_wp2_with fail
  refine (rgoes_any _ _ (q.length + 1) (b0 :: q) rfl _ HRa.out (by simp only [List.length_cons]; omega)).mono ?_
  rintro e w4 ⟨rfl, hb6⟩
  have hb7 := up5' hb5 hb6
  rw [HG.out, HW.out]
  cases gg
  · obtain rfl : ww = false := by
      cases ww with
      | false => rfl
      | true => have := whole_goes _ HW.out; rw [HG.out] at this; cases this
    have HS := Lib.hid (SF.out.2 HG.out)
    go_wp2_with fail
    refine (rstep_nil none 0 b _).mono ?_
    rintro e w5 ⟨A1, c1, A2, c2, rfl, hcc, ht1, hr1, hr2, hb8, g1, _⟩
    have hb9 := up5' hb7 hb8
    have hl := stepL_len [] b
    obtain ⟨l1, hl1⟩ : ∃ l, (stepL [] b).1 = l := ⟨_, rfl⟩
    obtain ⟨l2, hl2⟩ : ∃ l, (stepL [] b).2 = l := ⟨_, rfl⟩
    rw [hl1] at hcc hr1 hl HS
    rw [hl2] at hr2 hl HS
    rw [hl1, hl2]
    clear hl1 hl2
    have HR2 := Lib.hid (hr2.below ((Below.refl _ _).alloc (Nat.le_refl _) (.cells #[.int .i64 65533] 3)))
    have HR1 := Lib.hid (hr1.below ((Below.refl _ _).alloc (Nat.le_refl _) (.cells #[.int .i64 65533] 3)))
    have HT1 := Lib.hid (ht1.below ((Below.refl _ _).alloc (Nat.le_refl _) (.cells #[.int .i64 65533] 3)))
    have HOc := Lib.hid (World.ownsRow_lit (base := w5.heap.size) (e := 3) (size := 1) w5 #[.int .i64 65533] 1 (Nat.le_refl _) (by unfold maxLen; omega) rfl)
    clear hr2 hr1 ht1
    go_wp2_with (at_builtin; refine wpList_app _ rfl _ _ 27 rfl w5.heap.size 3 i0 _ 8 Tryz.underlying27 hi0 hz0 hz1 hz2 rfl (.slice (some ⟨w5.heap.size, 0, none⟩) 1 1) 1 _ rfl HOc.out A2 l2.length c2 (cI l2) rfl (cI_len _) HR2.out (cI_one _) (by omega) (by omega) (by simp) ?_; intro v7 w7 hown8 hg8 _)
    obtain ⟨A3, c3, hv7, _, hr7⟩ := own_slice hown8
    rw [hv7]
    go_wp2
    go_ret2
    have hne := ty_ne HT1.out HOc.out
    exact step_of l1 (65533 :: l2) HS.out A1 A3 c1 c3 _ (1 + l2.length) rfl (by simp; omega) rfl hcc ((HT1.out).grownBy hg8 hne) ((HR1.out).grownBy hg8 hne) hr7 ((hb9.alloc hb9.size _).grown hg8 (by have := hb9.size; simp; omega) (by simp [Value.ownBlock]; exact hb9.size)) (g1.mono hb7.size) ((HiA.own (hv7 ▸ hown8)).mono hb9.size)
  · have HS := Lib.hid (SF.out.1 HG.out)
    cases ww
    · have HS2 := Lib.hid (show stepL (b0 :: r0) b = ((b0 :: q), []) by rw [HS.out, HW.out]; rfl)
      go_wp2
      go_ret2
      exact step_of (b0 :: q) [] HS2.out _ none cp 0 (q.length + 1) 0 rfl rfl rfl hcp ((HTa.out).below hb6) ((HRa.out).below hb6) (Rd.nil _ _) hb7 (HiA.at (Nat.le_trans hb1.size hgb)) (HiA.none _)
    · have HS2 := Lib.hid (show stepL (b0 :: r0) b = ([], [(low (b0 :: q) : Int)]) by rw [HS.out, HW.out]; rfl)
      have Hlow := Lib.hid (goes_rsp (b0 :: q) HG.out)
      go_wp2_with fail
      refine (rspan_any _ _ (q.length + 1) (b0 :: q) rfl _ ((HRa.out).below hb6) (by simp only [List.length_cons]; omega)).mono ?_
      rintro e w5 ⟨rfl, rfl⟩
      rw [Hlow.out]
      go_wp2
      go_ret2
      exact step_of [] [(low (b0 :: q) : Int)] HS2.out none _ 0 1 0 1 rfl rfl rfl (Nat.le_refl _) (TyB.none _) (Rd.nil _ _) (Rd.one _ _ _) (hb7.alloc hb7.size _) (HiA.none _) (HiA.at hb7.size)

theorem rstep_anyH (A : Option Addr) (c n0 : Nat) (p : List UInt8) (b : UInt8) (hn : p.length = n0) (w : World) (h : Rd w A (cB p)) (hs : p.length ≤ 100000) :
    Calls Tryz.prog 84 #[.slice A n0 c, .int .u8 (b.toNat : Int)] w (StepPostH p b w) := by
  cases p with
  | nil => obtain rfl : n0 = 0 := hn.symm; exact rstep_nil A c b w
  | cons b0 r0 =>
    cases hp : preB (b0 :: r0) with
    | false => exact rstep_no A c n0 (b0 :: r0) b hn w h hs hp (by simp)
    | true => obtain rfl : n0 = r0.length + 1 := hn.symm; exact rstep_yes A c b0 r0 b w h hp
theorem rstep_any (A : Option Addr) (c n0 : Nat) (p : List UInt8) (b : UInt8) (hn : p.length = n0) (w : World) (h : Rd w A (cB p)) (hs : p.length ≤ 100000) :
    Calls Tryz.prog 84 #[.slice A n0 c, .int .u8 (b.toNat : Int)] w (StepPost p b w) := (rstep_anyH A c n0 p b hn w h hs).mono fun _ _ h => h.lo

set_option maxRecDepth 100000 in
set_option maxHeartbeats 4000000 in
theorem rcodes_any (s : ByteArray) (w : World) (h1 : s.size ≤ 100000) :
    Calls Tryz.prog 58 #[.string s] w fun e w' => ∃ v, e = .returned v ∧ w'.ownsRow w.heap.size 3 1 v (codesL s.data.toList).length (cI (codesL s.data.toList)) ∧ Below w.heap.size w w' := by
  obtain ⟨i0, hi0, hz0, hz1, hz2⟩ := info_parts infoI
  go_enter Tryz.func58, Tryz.ntmps58
  go_wp2_with fail
  go_loopw [3, 4, 5] (fun v pd i wr => ∃ (k : Nat) (A : Option Addr) (c : Nat), k ≤ s.size ∧ i = .int .i64 k ∧ pd = .slice A (runL ([], []) (s.data.toList.take k)).1.length c ∧
      Hid (TyB wr A ∧ Rd wr A (cB (runL ([], []) (s.data.toList.take k)).1) ∧ wr.ownsRow w.heap.size 3 1 v (runL ([], []) (s.data.toList.take k)).2.length (cI (runL ([], []) (s.data.toList.take k)).2) ∧ Below w.heap.size w wr))
    (fun _ _ i _ => s.size - (intOf i).toNat)
  case atStart => exact ⟨0, none, 0, Nat.zero_le _, rfl, rfl, TyB.none _, Rd.nil _ _, World.ownsRow_nil _ _ _ _, Below.refl _ _⟩
  case round =>
    obtain ⟨k, A, c, hk, rfl, rfl, hid⟩ := hrel
    have hpl := runL_len ([], []) (s.data.toList.take k)
    have hpp := runL_p3 (s.data.toList.take k)
    obtain ⟨st, hst⟩ : ∃ st, runL ([], []) (s.data.toList.take k) = st := ⟨_, rfl⟩
    rw [hst] at hid hpl hpp ⊢
    have hpre : st.2.length ≤ 2 * s.size := by
      have : (s.data.toList.take k).length ≤ s.size := by rw [List.length_take]; simp; omega
      simp only [List.length_nil] at hpl
      omega
    clear hpl
    by_cases hlt : k < s.size
    · have hsk : s.data.toList[k]? = some s[k] := by
        rw [List.getElem?_eq_getElem (by simpa using hlt)]; rfl
      have Hrun := Lib.hid (runL_take s.data.toList k s[k] hsk); clear hsk
      rw [hst] at Hrun
      clear hst
      obtain ⟨p, pre⟩ := st
      go_wp2_with fail
      refine (rstep_any A c _ p s[k] rfl _ hid.out.2.1 (by omega)).mono ?_
      rintro e w2 ⟨A1, c1, A2, c2, rfl, hcc, ht1, hr1, hr2, hb2⟩
      have hlen := stepL_len p s[k]
      obtain ⟨l1, hl1⟩ : ∃ l, (stepL p s[k]).1 = l := ⟨_, rfl⟩
      obtain ⟨l2, hl2⟩ : ∃ l, (stepL p s[k]).2 = l := ⟨_, rfl⟩
      rw [hl1] at hcc hr1 hlen Hrun ⊢
      rw [hl2] at hr2 hlen Hrun ⊢
      clear hl1 hl2 hcc
      have hb3 := up5' hid.out.2.2.2 hb2
      have HO := Lib.hid (own_below hid.out.2.2.1 hb2)
      have HR1 := Lib.hid hr1
      have HR2 := Lib.hid hr2
      have HT1 := Lib.hid ht1
      clear hr1 hr2 ht1 hb2
      go_wp2_with (at_builtin; refine wpList_app _ rfl _ _ 27 rfl w.heap.size 3 i0 _ 8 Tryz.underlying27 hi0 hz0 hz1 hz2 rfl _ pre.length (cI pre) rfl HO.out A2 l2.length c2 (cI l2) rfl (cI_len _) HR2.out (cI_one _) (by omega) (by omega) hb3.size ?_; intro v3 w3 hown3 hg3 _)
      have HF := Lib.hid (show TyB w3 A1 ∧ Rd w3 A1 (cB l1) ∧ w3.ownsRow w.heap.size 3 1 v3 (pre ++ l2).length (cI (pre ++ l2)) ∧ Below w.heap.size w w3 from
        ⟨(HT1.out).grownBy hg3 (ty_ne HT1.out HO.out), (HR1.out).grownBy hg3 (ty_ne HT1.out HO.out), by rw [cI_append, List.length_append]; exact hown3, hb3.grown hg3 hb3.size fun j hj => ((HO.out).lt j hj).1⟩)
      clear hown3 hg3 hb3
      go_wp2
      go_roundw
      case rel => exact ⟨k + 1, A1, c1, by omega, by go_num, by rw [Hrun.out], by rw [Hrun.out]; exact HF⟩
      case measure => simp [intOf]; omega
    · have ht : s.data.toList.take k = s.data.toList := List.take_of_length_le (by simp; omega)
      rw [ht] at hst
      have Hst := Lib.hid (show codesL s.data.toList = st.2 ++ flushL st.1 by unfold codesL; rw [hst]); clear hst ht
      have hfl := flushL_len st.1
      go_wp2_with fail
      refine (rflush_any A c _ st.1 rfl _ hid.out.2.1 (by omega)).mono ?_
      rintro e w2 ⟨A2, c2, rfl, hr2, hb2, _⟩
      have hb3 := up5' hid.out.2.2.2 hb2
      have HO := Lib.hid (own_below hid.out.2.2.1 hb2)
      have HR2 := Lib.hid hr2; clear hr2
      go_wp2_with (at_builtin; refine wpList_appB _ rfl _ _ 27 rfl w.heap.size 3 i0 _ 8 Tryz.underlying27 hi0 hz0 hz1 hz2 rfl _ _ _ rfl HO.out A2 (flushL st.1).length c2 (cI (flushL st.1)) rfl (cI_len _) HR2.out (cI_one _) (by omega) (by omega) hb3.size ?_; intro v3 w3 hown3 hb4)
      go_ret
      exact ⟨v3, rfl, by rw [Hst.out, cI_append, List.length_append]; exact hown3, hb3.trans hb4⟩
end Go.Proofs.YtoilcigmpeaedaaGreatDoor.Utf
