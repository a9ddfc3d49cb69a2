/-
  Literals of lists of lists; the laws' works.
-/
import Derived.Test.YtelglcchcpnfbaaDoorParM
import Derived.Test.YtelglcchcpnfbaaDoorParK
namespace Go.Proofs.YtelglcchcpnfbaaDoor.Par
open Go.RowKit Utf

theorem RI.at0 (w : World) (zs : List Int) (cs : Array Value) (hcs : cs = (cI zs).toArray) (n : Nat) (hn : n = zs.length) (hl : n ≤ maxLen) (t : TypeId) : RI (w.alloc (.cells cs t)) (.slice (some ⟨w.heap.size, 0, none⟩) n n) zs := by
  subst hcs
  exact RI.lit w zs n hn hl t
theorem lit1 (w : World) (zs : List Int) (cs : Array Value) (hcs : cs = (cI zs).toArray) (n : Nat) (hn : n = zs.length) (hl : n ≤ maxLen) (t t' : TypeId) :
    RL ((w.alloc (.cells cs t)).alloc (.cells #[.slice (some ⟨w.heap.size, 0, none⟩) n n] t')) (.slice (some ⟨w.heap.size + 1, 0, none⟩) 1 1) [zs] := by
  have h := RL.lit (w.alloc (.cells cs t)) [.slice (some ⟨w.heap.size, 0, none⟩) n n] [zs] 1 rfl rfl (by decide) t' (fun j x p hx hp => by
    cases j with
    | zero => simp at hx hp; subst hx; subst hp; exact RI.at0 w zs cs hcs n hn hl t
    | succ j => simp at hx)
  rwa [World.size_alloc] at h
theorem lit2 (w : World) (zs ys : List Int) (cs ds : Array Value) (hcs : cs = (cI zs).toArray) (hds : ds = (cI ys).toArray) (n m : Nat) (hn : n = zs.length) (hm : m = ys.length) (hl : n ≤ maxLen) (hl2 : m ≤ maxLen) (t t' : TypeId) :
    RL (((w.alloc (.cells cs t)).alloc (.cells ds t)).alloc (.cells #[.slice (some ⟨w.heap.size, 0, none⟩) n n, .slice (some ⟨w.heap.size + 1, 0, none⟩) m m] t')) (.slice (some ⟨w.heap.size + 1 + 1, 0, none⟩) 2 2) [zs, ys] := by
  have h := RL.lit ((w.alloc (.cells cs t)).alloc (.cells ds t)) [.slice (some ⟨w.heap.size, 0, none⟩) n n, .slice (some ⟨w.heap.size + 1, 0, none⟩) m m] [zs, ys] 2 rfl rfl (by decide) t' (fun j x p hx hp => by
    cases j with
    | zero => simp at hx hp; subst hx; subst hp; exact (RI.at0 w zs cs hcs n hn hl t).keep (below_box _ _)
    | succ j =>
      cases j with
      | zero =>
        simp at hx hp; subst hx; subst hp
        have := RI.at0 (w.alloc (.cells cs t)) ys ds hds m hm hl2 t
        rwa [World.size_alloc] at this
      | succ j => simp at hx)
  rwa [World.size_alloc, World.size_alloc] at h
theorem litN (w : World) (t' : TypeId) : RL (w.alloc (.cells #[.slice none 0 0] t')) (.slice (some ⟨w.heap.size, 0, none⟩) 1 1) [[]] :=
  RL.lit w [.slice none 0 0] [[]] 1 rfl rfl (by decide) t' (fun j x p hx hp => by
    cases j with
    | zero => simp at hx hp; subst hx; subst hp; exact RI.nil _
    | succ j => simp at hx)

theorem prs0 : prsV (⟨#[49, 59, 50, 58, 51]⟩ : ByteArray).data.toList = ([[1], [2, 3]], 0) := by decide +kernel
theorem prs1 : prsV (⟨#[]⟩ : ByteArray).data.toList = ([], 0) := by decide +kernel
theorem prs2 : prsV (⟨#[59]⟩ : ByteArray).data.toList = ([[-1], [-1]], 0) := by decide +kernel
theorem prs3 : prsV (⟨#[48, 48, 55]⟩ : ByteArray).data.toList = ([[7]], 0) := by decide +kernel
theorem prs4 : prsV (⟨#[57, 57, 57, 57, 57]⟩ : ByteArray).data.toList = ([[9999]], 0) := by decide +kernel
theorem prs5 : prsV (⟨#[52, 58]⟩ : ByteArray).data.toList = ([[4, -1]], 0) := by decide +kernel
theorem prt0 : prtV [[38, 2, -1, 9, 8, 7], [1]] = ⟨#[51, 56, 58, 50, 58, 58, 57, 58, 56, 58, 55, 59, 49]⟩ := by decide +kernel
theorem chk0 : chkV [[38, 2, -1, 9, 8, 7], [1]] = 0 := by decide +kernel
theorem chkw0 : chkV [[-1]] = 150 := by decide +kernel
theorem chkw1 : chkV [[10000]] = 150 := by decide +kernel
theorem chkw2 : chkV [[]] = 150 := by decide +kernel
theorem valw0 : valV [[5], [-1]] 0 9 = 5 := by decide +kernel
theorem valw1 : valV [[5], [-1]] 1 9 = 9 := by decide +kernel
theorem valw2 : valV [[5], [-1]] 2 9 = 9 := by decide +kernel
theorem ref0 : (decide ((prsV (⟨#[49, 97]⟩ : ByteArray).data.toList).2 = 6) && decide ((prsV (⟨#[49, 97]⟩ : ByteArray).data.toList).1 = [])) = true := by decide +kernel
theorem ref1 : (decide ((prsV (⟨(Lib.repeatL (⟨#[59]⟩ : ByteArray).data.toList 16).toArray⟩ : ByteArray).data.toList).2 = 3) && decide ((prsV (⟨(Lib.repeatL (⟨#[59]⟩ : ByteArray).data.toList 16).toArray⟩ : ByteArray).data.toList).1 = [])) = true := by decide +kernel
theorem ref2 : (decide ((prsV (⟨#[49, 58, 50, 58, 51, 58, 52, 58, 53, 58, 54, 58]⟩ : ByteArray).data.toList).2 = 3) && decide ((prsV (⟨#[49, 58, 50, 58, 51, 58, 52, 58, 53, 58, 54, 58]⟩ : ByteArray).data.toList).1 = [])) = true := by decide +kernel
set_option maxRecDepth 100000 in
set_option maxHeartbeats 8000000 in
theorem works_any (w : World) (ht : Tab w) : Calls Tryd.prog 20 #[] w fun e w' => e = .returned (.bool true) ∧ Below w.heap.size w w' := by
  have HT := Lib.hid ht; clear ht
  go_enter Tryd.func20, Tryd.ntmps20
  go_wp2_with fail
  refine (is_true ⟨#[49, 59, 50, 58, 51]⟩ _ [[1], [2, 3]] _ (lit2 w [1] [2, 3] _ _ rfl rfl 1 2 rfl rfl (by decide) (by decide) _ _) (by decide) (by decide) prs0).mono ?_
  rintro e w1 ⟨rfl, hb1⟩
  have HB1 := Lib.hid (show Below w.heap.size w w1 from (up (up (up (below_box _ _) (below_box _ _)) (below_box _ _)) hb1))
  clear hb1
  go_wp2_with fail
  refine (is_true ⟨#[]⟩ _ [] _ (RL.nil _) (by decide) (by decide) prs1).mono ?_
  rintro e w2 ⟨rfl, hb2⟩
  have HB2 := Lib.hid (show Below w.heap.size w w2 from up HB1.out hb2)
  clear hb2
  go_wp2_with fail
  refine (is_true ⟨#[59]⟩ _ [[-1], [-1]] _ (lit2 w2 [-1] [-1] _ _ rfl rfl 1 1 rfl rfl (by decide) (by decide) _ _) (by decide) (by decide) prs2).mono ?_
  rintro e w3 ⟨rfl, hb3⟩
  have HB3 := Lib.hid (show Below w.heap.size w w3 from up HB2.out (up (up (up (below_box _ _) (below_box _ _)) (below_box _ _)) hb3))
  clear hb3
  go_wp2_with fail
  refine (is_true ⟨#[48, 48, 55]⟩ _ [[7]] _ (lit1 w3 [7] _ rfl 1 rfl (by decide) _ _) (by decide) (by decide) prs3).mono ?_
  rintro e w4 ⟨rfl, hb4⟩
  have HB4 := Lib.hid (show Below w.heap.size w w4 from up HB3.out (up (up (below_box _ _) (below_box _ _)) hb4))
  clear hb4
  go_wp2_with fail
  refine (is_true ⟨#[57, 57, 57, 57, 57]⟩ _ [[9999]] _ (lit1 w4 [9999] _ rfl 1 rfl (by decide) _ _) (by decide) (by decide) prs4).mono ?_
  rintro e w5 ⟨rfl, hb5⟩
  have HB5 := Lib.hid (show Below w.heap.size w w5 from up HB4.out (up (up (below_box _ _) (below_box _ _)) hb5))
  clear hb5
  go_wp2_with fail
  refine (is_true ⟨#[52, 58]⟩ _ [[4, -1]] _ (lit1 w5 [4, -1] _ rfl 2 rfl (by decide) _ _) (by decide) (by decide) prs5).mono ?_
  rintro e w6 ⟨rfl, hb6⟩
  have HB6 := Lib.hid (show Below w.heap.size w w6 from up HB5.out (up (up (below_box _ _) (below_box _ _)) hb6))
  clear hb6
  go_wp2_with fail
  refine (row_any _ [[38, 2, -1, 9, 8, 7], [1]] _ (lit2 w6 [38, 2, -1, 9, 8, 7] [1] _ _ rfl rfl 6 1 rfl rfl (by decide) (by decide) _ _) (by decide)).mono ?_
  rintro e w7 ⟨v7, rfl, h7, hb7⟩
  have H7 := Lib.hid h7
  obtain ⟨A7, c7, rfl⟩ := h7.form
  clear h7
  rw [show ([[38, 2, -1, 9, 8, 7], [1]] : List (List Int)).length = 2 from rfl] at H7 ⊢
  have HB7 := Lib.hid (show Below w.heap.size w w7 from up HB6.out (up (up (up (below_box _ _) (below_box _ _)) (below_box _ _)) hb7))
  go_wp2_with fail
  refine (print_any _ [[38, 2, -1, 9, 8, 7], [1]] _ H7.out ⟨by decide, by decide⟩ (HT.out.keep HB7.out)).mono ?_
  rw [prt0, chk0]
  rintro e w8 ⟨rfl, hb8⟩
  have HB8 := Lib.hid (show Below w.heap.size w w8 from up HB7.out hb8)
  clear hb8
  go_wp2_with fail
  refine (row_any _ [[-1]] _ (lit1 w8 [-1] _ rfl 1 rfl (by decide) _ _) (by decide)).mono ?_
  rintro e w9 ⟨v9, rfl, h9, hb9⟩
  have H9 := Lib.hid h9
  obtain ⟨A9, c9, rfl⟩ := h9.form
  clear h9
  rw [show ([[-1]] : List (List Int)).length = 1 from rfl] at H9 ⊢
  have HB9 := Lib.hid (show Below w.heap.size w w9 from up HB8.out (up (up (below_box _ _) (below_box _ _)) hb9))
  go_wp2_with fail
  refine (check_any _ [[-1]] _ H9.out (by decide) (by decide)).mono ?_
  rw [chkw0]
  rintro e w10 ⟨rfl, hb10⟩
  have HB10 := Lib.hid (show Below w.heap.size w w10 from up HB9.out hb10)
  clear hb10
  go_wp2_with fail
  refine (row_any _ [[10000]] _ (lit1 w10 [10000] _ rfl 1 rfl (by decide) _ _) (by decide)).mono ?_
  rintro e w11 ⟨v11, rfl, h11, hb11⟩
  have H11 := Lib.hid h11
  obtain ⟨A11, c11, rfl⟩ := h11.form
  clear h11
  rw [show ([[10000]] : List (List Int)).length = 1 from rfl] at H11 ⊢
  have HB11 := Lib.hid (show Below w.heap.size w w11 from up HB10.out (up (up (below_box _ _) (below_box _ _)) hb11))
  go_wp2_with fail
  refine (check_any _ [[10000]] _ H11.out (by decide) (by decide)).mono ?_
  rw [chkw1]
  rintro e w12 ⟨rfl, hb12⟩
  have HB12 := Lib.hid (show Below w.heap.size w w12 from up HB11.out hb12)
  clear hb12
  go_wp2_with fail
  refine (row_any _ [[]] _ (litN w12 _) (by decide)).mono ?_
  rintro e w13 ⟨v13, rfl, h13, hb13⟩
  have H13 := Lib.hid h13
  obtain ⟨A13, c13, rfl⟩ := h13.form
  clear h13
  rw [show ([[]] : List (List Int)).length = 1 from rfl] at H13 ⊢
  have HB13 := Lib.hid (show Below w.heap.size w w13 from up HB12.out (up (below_box _ _) hb13))
  go_wp2_with fail
  refine (check_any _ [[]] _ H13.out (by decide) (by decide)).mono ?_
  rw [chkw2]
  rintro e w14 ⟨rfl, hb14⟩
  have HB14 := Lib.hid (show Below w.heap.size w w14 from up HB13.out hb14)
  clear hb14
  go_wp2_with fail
  refine (row_any _ [[5], [-1]] _ (lit2 w14 [5] [-1] _ _ rfl rfl 1 1 rfl rfl (by decide) (by decide) _ _) (by decide)).mono ?_
  rintro e w15 ⟨v15, rfl, h15, hb15⟩
  have H15 := Lib.hid h15
  obtain ⟨A15, c15, rfl⟩ := h15.form
  clear h15
  rw [show ([[5], [-1]] : List (List Int)).length = 2 from rfl] at H15 ⊢
  have HB15 := Lib.hid (show Below w.heap.size w w15 from up HB14.out (up (up (up (below_box _ _) (below_box _ _)) (below_box _ _)) hb15))
  go_wp2_with fail
  refine (value_any _ [[5], [-1]] 0 9 _ (H15.out) ).mono ?_
  rw [valw0]
  rintro e w16 ⟨rfl, hb16⟩
  have HB16 := Lib.hid (show Below w.heap.size w w16 from up HB15.out hb16)
  have Hv0 := Lib.hid ((H15.out).keep hb16)
  clear hb16
  go_wp2_with fail
  refine (value_any _ [[5], [-1]] 1 9 _ (Hv0.out) ).mono ?_
  rw [valw1]
  rintro e w17 ⟨rfl, hb17⟩
  have HB17 := Lib.hid (show Below w.heap.size w w17 from up HB16.out hb17)
  have Hv1 := Lib.hid ((Hv0.out).keep hb17)
  clear hb17
  go_wp2_with fail
  refine (value_any _ [[5], [-1]] 2 9 _ (Hv1.out) ).mono ?_
  rw [valw2]
  rintro e w18 ⟨rfl, hb18⟩
  have HB18 := Lib.hid (show Below w.heap.size w w18 from up HB17.out hb18)
  have Hv2 := Lib.hid ((Hv1.out).keep hb18)
  clear hb18
  go_wp2_with fail
  refine (refused_any ⟨#[49, 97]⟩ 6 _ true ref0).mono ?_
  rintro e w19 ⟨rfl, hb19⟩
  have HB19 := Lib.hid (show Below w.heap.size w w19 from up HB18.out hb19)
  clear hb19
  go_wp2_with fail
  refine (Tryd.strings_Repeat ⟨#[59]⟩ 16 _ (by decide) (by decide)).mono ?_
  rintro e w20 ⟨rfl, hb20⟩
  have HB20 := Lib.hid (show Below w.heap.size w w20 from up HB19.out hb20)
  clear hb20
  go_wp2_with fail
  refine (refused_any ⟨(Lib.repeatL (⟨#[59]⟩ : ByteArray).data.toList 16).toArray⟩ 3 _ true ref1).mono ?_
  rintro e w21 ⟨rfl, hb21⟩
  have HB21 := Lib.hid (show Below w.heap.size w w21 from up HB20.out hb21)
  clear hb21
  go_wp2_with fail
  refine (refused_any ⟨#[49, 58, 50, 58, 51, 58, 52, 58, 53, 58, 54, 58]⟩ 3 _ true ref2).mono ?_
  rintro e w22 ⟨rfl, hb22⟩
  have HB22 := Lib.hid (show Below w.heap.size w w22 from up HB21.out hb22)
  clear hb22
  go_wp2
  go_ret
  exact ⟨rfl, HB22.out⟩
end Go.Proofs.YtelglcchcpnfbaaDoor.Par
